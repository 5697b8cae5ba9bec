import Derived.Test.YtdmfbkhafnkcfaaGreatParth
import Derived.Test.YtdmfbkhafnkcfaaGreatPartj
import Derived.RangeFuncCalls
import Derived.OwnWalkIn
import Derived.OrdersIn
import Derived.Deep.RegionHeld3
import Derived.Test.YtdmfbkhafnkcfaaGreatMeshN
import Derived.Test.YtdmfbkhafnkcfaaGreatPartn
import Derived.StillTailTactics
import Derived.Test.YtdmfbkhafnkcfaaGreatPartl
set_option linter.unusedSimpArgs false
set_option linter.unusedVariables false
namespace Go.MagM
open Go
section
variable{P:Program}{l n:Nat}{md:Region.Mode}{ops:Array Oper}{Q:Exit→Act→World→Prop}
def noDefers(ops:Array Oper):Bool:=ops.all fun o=>match o.op with| .defer _=>false|_=>true
theorem noDefers_at{i:Nat}{o:Oper}(h:noDefers ops=true)(ho:ops[i]?=some o):∀c,o.op≠ .defer c:=by intro c e;unfold noDefers at h;rw[Array.all_eq_true_iff_forall_mem] at h;have:=h o (Array.mem_of_getElem? ho);rw[e] at this;cases this
def OnlyN(Q:Exit→Act→World→Prop):Exit→Act→World→Prop| .normal,a,w=>Q .normal a w|_,_,_=>False
theorem OnlyN.normal{a:Act}{w:World}(h:Q .normal a w):OnlyN Q .normal a w:=h
theorem onlyN_out{P:Prop}(h:LetsOut (OnlyN Q)):P:=by obtain⟨a,w,h⟩:=h;exact(h:False).elim
theorem wpOp_round{i:Nat}{K K':Act→World→Prop}{a:Act}{w:World}(hd:noDefers ops=true)(hK:∀a w,K a w→K' a w)(h:wpOp P ops (OnlyN Q) i K a w):wpOpIn (Fence.wide.inRound l) n P ops Q i K' a w:=by
  unfold wpOp at h;unfold wpOpIn;cases ho:ops[i]? with
  |none=>rw[ho] at h;exact hK _ _ h|some o=>
    rw[ho] at h;simp only[] at h⊢;split at h
    · rename_i hw;rw[if_pos hw];rcases h with h|⟨_,h⟩
      · refine⟨fun _ _=>trivial,?_⟩;rw[Oper.semAt_eq _ _ _ (noDefers_at hd ho)];unfold Oper.wp at h;generalize (execOp a.eval o).run P w=r at h;cases r with
        |ok x w'=>cases x with
          |value v=>exact hK _ _ h|skip=>exact hK _ _ h|defer d=>exact hK _ _ h|enter f args=>
            refine⟨(fun h=>by cases h),?_⟩;refine(CallsIn.inRound l (callsIn_wide.2 h)).mono fun e w'' he=>?_;cases e with
            |returned v=>exact hK _ _ he|panicked c=>exact he.elim|outgrown=>exact onlyN_out he
          |row row args=>exact⟨(fun h=>by cases h),fun c cs _=>let ⟨v,w2,r,s⟩:=h c cs;⟨v,w2,hK _ _ r,stepsIn_wide.2 s⟩⟩|_=>exact(h:False).elim
        |halt x w'=>cases x<;>exact(h:False).elim
      ·exact onlyN_out h
    · rename_i hw;rw[if_neg hw];exact⟨fun _ _=>trivial,hK _ _ h⟩
theorem wpAny_round(hd:noDefers ops=true):∀(fuel:Nat)(listed:Array Bool)(a:Act)(w:World),wpAny P md ops (OnlyN Q) fuel listed a w→wpAnyIn (Fence.wide.inRound l) n P md ops Q fuel listed a w|0,_,_,_,h=>h|fuel+1,_,_,_,h=>⟨h.1,fun i hi=>wpOp_round hd (fun a w k=>wpAny_round hd fuel _ a w k) (h.2 i hi)⟩
theorem rnd_region_any{id:Nat}{a:Act}{w:World}(hm:P.follows .mixedOrders=true)(hd:noDefers ops=true)(h:wpAny P .any ops (OnlyN Q) ops.size (Array.replicate ops.size false) a w.drew):(Code.region id ops true).wpIn (Fence.wide.inRound l) n P Q a w:=wpIn_region_any hm (wpAny_round hd _ _ _ _ h)
theorem rnd_region_G{id:Nat}{a:Act}{w:World}(S:Array Bool→World→Prop)(k:Nat)(ls:Array Bool)(hm:P.follows .mixedOrders=true)(hd:noDefers ops=true)(hn:ops.size=k)(hl:Array.replicate ops.size false=ls)(hS:S ls w.drew)(h:Cl .any ops ls→S ls w.drew→wpAnyG P .any ops (OnlyN Q) S k ls a w.drew):(Code.region id ops true).wpIn (Fence.wide.inRound l) n P Q a w:=by subst hl hn;exact rnd_region_any hm hd (wpAny_of_G _ _ _ _ (h Cl.start hS))
end
end Go.MagM
namespace Go.MagM
open Go.RowKit
theorem owns_turned{w w':World}{base g:Nat}{e:TypeId}{size:Nat}{v:Value}{n:Nat}{xs:List Value}(h:w.ownsRow base e size v n xs)(ht:Turned w w' g)(hne:v.ownBlock≠some g):w'.ownsRow base e size v n xs:=by
  refine⟨h.1,?_⟩;rcases h.2 with hn|⟨g',cap,cur,rfl,h2,h3,h4⟩;·exact .inl hn
  ·exact .inr ⟨g',cap,cur,rfl,h2,(ht.block g' (fun e=>hne (by rw[e];rfl))).trans h3,h4⟩
theorem owns_blow{w w':World}{base:Nat}{e:TypeId}{size:Nat}{v:Value}{n:Nat}{xs:List Value}(h:w.ownsRow base e size v n xs)(hb:Below w.heap.size w w'):w'.ownsRow base e size v n xs:=by
  refine⟨h.1,?_⟩;rcases h.2 with hn|⟨g,cap,cur,hv,hg,hc,r⟩;·exact .inl hn
  ·exact .inr ⟨g,cap,cur,hv,hg,by rw[hb.block g (Array.getElem?_eq_some_iff.1 hc).1];exact hc,r⟩
theorem owns_box{w:World}{base g:Nat}{e:TypeId}{size n c:Nat}{xs:List Value}(h:w.ownsRow base e size (.slice (some ⟨g,0,none⟩) n c) n xs):Box w g xs:=by
  rcases h.2 with⟨h0,_⟩|⟨g',cap,cur,hv,hb,hg,h4,h5,h6,h7⟩;·cases h0
  · simp only[Value.slice.injEq,Option.some.injEq] at hv;obtain⟨hv,-,-⟩:=hv;injection hv with hv;subst hv;refine⟨fun i u hi=>?_,fun i u hi=>?_⟩
    · have:=h.cells (g:=g) rfl i u hi;rwa [addr_add,Nat.zero_add] at this
    ·unfold World.frozen?;rw[hg];simp
def vAt(S:List TriM)(t k:Nat):Int:=match S[t]? with|some T=>T.v k|none=>0
def rimZ(S:List TriM)(l:List (Nat×Nat)):List Int:=l.map fun x=>vAt S x.1 ((x.2+1)%3)
def intCells(l:List Int):List Value:=l.map fun z=> .int .i64 z
theorem walkM_len(S:List TriM)(v first:Int):∀n t,(walkM S v first n t).length≤n
  |0,_=>Nat.le_refl _|n+1,t=>by
    unfold walkM;split;·simp
    · split;·simp
      · have:=walkM_len S v first n (stepM S v t);rw[List.length_cons];omega
def borderM(S:List TriM):List Int:=(rimZ S (walkM S (-1) (firstM S (-1)) S.length (firstM S (-1)))).reverse
theorem owns_mono{w:World}{base b':Nat}{e:TypeId}{size:Nat}{v:Value}{n:Nat}{xs:List Value}(h:w.ownsRow base e size v n xs)(hb:b'≤base):w.ownsRow b' e size v n xs:=by
  refine⟨h.1,?_⟩;rcases h.2 with hn|⟨g,cap,cur,hv,hg,r⟩;·exact .inl hn
  ·exact .inr ⟨g,cap,cur,hv,by omega,r⟩
theorem heap_set_far(w:World)(g i b:Nat)(v:Value)(h:b≠g):(w.setCell ⟨g,i,none⟩ v).heap[b]?=w.heap[b]?:=by simp only[World.setCell,Array.getElem?_modify];rw[if_neg (Ne.symm h)]
theorem five_boxes(w:World)(v0 v1 v2 v3 v4:Value)(t0 t1 t2 t3 t4:TypeId):Boxed (((((w.alloc (.cells #[v0] t0)).alloc (.cells #[v1] t1)).alloc (.cells #[v2] t2)).alloc (.cells #[v3] t3)).alloc (.cells #[v4] t4)) w.heap.size t0 v0∧Boxed (((((w.alloc (.cells #[v0] t0)).alloc (.cells #[v1] t1)).alloc (.cells #[v2] t2)).alloc (.cells #[v3] t3)).alloc (.cells #[v4] t4)) (w.heap.size+1) t1 v1∧Boxed (((((w.alloc (.cells #[v0] t0)).alloc (.cells #[v1] t1)).alloc (.cells #[v2] t2)).alloc (.cells #[v3] t3)).alloc (.cells #[v4] t4)) (w.heap.size+1+1) t2 v2∧Boxed (((((w.alloc (.cells #[v0] t0)).alloc (.cells #[v1] t1)).alloc (.cells #[v2] t2)).alloc (.cells #[v3] t3)).alloc (.cells #[v4] t4)) (w.heap.size+1+1+1) t3 v3∧Boxed (((((w.alloc (.cells #[v0] t0)).alloc (.cells #[v1] t1)).alloc (.cells #[v2] t2)).alloc (.cells #[v3] t3)).alloc (.cells #[v4] t4)) (w.heap.size+1+1+1+1) t4 v4∧(((((w.alloc (.cells #[v0] t0)).alloc (.cells #[v1] t1)).alloc (.cells #[v2] t2)).alloc (.cells #[v3] t3)).alloc (.cells #[v4] t4)).heap.size=w.heap.size+5∧Below w.heap.size w (((((w.alloc (.cells #[v0] t0)).alloc (.cells #[v1] t1)).alloc (.cells #[v2] t2)).alloc (.cells #[v3] t3)).alloc (.cells #[v4] t4)):=by have n0:=Boxed.new w t0 v0;have n1:=Boxed.new (w.alloc (.cells #[v0] t0)) t1 v1;have n2:=Boxed.new ((w.alloc (.cells #[v0] t0)).alloc (.cells #[v1] t1)) t2 v2;have n3:=Boxed.new (((w.alloc (.cells #[v0] t0)).alloc (.cells #[v1] t1)).alloc (.cells #[v2] t2)) t3 v3;have n4:=Boxed.new ((((w.alloc (.cells #[v0] t0)).alloc (.cells #[v1] t1)).alloc (.cells #[v2] t2)).alloc (.cells #[v3] t3)) t4 v4;simp only[World.size_alloc] at n1 n2 n3 n4;refine⟨(((n0.alloc _).alloc _).alloc _).alloc _,((n1.alloc _).alloc _).alloc _,(n2.alloc _).alloc _,n3.alloc _,n4,by simp only[World.size_alloc],?_⟩;exact(((((Below.refl _ w).alloc (Nat.le_refl _) _).alloc (by simp) _).alloc (by simp;omega) _).alloc (by simp;omega) _).alloc (by simp;omega) _
theorem keepB_own{β:Type}{Pb:Nat→Prop}{W0:World}(hP:∀b,Pb b→b<W0.heap.size):OwnFrom W0.heap.size (fun(_:β) W=>KeepB Pb W0 W):=by intro s X Y row hs hg hr b hb;have h1:=hs b hb;have h2:=hP b hb;have h3:X.heap[b]?=some W0.heap[b]:=h1.trans (Array.getElem?_eq_getElem h2);refine(hg.block b (Array.getElem?_eq_some_iff.1 h3).1 (fun e=>?_)).trans h1;have:=(hr b e.symm).1;omega
end Go.MagM
namespace Go.Proofs.YtdmfbkhafnkcfaaGreat
open Go.RowKit Go.MagM Go.Shelf
attribute [local go_sem] Oper.semAt_some
theorem round_stops_first(n:Nat)(hn:1≤n)(Bb Bv Bm:Nat)(Pb:Nat→Prop){mb pb pc:Nat}{ta:Option Addr}{tc:Nat}{P:List (Int×Int)}{S:List TriM}(v:Int)(w:World)(hm:MeshR w mb pb pc ta tc P S)(hin:MeshIn Pb mb pb ta)(hBb:w.cell? ⟨Bb,0,none⟩=some (.func (.func 90) #[.pointer (some ⟨mb,0,none⟩)] #[]))(hBv:w.cell? ⟨Bv,0,none⟩=some (.int .i64 v))(hBm:w.cell? ⟨Bm,0,none⟩=some (.pointer (some ⟨mb,0,none⟩)))(_hPb:Pb Bb)(hPv:Pb Bv)(hPm:Pb Bm)(_hP:∀b,Pb b→b<w.heap.size):SeqStopsK Fence.wide n Tryz.prog 190 #[.pointer (some ⟨Bb,0,none⟩),.pointer (some ⟨Bv,0,none⟩),.pointer (some ⟨Bm,0,none⟩)] encR (KeepB Pb) (fun ys:List (RB S)=>ys.map (·.1)=walkM S v (firstM S v) S.length (firstM S v)) (fun pre:List (RB S)=>pre.map (·.1)<+:walkM S v (firstM S v) S.length (firstM S v)) S.length w:=fun l J Jx W hW _ _ hY h0=>round1_first n hn l Bb Bv Bm Pb v J Jx hY W (hm.below hW) hin ((hW.cell (p:=⟨Bb,0,none⟩) (World.block_lt_of_cell? w _ hBb)).trans hBb) ((hW.cell (p:=⟨Bv,0,none⟩) (World.block_lt_of_cell? w _ hBv)).trans hBv) ((hW.cell (p:=⟨Bm,0,none⟩) (World.block_lt_of_cell? w _ hBm)).trans hBm) hPv hPm h0
set_option maxHeartbeats 1000000 in theorem round_any(p fv:Value)(v:Int)(mb g:Nat)(w:World)(hp:p= .pointer (some ⟨mb,0,none⟩))(hf:fv= .func (.func g) #[.pointer (some ⟨mb,0,none⟩)] #[]):Calls Tryz.prog 112 #[p,.int .i64 v,fv] w fun e w'=>e= .returned (.func (.func 190) #[] #[.pointer (some ⟨w.heap.size+1+1,0,none⟩),.pointer (some ⟨w.heap.size+1,0,none⟩),.pointer (some ⟨w.heap.size,0,none⟩)])∧w'=((w.alloc (.cells #[p] 25)).alloc (.cells #[.int .i64 v] 3)).alloc (.cells #[fv] 34):=by subst hp hf;go_enter Tryz.func112,Tryz.ntmps112;go_wp2;go_ret;exact⟨rfl,rfl⟩
theorem intCells_len(l:List Int):(intCells l).length=l.length:=by unfold intCells;rw[List.length_map]
theorem infoI:(Tryz.prog.info? 3).map (fun i=>(i.zero,i.size,i.bytes))=some (some (.int .i64 0),1,8):=by kernel_rfl
set_option maxRecDepth 100000 in set_option maxHeartbeats 16000000 in theorem border_room{mb pb pc:Nat}{ta:Option Addr}{tc:Nat}{P:List (Int×Int)}{S:List TriM}(w:World)(h:MeshR w mb pb pc ta tc P S)(hP0:P≠[])(hne:borderM S≠[]):Calls Tryz.prog 88 #[.pointer (some ⟨mb,0,none⟩)] w fun e w'=>∃g c,e= .returned (.slice (some ⟨g,0,none⟩) (borderM S).length c)∧(borderM S).length≤c∧Box w' g (intCells (borderM S))∧w.heap.size≤g∧g<w'.heap.size∧Below w.heap.size w w':=by
  obtain⟨i0,hi,hz0,hz1,hz2⟩:=info_parts infoI;have HI:=Lib.hid hi;have HZ0:=Lib.hid hz0;have HZ1:=Lib.hid hz1;have HZ2:=Lib.hid hz2;clear hi hz0 hz1 hz2;have hsh:=h.short.2;have hlm:=h.lt;have H:=Lib.hid h;have HNE:=Lib.hid hne;have hlp:pb<w.heap.size:=by cases P with
    |nil=>exact absurd rfl hP0|cons p l=>exact World.block_lt_of_cell? w _ (h.pts 0 p.1 p.2 rfl).1
  have hlt:∀b,ta=some ⟨b,0,none⟩→b<w.heap.size:=by intro b hb;cases S with|nil=>exact absurd rfl hne|cons p l=>obtain⟨b',e,hl,_⟩:=h.tris.get (i:=0) (T:=p) rfl;rw[hb] at e;simp at e;subst e;exact hl
  clear h hne hP0;refine(callsIn_wide (n:=20)).1 (callsIn_of_wp_marks (F:=Fence.wide) (n:=20) Tryz.func88 rfl trivial ?_ rfl);simp only[Tryz.ntmps88,List.size_toArray,List.length_cons,List.length_nil,Nat.reduceAdd,Nat.reduceSub,Array.replicate_succ,Array.replicate_zero,List.push_toArray,List.append_toArray,List.nil_append,List.cons_append];rw[wpIn_wide];go_wp2_with (go_at_call 112;refine(round_any _ _ _ mb 90 _ rfl rfl).mono ?_;rintro e w1 ⟨rfl,rfl⟩);rw[←wpIn_wide (n:=20)];obtain⟨x0,x1,x2,x3,x4,hs0,hB0⟩:=five_boxes w (.pointer (some ⟨mb,0,none⟩)) (.slice none 0 0) (.pointer (some ⟨mb,0,none⟩)) (.int .i64 (-1)) (.func (.func 90) #[.pointer (some ⟨mb,0,none⟩)] #[]) 25 44 25 3 34;generalize hW0:((((w.alloc (.cells #[.pointer (some ⟨mb,0,none⟩)] 25)).alloc (.cells #[.slice none 0 0] 44)).alloc (.cells #[.pointer (some ⟨mb,0,none⟩)] 25)).alloc (.cells #[.int .i64 (-1)] 3)).alloc (.cells #[.func (.func 90) #[.pointer (some ⟨mb,0,none⟩)] #[]] 34)=W0 at*;clear hW0;have hm0:=H.out.below hB0;have hin:MeshIn (fun b=>b≠w.heap.size+1∧b<w.heap.size+5) mb pb ta:=⟨by omega,by omega,fun b hb=>by have:=hlt b hb;omega⟩;have H0:=Lib.hid hm0;clear hm0;refine wpIn_rangeFunc_ownG rfl (by omega) (gf:=190) (lb:=#[.pointer (some ⟨w.heap.size+1+1+1+1,0,none⟩),.pointer (some ⟨w.heap.size+1+1+1,0,none⟩),.pointer (some ⟨w.heap.size+1+1,0,none⟩)]) rfl trivial (enters_of Tryz.func190 (by kernel_rfl) rfl) (round_stops_first 19 (by omega) _ _ _ (fun b=>b≠w.heap.size+1∧b<w.heap.size+5) (-1) W0 H0.out hin x4.cell x3.cell x2.cell (by omega) (by omega) (by omega) (fun b hb=>by omega)) (fun h k=>KeepB.trans h k) ?Kb (Below.refl _ _) (fun _=>rfl) (fun pre W=>(∃v,Boxed W (w.heap.size+1) 44 v∧W.ownsRow (w.heap.size+5) 3 1 v pre.length (intCells (rimZ S (pre.map (·.1))))∧True)∧KeepB (fun b=>b≠w.heap.size+1∧b<w.heap.size+5) W0 W∧Below w.heap.size w W) (fun _ _ _=>False) ?own (fun _ _ _ _ _ hs _ _=>hs) ?start (fun x=>{tmps:=#[.pointer (some ⟨mb,0,none⟩),.pointer (some ⟨w.heap.size,0,none⟩),.slice none 0 0,.pointer (some ⟨w.heap.size+1,0,none⟩),.int .i64 (x.1.1:Int),.int .i64 (x.1.2:Int),.pointer (some ⟨mb,0,none⟩),.pointer (some ⟨mb,0,none⟩),.func (.func 90) #[.pointer (some ⟨mb,0,none⟩)] #[],.func (.func 190) #[] #[.pointer (some ⟨w.heap.size+1+1+1+1,0,none⟩),.pointer (some ⟨w.heap.size+1+1+1,0,none⟩),.pointer (some ⟨w.heap.size+1+1,0,none⟩)],.int .i64 (x.1.1:Int),.int .i64 (x.1.2:Int),undef,undef,undef,undef,undef,undef,undef,undef,undef,undef,undef,undef,undef,undef,undef,undef,undef,undef],defers:=[]}) ?assign ?body ?done ?stop;case Kb=>
    intro W l o o' hl h _ _ b hb;have:b≠l:=by omega
    exact World.putObj_heap_other (fun e=>this e)
  case own=>exact OwnFrom.and (Own.from (holdsRow_own _ _ _ _ _ _ _ (fun _ _=>True)) _) (OwnFrom.and (keepB_own (fun b hb=>by omega)) (ownFrom_below (Nat.le_refl _) (by omega)))
  case start=>exact⟨⟨_,x1,World.ownsRow_nil _ _ _ _,trivial⟩,KeepB.refl _ _,hB0⟩
  case assign=>intro l x W K hK;dsimp only[encR];gi_wp2;exact hK
  case body=>
    rintro l pre ⟨⟨m,k⟩,hm,hk⟩ W ⟨⟨v,hv,hrow,-⟩,hKB,hB⟩ hlen;simp only[] at hm hk;have hmW:=H0.out.keep hin hKB;obtain⟨T,hT⟩:∃T,S[m]?=some T:=⟨_,List.getElem?_eq_getElem hm⟩;obtain⟨tb,hta,htl,ht9⟩:=hmW.tris.get hT;subst hta;obtain⟨k1,hk1⟩:∃k1,(k+1)%3=k1:=⟨_,rfl⟩;have hk13:k1<3:=by omega
    obtain⟨y,hy⟩:∃y,T.v k1=y:=⟨_,rfl⟩;have hvat:vAt S m ((k+1)%3)=y:=by unfold vAt;rw[hT,hk1];exact hy
    have cy:W.drew.cell? ⟨tb,m*9+k1,none⟩=some (.int .i64 y):=by rw[←hy];exact ht9.v hk13
    have hv0:Boxed W (w.heap.size) 25 (.pointer (some ⟨mb,0,none⟩)):=(hKB w.heap.size (by omega)).trans x0;have cm:W.drew.cell? ⟨w.heap.size,0,none⟩=some (.pointer (some ⟨mb,0,none⟩)):=hv0.cell;have co:W.drew.cell? ⟨w.heap.size+1,0,none⟩=some v:=hv.cell;obtain⟨len,hlen'⟩:∃len,S.length=len:=⟨_,rfl⟩;have ct:W.drew.cell? ⟨mb,1,none⟩=some (.slice (some ⟨tb,0,none⟩) len tc):=by rw[←hlen'];exact hmW.box.c1
    rw[hlen'] at hm hlen hsh;have hmod:((k:Int)+1).tmod 3=(k1:Int):=by have:=mod_one k 3;rw[hk1] at this;exact this
    have hwk:IntKind.i64.wrap ((k:Int)+1)=(k:Int)+1:=by rw[IntKind.wrap_i64];omega
    have hb1:(0:Int)≤(m:Int):=by omega
    have hb2:(m:Int)<(len:Int):=by omega
    have hb3':(0:Int)≤(k1:Int):=by omega
    have hb4':(k1:Int)<3:=by omega
    have htbl:tb<w.heap.size:=hlt tb rfl;have HBB:Hid (Below w.heap.size w W.drew):=Lib.hid hB.drew';have HROW:Hid (W.drew.ownsRow (w.heap.size+5) 3 1 v pre.length (intCells (rimZ S (pre.map (·.1))))):=Lib.hid hrow;have HVB:Hid (Boxed W.drew (w.heap.size+1) 44 v):=Lib.hid hv;have HKB:=Lib.hid hKB;have HB:=Lib.hid hB;have HVAT:=Lib.hid hvat;have HS5:w.heap.size+5≤W.drew.heap.size:=by
      have:=(hKB (w.heap.size+4) (by omega)).trans x4;have:=(Array.getElem?_eq_some_iff.1 this).1;show w.heap.size+5≤W.heap.size;omega
    have hWd:KeepsOthers W W.drew:=KeepsOthers.drew W;have HWK:Hid (∀b:Nat,W.drew.heap[b]?=W.heap[b]?):=Lib.hid (fun _=>rfl);have HWK':=Lib.hid hWd;have HLN:=Lib.hid hlen';have HWB:Hid (Below w.heap.size W W.drew):=Lib.hid ((Below.refl _ _).drew');clear hmW hT ht9 hy hvat hv0 hrow hv hKB hB hlen' hk1 x0 x1 x2 x3 x4 hWd;gi_wp2;obtain⟨SSq,hSSq⟩:∃S:Array Bool→World→Prop,∀l w',S l w'↔((l.getD 14 true=false→w'.cell? ⟨w.heap.size+1,0,none⟩=some (v))∧(l.getD 15 true=false→w'.cell? ⟨w.heap.size,0,none⟩=some (.pointer (some ⟨mb,0,none⟩)))∧(l.getD 15 true=false→w'.cell? ⟨mb,1,none⟩=some (.slice (some ⟨tb,0,none⟩) len tc))∧(l.getD 13 true=false→w'.cell? ⟨tb,m*9+k1,none⟩=some (.int .i64 y))):=⟨_,fun _ _=>Iff.rfl⟩;refine rnd_region_G SSq 16 #[false,false,false,false,false,false,false,false,false,false,false,false,false,false,false,false] (by kernel_rfl) (by kernel_rfl) (by kernel_rfl) (by kernel_rfl) ((hSSq _ _).2 ⟨(fun _=>co),(fun _=>cm),(fun _=>ct),(fun _=>cy)⟩) (fun hCl hHeld=>?_);generalize W.drew=w2 at*;refine rG 0 ?_ ?_ ?_ ?_ ?_ ?_ hCl hHeld ?_;rotate_left 2;·simp only[gA,gZ];exact rfl
    ·intro l w';rw[hSSq,hSSq];rw[getD_set_ne (i:=0) (j:=14) true (by decide)];rw[getD_set_ne (i:=0) (j:=15) true (by decide)];rw[getD_set_ne (i:=0) (j:=13) true (by decide)]
    ·rfl
    ·intro w' hA;obtain⟨l,hl,hi,hSl⟩:=hA;have hSl:=(hSSq _ _).1 hSl;obtain⟨hy0,hy1,hy2,-⟩:=hSl;have hz0:=hy0 (hl.not (t:=14) (by kernel_rfl) hi);have hz1:=hy1 (hl.not (t:=15) (by kernel_rfl) hi);have hz2:=hy2 (hl.not (t:=15) (by kernel_rfl) hi);go_simp;try with_reducible rfl
    clear hCl hHeld;intro hCl hHeld;simp only[List.setIfInBounds_toArray,List.set_cons_zero] at hCl hHeld;try simp only[Act.put,sA,sZ,sS]
    refine rG 1 ?_ ?_ ?_ ?_ ?_ ?_ hCl hHeld ?_;rotate_left 2;·simp only[gA,gS,gZ];exact rfl
    ·intro l w';rw[hSSq,hSSq];rw[getD_set_ne (i:=1) (j:=14) true (by decide)];rw[getD_set_ne (i:=1) (j:=15) true (by decide)];rw[getD_set_ne (i:=1) (j:=13) true (by decide)]
    ·rfl
    ·intro w' hA;obtain⟨l,hl,hi,hSl⟩:=hA;have hSl:=(hSSq _ _).1 hSl;obtain⟨-,hy1,hy2,-⟩:=hSl;have hz1:=hy1 (hl.not (t:=15) (by kernel_rfl) hi);have hz2:=hy2 (hl.not (t:=15) (by kernel_rfl) hi);go_simp;try with_reducible rfl
    clear hCl hHeld;intro hCl hHeld;simp only[sA,sZ,sS] at hCl hHeld;try simp only[Act.put,sA,sZ,sS]
    refine rG 2 ?_ ?_ ?_ ?_ ?_ ?_ hCl hHeld ?_;rotate_left 2;·simp only[gA,gS,gZ];exact rfl
    ·intro l w';rw[hSSq,hSSq];rw[getD_set_ne (i:=2) (j:=14) true (by decide)];rw[getD_set_ne (i:=2) (j:=15) true (by decide)];rw[getD_set_ne (i:=2) (j:=13) true (by decide)]
    ·rfl
    ·intro w' hA;clear hA;go_simp;try with_reducible rfl
    clear hCl hHeld;intro hCl hHeld;simp only[sA,sZ,sS] at hCl hHeld;try simp only[Act.put,sA,sZ,sS]
    refine rG 3 ?_ ?_ ?_ ?_ ?_ ?_ hCl hHeld ?_;rotate_left 2;·simp only[gA,gS,gZ];exact rfl
    ·intro l w';rw[hSSq,hSSq];rw[getD_set_ne (i:=3) (j:=14) true (by decide)];rw[getD_set_ne (i:=3) (j:=15) true (by decide)];rw[getD_set_ne (i:=3) (j:=13) true (by decide)]
    ·rfl
    ·intro w' hA;clear hA;go_simp;try with_reducible rfl
    clear hCl hHeld;intro hCl hHeld;simp only[sA,sZ,sS] at hCl hHeld;try simp only[Act.put,sA,sZ,sS]
    refine rG 4 ?_ ?_ ?_ ?_ ?_ ?_ hCl hHeld ?_;rotate_left 2;·simp only[gA,gS,gZ];exact rfl
    ·intro l w';rw[hSSq,hSSq];rw[getD_set_ne (i:=4) (j:=14) true (by decide)];rw[getD_set_ne (i:=4) (j:=15) true (by decide)];rw[getD_set_ne (i:=4) (j:=13) true (by decide)]
    ·rfl
    ·intro w' hA;obtain⟨l,hl,hi,hSl⟩:=hA;have hSl:=(hSSq _ _).1 hSl;obtain⟨-,hy1,hy2,-⟩:=hSl;have hz1:=hy1 (hl.not (t:=15) (by kernel_rfl) hi);have hz2:=hy2 (hl.not (t:=15) (by kernel_rfl) hi);go_simp;try with_reducible rfl
    clear hCl hHeld;intro hCl hHeld;simp only[sA,sZ,sS] at hCl hHeld;try simp only[Act.put,sA,sZ,sS]
    refine rG 5 ?_ ?_ ?_ ?_ ?_ ?_ hCl hHeld ?_;rotate_left 2;·simp only[gA,gS,gZ];exact rfl
    ·intro l w';rw[hSSq,hSSq];rw[getD_set_ne (i:=5) (j:=14) true (by decide)];rw[getD_set_ne (i:=5) (j:=15) true (by decide)];rw[getD_set_ne (i:=5) (j:=13) true (by decide)]
    ·rfl
    ·intro w' hA;clear hA;go_simp;try with_reducible rfl
    clear hCl hHeld;intro hCl hHeld;simp only[sA,sZ,sS] at hCl hHeld;try simp only[Act.put,sA,sZ,sS]
    refine rG 6 ?_ ?_ ?_ ?_ ?_ ?_ hCl hHeld ?_;rotate_left 2;·simp only[gA,gS,gZ];exact rfl
    ·intro l w';rw[hSSq,hSSq];rw[getD_set_ne (i:=6) (j:=14) true (by decide)];rw[getD_set_ne (i:=6) (j:=15) true (by decide)];rw[getD_set_ne (i:=6) (j:=13) true (by decide)]
    ·rfl
    ·intro w' hA;clear hA;go_simp;try with_reducible rfl
    clear hCl hHeld;intro hCl hHeld;simp only[sA,sZ,sS] at hCl hHeld;try simp only[Act.put,sA,sZ,sS]
    refine rG 7 ?_ ?_ ?_ ?_ ?_ ?_ hCl hHeld ?_;rotate_left 2;·simp only[gA,gS,gZ];exact rfl
    ·intro l w';rw[hSSq,hSSq];rw[getD_set_ne (i:=7) (j:=14) true (by decide)];rw[getD_set_ne (i:=7) (j:=15) true (by decide)];rw[getD_set_ne (i:=7) (j:=13) true (by decide)]
    ·rfl
    ·intro w' hA;clear hA;go_simp;try with_reducible rfl
    clear hCl hHeld;intro hCl hHeld;simp only[sA,sZ,sS] at hCl hHeld;try simp only[Act.put,sA,sZ,sS]
    refine rG 8 ?_ ?_ ?_ ?_ ?_ ?_ hCl hHeld ?_;rotate_left 2;·simp only[gA,gS,gZ];exact rfl
    ·intro l w';rw[hSSq,hSSq];rw[getD_set_ne (i:=8) (j:=14) true (by decide)];rw[getD_set_ne (i:=8) (j:=15) true (by decide)];rw[getD_set_ne (i:=8) (j:=13) true (by decide)]
    ·rfl
    ·intro w' hA;clear hA;go_simp;try with_reducible rfl
    clear hCl hHeld;intro hCl hHeld;simp only[sA,sZ,sS] at hCl hHeld;try simp only[Act.put,sA,sZ,sS]
    refine rG 9 ?_ ?_ ?_ ?_ ?_ ?_ hCl hHeld ?_;rotate_left 2;·simp only[gA,gS,gZ];exact rfl
    ·intro l w';rw[hSSq,hSSq];rw[getD_set_ne (i:=9) (j:=14) true (by decide)];rw[getD_set_ne (i:=9) (j:=15) true (by decide)];rw[getD_set_ne (i:=9) (j:=13) true (by decide)]
    ·rfl
    ·intro w' hA;clear hA;go_simp;try with_reducible rfl
    clear hCl hHeld;intro hCl hHeld;simp only[sA,sZ,sS] at hCl hHeld;try simp only[Act.put,sA,sZ,sS]
    refine rG 10 ?_ ?_ ?_ ?_ ?_ ?_ hCl hHeld ?_;rotate_left 2;·simp only[gA,gS,gZ];exact rfl
    ·intro l w';rw[hSSq,hSSq];rw[getD_set_ne (i:=10) (j:=14) true (by decide)];rw[getD_set_ne (i:=10) (j:=15) true (by decide)];rw[getD_set_ne (i:=10) (j:=13) true (by decide)]
    ·rfl
    ·intro w' hA;clear hA;go_simp;try with_reducible rfl
    clear hCl hHeld;intro hCl hHeld;simp only[sA,sZ,sS] at hCl hHeld;try simp only[Act.put,sA,sZ,sS]
    refine rG 11 ?_ ?_ ?_ ?_ ?_ ?_ hCl hHeld ?_;rotate_left 2;·simp only[gA,gS,gZ];exact rfl
    ·intro l w';rw[hSSq,hSSq];rw[getD_set_ne (i:=11) (j:=14) true (by decide)];rw[getD_set_ne (i:=11) (j:=15) true (by decide)];rw[getD_set_ne (i:=11) (j:=13) true (by decide)]
    ·rfl
    ·intro w' hA;clear hA;go_simp;try with_reducible rfl
    clear hCl hHeld;intro hCl hHeld;simp only[sA,sZ,sS] at hCl hHeld;try simp only[Act.put,sA,sZ,sS]
    refine rG 12 ?_ ?_ ?_ ?_ ?_ ?_ hCl hHeld ?_;rotate_left 2;·simp only[gA,gS,gZ];exact rfl
    ·intro l w';rw[hSSq,hSSq];rw[getD_set_ne (i:=12) (j:=14) true (by decide)];rw[getD_set_ne (i:=12) (j:=15) true (by decide)];rw[getD_set_ne (i:=12) (j:=13) true (by decide)]
    ·rfl
    ·intro w' hA;obtain⟨l,hl,hi,hSl⟩:=hA;have hSl:=(hSSq _ _).1 hSl;obtain⟨-,hy1,hy2,hy3⟩:=hSl;have hz1:=hy1 (hl.not (t:=15) (by kernel_rfl) hi);have hz2:=hy2 (hl.not (t:=15) (by kernel_rfl) hi);have hz3:=hy3 (hl.not (t:=13) (by kernel_rfl) hi);go_simp;try with_reducible rfl
    clear hCl hHeld;intro hCl hHeld;simp only[sA,sZ,sS] at hCl hHeld;try simp only[Act.put,sA,sZ,sS]
    clear hCl hHeld;obtain⟨w3,hw3,pq_0,hb3,hs3⟩:=new_box w2 _ rfl [.int .i64 y] 3;refine rD 13 _ (fun K hK=>?_);go_simp;try rw[hw3]
    have do_:=(hb3.cell (p:=⟨w.heap.size+1,0,none⟩) (World.block_lt_of_cell? w2 _ co)).trans co;have dm:=(hb3.cell (p:=⟨w.heap.size,0,none⟩) (World.block_lt_of_cell? w2 _ cm)).trans cm;have dt:=(hb3.cell (p:=⟨mb,1,none⟩) (World.block_lt_of_cell? w2 _ ct)).trans ct;refine hK.out _ _ ((hSSq _ _).2 ⟨(fun _=>do_),(fun _=>dm),(fun _=>dt),(fun h=>absurd h (by decide))⟩) ?_;clear hK K;try simp only[Act.put,sA,sZ,sS]
    have hrow3:w3.ownsRow (w.heap.size+5) 3 1 v pre.length (intCells (rimZ S (pre.map (·.1)))):=owns_blow HROW.out hb3;obtain⟨v',w4,hrun,hrow4,hgrow,-⟩:=run_append_own (P:=Tryz.prog) w3 (w.heap.size+5) 44 44 3 i0 (.int .i64 0) 1 8 (by kernel_rfl) HI.out HZ0.out HZ1.out HZ2.out rfl (by omega) v pre.length _ hrow3 ⟨w2.heap.size,0,none⟩ 1 1 [.int .i64 y] rfl pq_0.news (by intro u hu;simp at hu;subst hu;rfl) (by unfold maxLen;omega) (by omega) (by have:=HBB.out.size;omega);refine rD 14 _ (fun K hK=>?_);refine wanted_go rfl ?_;refine wp_append_row _ _ 44 rfl rfl rfl hrun ?_;obtain⟨g',cap',rfl⟩:=ownsRow_succ hrow4;have hgrow':(w2.alloc (.cells #[.int .i64 y] 3)).grownBy w4 v.ownBlock:=by rw[hw3];exact hgrow
    have hvl:=hrow3.lt;have em:=hgrow.cell dm (fun e=>by have:=(hvl _ e.symm).1;simp only[] at this;omega);have et:=hgrow.cell dt (fun e=>by have:=(hvl _ e.symm).1;simp only[] at this;omega);obtain⟨hv4,hv5,hr5,hk5,hb5⟩:=HVB.out.appended (by decide) (owns_mono HROW.out (show w.heap.size+1≤w.heap.size+5 by omega)) (by have:=HBB.out.size;omega) (Nat.le_refl _) (owns_mono hrow4 (show w.heap.size+1≤w.heap.size+5 by omega)) hgrow';refine hK.out _ _ ((hSSq _ _).2 ⟨(fun h=>absurd h (by decide)),(fun _=>em),(fun _=>et),(fun h=>absurd h (by decide))⟩) ?_;clear hK K;try simp only[Act.put,sA,sZ,sS]
    have c4:=hv4.cell;have f4:=hv4.frozen;refine rD 15 _ (fun K hK=>?_);go_simp;refine hK.out _ _ ((hSSq _ _).2 ⟨(fun h=>absurd h (by decide)),(fun h=>absurd h (by decide)),(fun h=>absurd h (by decide)),(fun h=>absurd h (by decide))⟩) ?_;clear hK K;try simp only[Act.put,sA,sZ,sS]
    refine wpAnyG_done (by kernel_rfl) ?_ _;refine OnlyN.normal ?_;clear hSSq SSq;have HKO:=(HWK'.out.trans hk5).from W0.heap.size;have hKP:KeepB (fun b=>b≠w.heap.size+1∧b<w.heap.size+5) W (w4.setCell ⟨w.heap.size+1,0,none⟩ (.slice (some ⟨g',0,none⟩) (pre.length+1) cap')):=by
      intro b hb;rw[heap_set_far _ _ _ _ _ hb.1,hgrow.block b (by have:=hb3.size;omega) (fun e=>by have:=(hvl _ e.symm).1;omega),hb3.block b (by omega)];exact HWK.out b
    refine⟨HKO,hKP,⟨⟨_,hv5,?_,trivial⟩,HKB.out.trans hKP,HB.out.trans ((Below.trans (Below.refl _ _) ?_))⟩⟩
    · have e1:(pre++[(⟨(m,k),by rw[HLN.out];exact hm,hk⟩:RB S)]).length=pre.length+1:=by simp
      have e2:intCells (rimZ S ((pre++[(⟨(m,k),by rw[HLN.out];exact hm,hk⟩:RB S)]).map (·.1)))=intCells (rimZ S (pre.map (·.1)))++[.int .i64 y]:=by simp[rimZ,intCells,HVAT.out]
      rw[e1,e2];exact hrow4.kept (grownBy_setCell' w4 (w.heap.size+1) _) (.inr (hv4.not_row (by decide) hrow4).symm)
    ·exact HWB.out.trans (hb5.mono (by omega))
  case done=>
    rintro D ys W hD hS ⟨⟨v,hv,hrow,-⟩,hKB,hB⟩ hK;have hbm:borderM S=(rimZ S (ys.map (·.1))).reverse:=by unfold borderM;rw[hS]
    obtain⟨zs,hzs⟩:∃zs,rimZ S (ys.map (·.1))=zs:=⟨_,rfl⟩;rw[hzs] at hrow hbm;have hzl:zs.length=ys.length:=by rw[←hzs];simp[rimZ]
    have hyl:ys.length≠0:=by
      intro e;apply HNE.out;have hz0:zs=[]:=List.eq_nil_of_length_eq_zero (by rw[hzl];exact e);rw[hbm,hz0];rfl
    obtain⟨q,hq⟩:∃q,ys.length=q+1:=⟨ys.length-1,by omega⟩;have hwl:ys.length≤S.length:=by
      have h1:(ys.map (·.1)).length=(walkM S (-1) (firstM S (-1)) S.length (firstM S (-1))).length:=by rw[hS]
      have h2:=walkM_len S (-1) (firstM S (-1)) S.length (firstM S (-1));rw[List.length_map] at h1;omega
    rw[hq] at hrow hzl hwl;obtain⟨g,c,rfl⟩:=ownsRow_succ hrow;have hcap:q+1≤c:=by
      rcases hrow.2 with⟨h0,-⟩|⟨g',cap,cur,hv',-,-,h4,-⟩;·cases h0
      · simp only[Value.slice.injEq] at hv';omega
    have HCAP:=Lib.hid hcap;clear hcap;have hbx:=owns_box hrow;have hgl:=(hrow.lt g rfl);have hDg:D≠g:=by
      intro e;subst e;rcases hrow.2 with⟨h0,-⟩|⟨g',cap,cur,hv',-,hg,-⟩;·cases h0
      · simp only[Value.slice.injEq,Option.some.injEq] at hv';obtain⟨h1,-,-⟩:=hv';injection h1 with h1;subst h1;rw[hK] at hg;cases hg
    have hrev:=reverse_any g (q+1) c zs W hzl (by omega) (by omega) hbx;have HREV:=Lib.hid hrev;have HBM:=Lib.hid hbm;have HZL:=Lib.hid hzl;have co:=hv.cell;clear hrev hbm hS hzs hbx hq hrow hyl hKB hzl;gi_wp2_with fail;go_wp2_with fail;refine HREV.out.mono ?_;rintro e w5 ⟨rfl,hbx,htu⟩;have hv5:Boxed w5 (w.heap.size+1) 44 _:=(htu.block _ (by omega)).trans hv;have co5:=hv5.cell;have hK5:w5.heap[D]?=some (.deferred (some [])):=(htu.block D hDg).trans hK;have hB5:Below w.heap.size w w5:=Go.MagM.Below.turned hB htu (by omega);have hBX:=Lib.hid hbx;have HGL:g<w5.heap.size:=by rw[htu.size];exact hgl.2
    clear hbx htu co;go_wp2;refine⟨by simp,.inl ⟨_,_,rfl,run_takeDeferred hK5,?_⟩⟩;refine⟨_,results_tmp rfl _ _ _,g,c,?_,by rw[HBM.out,List.length_reverse,HZL.out];exact HCAP.out,?_,by omega,by simp only[World.putObj];simpa using HGL,hB5.trans (belowK_b (w:=w) (Nat.le_refl _) w5 D _ _ (by omega) hK5 rfl rfl)⟩;·rw[HBM.out,List.length_reverse,HZL.out];rfl
    · rw[HBM.out];have e:=World.putObj_heap_other (w:=w5) (r:=D) (k:=g) (o:= .deferred none) (fun e=>hDg e.symm);exact⟨fun i u hi=>(World.cell?_of_block (a:=⟨g,i,none⟩) e).trans (hBX.out.c i u hi),fun i u hi=>(World.frozen?_of_block (a:=⟨g,i,none⟩) e).trans (hBX.out.f i u hi)⟩
  case stop=>rintro D c pre W _ _ h _;exact h.elim
theorem border_any{mb pb pc:Nat}{ta:Option Addr}{tc:Nat}{P:List (Int×Int)}{S:List TriM}(w:World)(h:MeshR w mb pb pc ta tc P S)(hP0:P≠[])(hne:borderM S≠[]):Calls Tryz.prog 88 #[.pointer (some ⟨mb,0,none⟩)] w fun e w'=>∃g c,e= .returned (.slice (some ⟨g,0,none⟩) (borderM S).length c)∧Box w' g (intCells (borderM S))∧w.heap.size≤g∧g<w'.heap.size∧Below w.heap.size w w':=by refine(border_room w h hP0 hne).mono ?_;rintro e w' ⟨g,c,h1,-,h2⟩;exact⟨g,c,h1,h2⟩
end Go.Proofs.YtdmfbkhafnkcfaaGreat
namespace Go.MagM
open Go.RowKit
section
variable{P:Program}
theorem run_storeCells_box{g:Nat}(off:Nat):∀(xs:List Value)(i:Nat){w:World}{vs:List Value},Box w g vs→off+i+xs.length≤vs.length→(∀v∈xs,v.oneCell'=true)→(storeCells ⟨g,off,none⟩ xs i).run P w= .ok () (Go.MagM.setAll w g (off+i) xs)
  |[],i,w,_,_,_,_=>rfl|x::xs,i,w,vs,hb,hl,h1=>by
    have hl':off+i+(xs.length+1)≤vs.length:=by simpa using hl
    have ho:vs[off+i]?=some (vs[off+i]'(by omega)):=List.getElem?_eq_getElem (by omega);have hc:=hb.c (off+i) _ ho;have hf:=hb.f (off+i) _ ho;have ha:(⟨g,off,none⟩:Addr).add i=⟨g,off+i,none⟩:=by unfold Addr.add;split<;>simp_all
    have ih:=run_storeCells_box off xs (i+1) (hb.set (off+i) x) (by simpa using by omega) (fun v hv=>h1 v (by simp[hv]));rw[storeCells,Sem.run_bind,run_store P w _ x .plain (h1 x (by simp)),ha,hc];simp only[hf,Bool.false_eq_true,if_false,Result.andThen_ok];exact ih
theorem wp_store_box{o:Oper}{a:Act}{w:World}{K:Act→World→Prop}{Q:Exit→Act→World→Prop}(ty:TypeId)(x y:Operand)(ho:o.op= .store ty x y){g off:Nat}{vs:List Value}(xs:List Value)(hb:Box w g vs)(hx:a.eval x= .pointer (some ⟨g,off,none⟩))(hy:a.eval y= .agg xs.toArray)(hi:(P.info? ty).map (·.size)=some xs.length)(hl:off+xs.length≤vs.length)(h1:xs.all (·.oneCell')=true){w':World}(hw:Go.MagM.setAll w g off xs=w')(h:K (a.put o.dst undef) w'):o.wp P a w K Q:=by
  have hr:=run_storeCells_box (P:=P) off xs 0 hb (by omega) (fun v hv=>List.all_eq_true.1 h1 v hv);have hr2:(storeVar ty ⟨g,off,none⟩ (.agg xs.toArray)).run P w= .ok () (Go.MagM.setAll w g off xs):=by cases hq:P.info? ty with
    |none=>simp[hq] at hi|some i=>
      have hs:xs.length=i.size:=by simp[hq] at hi;omega
      simp only[Nat.add_zero] at hr;simp[storeVar,sizeOf,typeInfo,hq,Value.cells,hs,hr]
  unfold Oper.wp execOp;simp only[ho,hx,hy,Instr.storeAt,Instr.sureAddr,Sem.run_bind,Sem.run_pure,Result.andThen_ok,hr2];rw[hw];exact h
theorem wpList_store_box{ops:Array Oper}{rest:List Oper}{o:Oper}{a:Act}{w:World}{Q:Exit→Act→World→Prop}(hg:o.guard=none)(ty:TypeId)(x y:Operand)(ho:o.op= .store ty x y){g off:Nat}{vs:List Value}(xs:List Value)(hb:Box w g vs)(hx:a.eval x= .pointer (some ⟨g,off,none⟩))(hy:a.eval y= .agg xs.toArray)(hi:(P.info? ty).map (·.size)=some xs.length)(hl:off+xs.length≤vs.length)(h1:xs.all (·.oneCell')=true){w':World}(hw:Go.MagM.setAll w g off xs=w')(h:wpList P ops Q rest (a.put o.dst undef) w'):wpList P ops Q (o::rest) a w:=wpList_plain hg fun _ hK=>wp_store_box ty x y ho xs hb hx hy hi hl h1 hw (hK _ _ h)
end
end Go.MagM
namespace Go.MagM
open Go.RowKit
def setL(vs:List Value):Nat→List Value→List Value|_,[]=>vs|i,x::xs=>setL (vs.set i x) (i+1) xs
theorem setL_get:∀(xs vs:List Value)(i j:Nat),i+xs.length≤vs.length→(setL vs i xs)[j]?=if i≤j∧j<i+xs.length then xs[j-i]? else vs[j]?
  |[],vs,i,j,_=>by rw[setL,if_neg (by simp)]|x::xs,vs,i,j,h=>by
    have hl:i+(xs.length+1)≤vs.length:=by simpa using h
    rw[setL,setL_get xs (vs.set i x) (i+1) j (by rw[List.length_set];omega),List.getElem?_set,List.length_cons];by_cases h1:i=j;· subst h1;rw[if_neg (by omega),if_pos rfl,if_pos (by omega),if_pos (by omega),Nat.sub_self];rfl
    · by_cases h2:i+1≤j∧j<i+1+xs.length;·rw[if_pos h2,if_pos (by omega),show j-i=(j-(i+1))+1 by omega];rfl
      ·rw[if_neg h2,if_neg h1,if_neg (by omega)]
theorem TriM.cells_len(T:TriM):T.cells.length=9:=rfl
theorem setL_tri{S:List TriM}{k:Nat}(hk:k<S.length)(T:TriM):setL (triCells S) (k*9) T.cells=triCells (S.set k T):=by
  have hl:k*9+T.cells.length≤(triCells S).length:=by rw[triCells_len,T.cells_len];omega
  refine List.ext_getElem? fun j=>?_;rw[setL_get _ _ _ _ hl,T.cells_len];by_cases hj:j<S.length*9
  · obtain⟨q,r,hr,rfl⟩:∃q r,r<9∧j=q*9+r:=⟨j/9,j%9,Nat.mod_lt _ (by omega),by omega⟩;have hq:q<S.length:=by omega
    by_cases hqk:q=k;· subst hqk;rw[if_pos (by omega),triCells_get (S.set q T) q r T (by rw[List.getElem?_set,if_pos rfl,if_pos hq]) hr,show q*9+r-q*9=r by omega]
    · rw[if_neg (by omega)];obtain⟨U,hU⟩:∃U,S[q]?=some U:=⟨_,List.getElem?_eq_getElem hq⟩;rw[triCells_get S q r U hU hr,triCells_get (S.set k T) q r U (by rw[List.getElem?_set,if_neg (fun e=>hqk e.symm)];exact hU) hr]
  ·rw[if_neg (by omega),List.getElem?_eq_none (by rw[triCells_len];omega),List.getElem?_eq_none (by rw[triCells_len,List.length_set];omega)]
theorem owns_put{w:World}{base:Nat}{e:TypeId}{size g n c:Nat}{xs:List Value}(h:w.ownsRow base e size (.slice (some ⟨g,0,none⟩) n c) n xs)(j:Nat)(u:Value):(w.setCell ⟨g,j,none⟩ u).ownsRow base e size (.slice (some ⟨g,0,none⟩) n c) n (xs.set j u):=by
  refine⟨by rw[List.length_set];exact h.1,?_⟩;rcases h.2 with⟨h0,_⟩|⟨g',cap,cur,h1,h2,h3,h4,h5,h6,h7⟩;·cases h0
  · simp only[Value.slice.injEq,Option.some.injEq] at h1;obtain⟨h1,-,rfl⟩:=h1;injection h1 with h1;subst h1;refine .inr ⟨g,c,cur.setIfInBounds j u,rfl,h2,?_,h4,h5,by simpa using h6,?_⟩
    · simp only[World.setCell,Array.getElem?_modify,if_true];rw[h3];rfl
    ·rw[Array.toList_setIfInBounds,List.take_set,h7]
theorem owns_setAll{base:Nat}{e:TypeId}{size g n c:Nat}:∀(ys:List Value)(i:Nat){w:World}{xs:List Value},w.ownsRow base e size (.slice (some ⟨g,0,none⟩) n c) n xs→(setAll w g i ys).ownsRow base e size (.slice (some ⟨g,0,none⟩) n c) n (setL xs i ys)|[],_,_,_,h=>h|y::ys,i,_,_,h=>owns_setAll ys (i+1) (owns_put h i y)
theorem turned_setAll{w:World}{g:Nat}:∀(ys:List Value)(i:Nat){w'':World},Turned w w'' g→Turned w (setAll w'' g i ys) g|[],_,_,h'=>h'|y::ys,i,_,h'=>turned_setAll ys (i+1) (h'.setCell i y)
def ptsCells:List (Int×Int)→List Value|[]=>[]|q::t=>[.int .i64 q.1,.int .i64 q.2]++ptsCells t
theorem ptsCells_len:∀l,(ptsCells l).length=l.length*2|[]=>rfl|q::t=>by rw[ptsCells,List.length_append,ptsCells_len t,List.length_cons];simp;omega
theorem ptsCells_app:∀l k,ptsCells (l++k)=ptsCells l++ptsCells k|[],_=>rfl|q::t,k=>by rw[List.cons_append,ptsCells,ptsCells_app t k,ptsCells,List.append_assoc]
theorem ptsCells_get:∀(l:List (Int×Int))(i:Nat)(x y:Int),l[i]?=some (x,y)→(ptsCells l)[i*2]?=some (.int .i64 x)∧(ptsCells l)[i*2+1]?=some (.int .i64 y)|[],_,_,_,h=>by simp at h|q::t,0,x,y,h=>by simp at h;subst h;exact⟨rfl,rfl⟩|q::t,i+1,x,y,h=>by have:=ptsCells_get t i x y (by simpa using h);rw[ptsCells,List.getElem?_append_right (by simp;omega),List.getElem?_append_right (by simp;omega)];rw[show(i+1)*2-[Value.int .i64 q.1,Value.int .i64 q.2].length=i*2 by simp;omega,show(i+1)*2+1-[Value.int .i64 q.1,Value.int .i64 q.2].length=i*2+1 by simp;omega];exact this
structure MeshO(p e:TypeId)(w:World)(lo mb pb pc:Nat)(tv:Value)(P:List (Int×Int))(S:List TriM):Prop where
  box:Box w mb [.slice (some ⟨pb,0,none⟩) P.length pc,tv]
  prow:w.ownsRow lo p 2 (.slice (some ⟨pb,0,none⟩) P.length pc) P.length (ptsCells P)
  row:w.ownsRow lo e 9 tv S.length (triCells S)
  low:lo≤mb∧mb<w.heap.size∧pb<w.heap.size∧pb≠mb
  apart:tv.ownBlock≠some mb∧tv.ownBlock≠some pb
  short:P.length≤1000000∧S.length≤1000000
theorem MeshO.pts{p e:TypeId}{w:World}{lo mb pb pc:Nat}{tv:Value}{P:List (Int×Int)}{S:List TriM}(h:MeshO p e w lo mb pb pc tv P S):PtsIn w pb P:=fun i x y hi=>by obtain⟨h1,h2⟩:=ptsCells_get P i x y hi;have hb:=owns_box h.prow;exact⟨hb.c _ _ h1,hb.c _ _ h2⟩
theorem MeshO.read{p e:TypeId}{w:World}{lo mb pb pc:Nat}{tv:Value}{P:List (Int×Int)}{S:List TriM}(h:MeshO p e w lo mb pb pc tv P S):∃ta tc,tv= .slice ta S.length tc∧MeshR w mb pb pc ta tc P S:=by
  have hb:=h.box;rcases h.row.2 with⟨rfl,h0⟩|⟨g,cap,cur,rfl,h2,h3,h4⟩
  · have hS:S=[]:=List.eq_nil_of_length_eq_zero h0;subst hS;exact⟨none,0,rfl,hb,h.pts,fun i T hi=>by simp at hi,h.short⟩
  · refine⟨_,cap,rfl,hb,h.pts,fun i T hi=>⟨g,rfl,fun j v hj=>?_⟩,h.short⟩;have hx:=owns_box h.row;exact hx.c _ _ (by rw[triCells_get S i j T hi (by have:=(List.getElem?_eq_some_iff.1 hj).1;exact this)];exact hj)
structure Mut(w w':World)(mb:Nat)(tv tv':Value):Prop where
  os:w'.os=w.os
  tape:w'.tape=w.tape
  output:w'.output=w.output
  size:w.heap.size≤w'.heap.size
  keep:∀k,k<w.heap.size→k≠mb→tv.ownBlock≠some k→w'.heap[k]?=w.heap[k]?∧tv'.ownBlock≠some k
theorem Mut.refl(w:World)(mb:Nat)(tv:Value):Mut w w mb tv tv:=⟨rfl,rfl,rfl,Nat.le_refl _,fun _ _ _ h=>⟨rfl,h⟩⟩
theorem Mut.trans{a b c:World}{mb:Nat}{t u v:Value}(h:Mut a b mb t u)(k:Mut b c mb u v):Mut a c mb t v:=⟨k.os.trans h.os,k.tape.trans h.tape,k.output.trans h.output,Nat.le_trans h.size k.size,fun i hi h1 h2=>by obtain⟨e1,e2⟩:=h.keep i hi h1 h2;obtain⟨e3,e4⟩:=k.keep i (Nat.lt_of_lt_of_le hi h.size) h1 e2;exact⟨e3.trans e1,e4⟩⟩
theorem Mut.below{w w':World}{mb B:Nat}{tv tv':Value}(h:Mut w w' mb tv tv')(hB:B≤w.heap.size)(hm:B≤mb)(ht:∀k,tv.ownBlock=some k→B≤k):Below B w w':=⟨h.os,h.tape,h.output,h.size,fun k hk=>(h.keep k (by omega) (by omega) (fun e=>by have:=ht k e;omega)).1⟩
theorem Mut.of_below{w w':World}{mb:Nat}{tv:Value}(h:Below w.heap.size w w')(_ht:∀k,tv.ownBlock=some k→k<w.heap.size):Mut w w' mb tv tv:=⟨h.os,h.tape,h.output,h.size,fun k hk _ h2=>⟨h.block k hk,h2⟩⟩
theorem MeshO.below{p e:TypeId}{w w':World}{lo mb pb pc:Nat}{tv:Value}{P:List (Int×Int)}{S:List TriM}(h:MeshO p e w lo mb pb pc tv P S)(hb:Below w.heap.size w w'):MeshO p e w' lo mb pb pc tv P S:=⟨h.box.below hb,owns_blow h.prow hb,owns_blow h.row hb,by have:=h.low;have:=hb.size;omega,h.apart,h.short⟩
theorem MeshO.drew{p e:TypeId}{w:World}{lo mb pb pc:Nat}{tv:Value}{P:List (Int×Int)}{S:List TriM}(h:MeshO p e w lo mb pb pc tv P S):MeshO p e w.drew lo mb pb pc tv P S:=⟨h.box.drew,h.prow,h.row,h.low,h.apart,h.short⟩
theorem Box.same{w w':World}{g:Nat}{vs:List Value}(h:Box w g vs)(e:w'.heap[g]?=w.heap[g]?):Box w' g vs:=⟨fun i u hi=>(World.cell?_of_block (a:=⟨g,i,none⟩) e).trans (h.c i u hi),fun i u hi=>(World.frozen?_of_block (a:=⟨g,i,none⟩) e).trans (h.f i u hi)⟩
theorem owns_same{w w':World}{base:Nat}{e:TypeId}{size:Nat}{v:Value}{n:Nat}{xs:List Value}(h:w.ownsRow base e size v n xs)(hs:∀k,v.ownBlock=some k→w'.heap[k]?=w.heap[k]?):w'.ownsRow base e size v n xs:=by
  refine⟨h.1,?_⟩;rcases h.2 with hn|⟨g,cap,cur,rfl,h2,h3,h4⟩;·exact .inl hn
  ·exact .inr ⟨g,cap,cur,rfl,h2,(hs g rfl).trans h3,h4⟩
theorem MeshO.setT{p e:TypeId}{w:World}{lo mb pb pc g c:Nat}{P:List (Int×Int)}{S:List TriM}(h:MeshO p e w lo mb pb pc (.slice (some ⟨g,0,none⟩) S.length c) P S){S':List TriM}(i:Nat)(ys:List Value)(hl:S'.length=S.length)(hs:setL (triCells S) i ys=triCells S'):MeshO p e (setAll w g i ys) lo mb pb pc (.slice (some ⟨g,0,none⟩) S.length c) P S'∧Mut w (setAll w g i ys) mb (.slice (some ⟨g,0,none⟩) S.length c) (.slice (some ⟨g,0,none⟩) S.length c):=by have ht:Turned w (setAll w g i ys) g:=turned_setAll ys i (Turned.refl w g);have hmg:mb≠g:=fun e=>h.apart.1 (by rw[e];rfl);have hpg:pb≠g:=fun e=>h.apart.2 (by rw[e];rfl);refine⟨⟨h.box.same (ht.block mb hmg),owns_same h.prow (fun k hk=>by obtain rfl:k=pb:=(by simpa[Value.ownBlock] using hk.symm);exact ht.block _ hpg),?_,by rw[ht.size];exact h.low,h.apart,by rw[hl];exact h.short⟩,⟨ht.os,ht.tape,ht.output,by rw[ht.size];exact Nat.le_refl _,fun k _ _ h2=>⟨ht.block k (fun e=>h2 (by rw[e];rfl)),h2⟩⟩⟩;have:=owns_setAll ys i h.row;rw[hs] at this;rw[hl];exact this
end Go.MagM
namespace Go.Proofs.YtdmfbkhafnkcfaaGreat
open Go.RowKit Go.MagM
def okT(P:List (Int×Int))(S:List TriM)(t:Nat)(T:TriM):Bool:=goneB T||(formedT P S T&&linkedT S t T)
def ghN(S:List TriM):Nat→Nat|0=>0|k+1=>ghN S k+if placeM S (k:Int) (-1)=-1 then 0 else 1
theorem ghN_none{S:List TriM}{k:Nat}(h:placeM S (k:Int) (-1)=-1):ghN S (k+1)=ghN S k:=by show ghN S k+_=_;rw[if_pos h];rfl
theorem ghN_some{S:List TriM}{k:Nat}(h:placeM S (k:Int) (-1)≠-1):ghN S (k+1)=ghN S k+1:=by show ghN S k+_=_;rw[if_neg h]
theorem ghN_le(S:List TriM):∀k,ghN S k≤k|0=>Nat.le_refl _|k+1=>by have:=ghN_le S k;unfold ghN;split<;>omega
def SoundIs(P:List (Int×Int))(S:List TriM)(r:Bool):Prop:=(r=false∧∃k T,S[k]?=some T∧okT P S k T=false)∨(r=true∧(∀k T,S[k]?=some T→okT P S k T=true)∧borderM S≠[]∧(borderM S).length=ghN S S.length∧∃hs:List Nat,borderM S=hs.map (fun v:Nat=>(v:Int))∧(∀v,v∈hs→v<P.length)∧convexM P hs=true)
set_option maxRecDepth 100000 in set_option maxHeartbeats 16000000 in theorem Sound_any{mb pb pc:Nat}{ta:Option Addr}{tc:Nat}{P:List (Int×Int)}{S:List TriM}(r:Bool)(w:World)(h:MeshR w mb pb pc ta tc P S)(hP:InPs P)(hP0:P≠[])(hr:SoundIs P S r):Calls Tryz.prog 24 #[.pointer (some ⟨mb,0,none⟩)] w fun e w'=>e= .returned (.bool r)∧Below w.heap.size w w':=by
  have hsh:=h.short.2;have H:=Lib.hid h;have HR:=Lib.hid hr;have HPS:=Lib.hid hP;have HP0:=Lib.hid hP0;obtain⟨b0,b1,-,-⟩:=h.box.open2;clear h hr hP hP0;go_enter Tryz.func24,Tryz.ntmps24;go_wp2;clear b0 b1;go_loopw [3,4,13] (fun gv _ iv wr=>∃k:Nat,k≤S.length∧iv= .int .i64 k∧gv= .int .i64 (ghN S k:Nat)∧(∀j T,j<k→S[j]?=some T→okT P S j T=true)∧Below w.heap.size w wr) (fun _ _ iv _=>S.length-(intOf iv).toNat);case atStart=>exact⟨0,Nat.zero_le _,rfl,rfl,fun j T hj=>by omega,Below.refl _ _⟩
  case round=>
    obtain⟨k,hk,rfl,rfl,hne,hB_0⟩:=hrel;have HNE:=Lib.hid hne;clear hne;have hgn:=ghN_le S k;by_cases hlt:k<S.length
    · obtain⟨T,hT⟩:∃T,S[k]?=some T:=⟨_,List.getElem?_eq_getElem hlt⟩;have hm_0:=H.out.below hB_0;have b0:=hm_0.box.c0;have b1:=hm_0.box.c1;obtain⟨tb,hta,htl,ht9⟩:=hm_0.tris.get hT;subst hta;have HT:=Lib.hid hT;have hgone:=gone_any tb (k*9) T wr ht9.c0 ht9.c1 ht9.c2;obtain⟨ok,hok⟩:∃ok,okT P S k T=ok:=⟨_,rfl⟩;have hstep:ok=true→∀j T',j<k+1→S[j]?=some T'→okT P S j T'=true:=by
        intro e j T' hj hT';rcases Nat.lt_or_ge j k with g|g;·exact HNE.out j T' g hT'
        · obtain rfl:j=k:=by omega
          rw[HT.out] at hT';cases hT';rw[hok,e]
      have hbad:ok=false→r=false:=by
        intro e;rcases HR.out with h|h;·exact h.1
        · have:=h.2.1 k T HT.out;rw[hok,e] at this;cases this
      have HSTEP:=Lib.hid hstep;have HBAD:=Lib.hid hbad;have hpk:placeM S (k:Int) (-1)=if goneB T then-1 else placeT T (-1):=by unfold placeM;rw[getT_nat,HT.out]
      unfold okT at hok;clear hT hstep hbad;cases hg:goneB T with
      |true=>
        rw[hg] at hgone hok hpk;simp only[Bool.true_or,if_true] at hok hpk;have HG:=Lib.hid hgone;have HPK:=Lib.hid hpk;have HOK:=Lib.hid hok;clear hg hgone hok hpk ht9;go_wp2_with fail;refine HG.out.mono ?_;rintro e w' ⟨rfl,rfl⟩;go_wp2;go_roundw;case rel=>exact⟨k+1,by omega,by go_num,by rw[ghN_none HPK.out],HSTEP.out HOK.out.symm,hB_0⟩
        case measure=>simp[intOf];omega|false=>
        rw[hg] at hgone hok hpk;simp only[Bool.false_or,Bool.false_eq_true,if_false] at hok hpk;have hform:=formed_any k T wr hm_0 HPS.out HT.out;have hlink:=fun w' (hb:Below wr.heap.size wr w')=>linked_any k T w' (hm_0.below hb) HT.out;have hplace:=fun w' (hb:Below wr.heap.size wr w')=>place_any (k:Int) (-1) w' (hm_0.below hb);obtain⟨fo,hfo⟩:∃fo,formedT P S T=fo:=⟨_,rfl⟩;obtain⟨li,hli⟩:∃li,linkedT S k T=li:=⟨_,rfl⟩;obtain⟨pl,hpl⟩:∃pl,placeM S (k:Int) (-1)=pl:=⟨_,rfl⟩;rw[hfo] at hform hok;simp only[hli] at hlink hok;simp only[hpl] at hplace;have HG:=Lib.hid hgone;have HPK:=Lib.hid hpl;have HOK:=Lib.hid hok;have HF:=Lib.hid hform;have HL:=Lib.hid hlink;have HPL:=Lib.hid hplace;clear hg hgone hok hpk ht9 hform hlink hplace hfo hli hpl hm_0 b0 b1;have hm_0:=H.out.below hB_0;have b0:=hm_0.box.c0;have b1:=hm_0.box.c1;cases fo with
        |false=>
          have hr':r=false:=HBAD.out (by rw[←HOK.out];rfl);subst hr';go_wp2_with fail;refine HG.out.mono ?_;rintro e w' ⟨rfl,rfl⟩;go_wp2_with fail;refine HF.out.mono ?_;rintro e w2 ⟨rfl,hb2⟩;go_wp2;go_ret;exact⟨rfl,hB_0.trans (hb2.mono hB_0.size)⟩|true=>cases li with
          |false=>
            have hr':r=false:=HBAD.out (by rw[←HOK.out];rfl);subst hr';go_wp2_with fail;refine HG.out.mono ?_;rintro e w' ⟨rfl,rfl⟩;go_wp2_with fail;refine HF.out.mono ?_;rintro e w2 ⟨rfl,hb2⟩;go_wp2_with fail;refine(HL.out _ hb2).mono ?_;rintro e w3 ⟨rfl,hd3⟩;go_wp2;go_ret;exact⟨rfl,hB_0.trans ((hb2.trans (hd3.below.mono hb2.size)).mono hB_0.size)⟩|true=>
            have HSK:=Lib.hid (HSTEP.out (by rw[←HOK.out];rfl));go_wp2_with fail;refine HG.out.mono ?_;rintro e w' ⟨rfl,rfl⟩;go_wp2_with fail;refine HF.out.mono ?_;rintro e w2 ⟨rfl,hb2⟩;go_wp2_with fail;refine(HL.out _ hb2).mono ?_;rintro e w3 ⟨rfl,hd3⟩;have hb3:=hb2.trans (hd3.below.mono hb2.size);go_wp2_with fail;refine(HPL.out _ hb3).mono ?_;rintro e w4 ⟨rfl,rfl⟩;by_cases hm:pl=-1
            · subst hm;go_wp2;go_roundw;case rel=>exact⟨k+1,by omega,by go_num,by rw[ghN_none HPK.out],HSK.out,hB_0.trans (hb3.mono hB_0.size)⟩
              case measure=>simp[intOf];omega
            · have hd:(pl !=-1)=true:=by simp[hm]
              have HM:=Lib.hid hm;clear hm;go_wp2;go_roundw;case rel=>exact⟨k+1,by omega,by go_num,by rw[ghN_some (by rw[HPK.out];exact HM.out)];go_num,HSK.out,hB_0.trans (hb3.mono hB_0.size)⟩
              case measure=>simp[intOf];omega
    · obtain rfl:k=S.length:=by omega
      rcases HR.out with⟨-,j,T,hT,hno⟩|⟨rfl,-,hbn,hbl,hs,hbs,hbv,hcv⟩
      · have:=HNE.out j T (List.getElem?_eq_some_iff.1 hT).1 hT;rw[hno] at this;cases this
      · have hm_0:=H.out.below hB_0;have hbor:=border_any wr hm_0 HP0.out hbn;have hhl:hs.length=ghN S S.length:=by rw[←hbl,hbs,List.length_map]
        rw[hbl] at hbor;have HBO:=Lib.hid hbor;have HHL:=Lib.hid hhl;have HBS:=Lib.hid hbs;have HBV:=Lib.hid hbv;have HCV:=Lib.hid hcv;clear hbor hhl hbs hbv hcv hbn hbl hm_0;have hgn':((ghN S S.length:Int)==(ghN S S.length:Int))=true:=by simp
        go_wp2_with fail;refine HBO.out.mono ?_;rintro e w2 ⟨g,c,rfl,hbx,-,-,hb2⟩;have hnat:NatsIn w2 g hs:=by intro i v hi;have:=hbx.c i (.int .i64 (v:Int)) (by rw[HBS.out];unfold intCells;rw[List.getElem?_map,List.getElem?_map,hi];rfl);exact this
        have hcx:=convex_any g c _ hs w2 ((H.out.below hB_0).below hb2) HPS.out HHL.out (by omega) hnat HBV.out;rw[HCV.out] at hcx;have HCX:=Lib.hid hcx;clear hcx hnat hbx;go_wp2_with fail;refine HCX.out.mono ?_;rintro e w3 ⟨rfl,hb3⟩;go_wp2;go_ret;exact⟨rfl,hB_0.trans ((hb2.trans (hb3.mono hb2.size)).mono hB_0.size)⟩
end Go.Proofs.YtdmfbkhafnkcfaaGreat
namespace Go.MagM
open Go.RowKit
theorem modify_set{α:Type}{l:List α}{i:Nat}{x:α}(h:l[i]?=some x)(f:α→α):l.modify i f=l.set i (f x):=by
  refine List.ext_getElem? fun j=>?_;rw[List.getElem?_modify,List.getElem?_set];by_cases e:i=j
  · subst e;rw[h,if_pos rfl,if_pos (List.getElem?_eq_some_iff.1 h).1];simp
  ·rw[if_neg e];simp[e]
theorem tri_at{S:List TriM}{t:Nat}{T:TriM}(h:S[t]?=some T)(j:Nat)(hj:j<9):(triCells S)[t*9+j]?=T.cells[j]?:=triCells_get S t j T h hj
theorem tri_n{S:List TriM}{t:Nat}{T:TriM}(h:S[t]?=some T){i:Nat}(hi:i<3):(triCells S)[t*9+3+i]?=some (.int .i64 (T.n i)):=by
  rw[Nat.add_assoc,tri_at h (3+i) (by omega)];obtain rfl|rfl|rfl:i=0∨i=1∨i=2:=by omega
  all_goals rfl
theorem tri_f{S:List TriM}{t:Nat}{T:TriM}(h:S[t]?=some T){i:Nat}(hi:i<3):(triCells S)[t*9+6+i]?=some (.bool (T.f i)):=by
  rw[Nat.add_assoc,tri_at h (6+i) (by omega)];obtain rfl|rfl|rfl:i=0∨i=1∨i=2:=by omega
  all_goals rfl
theorem MeshO.slot{p e:TypeId}{w:World}{lo mb pb pc:Nat}{tv:Value}{P:List (Int×Int)}{S:List TriM}(h:MeshO p e w lo mb pb pc tv P S){t:Nat}{T:TriM}(hT:S[t]?=some T):∃tb c,tv= .slice (some ⟨tb,0,none⟩) S.length c:=by obtain⟨ta,tc,rfl,hr⟩:=h.read;obtain⟨b,rfl,-⟩:=hr.tris.get hT;exact⟨b,tc,rfl⟩
def half(S:List TriM)(t:Nat)(T:TriM)(i:Nat)(u:Int)(f:Bool):List TriM:=S.set t ((T.setN i u).setF i f)
theorem half_len(S:List TriM)(t:Nat)(T:TriM)(i:Nat)(u:Int)(f:Bool):(half S t T i u f).length=S.length:=by unfold half;simp
theorem linkL_half{S:List TriM}{t u i j:Nat}{T U:TriM}{f:Bool}(hT:S[t]?=some T)(hU:(half S t T i (u:Int) f)[u]?=some U):linkL S t i u j f=half (half S t T i (u:Int) f) u U j (t:Int) f:=by unfold linkL;rw[modify_set hT];have:S.set t ((T.setN i (u:Int)).setF i f)=half S t T i (u:Int) f:=rfl;rw[this,modify_set hU];rfl
theorem MeshO.half{p e:TypeId}{w:World}{lo mb pb pc g c:Nat}{P:List (Int×Int)}{S:List TriM}(h:MeshO p e w lo mb pb pc (.slice (some ⟨g,0,none⟩) S.length c) P S){t i:Nat}(hi:i<3){T:TriM}(hT:S[t]?=some T)(u:Int)(f:Bool):MeshO p e ((w.setCell ⟨g,t*9+3+i,none⟩ (.int .i64 u)).setCell ⟨g,t*9+6+i,none⟩ (.bool f)) lo mb pb pc (.slice (some ⟨g,0,none⟩) S.length c) P (half S t T i u f)∧Mut w ((w.setCell ⟨g,t*9+3+i,none⟩ (.int .i64 u)).setCell ⟨g,t*9+6+i,none⟩ (.bool f)) mb (.slice (some ⟨g,0,none⟩) S.length c) (.slice (some ⟨g,0,none⟩) S.length c):=by
  have hl:=(List.getElem?_eq_some_iff.1 hT).1;have e1:setL (triCells S) (t*9+3+i) [.int .i64 u]=triCells (S.set t (T.setN i u)):=by show(triCells S).set (t*9+3+i) _=_;rw[Nat.add_assoc];exact triCells_setN hT i hi u
  obtain⟨h1,m1⟩:=h.setT (S':=S.set t (T.setN i u)) (t*9+3+i) [.int .i64 u] (by simp) e1;have hT2:(S.set t (T.setN i u))[t]?=some (T.setN i u):=by rw[List.getElem?_set,if_pos rfl,if_pos hl]
  have e2:setL (triCells (S.set t (T.setN i u))) (t*9+6+i) [.bool f]=triCells (S.set t ((T.setN i u).setF i f)):=by
    show(triCells (S.set t (T.setN i u))).set (t*9+6+i) _=_;rw[Nat.add_assoc,triCells_setF hT2 i hi f,List.set_set]
  have hlen:(S.set t (T.setN i u)).length=S.length:=by simp
  have h1':MeshO p e (setAll w g (t*9+3+i) [.int .i64 u]) lo mb pb pc (.slice (some ⟨g,0,none⟩) (S.set t (T.setN i u)).length c) P (S.set t (T.setN i u)):=by rw[hlen];exact h1
  obtain⟨h2,m2⟩:=h1'.setT (S':=S.set t ((T.setN i u).setF i f)) (t*9+6+i) [.bool f] (by simp) e2;rw[hlen] at h2 m2;exact⟨h2,m1.trans m2⟩
def goneTri:TriM:=⟨-2,-2,-2,-1,-1,-1,false,false,false⟩
end Go.MagM
namespace Go.Proofs.YtdmfbkhafnkcfaaGreat
open Go.RowKit Go.MagM
set_option maxRecDepth 100000 in set_option maxHeartbeats 16000000 in theorem Link_any{lo mb pb pc:Nat}{tv:Value}{P:List (Int×Int)}{S:List TriM}(t i u j:Nat)(f:Bool)(T U:TriM)(w:World)(h:MeshO 33 41 w lo mb pb pc tv P S)(hT:S[t]?=some T)(hgT:goneB T=false)(hi:i<3)(hU:S[u]?=some U)(hgU:goneB U=false)(hj:j<3):Calls Tryz.prog 167 #[.pointer (some ⟨mb,0,none⟩),.int .i64 (t:Int),.int .i64 (i:Int),.int .i64 (u:Int),.int .i64 (j:Int),.bool f] w fun e w'=>e= .returned (.tuple #[])∧MeshO 33 41 w' lo mb pb pc tv P (linkL S t i u j f)∧Mut w w' mb tv tv:=by
  obtain⟨ta,tc,htv,hr⟩:=h.read;have k1:=hasEdge_any (t:Int) (i:Int) w hr;have k2:=hasEdge_any (u:Int) (j:Int) w hr;have g1:hasB S (t:Int) (i:Int)=true:=by unfold hasB thereB;rw[getT_nat,hT];simp[hgT];omega
  have g2:hasB S (u:Int) (j:Int)=true:=by unfold hasB thereB;rw[getT_nat,hU];simp[hgU];omega
  rw[g1] at k1;rw[g2] at k2;obtain⟨tb,c,rfl⟩:=h.slot hT;clear htv hr g1 g2;obtain⟨U',hU'⟩:∃U',(half S t T i (u:Int) f)[u]?=some U':=⟨_,List.getElem?_eq_getElem (by rw[half_len];exact(List.getElem?_eq_some_iff.1 hU).1)⟩;have hlk:=linkL_half (j:=j) hT hU';have ltT:=(List.getElem?_eq_some_iff.1 hT).1;have ltU:=(List.getElem?_eq_some_iff.1 hU).1;have hsh:=h.short.2;obtain⟨len,hlen⟩:∃len,S.length=len:=⟨_,rfl⟩;have hd:=h.drew;have nT:=tri_n hT hi;have fT:=tri_f hT hi;have hbq:=owns_box hd.row;have a1:=hbq.c _ _ nT;have a2:=hbq.f _ _ nT;have hbq2:=hbq.set (t*9+3+i) (.int .i64 (u:Int));have fT2:((triCells S).set (t*9+3+i) (.int .i64 (u:Int)))[t*9+6+i]?=some (.bool (T.f i)):=by rw[List.getElem?_set_ne (by omega)];exact fT
  have a3:=hbq2.c _ _ fT2;have a4:=hbq2.f _ _ fT2;obtain⟨ho2,hm2⟩:=hd.half hi hT (u:Int) f;have hd2:=ho2.drew;have nU:=tri_n hU' hj;have fU:=tri_f hU' hj;have hd2':=hd2;rw[←half_len S t T i (u:Int) f] at hd2';have hbr:=owns_box hd2'.row;have b1:=hbr.c _ _ nU;have b2:=hbr.f _ _ nU;have hbr2:=hbr.set (u*9+3+j) (.int .i64 (t:Int));have fU2:((triCells (half S t T i (u:Int) f)).set (u*9+3+j) (.int .i64 (t:Int)))[u*9+6+j]?=some (.bool (U'.f j)):=by rw[List.getElem?_set_ne (by omega)];exact fU
  have b3:=hbr2.c _ _ fU2;have b4:=hbr2.f _ _ fU2;obtain⟨ho3,hm3⟩:=hd2'.half hj hU' (t:Int) f;have ct:=hd.box.c1;have ct2:=hd2.box.c1;rw[half_len] at ho3 hm3;rw[←hlk] at ho3;have hmA:Mut w w.drew mb (.slice (some ⟨tb,0,none⟩) S.length c) (.slice (some ⟨tb,0,none⟩) S.length c):=⟨rfl,rfl,rfl,Nat.le_refl _,fun _ _ _ h=>⟨rfl,h⟩⟩;have hmB:∀w:World,Mut w w.drew mb (.slice (some ⟨tb,0,none⟩) S.length c) (.slice (some ⟨tb,0,none⟩) S.length c):=fun _=>⟨rfl,rfl,rfl,Nat.le_refl _,fun _ _ _ h=>⟨rfl,h⟩⟩;have hmall:=(hmA.trans hm2).trans ((hmB _).trans hm3);rw[hlen] at ct ct2 ltT ltU hsh;have K1:=Lib.hid k1;have K2:=Lib.hid k2;have HO3:=Lib.hid ho3;have HM:=Lib.hid hmall;have hb1:(0:Int)≤(t:Int):=by omega
  have hb2:(t:Int)<(len:Int):=by omega
  have hb3:(0:Int)≤(u:Int):=by omega
  have hb4:(u:Int)<(len:Int):=by omega
  have hb5:(0:Int)≤(i:Int):=by omega
  have hb6:(i:Int)<3:=by omega
  have hb7:(0:Int)≤(j:Int):=by omega
  have hb8:(j:Int)<3:=by omega
  have HLEN:=Lib.hid hlen;clear k1 k2 hd nT fT hbq hbq2 fT2 ho2 hm2 hd2 nU fU hbr hbr2 fU2 hd2' ho3 hm3 hmA hmB hmall hT hU hU' hlk h hgT hgU hlen;go_enter Tryz.func167,Tryz.ntmps167;go_wp2_with fail;refine K1.out.mono ?_;rintro e w' ⟨rfl,rfl⟩;go_wp2_with fail;refine K2.out.mono ?_;rintro e w' ⟨rfl,rfl⟩;go_wp2;obtain⟨SSq,hSSq⟩:∃S:Array Bool→World→Prop,∀l w',S l w'↔((l.getD 17 true=false→w'.cell? ⟨mb,1,none⟩=some (.slice (some ⟨tb,0,none⟩) len c))):=⟨_,fun _ _=>Iff.rfl⟩;refine wp_region_noPanic ?_;refine wp_region_G SSq 22 #[false,false,false,false,false,false,false,false,false,false,false,false,false,false,false,false,false,false,false,false,false,false] (by kernel_rfl) (by kernel_rfl) (by kernel_rfl) ((hSSq _ _).2 (fun _=>ct)) (fun hCl hHeld=>?_);generalize w.drew=w2 at*;refine rG 0 ?_ ?_ ?_ ?_ ?_ ?_ hCl hHeld ?_;rotate_left 2;·simp only[gA,gZ];exact rfl
  ·intro l w';rw[hSSq,hSSq];rw[getD_set_ne (i:=0) (j:=17) true (by decide)]
  ·rfl
  ·intro w' hA;clear hA;go_simp;try with_reducible rfl
  clear hCl hHeld;intro hCl hHeld;simp only[List.setIfInBounds_toArray,List.set_cons_zero] at hCl hHeld;try simp only[Act.put,sA,sZ,sS]
  refine rG 1 ?_ ?_ ?_ ?_ ?_ ?_ hCl hHeld ?_;rotate_left 2;·simp only[gA,gS,gZ];exact rfl
  ·intro l w';rw[hSSq,hSSq];rw[getD_set_ne (i:=1) (j:=17) true (by decide)]
  ·rfl
  ·intro w' hA;clear hA;go_simp;try with_reducible rfl
  clear hCl hHeld;intro hCl hHeld;simp only[sA,sZ,sS] at hCl hHeld;try simp only[Act.put,sA,sZ,sS]
  refine rG 2 ?_ ?_ ?_ ?_ ?_ ?_ hCl hHeld ?_;rotate_left 2;·simp only[gA,gS,gZ];exact rfl
  ·intro l w';rw[hSSq,hSSq];rw[getD_set_ne (i:=2) (j:=17) true (by decide)]
  ·rfl
  ·intro w' hA;clear hA;go_simp;try with_reducible rfl
  clear hCl hHeld;intro hCl hHeld;simp only[sA,sZ,sS] at hCl hHeld;try simp only[Act.put,sA,sZ,sS]
  refine rG 3 ?_ ?_ ?_ ?_ ?_ ?_ hCl hHeld ?_;rotate_left 2;·simp only[gA,gS,gZ];exact rfl
  ·intro l w';rw[hSSq,hSSq];rw[getD_set_ne (i:=3) (j:=17) true (by decide)]
  ·rfl
  ·intro w' hA;obtain⟨l,hl,hi,hSl⟩:=hA;have hSl:=(hSSq _ _).1 hSl;have hy0:=hSl;have hz0:=hy0 (hl.not (t:=17) (by kernel_rfl) hi);go_simp;try with_reducible rfl
  clear hCl hHeld;intro hCl hHeld;simp only[sA,sZ,sS] at hCl hHeld;try simp only[Act.put,sA,sZ,sS]
  refine rG 4 ?_ ?_ ?_ ?_ ?_ ?_ hCl hHeld ?_;rotate_left 2;·simp only[gA,gS,gZ];exact rfl
  ·intro l w';rw[hSSq,hSSq];rw[getD_set_ne (i:=4) (j:=17) true (by decide)]
  ·rfl
  ·intro w' hA;clear hA;go_simp;try with_reducible rfl
  clear hCl hHeld;intro hCl hHeld;simp only[sA,sZ,sS] at hCl hHeld;try simp only[Act.put,sA,sZ,sS]
  refine rG 5 ?_ ?_ ?_ ?_ ?_ ?_ hCl hHeld ?_;rotate_left 2;·simp only[gA,gS,gZ];exact rfl
  ·intro l w';rw[hSSq,hSSq];rw[getD_set_ne (i:=5) (j:=17) true (by decide)]
  ·rfl
  ·intro w' hA;clear hA;go_simp;try with_reducible rfl
  clear hCl hHeld;intro hCl hHeld;simp only[sA,sZ,sS] at hCl hHeld;try simp only[Act.put,sA,sZ,sS]
  refine rG 6 ?_ ?_ ?_ ?_ ?_ ?_ hCl hHeld ?_;rotate_left 2;·simp only[gA,gS,gZ];exact rfl
  ·intro l w';rw[hSSq,hSSq];rw[getD_set_ne (i:=6) (j:=17) true (by decide)]
  ·rfl
  ·intro w' hA;clear hA;go_simp;try with_reducible rfl
  clear hCl hHeld;intro hCl hHeld;simp only[sA,sZ,sS] at hCl hHeld;try simp only[Act.put,sA,sZ,sS]
  refine rG 7 ?_ ?_ ?_ ?_ ?_ ?_ hCl hHeld ?_;rotate_left 2;·simp only[gA,gS,gZ];exact rfl
  ·intro l w';rw[hSSq,hSSq];rw[getD_set_ne (i:=7) (j:=17) true (by decide)]
  ·rfl
  ·intro w' hA;clear hA;go_simp;try with_reducible rfl
  clear hCl hHeld;intro hCl hHeld;simp only[sA,sZ,sS] at hCl hHeld;try simp only[Act.put,sA,sZ,sS]
  refine rG 8 ?_ ?_ ?_ ?_ ?_ ?_ hCl hHeld ?_;rotate_left 2;·simp only[gA,gS,gZ];exact rfl
  ·intro l w';rw[hSSq,hSSq];rw[getD_set_ne (i:=8) (j:=17) true (by decide)]
  ·rfl
  ·intro w' hA;clear hA;go_simp;try with_reducible rfl
  clear hCl hHeld;intro hCl hHeld;simp only[sA,sZ,sS] at hCl hHeld;try simp only[Act.put,sA,sZ,sS]
  refine rG 9 ?_ ?_ ?_ ?_ ?_ ?_ hCl hHeld ?_;rotate_left 2;·simp only[gA,gS,gZ];exact rfl
  ·intro l w';rw[hSSq,hSSq];rw[getD_set_ne (i:=9) (j:=17) true (by decide)]
  ·rfl
  ·intro w' hA;obtain⟨l,hl,hi,hSl⟩:=hA;have hSl:=(hSSq _ _).1 hSl;have hy0:=hSl;have hz0:=hy0 (hl.not (t:=17) (by kernel_rfl) hi);go_simp;try with_reducible rfl
  clear hCl hHeld;intro hCl hHeld;simp only[sA,sZ,sS] at hCl hHeld;try simp only[Act.put,sA,sZ,sS]
  refine rG 10 ?_ ?_ ?_ ?_ ?_ ?_ hCl hHeld ?_;rotate_left 2;·simp only[gA,gS,gZ];exact rfl
  ·intro l w';rw[hSSq,hSSq];rw[getD_set_ne (i:=10) (j:=17) true (by decide)]
  ·rfl
  ·intro w' hA;clear hA;go_simp;try with_reducible rfl
  clear hCl hHeld;intro hCl hHeld;simp only[sA,sZ,sS] at hCl hHeld;try simp only[Act.put,sA,sZ,sS]
  refine rG 11 ?_ ?_ ?_ ?_ ?_ ?_ hCl hHeld ?_;rotate_left 2;·simp only[gA,gS,gZ];exact rfl
  ·intro l w';rw[hSSq,hSSq];rw[getD_set_ne (i:=11) (j:=17) true (by decide)]
  ·rfl
  ·intro w' hA;clear hA;go_simp;try with_reducible rfl
  clear hCl hHeld;intro hCl hHeld;simp only[sA,sZ,sS] at hCl hHeld;try simp only[Act.put,sA,sZ,sS]
  refine rG 12 ?_ ?_ ?_ ?_ ?_ ?_ hCl hHeld ?_;rotate_left 2;·simp only[gA,gS,gZ];exact rfl
  ·intro l w';rw[hSSq,hSSq];rw[getD_set_ne (i:=12) (j:=17) true (by decide)]
  ·rfl
  ·intro w' hA;clear hA;go_simp;try with_reducible rfl
  clear hCl hHeld;intro hCl hHeld;simp only[sA,sZ,sS] at hCl hHeld;try simp only[Act.put,sA,sZ,sS]
  refine rG 13 ?_ ?_ ?_ ?_ ?_ ?_ hCl hHeld ?_;rotate_left 2;·simp only[gA,gS,gZ];exact rfl
  ·intro l w';rw[hSSq,hSSq];rw[getD_set_ne (i:=13) (j:=17) true (by decide)]
  ·rfl
  ·intro w' hA;clear hA;go_simp;try with_reducible rfl
  clear hCl hHeld;intro hCl hHeld;simp only[sA,sZ,sS] at hCl hHeld;try simp only[Act.put,sA,sZ,sS]
  refine rG 14 ?_ ?_ ?_ ?_ ?_ ?_ hCl hHeld ?_;rotate_left 2;·simp only[gA,gS,gZ];exact rfl
  ·intro l w';rw[hSSq,hSSq];rw[getD_set_ne (i:=14) (j:=17) true (by decide)]
  ·rfl
  ·intro w' hA;clear hA;go_simp;try with_reducible rfl
  clear hCl hHeld;intro hCl hHeld;simp only[sA,sZ,sS] at hCl hHeld;try simp only[Act.put,sA,sZ,sS]
  refine rG 15 ?_ ?_ ?_ ?_ ?_ ?_ hCl hHeld ?_;rotate_left 2;·simp only[gA,gS,gZ];exact rfl
  ·intro l w';rw[hSSq,hSSq];rw[getD_set_ne (i:=15) (j:=17) true (by decide)]
  ·rfl
  ·intro w' hA;clear hA;go_simp;try with_reducible rfl
  clear hCl hHeld;intro hCl hHeld;simp only[sA,sZ,sS] at hCl hHeld;try simp only[Act.put,sA,sZ,sS]
  refine rG 16 ?_ ?_ ?_ ?_ ?_ ?_ hCl hHeld ?_;rotate_left 2;·simp only[gA,gS,gZ];exact rfl
  ·intro l w';rw[hSSq,hSSq];rw[getD_set_ne (i:=16) (j:=17) true (by decide)]
  ·rfl
  ·intro w' hA;clear hA;go_simp;try with_reducible rfl
  clear hCl hHeld;intro hCl hHeld;simp only[sA,sZ,sS] at hCl hHeld;try simp only[Act.put,sA,sZ,sS]
  refine rG 18 ?_ ?_ ?_ ?_ ?_ ?_ hCl hHeld ?_;rotate_left 2;·simp only[gA,gS,gZ];exact rfl
  ·intro l w';rw[hSSq,hSSq];rw[getD_set_ne (i:=18) (j:=17) true (by decide)]
  ·rfl
  ·intro w' hA;clear hA;go_simp;try with_reducible rfl
  clear hCl hHeld;intro hCl hHeld;simp only[sA,sZ,sS] at hCl hHeld;try simp only[Act.put,sA,sZ,sS]
  refine rG 19 ?_ ?_ ?_ ?_ ?_ ?_ hCl hHeld ?_;rotate_left 2;·simp only[gA,gS,gZ];exact rfl
  ·intro l w';rw[hSSq,hSSq];rw[getD_set_ne (i:=19) (j:=17) true (by decide)]
  ·rfl
  ·intro w' hA;clear hA;go_simp;try with_reducible rfl
  clear hCl hHeld;intro hCl hHeld;simp only[sA,sZ,sS] at hCl hHeld;try simp only[Act.put,sA,sZ,sS]
  clear hCl hHeld;refine rD 17 _ (fun K hK=>?_);go_simp;refine hK.out _ _ ((hSSq _ _).2 (fun h=>absurd h (by decide))) ?_;clear hK K;try simp only[Act.put,sA,sZ,sS]
  refine rD 20 _ (fun K hK=>?_);go_simp;refine hK.out _ _ ((hSSq _ _).2 (fun h=>absurd h (by decide))) ?_;clear hK K;try simp only[Act.put,sA,sZ,sS]
  refine rD 21 _ (fun K hK=>?_);go_simp;refine hK.out _ _ ((hSSq _ _).2 (fun h=>absurd h (by decide))) ?_;clear hK K;try simp only[Act.put,sA,sZ,sS]
  refine wpAnyG_done (by kernel_rfl) ?_ _;refine NoPanic.normal ?_;clear hSSq SSq;clear a1 a2 a3 a4 ct;go_wp2;obtain⟨SSr,hSSr⟩:∃S:Array Bool→World→Prop,∀l w',S l w'↔((l.getD 17 true=false→w'.cell? ⟨mb,1,none⟩=some (.slice (some ⟨tb,0,none⟩) len c))):=⟨_,fun _ _=>Iff.rfl⟩;refine wp_region_noPanic ?_;refine wp_region_G SSr 22 #[false,false,false,false,false,false,false,false,false,false,false,false,false,false,false,false,false,false,false,false,false,false] (by kernel_rfl) (by kernel_rfl) (by kernel_rfl) ((hSSr _ _).2 (fun _=>ct2)) (fun hCl hHeld=>?_);generalize ((w2.setCell ⟨tb,t*9+3+i,none⟩ (.int .i64 (u:Int))).setCell ⟨tb,t*9+6+i,none⟩ (.bool f)).drew=w5 at*;refine rG 0 ?_ ?_ ?_ ?_ ?_ ?_ hCl hHeld ?_;rotate_left 2;·simp only[gA,gZ];exact rfl
  ·intro l w';rw[hSSr,hSSr];rw[getD_set_ne (i:=0) (j:=17) true (by decide)]
  ·rfl
  ·intro w' hA;clear hA;go_simp;try with_reducible rfl
  clear hCl hHeld;intro hCl hHeld;simp only[List.setIfInBounds_toArray,List.set_cons_zero] at hCl hHeld;try simp only[Act.put,sA,sZ,sS]
  refine rG 1 ?_ ?_ ?_ ?_ ?_ ?_ hCl hHeld ?_;rotate_left 2;·simp only[gA,gS,gZ];exact rfl
  ·intro l w';rw[hSSr,hSSr];rw[getD_set_ne (i:=1) (j:=17) true (by decide)]
  ·rfl
  ·intro w' hA;clear hA;go_simp;try with_reducible rfl
  clear hCl hHeld;intro hCl hHeld;simp only[sA,sZ,sS] at hCl hHeld;try simp only[Act.put,sA,sZ,sS]
  refine rG 2 ?_ ?_ ?_ ?_ ?_ ?_ hCl hHeld ?_;rotate_left 2;·simp only[gA,gS,gZ];exact rfl
  ·intro l w';rw[hSSr,hSSr];rw[getD_set_ne (i:=2) (j:=17) true (by decide)]
  ·rfl
  ·intro w' hA;clear hA;go_simp;try with_reducible rfl
  clear hCl hHeld;intro hCl hHeld;simp only[sA,sZ,sS] at hCl hHeld;try simp only[Act.put,sA,sZ,sS]
  refine rG 3 ?_ ?_ ?_ ?_ ?_ ?_ hCl hHeld ?_;rotate_left 2;·simp only[gA,gS,gZ];exact rfl
  ·intro l w';rw[hSSr,hSSr];rw[getD_set_ne (i:=3) (j:=17) true (by decide)]
  ·rfl
  ·intro w' hA;obtain⟨l,hl,hi,hSl⟩:=hA;have hSl:=(hSSr _ _).1 hSl;have hy0:=hSl;have hz0:=hy0 (hl.not (t:=17) (by kernel_rfl) hi);go_simp;try with_reducible rfl
  clear hCl hHeld;intro hCl hHeld;simp only[sA,sZ,sS] at hCl hHeld;try simp only[Act.put,sA,sZ,sS]
  refine rG 4 ?_ ?_ ?_ ?_ ?_ ?_ hCl hHeld ?_;rotate_left 2;·simp only[gA,gS,gZ];exact rfl
  ·intro l w';rw[hSSr,hSSr];rw[getD_set_ne (i:=4) (j:=17) true (by decide)]
  ·rfl
  ·intro w' hA;clear hA;go_simp;try with_reducible rfl
  clear hCl hHeld;intro hCl hHeld;simp only[sA,sZ,sS] at hCl hHeld;try simp only[Act.put,sA,sZ,sS]
  refine rG 5 ?_ ?_ ?_ ?_ ?_ ?_ hCl hHeld ?_;rotate_left 2;·simp only[gA,gS,gZ];exact rfl
  ·intro l w';rw[hSSr,hSSr];rw[getD_set_ne (i:=5) (j:=17) true (by decide)]
  ·rfl
  ·intro w' hA;clear hA;go_simp;try with_reducible rfl
  clear hCl hHeld;intro hCl hHeld;simp only[sA,sZ,sS] at hCl hHeld;try simp only[Act.put,sA,sZ,sS]
  refine rG 6 ?_ ?_ ?_ ?_ ?_ ?_ hCl hHeld ?_;rotate_left 2;·simp only[gA,gS,gZ];exact rfl
  ·intro l w';rw[hSSr,hSSr];rw[getD_set_ne (i:=6) (j:=17) true (by decide)]
  ·rfl
  ·intro w' hA;clear hA;go_simp;try with_reducible rfl
  clear hCl hHeld;intro hCl hHeld;simp only[sA,sZ,sS] at hCl hHeld;try simp only[Act.put,sA,sZ,sS]
  refine rG 7 ?_ ?_ ?_ ?_ ?_ ?_ hCl hHeld ?_;rotate_left 2;·simp only[gA,gS,gZ];exact rfl
  ·intro l w';rw[hSSr,hSSr];rw[getD_set_ne (i:=7) (j:=17) true (by decide)]
  ·rfl
  ·intro w' hA;clear hA;go_simp;try with_reducible rfl
  clear hCl hHeld;intro hCl hHeld;simp only[sA,sZ,sS] at hCl hHeld;try simp only[Act.put,sA,sZ,sS]
  refine rG 8 ?_ ?_ ?_ ?_ ?_ ?_ hCl hHeld ?_;rotate_left 2;·simp only[gA,gS,gZ];exact rfl
  ·intro l w';rw[hSSr,hSSr];rw[getD_set_ne (i:=8) (j:=17) true (by decide)]
  ·rfl
  ·intro w' hA;clear hA;go_simp;try with_reducible rfl
  clear hCl hHeld;intro hCl hHeld;simp only[sA,sZ,sS] at hCl hHeld;try simp only[Act.put,sA,sZ,sS]
  refine rG 9 ?_ ?_ ?_ ?_ ?_ ?_ hCl hHeld ?_;rotate_left 2;·simp only[gA,gS,gZ];exact rfl
  ·intro l w';rw[hSSr,hSSr];rw[getD_set_ne (i:=9) (j:=17) true (by decide)]
  ·rfl
  ·intro w' hA;obtain⟨l,hl,hi,hSl⟩:=hA;have hSl:=(hSSr _ _).1 hSl;have hy0:=hSl;have hz0:=hy0 (hl.not (t:=17) (by kernel_rfl) hi);go_simp;try with_reducible rfl
  clear hCl hHeld;intro hCl hHeld;simp only[sA,sZ,sS] at hCl hHeld;try simp only[Act.put,sA,sZ,sS]
  refine rG 10 ?_ ?_ ?_ ?_ ?_ ?_ hCl hHeld ?_;rotate_left 2;·simp only[gA,gS,gZ];exact rfl
  ·intro l w';rw[hSSr,hSSr];rw[getD_set_ne (i:=10) (j:=17) true (by decide)]
  ·rfl
  ·intro w' hA;clear hA;go_simp;try with_reducible rfl
  clear hCl hHeld;intro hCl hHeld;simp only[sA,sZ,sS] at hCl hHeld;try simp only[Act.put,sA,sZ,sS]
  refine rG 11 ?_ ?_ ?_ ?_ ?_ ?_ hCl hHeld ?_;rotate_left 2;·simp only[gA,gS,gZ];exact rfl
  ·intro l w';rw[hSSr,hSSr];rw[getD_set_ne (i:=11) (j:=17) true (by decide)]
  ·rfl
  ·intro w' hA;clear hA;go_simp;try with_reducible rfl
  clear hCl hHeld;intro hCl hHeld;simp only[sA,sZ,sS] at hCl hHeld;try simp only[Act.put,sA,sZ,sS]
  refine rG 12 ?_ ?_ ?_ ?_ ?_ ?_ hCl hHeld ?_;rotate_left 2;·simp only[gA,gS,gZ];exact rfl
  ·intro l w';rw[hSSr,hSSr];rw[getD_set_ne (i:=12) (j:=17) true (by decide)]
  ·rfl
  ·intro w' hA;clear hA;go_simp;try with_reducible rfl
  clear hCl hHeld;intro hCl hHeld;simp only[sA,sZ,sS] at hCl hHeld;try simp only[Act.put,sA,sZ,sS]
  refine rG 13 ?_ ?_ ?_ ?_ ?_ ?_ hCl hHeld ?_;rotate_left 2;·simp only[gA,gS,gZ];exact rfl
  ·intro l w';rw[hSSr,hSSr];rw[getD_set_ne (i:=13) (j:=17) true (by decide)]
  ·rfl
  ·intro w' hA;clear hA;go_simp;try with_reducible rfl
  clear hCl hHeld;intro hCl hHeld;simp only[sA,sZ,sS] at hCl hHeld;try simp only[Act.put,sA,sZ,sS]
  refine rG 14 ?_ ?_ ?_ ?_ ?_ ?_ hCl hHeld ?_;rotate_left 2;·simp only[gA,gS,gZ];exact rfl
  ·intro l w';rw[hSSr,hSSr];rw[getD_set_ne (i:=14) (j:=17) true (by decide)]
  ·rfl
  ·intro w' hA;clear hA;go_simp;try with_reducible rfl
  clear hCl hHeld;intro hCl hHeld;simp only[sA,sZ,sS] at hCl hHeld;try simp only[Act.put,sA,sZ,sS]
  refine rG 15 ?_ ?_ ?_ ?_ ?_ ?_ hCl hHeld ?_;rotate_left 2;·simp only[gA,gS,gZ];exact rfl
  ·intro l w';rw[hSSr,hSSr];rw[getD_set_ne (i:=15) (j:=17) true (by decide)]
  ·rfl
  ·intro w' hA;clear hA;go_simp;try with_reducible rfl
  clear hCl hHeld;intro hCl hHeld;simp only[sA,sZ,sS] at hCl hHeld;try simp only[Act.put,sA,sZ,sS]
  refine rG 16 ?_ ?_ ?_ ?_ ?_ ?_ hCl hHeld ?_;rotate_left 2;·simp only[gA,gS,gZ];exact rfl
  ·intro l w';rw[hSSr,hSSr];rw[getD_set_ne (i:=16) (j:=17) true (by decide)]
  ·rfl
  ·intro w' hA;clear hA;go_simp;try with_reducible rfl
  clear hCl hHeld;intro hCl hHeld;simp only[sA,sZ,sS] at hCl hHeld;try simp only[Act.put,sA,sZ,sS]
  refine rG 18 ?_ ?_ ?_ ?_ ?_ ?_ hCl hHeld ?_;rotate_left 2;·simp only[gA,gS,gZ];exact rfl
  ·intro l w';rw[hSSr,hSSr];rw[getD_set_ne (i:=18) (j:=17) true (by decide)]
  ·rfl
  ·intro w' hA;clear hA;go_simp;try with_reducible rfl
  clear hCl hHeld;intro hCl hHeld;simp only[sA,sZ,sS] at hCl hHeld;try simp only[Act.put,sA,sZ,sS]
  refine rG 19 ?_ ?_ ?_ ?_ ?_ ?_ hCl hHeld ?_;rotate_left 2;·simp only[gA,gS,gZ];exact rfl
  ·intro l w';rw[hSSr,hSSr];rw[getD_set_ne (i:=19) (j:=17) true (by decide)]
  ·rfl
  ·intro w' hA;clear hA;go_simp;try with_reducible rfl
  clear hCl hHeld;intro hCl hHeld;simp only[sA,sZ,sS] at hCl hHeld;try simp only[Act.put,sA,sZ,sS]
  clear hCl hHeld;refine rD 17 _ (fun K hK=>?_);go_simp;refine hK.out _ _ ((hSSr _ _).2 (fun h=>absurd h (by decide))) ?_;clear hK K;try simp only[Act.put,sA,sZ,sS]
  refine rD 20 _ (fun K hK=>?_);go_simp;refine hK.out _ _ ((hSSr _ _).2 (fun h=>absurd h (by decide))) ?_;clear hK K;try simp only[Act.put,sA,sZ,sS]
  refine rD 21 _ (fun K hK=>?_);go_simp;refine hK.out _ _ ((hSSr _ _).2 (fun h=>absurd h (by decide))) ?_;clear hK K;try simp only[Act.put,sA,sZ,sS]
  refine wpAnyG_done (by kernel_rfl) ?_ _;refine NoPanic.normal ?_;clear hSSr SSr;go_wp2;go_end0;exact⟨rfl,HO3.out,HM.out⟩
set_option maxRecDepth 100000 in set_option maxHeartbeats 16000000 in theorem Drop_any{lo mb pb pc:Nat}{tv:Value}{P:List (Int×Int)}{S:List TriM}(t:Nat)(T:TriM)(w:World)(h:MeshO 33 41 w lo mb pb pc tv P S)(hT:S[t]?=some T)(hgT:goneB T=false):Calls Tryz.prog 176 #[.pointer (some ⟨mb,0,none⟩),.int .i64 (t:Int)] w fun e w'=>e= .returned (.tuple #[])∧MeshO 33 41 w' lo mb pb pc tv P (S.set t goneTri)∧Mut w w' mb tv tv:=by
  obtain⟨ta,tc,htv,hr⟩:=h.read;have k1:=there_any (t:Int) w hr;have g1:thereB S (t:Int)=true:=by unfold thereB;rw[getT_nat,hT];simp[hgT]
  rw[g1] at k1;obtain⟨tb,c,rfl⟩:=h.slot hT;have ltT:=(List.getElem?_eq_some_iff.1 hT).1;have hsh:=h.short.2;obtain⟨ho,hm⟩:=h.setT (S':=S.set t goneTri) (t*9) goneTri.cells (by simp) (setL_tri ltT goneTri);have hbx:=owns_box h.row;have hlx:t*9+goneTri.cells.length≤(triCells S).length:=by rw[triCells_len,goneTri.cells_len];omega
  have ct:=h.box.c1;obtain⟨len,hlen⟩:∃len,S.length=len:=⟨_,rfl⟩;rw[hlen] at ct ltT;obtain⟨wn,hwn⟩:∃wn,setAll w tb (t*9) goneTri.cells=wn:=⟨_,rfl⟩;rw[hwn] at ho hm;have K1:=Lib.hid k1;have HO:=Lib.hid ho;have HM:=Lib.hid hm;have HBX:=Lib.hid hbx;have HLX:=Lib.hid hlx;have HWN:=Lib.hid hwn;have hb1:(0:Int)≤(t:Int):=by omega
  have hb2:(t:Int)<(len:Int):=by omega
  clear k1 g1 ho hm hbx hlx hwn htv hr h hT hgT hlen hsh;go_enter Tryz.func176,Tryz.ntmps176;go_wp2_with fail;refine K1.out.mono ?_;rintro e w' ⟨rfl,rfl⟩;go_wp2_with (with_reducible refine wpList_store_box rfl _ _ _ rfl goneTri.cells HBX.out rfl rfl (by kernel_rfl) HLX.out rfl HWN.out ?_);go_end0;exact⟨rfl,HO.out,HM.out⟩
end Go.Proofs.YtdmfbkhafnkcfaaGreat
namespace Go.MagM
open Go.RowKit
def newT(a b c:Int):TriM:=⟨a,b,c,-1,-1,-1,false,false,false⟩
def freeK(S:List TriM):Option Nat:=S.findIdx? goneB
def makeK(S:List TriM):Nat:=match freeK S with|some k=>k|none=>S.length
def makeM(S:List TriM)(a b c:Int):List TriM:=match freeK S with|some k=>S.set k (newT a b c)|none=>S++[newT a b c]
section
variable{P:Program}
theorem run_append_where(w:World)(base:Nat)(t ty e:TypeId)(i:TypeInfo)(z:Value)(size bytes:Nat)(ht:P.underlying t=some (.slice e))(hi:P.info? e=some i)(hz:i.zero=some z)(hsize:i.size=size)(hby:i.bytes=bytes)(hzs:z.cells.size=size)(v:Value)(n:Nat)(xs:List Value)(hrow:w.ownsRow base e size v n xs)(a:Addr)(m c:Nat)(news:List Value)(hm0:0<m)(hl:news.length=m*size)(hnews:∀j u,news[j]?=some u→w.cell? (a.add j)=some u)(h1:∀u∈news,u.oneCell'=true)(h63:n+m≤maxLen)(hbytes:(n+m)*bytes≤140737488355328)(hbase:base≤w.heap.size):∃v' w',(Builtin.append_ #[t,t] ty #[v,.slice (some a) m c]).run P w= .ok v' w'∧w'.ownsRow base e size v' (n+m) (xs++news)∧w.grownBy w' v.ownBlock∧(v'.ownBlock=v.ownBlock∨∀k,v'.ownBlock=some k→w.heap.size≤k):=by
  subst hsize;subst hby;have hlen:(xs++news).length=(n+m)*i.size:=by rw[List.length_append,hrow.1,hl,Nat.add_mul]
  have grown:∀(old:Nat),old<n+m→∀(row:Option Nat),(w.drew.alloc (.cells (xs.toArray++news.toArray++Builtin.zeroCells z.cells (grownCap w (n+m) old e-(n+m))) e)).ownsRow base e i.size (.slice (some ⟨w.heap.size,0,none⟩) (n+m) (grownCap w (n+m) old e)) (n+m) (xs++news)∧w.grownBy (w.drew.alloc (.cells (xs.toArray++news.toArray++Builtin.zeroCells z.cells (grownCap w (n+m) old e-(n+m))) e)) row:=by
    intro old ho row;have hge:=grownCap_ge w (n+m) old e;have hcm:grownCap w (n+m) old e≤maxLen:=grownCap_le_maxLen w (n+m) old e h63;refine⟨⟨hlen,.inr ⟨w.heap.size,_,_,rfl,hbase,heap_alloc_new w.drew _,hge,hcm,?_,?_⟩⟩,⟨rfl,rfl,rfl,by simp,fun k hk _=>Below.heap_alloc w.drew _ k hk⟩⟩
    · simp only[Array.size_append,List.size_toArray,size_zeroCells,hzs,hrow.1,hl,←Nat.add_mul];congr 1;omega
    · simp only[Array.toList_append,List.append_assoc];rw[←List.append_assoc,←hlen];exact List.take_left
  have hrow':=hrow;rcases hrow.2 with⟨rfl,rfl⟩|⟨g,cap,cur,rfl,hbg,hg,hnc,hcm,hcs,htake⟩
  · have hx:xs=[]:=List.eq_nil_of_length_eq_zero (by simpa using hrow.1);subst hx;have hr:=run_append_nil (P:=P) w t ty e i z ht hi hz a m c news hl hnews hm0 (by simp only[maxLen] at h63;omega) (by have hb:=hbytes;simp only[Nat.zero_add] at hb;omega);have hgr:=grown 0 (by omega) (Value.ownBlock (.slice none 0 0));simp only[Nat.zero_add,List.nil_append,Array.empty_append] at hgr⊢;exact⟨_,_,hr,hgr.1,hgr.2,.inr fun k hk=>by simp[Value.ownBlock] at hk;omega⟩
  · by_cases hroom:n+m≤cap
    · have hfit:n*i.size+news.length≤cur.size:=by rw[hl,hcs,←Nat.add_mul];exact Nat.mul_le_mul_right _ hroom
      have hr:=run_append_room (P:=P) w t ty e i ht hi g n cap cur hg a m c news hl hnews h1 hroom hfit;refine⟨_,_,hr,⟨hlen,.inr ⟨g,cap,_,rfl,hbg,setRow_heap w g cur _ e _ hg,hroom,hcm,?_,?_⟩⟩,⟨rfl,rfl,rfl,by simp,fun k _ hk=>setRow_other w g k _ (fun e=>hk (by simp[Value.ownBlock,e]))⟩,.inl rfl⟩;· simp only[List.size_toArray,List.length_append,List.length_take,List.length_drop,Array.length_toList];omega
      · rw[htake,←hlen];exact List.take_left
    · have holds:∀j u,xs[j]?=some u→w.cell? ((⟨g,0,none⟩:Addr).add j)=some u:=hrow'.cells (g:=g) rfl;have hr:=run_append_grow (P:=P) w t ty e i z ht hi hz ⟨g,0,none⟩ n cap xs hrow'.1 holds a m c news hl hnews (by omega) (by simp only[maxLen] at h63;omega) (growslice_fits (by omega) hbytes);have hgr:=grown cap (by omega) (Value.ownBlock (.slice (some ⟨g,0,none⟩) n cap));exact⟨_,_,hr,hgr.1,hgr.2,.inr fun k hk=>by simp[Value.ownBlock] at hk;omega⟩
end
theorem Box.nine{w:World}{g:Nat}{u0 u1 u2 u3 u4 u5 u6 u7 u8:Value}(h:Box w g [u0,u1,u2,u3,u4,u5,u6,u7,u8]):w.cell? ⟨g,0,none⟩=some u0∧w.cell? ⟨g,1,none⟩=some u1∧w.cell? ⟨g,2,none⟩=some u2∧w.cell? ⟨g,3,none⟩=some u3∧w.cell? ⟨g,4,none⟩=some u4∧w.cell? ⟨g,5,none⟩=some u5∧w.cell? ⟨g,6,none⟩=some u6∧w.cell? ⟨g,7,none⟩=some u7∧w.cell? ⟨g,8,none⟩=some u8:=⟨h.c 0 _ rfl,h.c 1 _ rfl,h.c 2 _ rfl,h.c 3 _ rfl,h.c 4 _ rfl,h.c 5 _ rfl,h.c 6 _ rfl,h.c 7 _ rfl,h.c 8 _ rfl⟩
theorem Mut.drew{w w':World}{mb:Nat}{tv tv':Value}(h:Mut w w' mb tv tv'):Mut w w'.drew mb tv tv':=⟨h.os,h.tape,h.output,h.size,h.keep⟩
theorem triCells_one'(T:TriM):∀u∈T.cells,u.oneCell'=true:=by intro u hu;simp[TriM.cells] at hu;rcases hu with rfl|rfl|rfl|rfl|rfl|rfl|rfl|rfl|rfl<;>rfl
end Go.MagM
namespace Go.Proofs.YtdmfbkhafnkcfaaGreat
open Go.RowKit Go.MagM
theorem infoT:(Tryz.prog.info? 41).map (fun i=>(i.zero,i.size,i.bytes))=some (some (.agg #[.int .i64 0,.int .i64 0,.int .i64 0,.int .i64 0,.int .i64 0,.int .i64 0,.bool false,.bool false,.bool false]),9,56):=by kernel_rfl
theorem make_end{p e:TypeId}{w w':World}{lo mb pb pc tc g c len:Nat}{ta:Option Addr}{P:List (Int×Int)}{S:List TriM}{a b c':Int}(h:MeshO p e w lo mb pb pc (.slice ta len tc) P S)(hlen:S.length=len)(hrow:w'.ownsRow lo e 9 (.slice (some ⟨g,0,none⟩) (len+1) c) (len+1) (triCells S++(newT a b c').cells))(hg:w.grownBy w' (Value.ownBlock (.slice ta len tc)))(hwh:Value.ownBlock (.slice (some ⟨g,0,none⟩) (len+1) c)=Value.ownBlock (.slice ta len tc)∨∀k,Value.ownBlock (.slice (some ⟨g,0,none⟩) (len+1) c)=some k→w.heap.size≤k)(hsh:len+1≤1000000:=by omega):Box w' mb [.slice (some ⟨pb,0,none⟩) P.length pc,.slice ta len tc]∧w'.cell? ⟨mb,1,none⟩=some (.slice ta len tc)∧w'.frozen? ⟨mb,1,none⟩=false∧MeshO p e (w'.setCell ⟨mb,1,none⟩ (.slice (some ⟨g,0,none⟩) (len+1) c)) lo mb pb pc (.slice (some ⟨g,0,none⟩) (len+1) c) P (S++[newT a b c'])∧Mut w (w'.setCell ⟨mb,1,none⟩ (.slice (some ⟨g,0,none⟩) (len+1) c)) mb (.slice ta len tc) (.slice (some ⟨g,0,none⟩) (len+1) c):=by
  have hbx:Box w' mb [.slice (some ⟨pb,0,none⟩) P.length pc,.slice ta len tc]:=h.box.grown hg (fun e=>h.apart.1 e) h.low.2.1;have hs:=hbx.set 1 (.slice (some ⟨g,0,none⟩) (len+1) c);have hgk:∀k,k<w.heap.size→Value.ownBlock (.slice ta len tc)≠some k→g≠k:=by
    intro k hk hne e;subst e;rcases hwh with h1|h1;·exact hne (by rw[←h1];rfl)
    ·have:=h1 g rfl;omega
  have hgm:=hgk mb h.low.2.1 h.apart.1;have hgp:=hgk pb h.low.2.2.1 h.apart.2;have htu:Turned w' (w'.setCell ⟨mb,1,none⟩ (.slice (some ⟨g,0,none⟩) (len+1) c)) mb:=(Turned.refl _ _).setCell 1 _;have hlen1:(S++[newT a b c']).length=len+1:=by simp[hlen]
  have htc:triCells (S++[newT a b c'])=triCells S++(newT a b c').cells:=by rw[triCells_app];simp[triCells]
  have hsz:=hg.size;have hlow:=h.low;refine⟨hbx,hbx.c1,hbx.f 1 _ rfl,⟨hs,?_,?_,?_,⟨fun e=>?_,fun e=>?_⟩,?_⟩,⟨hg.os,hg.tape,hg.output,by rw[htu.size];exact hg.size,fun k hk h1 h2=>⟨?_,fun e=>?_⟩⟩⟩;· refine owns_same h.prow fun k hk=>?_;obtain rfl:k=pb:=(by simpa[Value.ownBlock] using hk.symm);exact(htu.block _ hlow.2.2.2).trans (hg.block _ hlow.2.2.1 (fun e=>h.apart.2 e.symm))
  · rw[hlen1,htc];exact owns_turned hrow htu (fun e=>hgm (by simpa[Value.ownBlock] using e))
  ·rw[htu.size];omega
  ·exact hgm (by simpa[Value.ownBlock] using e)
  ·exact hgp (by simpa[Value.ownBlock] using e)
  ·rw[hlen1];exact⟨h.short.1,hsh⟩
  ·exact(htu.block k h1).trans (hg.block k hk (fun e=>h2 e.symm))
  ·exact hgk k hk h2 (by simpa[Value.ownBlock] using e)
set_option maxRecDepth 100000 in set_option maxHeartbeats 16000000 in theorem mkTri_any{lo mb pb pc:Nat}{tv:Value}{P:List (Int×Int)}{S:List TriM}(a b c:Int)(w:World)(h:MeshO 33 41 w lo mb pb pc tv P S)(hroom:S.length+1≤1000000):Calls Tryz.prog 166 #[.pointer (some ⟨mb,0,none⟩),.int .i64 a,.int .i64 b,.int .i64 c] w fun e w'=>∃tv',e= .returned (.int .i64 (makeK S:Nat))∧MeshO 33 41 w' lo mb pb pc tv' P (makeM S a b c)∧Mut w w' mb tv tv':=by
  obtain⟨i0,hi,hz0,hz1,hz2⟩:=info_parts infoT;have HI:=Lib.hid hi;have HZ0:=Lib.hid hz0;have HZ1:=Lib.hid hz1;have HZ2:=Lib.hid hz2;clear hi hz0 hz1 hz2;obtain⟨ta,tc,rfl,hr⟩:=h.read;obtain⟨wz,hwz,pz_0,hbz,hsz⟩:=new_box w _ rfl [.int .i64 0,.int .i64 0,.int .i64 0,.int .i64 0,.int .i64 0,.int .i64 0,.bool false,.bool false,.bool false] 41;obtain⟨w1,hw1⟩:∃w1,setAll wz w.heap.size 0 [.int .i64 a,.int .i64 b,.int .i64 c,.int .i64 (-1),.int .i64 (-1),.int .i64 (-1),.bool false,.bool false,.bool false]=w1:=⟨_,rfl⟩;have px_0:Box w1 w.heap.size [.int .i64 a,.int .i64 b,.int .i64 c,.int .i64 (-1),.int .i64 (-1),.int .i64 (-1),.bool false,.bool false,.bool false]:=by rw[←hw1];exact pz_0.setAll [.int .i64 a,.int .i64 b,.int .i64 c,.int .i64 (-1),.int .i64 (-1),.int .i64 (-1),.bool false,.bool false,.bool false] rfl
  have hb1:Below w.heap.size w w1:=by rw[←hw1];exact below_setAll hbz (Nat.le_refl _) _
  have HPZ:=Lib.hid pz_0;have HW1:=Lib.hid hw1;clear pz_0 hbz hsz hw1;have ho1:=h.below hb1;have hr1:=hr.below hb1;have hm1:Mut w w1 mb (.slice ta S.length tc) (.slice ta S.length tc):=Mut.of_below hb1 (fun k hk=>(h.row.lt k hk).2);obtain⟨len,hlen⟩:∃len,S.length=len:=⟨_,rfl⟩;have HLEN:=Lib.hid hlen;have H1:=Lib.hid ho1;have HR1:=Lib.hid hr1;have HM1:=Lib.hid hm1;rw[hlen] at hroom;have b0:=ho1.box.c0;have b1:=ho1.box.c1;rw[hlen] at b1;obtain⟨x0,x1,x2,x3,x4,x5,x6,x7,x8⟩:=px_0.nine;obtain⟨r,hrk⟩:∃r,makeK S=r:=⟨_,rfl⟩;obtain⟨S',hS'⟩:∃S',makeM S a b c=S':=⟨_,rfl⟩;rw[hrk,hS'];have HRK:=Lib.hid hrk;have HS':=Lib.hid hS';rw[hlen];clear h hr ho1 hr1 hm1 hlen hrk hS';go_enter Tryz.func166,Tryz.ntmps166;go_wp2_with (with_reducible refine wpList_store_box rfl _ _ _ rfl [.int .i64 a,.int .i64 b,.int .i64 c,.int .i64 (-1),.int .i64 (-1),.int .i64 (-1),.bool false,.bool false,.bool false] HPZ.out rfl rfl (by kernel_rfl) (by simp) rfl HW1.out ?_);clear hwz;clear x0 x1 x2 x3 x4 x5 x6 x7 x8 b0 b1;go_loop [10,22] (fun _ iv=>∃k:Nat,k≤len∧iv= .int .i64 k∧∀j T,j<k→S[j]?=some T→goneB T=false) (fun _ iv=>len-(intOf iv).toNat);case atStart=>exact⟨0,Nat.zero_le _,rfl,fun j T hj=>by omega⟩
  case round=>
    obtain⟨k,hk,rfl,hne⟩:=hrel;have HNE:=Lib.hid hne;clear hne;by_cases hlt:k<len
    · obtain⟨T,hT⟩:∃T,S[k]?=some T:=⟨_,List.getElem?_eq_getElem (by rw[HLEN.out];exact hlt)⟩;have b0:=H1.out.box.c0;have b1:=H1.out.box.c1;obtain⟨tb,hta,htl,ht9⟩:=HR1.out.tris.get hT;subst hta;rw[HLEN.out] at b1;have hgone:=gone_any tb (k*9) T w1 ht9.c0 ht9.c1 ht9.c2;have HT:=Lib.hid hT;clear hT ht9;cases hg:goneB T with
      |false=>
        rw[hg] at hgone;have HG:=Lib.hid hgone;have HGB:=Lib.hid hg;clear hgone hg;go_wp2_with fail;refine HG.out.mono ?_;rintro e w' ⟨rfl,rfl⟩;go_wp2;go_round;case rel=>exact⟨k+1,by omega,by go_num,fun j T' hj hT'=>by
          rcases Nat.lt_or_ge j k with g|g;·exact HNE.out j T' g hT'
          · obtain rfl:j=k:=by omega
            rw[HT.out] at hT';cases hT';exact HGB.out⟩
        case measure=>simp[intOf];omega|true=>
        rw[hg] at hgone;have hfk:freeK S=some k:=by
          unfold freeK;rw[List.findIdx?_eq_some_iff_getElem];refine⟨by rw[HLEN.out];exact hlt,?_,fun j hj=>?_⟩;·have:=HT.out;rw[List.getElem?_eq_some_iff] at this;obtain⟨_,e⟩:=this;rw[e];exact hg
          ·have:=HNE.out j _ hj (List.getElem?_eq_getElem (by rw[HLEN.out];omega));rw[this];simp
        have e1:r=k:=by rw[←HRK.out];unfold makeK;rw[hfk]
        have e2:S'=S.set k (newT a b c):=by rw[←HS'.out];unfold makeM;rw[hfk]
        subst e1 e2;have HG:=Lib.hid hgone;have hd:=H1.out.drew;have hbx:=owns_box hd.row;have hlx:r*9+(newT a b c).cells.length≤(triCells S).length:=by rw[triCells_len,TriM.cells_len,HLEN.out];omega
        obtain⟨ho,hm⟩:=hd.setT (S':=S.set r (newT a b c)) (r*9) (newT a b c).cells (by simp) (setL_tri (by rw[HLEN.out];exact hlt) (newT a b c));have ct:=hd.box.c1;rw[HLEN.out] at ct hm ho;obtain⟨wn,hwn⟩:∃wn,setAll w1.drew tb (r*9) (newT a b c).cells=wn:=⟨_,rfl⟩;rw[hwn] at ho hm;have hmm:=HM1.out;rw[HLEN.out] at hmm;have hmw:=hmm.drew.trans hm;have HO:=Lib.hid ho;have HM:=Lib.hid hmw;have HBX:=Lib.hid hbx;have HLX:=Lib.hid hlx;have HWN:=Lib.hid hwn;have pd_0:=px_0.drew;obtain⟨x0,x1,x2,x3,x4,x5,x6,x7,x8⟩:=pd_0.nine;have hb1':(0:Int)≤(r:Int):=by omega
        have hb2':(r:Int)<(len:Int):=by omega
        clear hgone hd hbx hlx ho hm hmm hmw hwn hfk hg pd_0;go_wp2_with fail;refine HG.out.mono ?_;rintro e w' ⟨rfl,rfl⟩;go_wp2;obtain⟨SSq,hSSq⟩:∃S:Array Bool→World→Prop,∀l w',S l w'↔((l.getD 7 true=false→w'.cell? ⟨mb,1,none⟩=some (.slice (some ⟨tb,0,none⟩) len tc))∧(l.getD 7 true=false→w'.cell? ⟨w.heap.size,0,none⟩=some (.int .i64 a))∧(l.getD 7 true=false→w'.cell? ⟨w.heap.size,1,none⟩=some (.int .i64 b))∧(l.getD 7 true=false→w'.cell? ⟨w.heap.size,2,none⟩=some (.int .i64 c))∧(l.getD 7 true=false→w'.cell? ⟨w.heap.size,3,none⟩=some (.int .i64 (-1)))∧(l.getD 7 true=false→w'.cell? ⟨w.heap.size,4,none⟩=some (.int .i64 (-1)))∧(l.getD 7 true=false→w'.cell? ⟨w.heap.size,5,none⟩=some (.int .i64 (-1)))∧(l.getD 7 true=false→w'.cell? ⟨w.heap.size,6,none⟩=some (.bool false))∧(l.getD 7 true=false→w'.cell? ⟨w.heap.size,7,none⟩=some (.bool false))∧(l.getD 7 true=false→w'.cell? ⟨w.heap.size,8,none⟩=some (.bool false))):=⟨_,fun _ _=>Iff.rfl⟩;refine wp_region_noPanic ?_;refine wp_region_G SSq 8 #[false,false,false,false,false,false,false,false] (by kernel_rfl) (by kernel_rfl) (by kernel_rfl) ((hSSq _ _).2 ⟨(fun _=>ct),(fun _=>x0),(fun _=>x1),(fun _=>x2),(fun _=>x3),(fun _=>x4),(fun _=>x5),(fun _=>x6),(fun _=>x7),(fun _=>x8)⟩) (fun hCl hHeld=>?_);generalize w1.drew=w2 at*;refine rG 0 ?_ ?_ ?_ ?_ ?_ ?_ hCl hHeld ?_;rotate_left 2;·simp only[gA,gZ];exact rfl
        ·intro l w';rw[hSSq,hSSq];rw[getD_set_ne (i:=0) (j:=7) true (by decide)]
        ·rfl
        ·intro w' hA;clear hA;go_simp;try with_reducible rfl
        clear hCl hHeld;intro hCl hHeld;simp only[List.setIfInBounds_toArray,List.set_cons_zero] at hCl hHeld;try simp only[Act.put,sA,sZ,sS]
        refine rG 1 ?_ ?_ ?_ ?_ ?_ ?_ hCl hHeld ?_;rotate_left 2;·simp only[gA,gS,gZ];exact rfl
        ·intro l w';rw[hSSq,hSSq];rw[getD_set_ne (i:=1) (j:=7) true (by decide)]
        ·rfl
        ·intro w' hA;clear hA;go_simp;try with_reducible rfl
        clear hCl hHeld;intro hCl hHeld;simp only[sA,sZ,sS] at hCl hHeld;try simp only[Act.put,sA,sZ,sS]
        refine rG 2 ?_ ?_ ?_ ?_ ?_ ?_ hCl hHeld ?_;rotate_left 2;·simp only[gA,gS,gZ];exact rfl
        ·intro l w';rw[hSSq,hSSq];rw[getD_set_ne (i:=2) (j:=7) true (by decide)]
        ·rfl
        ·intro w' hA;clear hA;go_simp;try with_reducible rfl
        clear hCl hHeld;intro hCl hHeld;simp only[sA,sZ,sS] at hCl hHeld;try simp only[Act.put,sA,sZ,sS]
        refine rG 3 ?_ ?_ ?_ ?_ ?_ ?_ hCl hHeld ?_;rotate_left 2;·simp only[gA,gS,gZ];exact rfl
        ·intro l w';rw[hSSq,hSSq];rw[getD_set_ne (i:=3) (j:=7) true (by decide)]
        ·rfl
        ·intro w' hA;obtain⟨l,hl,hi,hSl⟩:=hA;have hSl:=(hSSq _ _).1 hSl;obtain⟨hy0,hy1,hy2,hy3,hy4,hy5,hy6,hy7,hy8,hy9⟩:=hSl;have hz0:=hy0 (hl.not (t:=7) (by kernel_rfl) hi);have hz1:=hy1 (hl.not (t:=7) (by kernel_rfl) hi);have hz2:=hy2 (hl.not (t:=7) (by kernel_rfl) hi);have hz3:=hy3 (hl.not (t:=7) (by kernel_rfl) hi);have hz4:=hy4 (hl.not (t:=7) (by kernel_rfl) hi);have hz5:=hy5 (hl.not (t:=7) (by kernel_rfl) hi);have hz6:=hy6 (hl.not (t:=7) (by kernel_rfl) hi);have hz7:=hy7 (hl.not (t:=7) (by kernel_rfl) hi);have hz8:=hy8 (hl.not (t:=7) (by kernel_rfl) hi);have hz9:=hy9 (hl.not (t:=7) (by kernel_rfl) hi);go_simp;try with_reducible rfl
        clear hCl hHeld;intro hCl hHeld;simp only[sA,sZ,sS] at hCl hHeld;try simp only[Act.put,sA,sZ,sS]
        refine rG 4 ?_ ?_ ?_ ?_ ?_ ?_ hCl hHeld ?_;rotate_left 2;·simp only[gA,gS,gZ];exact rfl
        ·intro l w';rw[hSSq,hSSq];rw[getD_set_ne (i:=4) (j:=7) true (by decide)]
        ·rfl
        ·intro w' hA;clear hA;go_simp;try with_reducible rfl
        clear hCl hHeld;intro hCl hHeld;simp only[sA,sZ,sS] at hCl hHeld;try simp only[Act.put,sA,sZ,sS]
        refine rG 5 ?_ ?_ ?_ ?_ ?_ ?_ hCl hHeld ?_;rotate_left 2;·simp only[gA,gS,gZ];exact rfl
        ·intro l w';rw[hSSq,hSSq];rw[getD_set_ne (i:=5) (j:=7) true (by decide)]
        ·rfl
        ·intro w' hA;obtain⟨l,hl,hi,hSl⟩:=hA;have hSl:=(hSSq _ _).1 hSl;obtain⟨hy0,hy1,hy2,hy3,hy4,hy5,hy6,hy7,hy8,hy9⟩:=hSl;have hz0:=hy0 (hl.not (t:=7) (by kernel_rfl) hi);have hz1:=hy1 (hl.not (t:=7) (by kernel_rfl) hi);have hz2:=hy2 (hl.not (t:=7) (by kernel_rfl) hi);have hz3:=hy3 (hl.not (t:=7) (by kernel_rfl) hi);have hz4:=hy4 (hl.not (t:=7) (by kernel_rfl) hi);have hz5:=hy5 (hl.not (t:=7) (by kernel_rfl) hi);have hz6:=hy6 (hl.not (t:=7) (by kernel_rfl) hi);have hz7:=hy7 (hl.not (t:=7) (by kernel_rfl) hi);have hz8:=hy8 (hl.not (t:=7) (by kernel_rfl) hi);have hz9:=hy9 (hl.not (t:=7) (by kernel_rfl) hi);go_simp;try with_reducible rfl
        clear hCl hHeld;intro hCl hHeld;simp only[sA,sZ,sS] at hCl hHeld;try simp only[Act.put,sA,sZ,sS]
        refine rG 6 ?_ ?_ ?_ ?_ ?_ ?_ hCl hHeld ?_;rotate_left 2;·simp only[gA,gS,gZ];exact rfl
        ·intro l w';rw[hSSq,hSSq];rw[getD_set_ne (i:=6) (j:=7) true (by decide)]
        ·rfl
        ·intro w' hA;clear hA;go_simp;try with_reducible rfl
        clear hCl hHeld;intro hCl hHeld;simp only[sA,sZ,sS] at hCl hHeld;try simp only[Act.put,sA,sZ,sS]
        clear hCl hHeld;refine rD 7 _ (fun K hK=>?_);refine wanted_go rfl ?_;refine wp_store_box _ _ _ rfl (newT a b c).cells HBX.out rfl rfl (by kernel_rfl) HLX.out rfl HWN.out ?_;refine hK.out _ _ ((hSSq _ _).2 ⟨(fun h=>absurd h (by decide)),(fun h=>absurd h (by decide)),(fun h=>absurd h (by decide)),(fun h=>absurd h (by decide)),(fun h=>absurd h (by decide)),(fun h=>absurd h (by decide)),(fun h=>absurd h (by decide)),(fun h=>absurd h (by decide)),(fun h=>absurd h (by decide)),(fun h=>absurd h (by decide))⟩) ?_;clear hK K;try simp only[Act.put,sA,sZ,sS]
        refine wpAnyG_done (by kernel_rfl) ?_ _;refine NoPanic.normal ?_;clear hSSq SSq;go_wp2;go_ret;exact⟨_,rfl,HO.out,HM.out⟩
    · have hfk:freeK S=none:=by
        unfold freeK;rw[List.findIdx?_eq_none_iff];intro T hT;obtain⟨j,hj,e⟩:=List.mem_iff_getElem.1 hT;exact HNE.out j T (by rw[HLEN.out] at hj;omega) (by rw[List.getElem?_eq_getElem hj,e])
      have e1:len=r:=by rw[←HRK.out,←HLEN.out];unfold makeK;rw[hfk]
      have e2:S'=S++[newT a b c]:=by rw[←HS'.out];unfold makeM;rw[hfk]
      subst e1 e2;have hd:=H1.out.drew;have ct:=hd.box.c1;rw[HLEN.out] at ct hd;have HO2:=Lib.hid hd;have hmm:=HM1.out.drew;rw[HLEN.out] at hmm;have HMM:=Lib.hid hmm;have pd_0:=px_0.drew;obtain⟨x0,x1,x2,x3,x4,x5,x6,x7,x8⟩:=pd_0.nine;clear hd hmm hfk pd_0;go_wp2;obtain⟨SSr,hSSr⟩:∃S:Array Bool→World→Prop,∀l w',S l w'↔((l.getD 7 true=false→w'.cell? ⟨mb,1,none⟩=some (.slice ta len tc))∧(l.getD 6 true=false→w'.cell? ⟨w.heap.size,0,none⟩=some (.int .i64 a))∧(l.getD 6 true=false→w'.cell? ⟨w.heap.size,1,none⟩=some (.int .i64 b))∧(l.getD 6 true=false→w'.cell? ⟨w.heap.size,2,none⟩=some (.int .i64 c))∧(l.getD 6 true=false→w'.cell? ⟨w.heap.size,3,none⟩=some (.int .i64 (-1)))∧(l.getD 6 true=false→w'.cell? ⟨w.heap.size,4,none⟩=some (.int .i64 (-1)))∧(l.getD 6 true=false→w'.cell? ⟨w.heap.size,5,none⟩=some (.int .i64 (-1)))∧(l.getD 6 true=false→w'.cell? ⟨w.heap.size,6,none⟩=some (.bool false))∧(l.getD 6 true=false→w'.cell? ⟨w.heap.size,7,none⟩=some (.bool false))∧(l.getD 6 true=false→w'.cell? ⟨w.heap.size,8,none⟩=some (.bool false))):=⟨_,fun _ _=>Iff.rfl⟩;refine wp_region_noPanic ?_;refine wp_region_G SSr 11 #[false,false,false,false,false,false,false,false,false,false,false] (by kernel_rfl) (by kernel_rfl) (by kernel_rfl) ((hSSr _ _).2 ⟨(fun _=>ct),(fun _=>x0),(fun _=>x1),(fun _=>x2),(fun _=>x3),(fun _=>x4),(fun _=>x5),(fun _=>x6),(fun _=>x7),(fun _=>x8)⟩) (fun hCl hHeld=>?_);generalize w1.drew=w2 at*;refine rG 0 ?_ ?_ ?_ ?_ ?_ ?_ hCl hHeld ?_;rotate_left 2;·simp only[gA,gZ];exact rfl
      ·intro l w';rw[hSSr,hSSr];rw[getD_set_ne (i:=0) (j:=7) true (by decide)];rw[getD_set_ne (i:=0) (j:=6) true (by decide)]
      ·rfl
      ·intro w' hA;clear hA;go_simp;try with_reducible rfl
      clear hCl hHeld;intro hCl hHeld;simp only[List.setIfInBounds_toArray,List.set_cons_zero] at hCl hHeld;try simp only[Act.put,sA,sZ,sS]
      refine rG 1 ?_ ?_ ?_ ?_ ?_ ?_ hCl hHeld ?_;rotate_left 2;·simp only[gA,gS,gZ];exact rfl
      ·intro l w';rw[hSSr,hSSr];rw[getD_set_ne (i:=1) (j:=7) true (by decide)];rw[getD_set_ne (i:=1) (j:=6) true (by decide)]
      ·rfl
      ·intro w' hA;clear hA;go_simp;try with_reducible rfl
      clear hCl hHeld;intro hCl hHeld;simp only[sA,sZ,sS] at hCl hHeld;try simp only[Act.put,sA,sZ,sS]
      refine rG 2 ?_ ?_ ?_ ?_ ?_ ?_ hCl hHeld ?_;rotate_left 2;·simp only[gA,gS,gZ];exact rfl
      ·intro l w';rw[hSSr,hSSr];rw[getD_set_ne (i:=2) (j:=7) true (by decide)];rw[getD_set_ne (i:=2) (j:=6) true (by decide)]
      ·rfl
      ·intro w' hA;clear hA;go_simp;try with_reducible rfl
      clear hCl hHeld;intro hCl hHeld;simp only[sA,sZ,sS] at hCl hHeld;try simp only[Act.put,sA,sZ,sS]
      refine rG 3 ?_ ?_ ?_ ?_ ?_ ?_ hCl hHeld ?_;rotate_left 2;·simp only[gA,gS,gZ];exact rfl
      ·intro l w';rw[hSSr,hSSr];rw[getD_set_ne (i:=3) (j:=7) true (by decide)];rw[getD_set_ne (i:=3) (j:=6) true (by decide)]
      ·rfl
      ·intro w' hA;clear hA;go_simp;try with_reducible rfl
      clear hCl hHeld;intro hCl hHeld;simp only[sA,sZ,sS] at hCl hHeld;try simp only[Act.put,sA,sZ,sS]
      refine rG 4 ?_ ?_ ?_ ?_ ?_ ?_ hCl hHeld ?_;rotate_left 2;·simp only[gA,gS,gZ];exact rfl
      ·intro l w';rw[hSSr,hSSr];rw[getD_set_ne (i:=4) (j:=7) true (by decide)];rw[getD_set_ne (i:=4) (j:=6) true (by decide)]
      ·rfl
      ·intro w' hA;obtain⟨l,hl,hi,hSl⟩:=hA;have hSl:=(hSSr _ _).1 hSl;obtain⟨hy0,-,-,-,-,-,-,-,-,-⟩:=hSl;have hz0:=hy0 (hl.not (t:=7) (by kernel_rfl) hi);go_simp;try with_reducible rfl
      clear hCl hHeld;intro hCl hHeld;simp only[sA,sZ,sS] at hCl hHeld;try simp only[Act.put,sA,sZ,sS]
      refine rG 5 ?_ ?_ ?_ ?_ ?_ ?_ hCl hHeld ?_;rotate_left 2;·simp only[gA,gS,gZ];exact rfl
      ·intro l w';rw[hSSr,hSSr];rw[getD_set_ne (i:=5) (j:=7) true (by decide)];rw[getD_set_ne (i:=5) (j:=6) true (by decide)]
      ·rfl
      ·intro w' hA;obtain⟨l,hl,hi,hSl⟩:=hA;have hSl:=(hSSr _ _).1 hSl;obtain⟨-,hy1,hy2,hy3,hy4,hy5,hy6,hy7,hy8,hy9⟩:=hSl;have hz1:=hy1 (hl.not (t:=6) (by kernel_rfl) hi);have hz2:=hy2 (hl.not (t:=6) (by kernel_rfl) hi);have hz3:=hy3 (hl.not (t:=6) (by kernel_rfl) hi);have hz4:=hy4 (hl.not (t:=6) (by kernel_rfl) hi);have hz5:=hy5 (hl.not (t:=6) (by kernel_rfl) hi);have hz6:=hy6 (hl.not (t:=6) (by kernel_rfl) hi);have hz7:=hy7 (hl.not (t:=6) (by kernel_rfl) hi);have hz8:=hy8 (hl.not (t:=6) (by kernel_rfl) hi);have hz9:=hy9 (hl.not (t:=6) (by kernel_rfl) hi);go_simp;try with_reducible rfl
      clear hCl hHeld;intro hCl hHeld;simp only[sA,sZ,sS] at hCl hHeld;try simp only[Act.put,sA,sZ,sS]
      clear hCl hHeld;obtain⟨w3,hw3,pq_0,hb3,hs3⟩:=new_box w2 _ rfl [.int .i64 a,.int .i64 b,.int .i64 c,.int .i64 (-1),.int .i64 (-1),.int .i64 (-1),.bool false,.bool false,.bool false] 41;refine rD 6 _ (fun K hK=>?_);go_simp;try rw[hw3]
      have ct3:=(hb3.cell (p:=⟨mb,1,none⟩) (World.block_lt_of_cell? w2 _ ct)).trans ct;refine hK.out _ _ ((hSSr _ _).2 ⟨(fun _=>ct3),(fun h=>absurd h (by decide)),(fun h=>absurd h (by decide)),(fun h=>absurd h (by decide)),(fun h=>absurd h (by decide)),(fun h=>absurd h (by decide)),(fun h=>absurd h (by decide)),(fun h=>absurd h (by decide)),(fun h=>absurd h (by decide)),(fun h=>absurd h (by decide))⟩) ?_;clear hK K;try simp only[Act.put,sA,sZ,sS]
      have ho3:=HO2.out.below hb3;obtain⟨v',w4,hrun,hrow4,hgrow,hwhere⟩:=run_append_where (P:=Tryz.prog) w3 lo 29 29 41 i0 (.agg #[.int .i64 0,.int .i64 0,.int .i64 0,.int .i64 0,.int .i64 0,.int .i64 0,.bool false,.bool false,.bool false]) 9 56 (by kernel_rfl) HI.out HZ0.out HZ1.out HZ2.out rfl (.slice ta len tc) len _ (HLEN.out▸ho3.row) ⟨w2.heap.size,0,none⟩ 1 1 [.int .i64 a,.int .i64 b,.int .i64 c,.int .i64 (-1),.int .i64 (-1),.int .i64 (-1),.bool false,.bool false,.bool false] (by omega) rfl pq_0.news (triCells_one' (newT a b c)) (by unfold maxLen;omega) (by omega) (by have:=ho3.low;omega);refine rD 7 _ (fun K hK=>?_);refine wanted_go rfl ?_;refine wp_append_row _ _ 29 rfl rfl rfl hrun ?_;obtain⟨g',cap',rfl⟩:=ownsRow_succ hrow4;obtain⟨hbx4,c4,f4,HFIN⟩:=make_end ho3 HLEN.out hrow4 hgrow hwhere;refine hK.out _ _ ((hSSr _ _).2 ⟨(fun h=>absurd h (by decide)),(fun h=>absurd h (by decide)),(fun h=>absurd h (by decide)),(fun h=>absurd h (by decide)),(fun h=>absurd h (by decide)),(fun h=>absurd h (by decide)),(fun h=>absurd h (by decide)),(fun h=>absurd h (by decide)),(fun h=>absurd h (by decide)),(fun h=>absurd h (by decide))⟩) ?_;clear hK K;try simp only[Act.put,sA,sZ,sS]
      refine rD 8 _ (fun K hK=>?_);go_simp;refine hK.out _ _ ((hSSr _ _).2 ⟨(fun h=>absurd h (by decide)),(fun h=>absurd h (by decide)),(fun h=>absurd h (by decide)),(fun h=>absurd h (by decide)),(fun h=>absurd h (by decide)),(fun h=>absurd h (by decide)),(fun h=>absurd h (by decide)),(fun h=>absurd h (by decide)),(fun h=>absurd h (by decide)),(fun h=>absurd h (by decide))⟩) ?_;clear hK K;try simp only[Act.put,sA,sZ,sS]
      refine rD 9 _ (fun K hK=>?_);go_simp;refine hK.out _ _ ((hSSr _ _).2 ⟨(fun h=>absurd h (by decide)),(fun h=>absurd h (by decide)),(fun h=>absurd h (by decide)),(fun h=>absurd h (by decide)),(fun h=>absurd h (by decide)),(fun h=>absurd h (by decide)),(fun h=>absurd h (by decide)),(fun h=>absurd h (by decide)),(fun h=>absurd h (by decide)),(fun h=>absurd h (by decide))⟩) ?_;clear hK K;try simp only[Act.put,sA,sZ,sS]
      refine rD 10 _ (fun K hK=>?_);go_simp;refine hK.out _ _ ((hSSr _ _).2 ⟨(fun h=>absurd h (by decide)),(fun h=>absurd h (by decide)),(fun h=>absurd h (by decide)),(fun h=>absurd h (by decide)),(fun h=>absurd h (by decide)),(fun h=>absurd h (by decide)),(fun h=>absurd h (by decide)),(fun h=>absurd h (by decide)),(fun h=>absurd h (by decide)),(fun h=>absurd h (by decide))⟩) ?_;clear hK K;try simp only[Act.put,sA,sZ,sS]
      refine wpAnyG_done (by kernel_rfl) ?_ _;refine NoPanic.normal ?_;clear hSSr SSr;obtain⟨hfo,hfm⟩:=HFIN;have c5:=hfo.box.c1;have HO:=Lib.hid hfo;have HM:=Lib.hid (HMM.out.trans ((Mut.of_below hb3 (fun k hk=>(HO2.out.row.lt k hk).2)).trans hfm));have b0':=hfo.box.c0;clear hfo hfm hbx4 c4 f4;go_wp2;go_ret;exact⟨_,rfl,HO.out,HM.out⟩
end Go.Proofs.YtdmfbkhafnkcfaaGreat
namespace Go.MagM
open Go.RowKit
def sideT(P:List (Int×Int))(T:TriM)(i:Nat)(p:Int×Int):Int:=(crs (ptA P (T.v ((i+1)%3)).toNat).1 (ptA P (T.v ((i+1)%3)).toNat).2 (ptA P (T.v ((i+2)%3)).toNat).1 (ptA P (T.v ((i+2)%3)).toNat).2 p.1 p.2).sign
def InV(P:List (Int×Int))(v:Int):Prop:=0≤v∧v<(P.length:Int)
def holdsT(P:List (Int×Int))(T:TriM)(p:Int×Int):Bool:=decide (0≤sideT P T 0 p)&&decide (0≤sideT P T 1 p)&&decide (0≤sideT P T 2 p)
theorem box3_at{w:World}{g:Nat}{T:TriM}(h:Box w g [.int .i64 T.v0,.int .i64 T.v1,.int .i64 T.v2]){k:Nat}(hk:k<3):w.cell? ⟨g,k,none⟩=some (.int .i64 (T.v k)):=by
  obtain rfl|rfl|rfl:k=0∨k=1∨k=2:=by omega
  ·exact h.c 0 _ rfl
  ·exact h.c 1 _ rfl
  ·exact h.c 2 _ rfl
theorem InV.nat{P:List (Int×Int)}{v:Int}(h:InV P v):∃a:Nat,v=(a:Int)∧a<P.length∧P[a]?=some ((ptA P v.toNat).1,(ptA P v.toNat).2):=by obtain⟨h0,h1⟩:=h;refine⟨v.toNat,by omega,by omega,ptA_at (by omega)⟩
theorem mod3_one{i:Nat}(hi:i<3):(IntKind.i64.wrap ((i:Int)+1)).tmod 3=(((i+1)%3:Nat):Int):=by
  obtain rfl|rfl|rfl:i=0∨i=1∨i=2:=by omega
  all_goals decide
theorem mod3_two{i:Nat}(hi:i<3):(IntKind.i64.wrap ((i:Int)+2)).tmod 3=(((i+2)%3:Nat):Int):=by
  obtain rfl|rfl|rfl:i=0∨i=1∨i=2:=by omega
  all_goals decide
end Go.MagM
namespace Go.Proofs.YtdmfbkhafnkcfaaGreat
open Go.RowKit Go.MagM
set_option maxRecDepth 100000 in set_option maxHeartbeats 4000000 in theorem wside_any{mb pb pc:Nat}{ta:Option Addr}{tc:Nat}{P:List (Int×Int)}{S:List TriM}(t i:Nat)(T:TriM)(p:Int×Int)(s:Int)(w:World)(h:MeshR w mb pb pc ta tc P S)(hP:InPs P)(hp:InP p.1∧InP p.2)(hT:S[t]?=some T)(hi:i<3)(h1:InV P (T.v ((i+1)%3)))(h2:InV P (T.v ((i+2)%3)))(hs:sideT P T i p=s):Calls Tryz.prog 181 #[.pointer (some ⟨mb,0,none⟩),.int .i64 (t:Int),.int .i64 (i:Int),.agg #[.int .i64 p.1,.int .i64 p.2]] w fun e w'=>e= .returned (.int .i64 s)∧Below w.heap.size w w':=by
  obtain⟨a,ea,la,ga⟩:=h1.nat;obtain⟨b,eb,lb,gb⟩:=h2.nat;obtain⟨tb,hta,-,h9⟩:=h.tris.get hT;subst hta;have hlt:=(List.getElem?_eq_some_iff.1 hT).1;have hsh:=h.short;obtain⟨len,hlen⟩:∃len,S.length=len:=⟨_,rfl⟩;obtain⟨pn,hpn⟩:∃pn,P.length=pn:=⟨_,rfl⟩;have m1:=mod3_one hi;have m2:=mod3_two hi;have hpa:InP (ptA P (T.v ((i+1)%3)).toNat).1∧InP (ptA P (T.v ((i+1)%3)).toNat).2:=hP _ (List.mem_of_getElem? ga);have hpb:InP (ptA P (T.v ((i+2)%3)).toNat).1∧InP (ptA P (T.v ((i+2)%3)).toNat).2:=hP _ (List.mem_of_getElem? gb);obtain⟨k1,hk1⟩:∃k1,(i+1)%3=k1:=⟨_,rfl⟩;obtain⟨k2,hk2⟩:∃k2,(i+2)%3=k2:=⟨_,rfl⟩;unfold sideT at hs;rw[hk1] at m1 ea ga hpa hs;rw[hk2] at m2 eb gb hpb hs;have hk13:k1<3:=by omega
  have hk23:k2<3:=by omega
  obtain⟨⟨a0,a1⟩,hpta⟩:∃q,ptA P (T.v k1).toNat=q:=⟨_,rfl⟩;obtain⟨⟨b0,b1⟩,hptb⟩:∃q,ptA P (T.v k2).toNat=q:=⟨_,rfl⟩;rw[hpta] at ga hpa hs;rw[hptb] at gb hpb hs;simp only[] at ga gb hpa hpb hs;obtain⟨p0,p1⟩:=p;simp only[] at hp hs;have co:=fun w=>Orient_is a0 a1 b0 b1 p0 p1 hpa.1 hpa.2 hpb.1 hpb.2 hp.1 hp.2 hs w;obtain⟨w1,hw1,pp,hb1,hs1⟩:=new_box w _ rfl [.int .i64 p0,.int .i64 p1] 33;obtain⟨vb,hvb⟩:∃vb,w1.heap.size=vb:=⟨_,rfl⟩;obtain⟨w2,hw2,pv,hb2,hs2⟩:=new_box w1 _ rfl [.int .i64 T.v0,.int .i64 T.v1,.int .i64 T.v2] 38;rw[hvb] at pv;have hB2:Below w.heap.size w w2:=hb1.trans (hb2.mono hb1.size);have hb12:Below w.heap.size w w1:=hb1;have e1:=(h.below hb12).box.c 1 _ rfl;rw[hlen] at e1;have h9':=h9.below hb12;obtain⟨c0,c1,c2,-,-,-,-,-,-⟩:=h9';have H:=Lib.hid h;have CO:=Lib.hid co;have HB2:=Lib.hid hB2;have PP:=Lib.hid (pp.below hb2);have PV:=Lib.hid pv;have GA:=Lib.hid ga;have GB:=Lib.hid gb;have HPN:=Lib.hid hpn;have EA:=Lib.hid ea;have EB:=Lib.hid eb;have i1:(0:Int)≤(t:Int):=by omega
  have i2:(t:Int)<(len:Int):=by omega
  have i3:(0:Int)≤(a:Int):=by omega
  have i4:(a:Int)<(pn:Int):=by omega
  have i5:(0:Int)≤(b:Int):=by omega
  have i6:(b:Int)<(pn:Int):=by omega
  have i7:(0:Int)≤(k1:Int):=by omega
  have i8:(k1:Int)<3:=by omega
  have i9:(0:Int)≤(k2:Int):=by omega
  have i10:(k2:Int)<3:=by omega
  obtain⟨v0,v1,v2,n0,n1,n2,f0,f1,f2⟩:=T;simp only[] at c0 c1 c2;clear h hP hp hT h1 h2 hs ea la ga eb lb gb h9 hlt hpa hpb hpta hptb co pp hb1 hs1 hb2 hs2 pv hB2 hb12 hsh hk1 hk2 hlen hpn;go_enter Tryz.func181,Tryz.ntmps181;go_wp2;clear c0 c1 c2 e1;have hB_0:Below w.heap.size w w2.drew:=HB2.out.drew';have cc:∀w',Below w2.drew.heap.size w2.drew w'→w'.cell? ⟨mb,0,none⟩=some (.slice (some ⟨pb,0,none⟩) pn pc)∧w'.cell? ⟨vb,k1,none⟩=some (.int .i64 (a:Int))∧w'.cell? ⟨vb,k2,none⟩=some (.int .i64 (b:Int))∧w'.cell? ⟨pb,a*2,none⟩=some (.int .i64 a0)∧w'.cell? ⟨pb,a*2+1,none⟩=some (.int .i64 a1)∧w'.cell? ⟨pb,b*2,none⟩=some (.int .i64 b0)∧w'.cell? ⟨pb,b*2+1,none⟩=some (.int .i64 b1)∧w'.cell? ⟨w.heap.size,0,none⟩=some (.int .i64 p0)∧w'.cell? ⟨w.heap.size,1,none⟩=some (.int .i64 p1):=by
    intro w' hb;have hm:=((H.out.below HB2.out).drew).below hb;have hv:=PV.out.drew.below hb;have hp:=PP.out.drew.below hb;have e0:=hm.box.c 0 _ rfl;rw[HPN.out] at e0;have bv1:=box3_at (T:=⟨v0,v1,v2,n0,n1,n2,f0,f1,f2⟩) hv hk13;have bv2:=box3_at (T:=⟨v0,v1,v2,n0,n1,n2,f0,f1,f2⟩) hv hk23;rw[EA.out] at bv1;rw[EB.out] at bv2;exact⟨e0,bv1,bv2,(hm.pt GA.out).1,(hm.pt GA.out).2,(hm.pt GB.out).1,(hm.pt GB.out).2,hp.c 0 _ rfl,hp.c 1 _ rfl⟩
  have CC:=Lib.hid cc;clear cc;have hD_0:=Below.refl w2.drew.heap.size w2.drew;go_region_held3 (fun w'=>w'.cell? ⟨mb,0,none⟩=some (.slice (some ⟨pb,0,none⟩) pn pc)∧w'.cell? ⟨vb,k1,none⟩=some (.int .i64 (a:Int))∧w'.cell? ⟨vb,k2,none⟩=some (.int .i64 (b:Int))∧w'.cell? ⟨pb,a*2,none⟩=some (.int .i64 a0)∧w'.cell? ⟨pb,a*2+1,none⟩=some (.int .i64 a1)∧w'.cell? ⟨pb,b*2,none⟩=some (.int .i64 b0)∧w'.cell? ⟨pb,b*2+1,none⟩=some (.int .i64 b1)∧w'.cell? ⟨w.heap.size,0,none⟩=some (.int .i64 p0)∧w'.cell? ⟨w.heap.size,1,none⟩=some (.int .i64 p1)) (first|with_reducible exact CC.out _ hD_0|with_reducible exact CC.out _ hD_1|fail) (first|(go_at_call 41;(with_reducible refine(CO.out _).mono ?_);rintro e w4 ⟨rfl,hb4⟩;have hB_1:=hB_0.trans (hb4.mono hB_0.size);have hD_1:=hD_0.trans (hb4.mono hD_0.size)));go_wp2;go_ret;exact⟨rfl,hB_1⟩
end Go.Proofs.YtdmfbkhafnkcfaaGreat
namespace Go.MagM
open Go.RowKit
theorem holdsT_all{P:List (Int×Int)}{T:TriM}{p:Int×Int}(h:∀j,j<3→0≤sideT P T j p):holdsT P T p=true:=by unfold holdsT;rw[decide_eq_true (h 0 (by omega)),decide_eq_true (h 1 (by omega)),decide_eq_true (h 2 (by omega))];rfl
theorem holdsT_not{P:List (Int×Int)}{T:TriM}{p:Int×Int}{j:Nat}(hj:j<3)(h:sideT P T j p<0):holdsT P T p=false:=by
  unfold holdsT;have h':decide (0≤sideT P T j p)=false:=decide_eq_false (by omega);obtain rfl|rfl|rfl:j=0∨j=1∨j=2:=by omega
  all_goals rw[h'];simp
def RealIn(P:List (Int×Int))(T:TriM):Prop:=realT T=true→∀i,i<3→InV P (T.v i)
end Go.MagM
namespace Go.Proofs.YtdmfbkhafnkcfaaGreat
open Go.RowKit Go.MagM
set_option maxRecDepth 100000 in set_option maxHeartbeats 4000000 in theorem Holds_any{mb pb pc:Nat}{ta:Option Addr}{tc:Nat}{P:List (Int×Int)}{S:List TriM}(t:Nat)(T:TriM)(p:Int×Int)(w:World)(h:MeshR w mb pb pc ta tc P S)(hP:InPs P)(hp:InP p.1∧InP p.2)(hT:S[t]?=some T)(hre:RealIn P T):Calls Tryz.prog 154 #[.pointer (some ⟨mb,0,none⟩),.int .i64 (t:Int),.agg #[.int .i64 p.1,.int .i64 p.2]] w fun e w'=>e= .returned (.bool (realT T&&holdsT P T p))∧Below w.heap.size w w':=by
  obtain⟨w1,hw1,pp,hb1,hs1⟩:=new_box w _ rfl [.int .i64 p.1,.int .i64 p.2] 33;have hr:=Real_any (t:Int) w1 (h.below hb1);have hrm:realM S (t:Int)=realT T:=by unfold realM;rw[getT_nat,hT]
  rw[hrm] at hr;unfold RealIn at hre;obtain⟨r,hrr⟩:∃r,realT T=r:=⟨_,rfl⟩;rw[hrr] at hr hre⊢;have HR:=Lib.hid hr;have HB1:=Lib.hid hb1;have PP:=Lib.hid pp;cases r with
  |false=>
    clear h hP hp hT hre hrm hrr hr hb1 pp hs1;go_enter Tryz.func154,Tryz.ntmps154;go_wp2_with fail;refine HR.out.mono ?_;rintro e w2 ⟨rfl,hd⟩;have HB2:=Lib.hid (HB1.out.trans (hd.below.mono HB1.out.size));clear hd;go_wp2;go_ret;exact⟨rfl,HB2.out⟩|true=>
    have hv:=hre rfl;have hso:∀(i:Nat)(wr:World),i<3→Below w.heap.size w wr→Calls Tryz.prog 181 #[.pointer (some ⟨mb,0,none⟩),.int .i64 (t:Int),.int .i64 (i:Int),.agg #[.int .i64 p.1,.int .i64 p.2]] wr fun e w'=>e= .returned (.int .i64 (sideT P T i p))∧Below wr.heap.size wr w':=fun i wr hi hb=>wside_any t i T p _ wr (h.below hb) hP hp hT hi (hv _ (Nat.mod_lt _ (by omega))) (hv _ (Nat.mod_lt _ (by omega))) rfl;obtain⟨b,hb⟩:∃b,holdsT P T p=b:=⟨_,rfl⟩;rw[Bool.true_and,hb];have HB:=Lib.hid hb;have HSO:=Lib.hid hso;clear h hP hp hT hre hrm hrr hr hb1 pp hs1 hb hv hso;go_enter Tryz.func154,Tryz.ntmps154;go_wp2_with fail;refine HR.out.mono ?_;rintro e w2 ⟨rfl,hd⟩;have HB2:=Lib.hid (HB1.out.trans (hd.below.mono HB1.out.size));have PP2:=Lib.hid (PP.out.below hd.below);clear hd;go_wp2;go_loopw [7,12] (fun _ iv wr=>∃i:Nat,i≤3∧iv= .int .i64 (i:Int)∧Below w2.heap.size w2 wr∧∀j,j<i→0≤sideT P T j p) (fun _ iv _=>3-(intOf iv).toNat);case atStart=>exact⟨0,by omega,rfl,Below.refl _ _,fun j hj=>absurd hj (by omega)⟩
    case round=>
      obtain⟨i,hi,rfl,hbw,hall⟩:=hrel;have pw:=PP2.out.below hbw;have c0:=pw.c 0 _ rfl;have c1:=pw.c 1 _ rfl;have HBW:=Lib.hid (HB2.out.trans (hbw.mono HB2.out.size));have HBW2:=Lib.hid hbw;have HALL:=Lib.hid hall;clear pw hbw hall;by_cases hlt:i<3
      · have hyd:decide ((i:Int)<3)=true:=decide_eq_true (by omega);have hs:=HSO.out i wr hlt HBW.out;obtain⟨s,hse⟩:∃s,sideT P T i p=s:=⟨_,rfl⟩;rw[hse] at hs;have HS:=Lib.hid hs;have HSE:=Lib.hid hse;clear hs hse;by_cases hneg:s<0
        · have hyn:decide (s<0)=true:=decide_eq_true hneg;go_wp2_with fail;refine HS.out.mono ?_;rintro e w3 ⟨rfl,hb3⟩;have HB3:=Lib.hid (HBW.out.trans (hb3.mono HBW.out.size));clear hb3 c0 c1;go_wp2;go_ret;exact⟨by rw[←HB.out,holdsT_not hlt (by rw[HSE.out];exact hneg)];rfl,HB3.out⟩
        · have hyn:decide (s<0)=false:=decide_eq_false hneg;go_wp2_with fail;refine HS.out.mono ?_;rintro e w3 ⟨rfl,hb3⟩;have HB3:=Lib.hid (HBW2.out.trans (hb3.mono HBW2.out.size));clear hb3 c0 c1;go_wp2;go_roundw;case rel=>
            refine⟨i+1,by omega,by go_num,HB3.out,fun j hj=>?_⟩;rcases Nat.lt_or_ge j i with g|g;·exact HALL.out j g
            · obtain rfl:j=i:=by omega
              rw[HSE.out];omega
          case measure=>simp[intOf];omega
      · obtain rfl:i=3:=by omega
        clear c0 c1;go_wp2;go_ret;exact⟨by rw[←HB.out,holdsT_all HALL.out];rfl,HBW.out⟩
end Go.Proofs.YtdmfbkhafnkcfaaGreat
namespace Go.MagM
open Go.RowKit
def facesT(P:List (Int×Int))(T:TriM)(p:Int×Int):Bool:=decide (0≤placeT T (-1))&&decide (0<sideT P T (placeT T (-1)).toNat p)
def FaceIn(P:List (Int×Int))(T:TriM):Prop:=∀k:Nat,placeT T (-1)=(k:Int)→InV P (T.v ((k+1)%3))∧InV P (T.v ((k+2)%3))
end Go.MagM
namespace Go.Proofs.YtdmfbkhafnkcfaaGreat
open Go.RowKit Go.MagM
set_option maxRecDepth 100000 in set_option maxHeartbeats 4000000 in theorem faces_any{mb pb pc:Nat}{ta:Option Addr}{tc:Nat}{P:List (Int×Int)}{S:List TriM}(t:Nat)(T:TriM)(p:Int×Int)(w:World)(h:MeshR w mb pb pc ta tc P S)(hP:InPs P)(hp:InP p.1∧InP p.2)(hT:S[t]?=some T)(hfa:FaceIn P T):Calls Tryz.prog 156 #[.pointer (some ⟨mb,0,none⟩),.int .i64 (t:Int),.agg #[.int .i64 p.1,.int .i64 p.2]] w fun e w'=>e= .returned (.bool (facesT P T p))∧Below w.heap.size w w':=by
  obtain⟨w1,hw1,pp,hb1,hs1⟩:=new_box w _ rfl [.int .i64 p.1,.int .i64 p.2] 33;have h1:=h.below hb1;obtain⟨b0,b1,-,-⟩:=h1.box.open2;have hsh:=h.short.2;obtain⟨len,hlen⟩:∃len,S.length=len:=⟨_,rfl⟩;have hkl:=(List.getElem?_eq_some_iff.1 hT).1;rw[hlen] at b1 hsh hkl;have i1:(0:Int)≤(t:Int):=by omega
  have i2:(t:Int)<(len:Int):=by omega
  obtain⟨tb,rfl,hbl,ht⟩:=h1.tris.get hT;have hi:=index_any tb (t*9) 3 3 [T.v0,T.v1,T.v2] (-1) w1 rfl (by omega) (fun j u hj=>by have h0:=ht.c0;have h1:=ht.c1;have h2:=ht.c2;match j,hj with|0,hj=>simp at hj;subst hj;exact h0|1,hj=>simp at hj;subst hj;exact h1|2,hj=>simp at hj;subst hj;exact h2|_+3,hj=>simp at hj);rw[place_idx] at hi;have hcs:=placeT_cases T (-1);unfold FaceIn at hfa;obtain⟨f,hf⟩:∃f,facesT P T p=f:=⟨_,rfl⟩;rw[hf];unfold facesT at hf;obtain⟨g,hg⟩:∃g,placeT T (-1)=g:=⟨_,rfl⟩;rw[hg] at hi hcs hfa hf;have c0:=pp.c 0 _ rfl;have c1:=pp.c 1 _ rfl;have HI:=Lib.hid hi;have HB1:=Lib.hid hb1;by_cases hneg:g<0
  · have hy:decide (0≤g)=false:=decide_eq_false (by omega);rw[hy,Bool.false_and] at hf;clear h h1 hP hp hT hfa hi hcs hb1 pp hs1 ht hlen hg hsh hkl hbl;subst hf;go_enter Tryz.func156,Tryz.ntmps156;go_wp2_with fail;refine HI.out.mono ?_;rintro e w2 ⟨rfl,rfl⟩;go_wp2;go_ret;exact⟨rfl,HB1.out⟩
  · obtain⟨k,rfl⟩:∃k:Nat,g=(k:Int):=⟨g.toNat,by omega⟩;have hk:k<3:=by omega
    have hy:decide ((0:Int)≤(k:Int))=true:=decide_eq_true (by omega);rw[hy,Bool.true_and,Int.toNat_natCast] at hf;obtain⟨v1,v2⟩:=hfa k rfl;have hs:=wside_any t k T p _ w1 h1 hP hp hT hk v1 v2 rfl;obtain⟨s,hse⟩:∃s,sideT P T k p=s:=⟨_,rfl⟩;rw[hse] at hs hf;have HS:=Lib.hid hs;clear h h1 hP hp hT hfa hi hcs hb1 pp hs1 ht hlen hg hsh hkl hbl hs hse v1 v2;subst hf;go_enter Tryz.func156,Tryz.ntmps156;go_wp2_with fail;refine HI.out.mono ?_;rintro e w2 ⟨rfl,rfl⟩;go_wp2_with fail;refine HS.out.mono ?_;rintro e w3 ⟨rfl,hb3⟩;have HB3:=Lib.hid (HB1.out.trans (hb3.mono HB1.out.size));clear hb3 c0 c1 b0 b1;go_wp2;go_ret;exact⟨rfl,HB3.out⟩
end Go.Proofs.YtdmfbkhafnkcfaaGreat
namespace Go.MagM
open Go.RowKit
def firstK(f:Nat→Bool):Option Nat:=if f 0=true then some 0 else if f 1=true then some 1 else if f 2=true then some 2 else none
theorem firstK_at{f:Nat→Bool}{k:Nat}(hk:k<3)(hf:f k=true)(hn:∀j,j<k→f j=false):firstK f=some k:=by
  unfold firstK;obtain rfl|rfl|rfl:k=0∨k=1∨k=2:=by omega
  ·rw[if_pos hf]
  ·rw[hn 0 (by omega),if_neg (by decide),if_pos hf]
  ·rw[hn 0 (by omega),hn 1 (by omega),if_neg (by decide),if_neg (by decide),if_pos hf]
theorem firstK_none{f:Nat→Bool}(hn:∀j,j<3→f j=false):firstK f=none:=by unfold firstK;rw[hn 0 (by omega),hn 1 (by omega),hn 2 (by omega)];rfl
def withinT(P:List (Int×Int))(T:TriM)(t:Nat)(p:Int×Int):Int×Int×Int×Int:=match firstK (fun k=>decide (ptA P (T.v k).toNat=p)) with|some k=>(2,(t:Int),T.v k,0)|none=>match firstK (fun k=>decide (sideT P T k p=0)) with|some k=>(1,(t:Int),min (T.v ((k+1)%3)) (T.v ((k+2)%3)),max (T.v ((k+1)%3)) (T.v ((k+2)%3)))|none=>(0,(t:Int),0,0)
def placeV(x:Int×Int×Int×Int):Value:= .agg #[.int .i64 x.1,.int .i64 x.2.1,.int .i64 x.2.2.1,.int .i64 x.2.2.2]
theorem withinT_pt{P:List (Int×Int)}{T:TriM}{t:Nat}{p:Int×Int}{k:Nat}(hk:k<3)(he:ptA P (T.v k).toNat=p)(hn:∀j,j<k→ptA P (T.v j).toNat≠p):withinT P T t p=(2,(t:Int),T.v k,0):=by unfold withinT;rw[firstK_at hk (decide_eq_true he) (fun j hj=>decide_eq_false (hn j hj))]
theorem withinT_edge{P:List (Int×Int)}{T:TriM}{t:Nat}{p:Int×Int}{k:Nat}(hk:k<3)(h0:∀j,j<3→ptA P (T.v j).toNat≠p)(he:sideT P T k p=0)(hn:∀j,j<k→sideT P T j p≠0):withinT P T t p=(1,(t:Int),min (T.v ((k+1)%3)) (T.v ((k+2)%3)),max (T.v ((k+1)%3)) (T.v ((k+2)%3))):=by unfold withinT;rw[firstK_none (fun j hj=>decide_eq_false (h0 j hj)),firstK_at hk (decide_eq_true he) (fun j hj=>decide_eq_false (hn j hj))]
theorem withinT_in{P:List (Int×Int)}{T:TriM}{t:Nat}{p:Int×Int}(h0:∀j,j<3→ptA P (T.v j).toNat≠p)(hn:∀j,j<3→sideT P T j p≠0):withinT P T t p=(0,(t:Int),0,0):=by unfold withinT;rw[firstK_none (fun j hj=>decide_eq_false (h0 j hj)),firstK_none (fun j hj=>decide_eq_false (hn j hj))]
theorem run_equalIn_pair{P:Program}(w:World)(d:Nat)(t e:TypeId)(k:IntKind)(f0 f1:Field)(ht:P.underlying t=some (.struct #[f0,f1]))(hp:P.stoodInHeld t=false)(he:P.underlying e=some (.int k))(ha:∀w,(isAgg e).run P w= .ok false w)(n0:f0.name≠ "_")(n1:f1.name≠ "_")(t0:f0.type=e)(t1:f1.type=e)(o0:f0.offset=0)(o1:f1.offset=1)(a b x y:Int):(Op.equalIn (d+2) t (.agg #[.int k a,.int k b]) (.agg #[.int k x,.int k y])).run P w= .ok (decide (a=x∧b=y)) w:=by
  have hi:∀(a b:Int)(w:World),(Op.equalIn (d+1) e (.int k a) (.int k b)).run P w= .ok (a==b) w:=fun a b w=>run_equalIn_int w d e k k a b he;have hp0:∀(u v:Value)(w:World),(part e #[u,v] 0).run P w= .ok u w:=fun u v w=>by simp[part,ha,Sem.run_bind,Result.andThen]
  have hp1:∀(u v:Value)(w:World),(part e #[u,v] 1).run P w= .ok v w:=fun u v w=>by simp[part,ha,Sem.run_bind,Result.andThen]
  have hf:P.fieldsOf t=#[f0,f1]:=by unfold Program.fieldsOf;rw[ht]
  rw[run_equalIn_struct w (d+1) t _ _ (by rw[hf];exact ht) hp,hf];simp only[Op.eqFields,t0,t1,o0,o1];rw[if_pos n0,if_pos n1];by_cases h1:a=x<;>by_cases h2:b=y<;>simp[h1,h2,hp0,hp1,hi,Sem.run_bind,Result.andThen,Sem.run_pure]
end Go.MagM
namespace Go.Proofs.YtdmfbkhafnkcfaaGreat
open Go.RowKit Go.MagM
theorem eqPt_run(w:World)(a b x y:Int):Sem.run Tryz.prog (binOp BinOp.eql 33 (Value.agg #[.int .i64 a,.int .i64 b]) (Value.agg #[.int .i64 x,.int .i64 y])) w=Result.ok (Value.bool (decide (a=x∧b=y))) w:=by rw[run_eql_struct,show(10000:Nat)=9998+2 from rfl,run_equalIn_pair w 9998 33 3 .i64 _ _ Tryz.underlying33 (by kernel_rfl) Tryz.underlying3 (fun w=>by kernel_rfl) (by decide) (by decide) rfl rfl rfl rfl];rfl
theorem index3v_run(T:TriM)(i:Nat)(hi:i<3)(w:World):(Instr.index 38 (.agg #[.int .i64 T.v0,.int .i64 T.v1,.int .i64 T.v2]) (.int .i64 (i:Int))).run Tryz.prog w= .ok (.int .i64 (T.v i)) w:=
  index3_run ⟨0, 0, 0, T.v0, T.v1, T.v2, false, false, false⟩ i hi w |>.trans (by obtain rfl|rfl|rfl:i=0∨i=1∨i=2:=by omega
                                                                                  all_goals rfl)
set_option maxRecDepth 100000 in set_option maxHeartbeats 4000000 in theorem wwithin_any{mb pb pc:Nat}{ta:Option Addr}{tc:Nat}{P:List (Int×Int)}{S:List TriM}(t:Nat)(T:TriM)(p:Int×Int)(w:World)(h:MeshR w mb pb pc ta tc P S)(hP:InPs P)(hp:InP p.1∧InP p.2)(hT:S[t]?=some T)(hv:∀i,i<3→InV P (T.v i)):Calls Tryz.prog 155 #[.pointer (some ⟨mb,0,none⟩),.int .i64 (t:Int),.agg #[.int .i64 p.1,.int .i64 p.2]] w fun e w'=>e= .returned (placeV (withinT P T t p))∧Below w.heap.size w w':=by
  obtain⟨w1,hw1,pp,hb1,hs1⟩:=new_box w _ rfl [.int .i64 p.1,.int .i64 p.2] 33;obtain⟨lb,hlb⟩:∃lb,w1.heap.size=lb:=⟨_,rfl⟩;obtain⟨w2,hw2,pl,hb2,hs2⟩:=new_box w1 _ rfl [.int .i64 0,.int .i64 0,.int .i64 0,.int .i64 0] 89;rw[hlb] at pl;obtain⟨vb,hvb⟩:∃vb,w2.heap.size=vb:=⟨_,rfl⟩;obtain⟨w3,hw3,pv,hb3,hs3⟩:=new_box w2 _ rfl [.int .i64 T.v0,.int .i64 T.v1,.int .i64 T.v2] 38;rw[hvb] at pv;have hB2:Below w.heap.size w w2:=hb1.trans (hb2.mono hb1.size);have hB3:Below w.heap.size w w3:=hB2.trans (hb3.mono hB2.size);have pp3:=(pp.below hb2).below hb3;have pl3:=pl.below hb3;have hlw:w.heap.size≤lb:=by rw[←hlb];exact hb1.size
  have hm2:=h.below hB2;have hm3:=h.below hB3;obtain⟨len,hlen⟩:∃len,S.length=len:=⟨_,rfl⟩;have hkl:=(List.getElem?_eq_some_iff.1 hT).1;have e1:=hm2.box.c 1 _ rfl;have hsh:=h.short;rw[hlen] at e1 hkl hsh;obtain⟨tb,rfl,hbl,ht⟩:=hm2.tris.get hT;obtain⟨c0,c1,c2,-,-,-,-,-,-⟩:=ht;have i1:(0:Int)≤(t:Int):=by omega
  have i2:(t:Int)<(len:Int):=by omega
  have hso:∀(i:Nat)(wr:World),i<3→Below w.heap.size w wr→Calls Tryz.prog 181 #[.pointer (some ⟨mb,0,none⟩),.int .i64 (t:Int),.int .i64 (i:Int),.agg #[.int .i64 p.1,.int .i64 p.2]] wr fun e w'=>e= .returned (.int .i64 (sideT P T i p))∧Below wr.heap.size wr w':=fun i wr hi hb=>wside_any t i T p _ wr (h.below hb) hP hp hT hi (hv _ (Nat.mod_lt _ (by omega))) (hv _ (Nat.mod_lt _ (by omega))) rfl;have hpts:∀(i:Nat)(wr:World),i<3→Below w3.heap.size w3 wr→∃a:Nat,T.v i=(a:Int)∧a<P.length∧wr.cell? ⟨mb,0,none⟩=some (.slice (some ⟨pb,0,none⟩) P.length pc)∧wr.cell? ⟨pb,a*2,none⟩=some (.int .i64 (ptA P a).1)∧wr.cell? ⟨pb,a*2+1,none⟩=some (.int .i64 (ptA P a).2)∧wr.cell? ⟨w.heap.size,0,none⟩=some (.int .i64 p.1)∧wr.cell? ⟨w.heap.size,1,none⟩=some (.int .i64 p.2):=by
    intro i wr hi hb;obtain⟨a,ea,la,ga⟩:=(hv i hi).nat;rw[ea,Int.toNat_natCast] at ga;have hm:=hm3.below hb;exact⟨a,ea,la,hm.box.c 0 _ rfl,(hm.pt ga).1,(hm.pt ga).2,(pp3.below hb).c 0 _ rfl,(pp3.below hb).c 1 _ rfl⟩
  obtain⟨q,hq⟩:∃q,withinT P T t p=q:=⟨_,rfl⟩;rw[hq];have HQ:=Lib.hid hq;have HSO:=Lib.hid hso;have HPTS:=Lib.hid hpts;have HB3:=Lib.hid hB3;have PL:=Lib.hid pl3;have PV:=Lib.hid pv;have PP:=Lib.hid pp3;have HLW:=Lib.hid hlw;have HVV:=Lib.hid hv;have q0:=pv.c 0 _ rfl;have q1:=pv.c 1 _ rfl;have q2:=pv.c 2 _ rfl;clear h hP hp hT hq hso hpts hB3 pl3 pv pp3 hlw hb1 hb2 hb3 hs1 hs2 hs3 pp pl hB2 hm2 hm3 hlen hkl hbl hv;go_enter Tryz.func155,Tryz.ntmps155;go_wp2;clear c0 c1 c2 e1 q0 q1 q2;go_loopw [9,22] (fun _ iv wr=>∃i:Nat,i≤3∧iv= .int .i64 (i:Int)∧Below w3.heap.size w3 wr∧∀j,j<i→ptA P (T.v j).toNat≠p) (fun _ iv _=>3-(intOf iv).toNat);case atStart=>exact⟨0,by omega,rfl,Below.refl _ _,fun j hj=>absurd hj (by omega)⟩
  case round=>
    obtain⟨i,hi,rfl,hbw,hall⟩:=hrel;have HBW:=Lib.hid hbw;have HALL:=Lib.hid hall;clear hbw hall;by_cases hlt:i<3
    · have hyd:decide ((i:Int)<3)=true:=decide_eq_true (by omega);obtain⟨a,ea,la,d0,d1,d2,d3,d4⟩:=HPTS.out i wr hlt HBW.out;have ir:=fun w=>index3v_run T i hlt w;rw[ea] at ir;obtain⟨pn,hpn⟩:∃pn,P.length=pn:=⟨_,rfl⟩;rw[hpn] at d0 la;have i3:(0:Int)≤(a:Int):=by omega
      have i4:(a:Int)<(pn:Int):=by omega
      obtain⟨⟨a0,a1⟩,hpa⟩:∃q,ptA P a=q:=⟨_,rfl⟩;rw[hpa] at d1 d2;have HEA:=Lib.hid ea;have HPA:=Lib.hid hpa;clear ea hpa hpn;by_cases hqq:a0=p.1∧a1=p.2
      · have heq:∀w:World,Sem.run Tryz.prog (binOp BinOp.eql 33 (Value.agg #[.int .i64 a0,.int .i64 a1]) (Value.agg #[.int .i64 p.1,.int .i64 p.2])) w=Result.ok (Value.bool true) w:=fun w=>by rw[eqPt_run,decide_eq_true hqq]
        have HQQ:=Lib.hid hqq;clear hqq;go_wp2;go_quiet (fail);clear d0 d1 d2 d3 d4 ir heq;have hbq:=HBW.out.trans ((Drew.below ⟨nq,rfl⟩:Below wr.heap.size wr (wr.drewN nq)).mono HBW.out.size);have plq:=PL.out.below hbq;obtain⟨wz,hwz⟩:∃wz,setAll (wr.drewN nq) lb 0 [.int .i64 2,.int .i64 (t:Int),.int .i64 (a:Int),.int .i64 0]=wz:=⟨_,rfl⟩;have pz:Box wz lb [.int .i64 2,.int .i64 (t:Int),.int .i64 (a:Int),.int .i64 0]:=by rw[←hwz];exact plq.setAll [.int .i64 2,.int .i64 (t:Int),.int .i64 (a:Int),.int .i64 0] rfl
        have hbz:Below w.heap.size w wz:=by rw[←hwz];exact below_setAll (HB3.out.trans (hbq.mono HB3.out.size)) HLW.out _
        have z0:=pz.c 0 _ rfl;have z1:=pz.c 1 _ rfl;have z2:=pz.c 2 _ rfl;have z3:=pz.c 3 _ rfl;have o0:=plq.c 0 _ rfl;have o1:=plq.c 1 _ rfl;have o2:=plq.c 2 _ rfl;have o3:=plq.c 3 _ rfl;have g0:=plq.f 0 _ rfl;have g1:=plq.f 1 _ rfl;have g2:=plq.f 2 _ rfl;have g3:=plq.f 3 _ rfl;have HWZ:=Lib.hid hwz;have HBZ:=Lib.hid hbz;have HZ0:=Lib.hid z0;have HZ1:=Lib.hid z1;have HZ2:=Lib.hid z2;have HZ3:=Lib.hid z3;clear hbq plq hwz pz hbz z0 z1 z2 z3;go_wp2;clear o0 o1 o2 o3 g0 g1 g2 g3;have z0:=HZ0.out;have z1:=HZ1.out;have z2:=HZ2.out;have z3:=HZ3.out;have hwz:=HWZ.out;simp only[setAll] at hwz;rw[hwz];(try simp only[Exit.inBlock,Exit.then]);refine bodyPost_ret (v:= .agg #[.int .i64 2,.int .i64 (t:Int),.int .i64 (a:Int),.int .i64 0]) ?_ rfl ?_;·simp[results,Tryz.results155,go_sem,z0,z1,z2,z3]
        ·exact⟨by rw[←HQ.out,withinT_pt hlt (by rw[HEA.out,Int.toNat_natCast,HPA.out,HQQ.out.1,HQQ.out.2]) HALL.out,HEA.out];rfl,HBZ.out⟩
      · have heq:∀w:World,Sem.run Tryz.prog (binOp BinOp.eql 33 (Value.agg #[.int .i64 a0,.int .i64 a1]) (Value.agg #[.int .i64 p.1,.int .i64 p.2])) w=Result.ok (Value.bool false) w:=fun w=>by rw[eqPt_run,decide_eq_false hqq]
        have HQQ:=Lib.hid hqq;clear hqq;go_wp2;go_quiet (fail);go_wp2;go_roundw;case rel=>
          refine⟨i+1,by omega,by go_num,HBW.out.trans ((Drew.below ⟨nq,rfl⟩:Below wr.heap.size wr (wr.drewN nq)).mono HBW.out.size),fun j hj=>?_⟩;rcases Nat.lt_or_ge j i with g|g;·exact HALL.out j g
          · obtain rfl:j=i:=by omega
            rw[HEA.out,Int.toNat_natCast,HPA.out];exact fun e=>HQQ.out ⟨congrArg Prod.fst e,congrArg Prod.snd e⟩
        case measure=>simp[intOf];omega
    · have hi3:i=3:=by omega
      have hall3:∀j,j<3→ptA P (T.v j).toNat≠p:=fun j hj=>HALL.out j (by omega);have HALL3:=Lib.hid hall3;clear hall3;have hyo:decide ((i:Int)<3)=false:=decide_eq_false (by omega);clear hi3 HALL;obtain⟨io,rfl⟩:∃io,io=i:=⟨_,rfl⟩;obtain⟨wo,rfl⟩:∃wo,wo=wr:=⟨_,rfl⟩;go_wp2;go_loopw [10,11,12,38] (fun _ _ _ iv wr=>∃i:Nat,i≤3∧iv= .int .i64 (i:Int)∧Below w3.heap.size w3 wr∧∀j,j<i→sideT P T j p≠0) (fun _ _ _ iv _=>3-(intOf iv).toNat);case atStart=>exact⟨0,by omega,rfl,HBW.out,fun j hj=>absurd hj (by omega)⟩
      case round=>
        obtain⟨i,hi,rfl,hbw,hsd⟩:=hrel;have HBR:=Lib.hid hbw;have HSD:=Lib.hid hsd;have hbr:=HB3.out.trans (hbw.mono HB3.out.size);have HBR0:=Lib.hid hbr;clear hbw hsd hbr;by_cases hlt:i<3
        · have hyd:decide ((i:Int)<3)=true:=decide_eq_true (by omega);have c0:=(PP.out.below HBR.out).c 0 _ rfl;have c1:=(PP.out.below HBR.out).c 1 _ rfl;have hs:=HSO.out i wr hlt HBR0.out;obtain⟨s,hse⟩:∃s,sideT P T i p=s:=⟨_,rfl⟩;rw[hse] at hs;have HS:=Lib.hid hs;have HSE:=Lib.hid hse;clear hs hse;by_cases hz:s=0
          · have hyz:(s==0)=true:=by simpa using hz
            have HZ:=Lib.hid hz;have m1:=mod3_one hlt;have m2:=mod3_two hlt;obtain⟨k1,hk1⟩:∃k1,(i+1)%3=k1:=⟨_,rfl⟩;obtain⟨k2,hk2⟩:∃k2,(i+2)%3=k2:=⟨_,rfl⟩;have hk13:k1<3:=by omega
            have hk23:k2<3:=by omega
            rw[hk1] at m1;rw[hk2] at m2;have i7:(0:Int)≤(k1:Int):=by omega
            have i8:(k1:Int)<3:=by omega
            have i9:(0:Int)≤(k2:Int):=by omega
            have i10:(k2:Int)<3:=by omega
            have HK1:=Lib.hid hk1;have HK2:=Lib.hid hk2;clear hz hk1 hk2;go_wp2_with fail;refine HS.out.mono ?_;rintro e w4 ⟨rfl,hb4⟩;have hbq4:=HBR.out.trans (hb4.mono HBR.out.size);have pv4:=PV.out.below hbq4;have y1:=box3_at pv4 hk13;have y2:=box3_at pv4 hk23;have HB4:=Lib.hid hbq4;obtain⟨x1,hx1⟩:∃x1,T.v k1=x1:=⟨_,rfl⟩;obtain⟨x2,hx2⟩:∃x2,T.v k2=x2:=⟨_,rfl⟩;rw[hx1] at y1;rw[hx2] at y2;have HX1:=Lib.hid hx1;have HX2:=Lib.hid hx2;clear hb4 hbq4 pv4 c0 c1 hx1 hx2;go_wp2;go_quiet (fail);clear y1 y2 m1 m2;rcases Int.lt_trichotomy x2 x1 with hle|hle|hle
            · have hbq:=HB4.out.trans ((Drew.below ⟨nq,rfl⟩:Below w4.heap.size w4 (w4.drewN nq)).mono HB4.out.size);have plq:=PL.out.below hbq;obtain⟨wz,hwz⟩:∃wz,setAll (w4.drewN nq) lb 0 [.int .i64 1,.int .i64 (t:Int),.int .i64 x2,.int .i64 x1]=wz:=⟨_,rfl⟩;have pz:Box wz lb [.int .i64 1,.int .i64 (t:Int),.int .i64 x2,.int .i64 x1]:=by rw[←hwz];exact plq.setAll [.int .i64 1,.int .i64 (t:Int),.int .i64 x2,.int .i64 x1] rfl
              have hbz:Below w.heap.size w wz:=by rw[←hwz];exact below_setAll (HB3.out.trans (hbq.mono HB3.out.size)) HLW.out _
              have z0:=pz.c 0 _ rfl;have z1:=pz.c 1 _ rfl;have z2:=pz.c 2 _ rfl;have z3:=pz.c 3 _ rfl;have o0:=plq.c 0 _ rfl;have o1:=plq.c 1 _ rfl;have o2:=plq.c 2 _ rfl;have o3:=plq.c 3 _ rfl;have g0:=plq.f 0 _ rfl;have g1:=plq.f 1 _ rfl;have g2:=plq.f 2 _ rfl;have g3:=plq.f 3 _ rfl;have HWZ:=Lib.hid hwz;have HBZ:=Lib.hid hbz;have HZ0:=Lib.hid z0;have HZ1:=Lib.hid z1;have HZ2:=Lib.hid z2;have HZ3:=Lib.hid z3;clear hbq plq hwz pz hbz z0 z1 z2 z3;go_wp2;clear o0 o1 o2 o3 g0 g1 g2 g3;have z0:=HZ0.out;have z1:=HZ1.out;have z2:=HZ2.out;have z3:=HZ3.out;have hwz:=HWZ.out;simp only[setAll] at hwz;rw[hwz];(try simp only[Exit.inBlock,Exit.then]);refine bodyPost_ret (v:= .agg #[.int .i64 1,.int .i64 (t:Int),.int .i64 x2,.int .i64 x1]) ?_ rfl ?_;·simp[results,Tryz.results155,go_sem,z0,z1,z2,z3]
              ·exact⟨by rw[←HQ.out,withinT_edge hlt HALL3.out (by rw[HSE.out,HZ.out]) HSD.out,HK1.out,HK2.out,HX1.out,HX2.out,Int.min_eq_right (by omega),Int.max_eq_left (by omega)];rfl,HBZ.out⟩
            · subst hle;have hbq:=HB4.out.trans ((Drew.below ⟨nq,rfl⟩:Below w4.heap.size w4 (w4.drewN nq)).mono HB4.out.size);have plq:=PL.out.below hbq;obtain⟨wz,hwz⟩:∃wz,setAll (w4.drewN nq) lb 0 [.int .i64 1,.int .i64 (t:Int),.int .i64 x2,.int .i64 x2]=wz:=⟨_,rfl⟩;have pz:Box wz lb [.int .i64 1,.int .i64 (t:Int),.int .i64 x2,.int .i64 x2]:=by rw[←hwz];exact plq.setAll [.int .i64 1,.int .i64 (t:Int),.int .i64 x2,.int .i64 x2] rfl
              have hbz:Below w.heap.size w wz:=by rw[←hwz];exact below_setAll (HB3.out.trans (hbq.mono HB3.out.size)) HLW.out _
              have z0:=pz.c 0 _ rfl;have z1:=pz.c 1 _ rfl;have z2:=pz.c 2 _ rfl;have z3:=pz.c 3 _ rfl;have o0:=plq.c 0 _ rfl;have o1:=plq.c 1 _ rfl;have o2:=plq.c 2 _ rfl;have o3:=plq.c 3 _ rfl;have g0:=plq.f 0 _ rfl;have g1:=plq.f 1 _ rfl;have g2:=plq.f 2 _ rfl;have g3:=plq.f 3 _ rfl;have HWZ:=Lib.hid hwz;have HBZ:=Lib.hid hbz;have HZ0:=Lib.hid z0;have HZ1:=Lib.hid z1;have HZ2:=Lib.hid z2;have HZ3:=Lib.hid z3;clear hbq plq hwz pz hbz z0 z1 z2 z3;go_wp2;clear o0 o1 o2 o3 g0 g1 g2 g3;have z0:=HZ0.out;have z1:=HZ1.out;have z2:=HZ2.out;have z3:=HZ3.out;have hwz:=HWZ.out;simp only[setAll] at hwz;rw[hwz];(try simp only[Exit.inBlock,Exit.then]);refine bodyPost_ret (v:= .agg #[.int .i64 1,.int .i64 (t:Int),.int .i64 x2,.int .i64 x2]) ?_ rfl ?_;·simp[results,Tryz.results155,go_sem,z0,z1,z2,z3]
              ·exact⟨by rw[←HQ.out,withinT_edge hlt HALL3.out (by rw[HSE.out,HZ.out]) HSD.out,HK1.out,HK2.out,HX1.out,HX2.out,Int.min_eq_left (by omega),Int.max_eq_right (by omega)];rfl,HBZ.out⟩
            · have hnl:¬x2<x1:=by omega
              have hbq:=HB4.out.trans ((Drew.below ⟨nq,rfl⟩:Below w4.heap.size w4 (w4.drewN nq)).mono HB4.out.size);have plq:=PL.out.below hbq;obtain⟨wz,hwz⟩:∃wz,setAll (w4.drewN nq) lb 0 [.int .i64 1,.int .i64 (t:Int),.int .i64 x1,.int .i64 x2]=wz:=⟨_,rfl⟩;have pz:Box wz lb [.int .i64 1,.int .i64 (t:Int),.int .i64 x1,.int .i64 x2]:=by rw[←hwz];exact plq.setAll [.int .i64 1,.int .i64 (t:Int),.int .i64 x1,.int .i64 x2] rfl
              have hbz:Below w.heap.size w wz:=by rw[←hwz];exact below_setAll (HB3.out.trans (hbq.mono HB3.out.size)) HLW.out _
              have z0:=pz.c 0 _ rfl;have z1:=pz.c 1 _ rfl;have z2:=pz.c 2 _ rfl;have z3:=pz.c 3 _ rfl;have o0:=plq.c 0 _ rfl;have o1:=plq.c 1 _ rfl;have o2:=plq.c 2 _ rfl;have o3:=plq.c 3 _ rfl;have g0:=plq.f 0 _ rfl;have g1:=plq.f 1 _ rfl;have g2:=plq.f 2 _ rfl;have g3:=plq.f 3 _ rfl;have HWZ:=Lib.hid hwz;have HBZ:=Lib.hid hbz;have HZ0:=Lib.hid z0;have HZ1:=Lib.hid z1;have HZ2:=Lib.hid z2;have HZ3:=Lib.hid z3;clear hbq plq hwz pz hbz z0 z1 z2 z3;go_wp2;clear o0 o1 o2 o3 g0 g1 g2 g3;have z0:=HZ0.out;have z1:=HZ1.out;have z2:=HZ2.out;have z3:=HZ3.out;have hwz:=HWZ.out;simp only[setAll] at hwz;rw[hwz];(try simp only[Exit.inBlock,Exit.then]);refine bodyPost_ret (v:= .agg #[.int .i64 1,.int .i64 (t:Int),.int .i64 x1,.int .i64 x2]) ?_ rfl ?_;·simp[results,Tryz.results155,go_sem,z0,z1,z2,z3]
              ·exact⟨by rw[←HQ.out,withinT_edge hlt HALL3.out (by rw[HSE.out,HZ.out]) HSD.out,HK1.out,HK2.out,HX1.out,HX2.out,Int.min_eq_left (by omega),Int.max_eq_right (by omega)];rfl,HBZ.out⟩
          · have hyz:(s==0)=false:=by simpa using hz
            have HZ:=Lib.hid hz;clear hz;go_wp2_with fail;refine HS.out.mono ?_;rintro e w4 ⟨rfl,hb4⟩;have HB4:=Lib.hid (HBR.out.trans (hb4.mono HBR.out.size));clear hb4 c0 c1;go_wp2;go_roundw;case rel=>
              refine⟨i+1,by omega,by go_num,HB4.out,fun j hj=>?_⟩;rcases Nat.lt_or_ge j i with g|g;·exact HSD.out j g
              · obtain rfl:j=i:=by omega
                rw[HSE.out];exact HZ.out
            case measure=>simp[intOf];omega
        · obtain rfl:i=3:=by omega
          have hbq:=HBR.out;have plq:=PL.out.below hbq;obtain⟨wz,hwz⟩:∃wz,setAll wr lb 0 [.int .i64 0,.int .i64 (t:Int),.int .i64 0,.int .i64 0]=wz:=⟨_,rfl⟩;have pz:Box wz lb [.int .i64 0,.int .i64 (t:Int),.int .i64 0,.int .i64 0]:=by rw[←hwz];exact plq.setAll [.int .i64 0,.int .i64 (t:Int),.int .i64 0,.int .i64 0] rfl
          have hbz:Below w.heap.size w wz:=by rw[←hwz];exact below_setAll (HB3.out.trans (hbq.mono HB3.out.size)) HLW.out _
          have z0:=pz.c 0 _ rfl;have z1:=pz.c 1 _ rfl;have z2:=pz.c 2 _ rfl;have z3:=pz.c 3 _ rfl;have o0:=plq.c 0 _ rfl;have o1:=plq.c 1 _ rfl;have o2:=plq.c 2 _ rfl;have o3:=plq.c 3 _ rfl;have g0:=plq.f 0 _ rfl;have g1:=plq.f 1 _ rfl;have g2:=plq.f 2 _ rfl;have g3:=plq.f 3 _ rfl;have HWZ:=Lib.hid hwz;have HBZ:=Lib.hid hbz;have HZ0:=Lib.hid z0;have HZ1:=Lib.hid z1;have HZ2:=Lib.hid z2;have HZ3:=Lib.hid z3;clear hbq plq hwz pz hbz z0 z1 z2 z3;go_wp2;clear o0 o1 o2 o3 g0 g1 g2 g3;have z0:=HZ0.out;have z1:=HZ1.out;have z2:=HZ2.out;have z3:=HZ3.out;have hwz:=HWZ.out;simp only[setAll] at hwz;rw[hwz];(try simp only[Exit.inBlock,Exit.then]);refine bodyPost_ret (v:= .agg #[.int .i64 0,.int .i64 (t:Int),.int .i64 0,.int .i64 0]) ?_ rfl ?_;·simp[results,Tryz.results155,go_sem,z0,z1,z2,z3]
          ·exact⟨by rw[←HQ.out,withinT_in HALL3.out HSD.out];rfl,HBZ.out⟩
end Go.Proofs.YtdmfbkhafnkcfaaGreat
namespace Go.MagM
open Go.RowKit
def firstN(f:Nat→Bool):Nat→Option Nat|0=>none|n+1=>match firstN f n with|some j=>some j|none=>if f n=true then some n else none
theorem firstN_none{f:Nat→Bool}:∀{n:Nat},(∀j,j<n→f j=false)→firstN f n=none|0,_=>rfl|n+1,h=>by rw[firstN,firstN_none (fun j hj=>h j (by omega))];simp only[];rw[h n (by omega)];rfl
theorem firstN_at{f:Nat→Bool}{k:Nat}(hf:f k=true)(hn:∀j,j<k→f j=false):∀{n:Nat},k<n→firstN f n=some k
  |n+1,h=>by
    rcases Nat.lt_or_ge k n with g|g;·rw[firstN,firstN_at hf hn g]
    · obtain rfl:k=n:=by omega
      rw[firstN,firstN_none hn];simp only[];rw[hf];rfl
theorem firstN_some{f:Nat→Bool}{k:Nat}:∀{n:Nat},firstN f n=some k→k<n∧f k=true∧∀j,j<k→f j=false|0,h=>by cases h|n+1,h=>by rw[firstN] at h;cases hc:firstN f n with
    |some j=>
      rw[hc] at h;simp only[] at h;cases h;obtain⟨a,b,c⟩:=firstN_some hc;exact⟨by omega,b,c⟩|none=>
      rw[hc] at h;simp only[] at h;split at h
      · rename_i hf;cases h;refine⟨by omega,hf,fun j hj=>?_⟩;cases hj2:f j with|false=>rfl|true=>exact absurd (firstN_ex hj2 hj) (by rw[hc];simp)
      ·cases h where firstN_ex{f:Nat→Bool}{j:Nat}(hf:f j=true):∀{n:Nat},j<n→firstN f n≠none
  |n+1,h=>by
    rw[firstN];cases hc:firstN f n with
    |some k=>simp|none=>
      simp only[];rcases Nat.lt_or_ge j n with g|g;·exact absurd hc (firstN_ex hf g)
      · obtain rfl:j=n:=by omega
        rw[hf];simp
def heldAt(P:List (Int×Int))(S:List TriM)(p:Int×Int)(k:Nat):Bool:=match S[k]? with|some T=>realT T&&holdsT P T p|none=>false
def faceAt(P:List (Int×Int))(S:List TriM)(p:Int×Int)(k:Nat):Bool:=match S[k]? with|some T=>facesT P T p|none=>false
def encN:Option Nat→Int|some k=>(k:Int)|none=>-1
def lookM(P:List (Int×Int))(S:List TriM)(p:Int×Int):Int×Int×Int×Int:=match firstN (heldAt P S p) S.length with|some t=>(match S[t]? with|some T=>withinT P T t p|none=>(0,0,0,0))|none=>(3,encN (firstN (faceAt P S p) S.length),0,0)
theorem look_held{P:List (Int×Int)}{S:List TriM}{p:Int×Int}{t:Nat}{T:TriM}(hT:S[t]?=some T)(h:(realT T&&holdsT P T p)=true)(hn:∀j,j<t→heldAt P S p j=false):lookM P S p=withinT P T t p:=by
  have ha:heldAt P S p t=true:=by unfold heldAt;rw[hT];exact h
  unfold lookM;rw[firstN_at ha hn (List.getElem?_eq_some_iff.1 hT).1];simp only[hT]
theorem look_out{P:List (Int×Int)}{S:List TriM}{p:Int×Int}(hn:∀j,j<S.length→heldAt P S p j=false):lookM P S p=(3,encN (firstN (faceAt P S p) S.length),0,0):=by unfold lookM;rw[firstN_none hn]
def LookIn(P:List (Int×Int))(S:List TriM):Prop:=∀(t:Nat)(T:TriM),S[t]?=some T→RealIn P T∧FaceIn P T
end Go.MagM
namespace Go.Proofs.YtdmfbkhafnkcfaaGreat
open Go.RowKit Go.MagM
set_option maxRecDepth 100000 in set_option maxHeartbeats 8000000 in theorem Look_any{mb pb pc:Nat}{ta:Option Addr}{tc:Nat}{P:List (Int×Int)}{S:List TriM}(p:Int×Int)(w:World)(h:MeshR w mb pb pc ta tc P S)(hP:InPs P)(hp:InP p.1∧InP p.2)(hl:LookIn P S):Calls Tryz.prog 71 #[.pointer (some ⟨mb,0,none⟩),.agg #[.int .i64 p.1,.int .i64 p.2]] w fun e w'=>e= .returned (placeV (lookM P S p))∧Below w.heap.size w w':=by
  obtain⟨w1,hw1,pp,hb1,hs1⟩:=new_box w _ rfl [.int .i64 p.1,.int .i64 p.2] 33;obtain⟨lb,hlb⟩:∃lb,w1.heap.size=lb:=⟨_,rfl⟩;obtain⟨w2,hw2,pl,hb2,hs2⟩:=new_box w1 _ rfl [.int .i64 0,.int .i64 0,.int .i64 0,.int .i64 0] 89;rw[hlb] at pl;have hB2:Below w.heap.size w w2:=hb1.trans (hb2.mono hb1.size);have pp2:=pp.below hb2;have hlw:w.heap.size≤lb:=by rw[←hlb];exact hb1.size
  obtain⟨len,hlen⟩:∃len,S.length=len:=⟨_,rfl⟩;have e1:=(h.below hB2).box.c 1 _ rfl;have hsh:=h.short;rw[hlen] at e1 hsh;have hho:∀(t:Nat)(T:TriM)(wr:World),S[t]?=some T→Below w.heap.size w wr→Calls Tryz.prog 154 #[.pointer (some ⟨mb,0,none⟩),.int .i64 (t:Int),.agg #[.int .i64 p.1,.int .i64 p.2]] wr fun e w'=>e= .returned (.bool (realT T&&holdsT P T p))∧Below wr.heap.size wr w':=fun t T wr hT hb=>Holds_any t T p wr (h.below hb) hP hp hT (hl t T hT).1;have hwi:∀(t:Nat)(T:TriM)(wr:World),S[t]?=some T→realT T=true→Below w.heap.size w wr→Calls Tryz.prog 155 #[.pointer (some ⟨mb,0,none⟩),.int .i64 (t:Int),.agg #[.int .i64 p.1,.int .i64 p.2]] wr fun e w'=>e= .returned (placeV (withinT P T t p))∧Below wr.heap.size wr w':=fun t T wr hT hr hb=>wwithin_any t T p wr (h.below hb) hP hp hT ((hl t T hT).1 hr);have hfa:∀(t:Nat)(T:TriM)(wr:World),S[t]?=some T→Below w.heap.size w wr→Calls Tryz.prog 156 #[.pointer (some ⟨mb,0,none⟩),.int .i64 (t:Int),.agg #[.int .i64 p.1,.int .i64 p.2]] wr fun e w'=>e= .returned (.bool (facesT P T p))∧Below wr.heap.size wr w':=fun t T wr hT hb=>faces_any t T p wr (h.below hb) hP hp hT (hl t T hT).2;obtain⟨q,hq⟩:∃q,lookM P S p=q:=⟨_,rfl⟩;rw[hq];have HQ:=Lib.hid hq;have HO:=Lib.hid hho;have WI:=Lib.hid hwi;have FA:=Lib.hid hfa;have HB2:=Lib.hid hB2;have PL:=Lib.hid pl;have PP:=Lib.hid pp2;have HLW:=Lib.hid hlw;have HLEN:=Lib.hid hlen;clear h hP hp hl hq hho hwi hfa hb1 hb2 hB2 pp pl pp2 hlw hs1 hs2 hlen;go_enter Tryz.func71,Tryz.ntmps71;go_wp2;clear e1;go_loopw [5,6,12] (fun gv _ iv wr=>∃(i:Nat) (g:Option Nat),i≤len∧iv= .int .i64 (i:Int)∧gv= .int .i64 (encN g)∧g=firstN (faceAt P S p) i∧Below w2.heap.size w2 wr∧∀j,j<i→heldAt P S p j=false) (fun _ _ iv _=>len-(intOf iv).toNat);case atStart=>exact⟨0,none,by omega,rfl,rfl,rfl,Below.refl _ _,fun j hj=>absurd hj (by omega)⟩
  case round=>
    obtain⟨i,g,hi,rfl,rfl,hg,hbw,hall⟩:=hrel;have HBW:=Lib.hid hbw;have HALL:=Lib.hid hall;have HG:=Lib.hid hg;have HBW0:=Lib.hid (HB2.out.trans (hbw.mono HB2.out.size));clear hbw hall hg;by_cases hlt:i<len
    · have hyd:decide ((i:Int)<(len:Int))=true:=decide_eq_true (by omega);obtain⟨T,hT⟩:∃T,S[i]?=some T:=⟨_,List.getElem?_eq_getElem (by rw[HLEN.out];exact hlt)⟩;have ho:=HO.out i T wr hT HBW0.out;obtain⟨b,hb⟩:∃b,(realT T&&holdsT P T p)=b:=⟨_,rfl⟩;rw[hb] at ho;have c0:=(PP.out.below HBW.out).c 0 _ rfl;have c1:=(PP.out.below HBW.out).c 1 _ rfl;have HHO:=Lib.hid ho;have HT:=Lib.hid hT;have HBT:=Lib.hid hb;clear ho hT hb;cases b with
      |true=>
        go_wp2_with fail;refine HHO.out.mono ?_;rintro e w3 ⟨rfl,hb3⟩;have hbr:realT T=true:=by have:=HBT.out;rw[Bool.and_eq_true] at this;exact this.1
        have hb03:=HBW0.out.trans (hb3.mono HBW0.out.size);have hw:=WI.out i T w3 HT.out hbr hb03;obtain⟨⟨x0,x1,x2,x3⟩,hx⟩:∃x,withinT P T i p=x:=⟨_,rfl⟩;rw[hx] at hw;unfold placeV at hw;simp only[] at hw;have hb33:=HBW.out.trans (hb3.mono HBW.out.size);have d0:=(PP.out.below hb33).c 0 _ rfl;have d1:=(PP.out.below hb33).c 1 _ rfl;have HWI:=Lib.hid hw;have HX:=Lib.hid hx;have HB33:=Lib.hid hb33;clear c0 c1 hb3 hbr hb03 hw hx hb33;go_wp2_with fail;refine HWI.out.mono ?_;rintro e w4 ⟨rfl,hb4⟩;have hbq:=HB33.out.trans (hb4.mono HB33.out.size);clear d0 d1 hb4;have plq:=PL.out.below hbq;obtain⟨wz,hwz⟩:∃wz,setAll w4 lb 0 [.int .i64 x0,.int .i64 x1,.int .i64 x2,.int .i64 x3]=wz:=⟨_,rfl⟩;have pz:Box wz lb [.int .i64 x0,.int .i64 x1,.int .i64 x2,.int .i64 x3]:=by rw[←hwz];exact plq.setAll [.int .i64 x0,.int .i64 x1,.int .i64 x2,.int .i64 x3] rfl
        have hbz:Below w.heap.size w wz:=by rw[←hwz];exact below_setAll (HB2.out.trans (hbq.mono HB2.out.size)) HLW.out _
        have z0:=pz.c 0 _ rfl;have z1:=pz.c 1 _ rfl;have z2:=pz.c 2 _ rfl;have z3:=pz.c 3 _ rfl;have o0:=plq.c 0 _ rfl;have o1:=plq.c 1 _ rfl;have o2:=plq.c 2 _ rfl;have o3:=plq.c 3 _ rfl;have g0:=plq.f 0 _ rfl;have g1:=plq.f 1 _ rfl;have g2:=plq.f 2 _ rfl;have g3:=plq.f 3 _ rfl;have HWZ:=Lib.hid hwz;have HBZ:=Lib.hid hbz;have HZ0:=Lib.hid z0;have HZ1:=Lib.hid z1;have HZ2:=Lib.hid z2;have HZ3:=Lib.hid z3;clear hbq plq hwz pz hbz z0 z1 z2 z3;go_wp2;clear o0 o1 o2 o3 g0 g1 g2 g3;have z0:=HZ0.out;have z1:=HZ1.out;have z2:=HZ2.out;have z3:=HZ3.out;have hwz:=HWZ.out;simp only[setAll] at hwz;rw[hwz];(try simp only[Exit.inBlock,Exit.then]);refine bodyPost_ret (v:= .agg #[.int .i64 x0,.int .i64 x1,.int .i64 x2,.int .i64 x3]) ?_ rfl ?_;·simp[results,Tryz.results71,go_sem,z0,z1,z2,z3]
        ·exact⟨by rw[←HQ.out,look_held HT.out HBT.out HALL.out,HX.out];rfl,HBZ.out⟩|false=>
        have hall':∀j,j<i+1→heldAt P S p j=false:=fun j hj=>by
          rcases Nat.lt_or_ge j i with g|g;·exact HALL.out j g
          · obtain rfl:j=i:=by omega
            unfold heldAt;rw[HT.out];exact HBT.out
        have HALL':=Lib.hid hall';clear hall';cases g with
        |some u=>
          have hyu:((u:Int)==-1)=false:=by simp
          have hfn:firstN (faceAt P S p) (i+1)=some u:=by rw[firstN,←HG.out]
          have HFN:=Lib.hid hfn;clear hfn;unfold encN;go_wp2_with fail;refine HHO.out.mono ?_;rintro e w3 ⟨rfl,hb3⟩;have HB33:=Lib.hid (HBW.out.trans (hb3.mono HBW.out.size));clear c0 c1 hb3;go_wp2;go_roundw;case rel=>exact⟨i+1,some u,by omega,by go_num,rfl,HFN.out.symm,HB33.out,HALL'.out⟩
          case measure=>simp[intOf];omega|none=>
          have hfc:firstN (faceAt P S p) (i+1)=if facesT P T p=true then some i else none:=by
            rw[firstN,←HG.out];simp only[];unfold faceAt;rw[HT.out]
          obtain⟨f,hf⟩:∃f,facesT P T p=f:=⟨_,rfl⟩;rw[hf] at hfc;have HF:=Lib.hid hf;have HFC:=Lib.hid hfc;clear hf hfc;unfold encN;go_wp2_with fail;refine HHO.out.mono ?_;rintro e w3 ⟨rfl,hb3⟩;have hb33:=HBW.out.trans (hb3.mono HBW.out.size);have hff:=FA.out i T w3 HT.out (HBW0.out.trans (hb3.mono HBW0.out.size));rw[HF.out] at hff;have d0:=(PP.out.below hb33).c 0 _ rfl;have d1:=(PP.out.below hb33).c 1 _ rfl;have HFF:=Lib.hid hff;have HB33:=Lib.hid hb33;clear c0 c1 hb3 hb33 hff;go_wp2_with fail;refine HFF.out.mono ?_;rintro e w4 ⟨rfl,hb4⟩;have HB44:=Lib.hid (HB33.out.trans (hb4.mono HB33.out.size));clear hb4 d0 d1;cases f with
          |true=>
            go_wp2;go_roundw;case rel=>exact⟨i+1,some i,by omega,by go_num,rfl,HFC.out.symm,HB44.out,HALL'.out⟩
            case measure=>simp[intOf];omega|false=>
            go_wp2;go_roundw;case rel=>exact⟨i+1,none,by omega,by go_num,rfl,HFC.out.symm,HB44.out,HALL'.out⟩
            case measure=>simp[intOf];omega
    · obtain rfl:i=len:=by omega
      obtain⟨x1,hx1⟩:∃x1,encN g=x1:=⟨_,rfl⟩;rw[hx1];have HX1:=Lib.hid hx1;clear hx1;have hbq:=HBW.out;have plq:=PL.out.below hbq;obtain⟨wz,hwz⟩:∃wz,setAll wr lb 0 [.int .i64 3,.int .i64 x1,.int .i64 0,.int .i64 0]=wz:=⟨_,rfl⟩;have pz:Box wz lb [.int .i64 3,.int .i64 x1,.int .i64 0,.int .i64 0]:=by rw[←hwz];exact plq.setAll [.int .i64 3,.int .i64 x1,.int .i64 0,.int .i64 0] rfl
      have hbz:Below w.heap.size w wz:=by rw[←hwz];exact below_setAll (HB2.out.trans (hbq.mono HB2.out.size)) HLW.out _
      have z0:=pz.c 0 _ rfl;have z1:=pz.c 1 _ rfl;have z2:=pz.c 2 _ rfl;have z3:=pz.c 3 _ rfl;have o0:=plq.c 0 _ rfl;have o1:=plq.c 1 _ rfl;have o2:=plq.c 2 _ rfl;have o3:=plq.c 3 _ rfl;have g0:=plq.f 0 _ rfl;have g1:=plq.f 1 _ rfl;have g2:=plq.f 2 _ rfl;have g3:=plq.f 3 _ rfl;have HWZ:=Lib.hid hwz;have HBZ:=Lib.hid hbz;have HZ0:=Lib.hid z0;have HZ1:=Lib.hid z1;have HZ2:=Lib.hid z2;have HZ3:=Lib.hid z3;clear hbq plq hwz pz hbz z0 z1 z2 z3;go_wp2;clear o0 o1 o2 o3 g0 g1 g2 g3;have z0:=HZ0.out;have z1:=HZ1.out;have z2:=HZ2.out;have z3:=HZ3.out;have hwz:=HWZ.out;simp only[setAll] at hwz;rw[hwz];(try simp only[Exit.inBlock,Exit.then]);refine bodyPost_ret (v:= .agg #[.int .i64 3,.int .i64 x1,.int .i64 0,.int .i64 0]) ?_ rfl ?_;·simp[results,Tryz.results71,go_sem,z0,z1,z2,z3]
      ·exact⟨by rw[←HQ.out,look_out (fun j hj=>HALL.out j (by rw[←HLEN.out];exact hj)),HLEN.out,←HG.out,HX1.out];rfl,HBZ.out⟩
end Go.Proofs.YtdmfbkhafnkcfaaGreat
namespace Go.MagM
open Go.RowKit
abbrev RA(S:List TriM):={x:Nat×TriM//S[x.1]?=some x.2∧realT x.2=true}
def triV(T:TriM):Value:= .agg #[.int .i64 T.v0,.int .i64 T.v1,.int .i64 T.v2,.int .i64 T.n0,.int .i64 T.n1,.int .i64 T.n2,.bool T.f0,.bool T.f1,.bool T.f2]
def encA{S:List TriM}(x:RA S):Array Value:=#[.int .i64 (x.1.1:Int),triV x.1.2]
def realsK(S:List TriM):Nat→List (Nat×TriM)|0=>[]|k+1=>realsK S k++(match S[k]? with|some T=>if realT T=true then[(k,T)] else[]|none=>[])
theorem realsK_yes{S:List TriM}{k:Nat}{T:TriM}(h:S[k]?=some T)(hr:realT T=true):realsK S (k+1)=realsK S k++[(k,T)]:=by rw[realsK,h];simp only[];rw[if_pos hr]
theorem realsK_no{S:List TriM}{k:Nat}{T:TriM}(h:S[k]?=some T)(hr:realT T=false):realsK S (k+1)=realsK S k:=by rw[realsK,h];simp only[];rw[if_neg (by rw[hr];decide),List.append_nil]
theorem realsK_len(S:List TriM):∀k,(realsK S k).length≤k|0=>Nat.le_refl _|k+1=>by have:=realsK_len S k;rw[realsK,List.length_append];cases S[k]? with|none=>simp;omega|some T=>simp only[];split<;>simp<;>omega
theorem realsK_pre(S:List TriM):∀m k,k≤m→realsK S k<+:realsK S m
  |0,k,h=>by
    obtain rfl:k=0:=by omega
    exact List.prefix_refl _|m+1,k,h=>by
    rcases Nat.lt_or_ge k (m+1) with g|g;·exact(realsK_pre S m k (by omega)).trans ⟨_,rfl⟩
    · obtain rfl:k=m+1:=by omega
      exact List.prefix_refl _
theorem grown_drewN(w:World)(q:Nat)(row:Option Nat):w.grownBy (w.drewN q) row:=⟨rfl,rfl,rfl,Nat.le_refl _,fun _ _ _=>rfl⟩
end Go.MagM
namespace Go.Proofs.YtdmfbkhafnkcfaaGreat
open Go.RowKit Go.MagM Go.Shelf
attribute [local go_sem] Oper.semAt_some
set_option maxRecDepth 100000 in set_option maxHeartbeats 8000000 in theorem all1_any(n:Nat)(hn:1≤n)(l Bm:Nat)(Pb:Nat→Prop){mb pb pc:Nat}{ta:Option Addr}{tc:Nat}{P:List (Int×Int)}{S:List TriM}(J Jx:List (RA S)→World→Prop)(hY:∀pre x W,J pre W→pre.length<S.length→YieldAt Fence.wide (n-1) Tryz.prog l (encA x) W fun e W'=>(e= .returned (.bool true)∧J (pre++[x]) W'∧KeepB Pb W W')∨(e= .returned (.bool false)∧Jx (pre++[x]) W'))(hD:∀pre W q,J pre W→J pre (W.drewN q))(W:World)(hm:MeshR W mb pb pc ta tc P S)(hin:MeshIn Pb mb pb ta)(hBm:W.cell? ⟨Bm,0,none⟩=some (.pointer (some ⟨mb,0,none⟩)))(hPm:Pb Bm)(h0:J [] W):CallsIn Fence.wide n Tryz.prog 91 #[.func (.yield l) #[] #[],.pointer (some ⟨Bm,0,none⟩)] W fun e W'=>(∃v,e= .returned v)∧((∃ys:List (RA S),ys.map (·.1)=realsK S S.length∧J ys W')∨(∃pre:List (RA S),pre.map (·.1)<+:realsK S S.length∧Jx pre W')):=by
  have hF:∀k,Fence.wide.fn k:=fun _=>trivial;have hsh:=hm.short.2;obtain⟨len,hlen⟩:∃len,S.length=len:=⟨_,rfl⟩;have b0:=hm.box.c0;have b1:=hm.box.c1;rw[hlen] at b1 hsh;have HM:=Lib.hid hm;have HLEN:=Lib.hid hlen;have HD:=Lib.hid hD;clear hm hlen hD;refine callsIn_of_wp Tryz.func91 rfl trivial ?_ rfl;simp only[Tryz.ntmps91,List.size_toArray,List.length_cons,List.length_nil,Nat.reduceAdd,Nat.reduceSub,Array.replicate_succ,Array.replicate_zero,List.push_toArray,List.append_toArray,List.nil_append,List.cons_append];gi_wp2;clear b0 b1;gi_loopw [3,9] (fun _ iv wr=>∃(i:Nat) (pre:List (RA S)),i≤len∧iv= .int .i64 i∧pre.map (·.1)=realsK S i∧J pre wr∧KeepB Pb W wr) (fun _ iv _=>len-(intOf iv).toNat);case atStart=>exact⟨0,[],Nat.zero_le _,rfl,rfl,h0,KeepB.refl _ _⟩
  case round=>
    obtain⟨i,pre,hi,rfl,hpre,hJs,hnx⟩:=hrel;have HPRE:=Lib.hid hpre;clear hpre;by_cases hlt:i<len
    · have hcm:wr.cell? ⟨Bm,0,none⟩=some (.pointer (some ⟨mb,0,none⟩)):=(hnx.cell hPm).trans hBm;have hm_0:=HM.out.keep hin hnx;obtain⟨T,hT⟩:∃T,S[i]?=some T:=⟨_,List.getElem?_eq_getElem (by rw[HLEN.out];exact hlt)⟩;have hre:=Real_any (i:Int) wr hm_0;have hrm:realM S (i:Int)=realT T:=by unfold realM;rw[getT_nat,hT]
      rw[hrm] at hre;obtain⟨r,hr⟩:∃r,realT T=r:=⟨_,rfl⟩;rw[hr] at hre;have HRE:=Lib.hid hre;have HR:=Lib.hid hr;have HT:=Lib.hid hT;have HM0:=Lib.hid hm_0;clear hre hr hT hm_0 hrm;cases r with
      |false=>
        gi_wp2_with fail;refine(callsIn_wide.2 HRE.out).mono ?_;rintro e w' ⟨rfl,q,rfl⟩;gi_wp2;go_roundw;case rel=>exact⟨i+1,pre,by omega,by go_num,by rw[realsK_no HT.out HR.out];exact HPRE.out,HD.out _ _ _ hJs,hnx.drew q⟩
        case measure=>simp[intOf];omega|true=>
        obtain⟨x,hx⟩:∃x:RA S,x.1=(i,T):=⟨⟨(i,T),HT.out,HR.out⟩,rfl⟩;have hpl:pre.length<S.length:=by
          have h1:=congrArg List.length HPRE.out;have h2:=realsK_len S i;rw[List.length_map] at h1;rw[HLEN.out];omega
        have hyy:=fun q=>hY pre x (wr.drewN q) (HD.out _ _ _ hJs) hpl;have HYY:=Lib.hid hyy;have HX:=Lib.hid hx;have HNX:=Lib.hid hnx;have HCM:=Lib.hid hcm;clear hyy hx hnx;gi_wp2_with fail;refine(callsIn_wide.2 HRE.out).mono ?_;rintro e w' ⟨rfl,q,rfl⟩;have hm_1:=HM0.out.drewN q;obtain⟨tb,hta,-,ht9⟩:=hm_1.tris.get HT.out;subst hta;have e0:=hm_1.box.c0;have e1:=hm_1.box.c1;rw[HLEN.out] at e1;have hcm1:(wr.drewN q).cell? ⟨Bm,0,none⟩=some (.pointer (some ⟨mb,0,none⟩)):=HCM.out;obtain⟨c0,c1,c2,c3,c4,c5,c6,c7,c8⟩:=ht9;have hb1:(0:Int)≤(i:Int):=by omega
        have hb2:(i:Int)<(len:Int):=by omega
        obtain⟨fn,tmps,assign,body,hy,hR⟩:=HYY.out q;unfold encA triV at hy;rw[HX.out] at hy;dsimp only at hy;have hkk:KeepB Pb W (wr.drewN q):=HNX.out.drew q;have HKK:=Lib.hid hkk;clear hm_1 hkk hcm;obtain⟨wd,hwd⟩:∃wd,wr.drewN q=wd:=⟨_,rfl⟩;rw[hwd] at e0 e1 hcm1 c0 c1 c2 c3 c4 c5 c6 c7 c8 hy hR HKK;rw[hwd];clear hwd;gi_wp2;refine hR.mono ?_;rintro e W3 (⟨rfl,hJ3,hk3'⟩|⟨rfl,hJx3⟩)
        · have hkk:=HKK.out;gi_wp2;go_roundw;case rel=>exact⟨i+1,pre++[x],by omega,by go_num,by rw[realsK_yes HT.out HR.out,List.map_append,HPRE.out,List.map_cons,List.map_nil,HX.out],hJ3,hkk.trans hk3'⟩
          case measure=>simp[intOf];omega
        · gi_wp2;refine bodyPost_ret (results_none rfl _ _ _) rfl ?_;refine⟨⟨_,rfl⟩,.inr ⟨pre++[x],?_,hJx3⟩⟩;rw[List.map_append,HPRE.out,List.map_cons,List.map_nil,HX.out,←realsK_yes HT.out HR.out];exact realsK_pre S _ _ (by rw[HLEN.out];omega)
    · obtain rfl:i=len:=by omega
      gi_wp2;go_end0;exact⟨⟨_,rfl⟩,.inl ⟨pre,by rw[HPRE.out,HLEN.out],hJs⟩⟩
end Go.Proofs.YtdmfbkhafnkcfaaGreat
namespace Go.Proofs.YtdmfbkhafnkcfaaGreat
open Go.RowKit Go.MagM Go.Shelf
set_option maxRecDepth 100000 in set_option maxHeartbeats 4000000 in theorem All_any(p:Option Addr)(w:World):Calls Tryz.prog 26 #[.pointer p] w fun e w'=>e= .returned (.func (.func 91) #[] #[.pointer (some ⟨w.heap.size,0,none⟩)])∧w.alloc (.cells #[.pointer p] 25)=w':=by go_enter Tryz.func26,Tryz.ntmps26;go_wp2;go_ret;exact⟨rfl,rfl⟩
theorem all_stops(n:Nat)(hn:1≤n)(Bm:Nat)(Pb:Nat→Prop){mb pb pc:Nat}{ta:Option Addr}{tc:Nat}{P:List (Int×Int)}{S:List TriM}(w:World)(hlt:∀b,Pb b→b<w.heap.size)(hm:MeshR w mb pb pc ta tc P S)(hin:MeshIn Pb mb pb ta)(hBm:w.cell? ⟨Bm,0,none⟩=some (.pointer (some ⟨mb,0,none⟩)))(hPm:Pb Bm):SeqStopsK Fence.wide n Tryz.prog 91 #[.pointer (some ⟨Bm,0,none⟩)] (encA (S:=S)) (KeepB Pb) (fun xs=>xs.map (·.1)=realsK S S.length) (fun pre=>pre.map (·.1)<+:realsK S S.length) S.length w:=by
  intro l J Jx W hW hJ hJx hY h0;have hcm:W.cell? ⟨Bm,0,none⟩=some (.pointer (some ⟨mb,0,none⟩)):=(hW.cell (p:=⟨Bm,0,none⟩) (hlt Bm hPm)).trans hBm;refine(all1_any n hn l Bm Pb J Jx hY (fun pre W' q h=>hJ pre W' (W'.drewN q) none h (grown_drewN W' q none) (fun r e=>by cases e)) W (hm.below hW) hin hcm hPm h0).mono ?_;rintro e W' ⟨he,h⟩;refine⟨he,?_⟩;rcases h with⟨ys,h1,h2⟩|⟨pre,h1,h2⟩;·exact .inl ⟨ys,h1,h2⟩
  ·exact .inr ⟨pre,h1,h2⟩
end Go.Proofs.YtdmfbkhafnkcfaaGreat
