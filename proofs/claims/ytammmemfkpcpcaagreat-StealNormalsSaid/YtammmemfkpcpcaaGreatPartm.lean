import Derived.Test.YtammmemfkpcpcaaGreatPartl
import Derived.Test.YtammmemfkpcpcaaGreatPartj
import Derived.BigQuiet
import Derived.Deep.QuietTactic
import Derived.Lib.Hide
import Derived.IntWalk
set_option linter.unusedSimpArgs false
set_option linter.unusedVariables false
namespace Go.MagM
open Go.RowKit
def TrisAt(w:World)(ao:Option Addr)(l:List TriM):Prop:=∀i T,l[i]?=some T→∃b,ao=some ⟨b,0,none⟩∧∀j v,T.cells[j]?=some v→w.cell? ⟨b,i*9+j,none⟩=some v
def PtsIn(w:World)(b:Nat)(l:List (Int×Int)):Prop:=∀i x y,l[i]?=some (x,y)→w.cell? ⟨b,i*2,none⟩=some (.int .i64 x)∧w.cell? ⟨b,i*2+1,none⟩=some (.int .i64 y)
structure MeshR(w:World)(mb pb pc:Nat)(ta:Option Addr)(tc:Nat)(P:List (Int×Int))(S:List TriM):Prop where
  box:Box w mb [.slice (some ⟨pb,0,none⟩) P.length pc,.slice ta S.length tc]
  pts:PtsIn w pb P
  tris:TrisAt w ta S
  short:P.length≤1000000∧S.length≤1000000
theorem TrisAt.below{w w':World}{ao:Option Addr}{l:List TriM}(h:TrisAt w ao l)(hb:Below w.heap.size w w'):TrisAt w' ao l:=by intro i T hi;obtain⟨b,h0,h1⟩:=h i T hi;exact⟨b,h0,fun j v hj=>(hb.cell (p:=⟨b,i*9+j,none⟩) (World.block_lt_of_cell? w _ (h1 j v hj))).trans (h1 j v hj)⟩
theorem PtsIn.below{w w':World}{b:Nat}{l:List (Int×Int)}(h:PtsIn w b l)(hb:Below w.heap.size w w'):PtsIn w' b l:=by intro i x y hi;obtain⟨h1,h2⟩:=h i x y hi;have hlt:=World.block_lt_of_cell? w _ h1;exact⟨(hb.cell (p:=⟨b,i*2,none⟩) hlt).trans h1,(hb.cell (p:=⟨b,i*2+1,none⟩) hlt).trans h2⟩
theorem MeshR.below{w w':World}{mb pb pc:Nat}{ta:Option Addr}{tc:Nat}{P:List (Int×Int)}{S:List TriM}(h:MeshR w mb pb pc ta tc P S)(hb:Below w.heap.size w w'):MeshR w' mb pb pc ta tc P S:=⟨h.box.below hb,h.pts.below hb,h.tris.below hb,h.short⟩
theorem MeshR.drew{w:World}{mb pb pc:Nat}{ta:Option Addr}{tc:Nat}{P:List (Int×Int)}{S:List TriM}(h:MeshR w mb pb pc ta tc P S):MeshR w.drew mb pb pc ta tc P S:=⟨h.box.drew,h.pts,h.tris,h.short⟩
theorem MeshR.drewN{w:World}{mb pb pc:Nat}{ta:Option Addr}{tc:Nat}{P:List (Int×Int)}{S:List TriM}(h:MeshR w mb pb pc ta tc P S)(q:Nat):MeshR (w.drewN q) mb pb pc ta tc P S:=⟨h.box.drewN q,h.pts,h.tris,h.short⟩
theorem MeshR.pt{w:World}{mb pb pc:Nat}{ta:Option Addr}{tc:Nat}{P:List (Int×Int)}{S:List TriM}(h:MeshR w mb pb pc ta tc P S){i:Nat}{x y:Int}(hi:P[i]?=some (x,y)):w.cell? ⟨pb,i*2,none⟩=some (.int .i64 x)∧w.cell? ⟨pb,i*2+1,none⟩=some (.int .i64 y):=h.pts i x y hi
structure At9i(w:World)(b o:Nat)(T:TriM):Prop where
  c0:w.cell? ⟨b,o,none⟩=some (.int .i64 T.v0)
  c1:w.cell? ⟨b,o+1,none⟩=some (.int .i64 T.v1)
  c2:w.cell? ⟨b,o+2,none⟩=some (.int .i64 T.v2)
  c3:w.cell? ⟨b,o+3,none⟩=some (.int .i64 T.n0)
  c4:w.cell? ⟨b,o+4,none⟩=some (.int .i64 T.n1)
  c5:w.cell? ⟨b,o+5,none⟩=some (.int .i64 T.n2)
  c6:w.cell? ⟨b,o+6,none⟩=some (.bool T.f0)
  c7:w.cell? ⟨b,o+7,none⟩=some (.bool T.f1)
  c8:w.cell? ⟨b,o+8,none⟩=some (.bool T.f2)
theorem TrisAt.get{w:World}{ao:Option Addr}{l:List TriM}(h:TrisAt w ao l){i:Nat}{T:TriM}(hi:l[i]?=some T):∃b,ao=some ⟨b,0,none⟩∧b<w.heap.size∧At9i w b (i*9) T:=by obtain⟨b,h0,h1⟩:=h i T hi;exact⟨b,h0,World.block_lt_of_cell? w _ (h1 0 _ rfl),h1 0 _ rfl,h1 1 _ rfl,h1 2 _ rfl,h1 3 _ rfl,h1 4 _ rfl,h1 5 _ rfl,h1 6 _ rfl,h1 7 _ rfl,h1 8 _ rfl⟩
theorem At9i.below{w w':World}{b o:Nat}{T:TriM}(h:At9i w b o T)(hb:Below w.heap.size w w'):At9i w' b o T:=by have hl:=World.block_lt_of_cell? w _ h.c0;exact⟨(hb.cell (p:=⟨b,o,none⟩) hl).trans h.c0,(hb.cell (p:=⟨b,o+1,none⟩) hl).trans h.c1,(hb.cell (p:=⟨b,o+2,none⟩) hl).trans h.c2,(hb.cell (p:=⟨b,o+3,none⟩) hl).trans h.c3,(hb.cell (p:=⟨b,o+4,none⟩) hl).trans h.c4,(hb.cell (p:=⟨b,o+5,none⟩) hl).trans h.c5,(hb.cell (p:=⟨b,o+6,none⟩) hl).trans h.c6,(hb.cell (p:=⟨b,o+7,none⟩) hl).trans h.c7,(hb.cell (p:=⟨b,o+8,none⟩) hl).trans h.c8⟩
def goneB(T:TriM):Bool:=decide (T.v0=-2∧T.v1=-2∧T.v2=-2)
def getT(S:List TriM)(t:Int):Option TriM:=if 0≤t then S[t.toNat]? else none
def thereB(S:List TriM)(t:Int):Bool:=match getT S t with|none=>false|some T=>!goneB T
theorem getT_nat(S:List TriM)(t:Nat):getT S (t:Int)=S[t]?:=by unfold getT;rw[if_pos (by omega)];rfl
theorem getT_some{S:List TriM}{t:Int}{T:TriM}(h:getT S t=some T):0≤t∧t<(S.length:Int)∧S[t.toNat]?=some T:=by
  unfold getT at h;by_cases h0:0≤t
  · rw[if_pos h0] at h;have:=(List.getElem?_eq_some_iff.1 h).1;exact⟨h0,by omega,h⟩
  ·rw[if_neg h0] at h;cases h
theorem getT_none{S:List TriM}{t:Int}(h:getT S t=none):t<0∨(S.length:Int)≤t:=by
  unfold getT at h;by_cases h0:0≤t
  · rw[if_pos h0] at h;have:=List.getElem?_eq_none_iff.1 h;omega
  ·omega
section
variable{P:Program}
theorem run_equalIn_array3(w:World)(d:Nat)(t e:TypeId)(k:IntKind)(ht:P.underlying t=some (.array 3 e))(he:P.underlying e=some (.int k))(ha:∀w,(isAgg e).run P w= .ok false w)(hs:∀w,(sizeOf e).run P w= .ok 1 w)(a b c x y z:Int):(Op.equalIn (d+2) t (.agg #[.int k a,.int k b,.int k c]) (.agg #[.int k x,.int k y,.int k z])).run P w= .ok (decide (a=x∧b=y∧c=z)) w:=by
  have hi:∀(a b:Int)(w:World),(Op.equalIn (d+1) e (.int k a) (.int k b)).run P w= .ok (a==b) w:=fun a b w=>run_equalIn_int w d e k k a b he;have hp0:∀(u v q:Value)(w:World),(part e #[u,v,q] 0).run P w= .ok u w:=fun u v q w=>by simp[part,ha,Sem.run_bind,Result.andThen]
  have hp1:∀(u v q:Value)(w:World),(part e #[u,v,q] 1).run P w= .ok v w:=fun u v q w=>by simp[part,ha,Sem.run_bind,Result.andThen]
  have hp2:∀(u v q:Value)(w:World),(part e #[u,v,q] 2).run P w= .ok q w:=fun u v q w=>by simp[part,ha,Sem.run_bind,Result.andThen]
  rw[show d+2=(d+1)+1 from rfl];rw[Op.equalIn];simp only[Sem.run_bind,run_underlying ht,Result.andThen_ok,hs,Std.Legacy.Range.forIn_eq_forIn_range',Std.Legacy.Range.size];simp[List.range',Sem.run_bind,hp0,hi,Result.andThen];by_cases h1:a=x<;>by_cases h2:b=y<;>by_cases h3:c=z<;>simp[h1,h2,h3,hp1,hp2,hi,Result.andThen,Sem.run_pure]
end
end Go.MagM
namespace Go.Proofs.YtammmemfkpcpcaaGreat
open Go.RowKit Go.MagM
theorem eq3_run(w:World)(a b c x y z:Int):Sem.run Tryz.prog (binOp BinOp.eql 39 (Value.agg #[.int .i64 a,.int .i64 b,.int .i64 c]) (Value.agg #[.int .i64 x,.int .i64 y,.int .i64 z])) w=Result.ok (Value.bool (decide (a=x∧b=y∧c=z))) w:=by rw[run_eql_struct,show(10000:Nat)=9998+2 from rfl,run_equalIn_array3 w 9998 39 3 .i64 Tryz.underlying39 Tryz.underlying3 (fun w=>by kernel_rfl) (fun w=>by kernel_rfl)];rfl
set_option maxRecDepth 100000 in set_option maxHeartbeats 4000000 in theorem gone_any(b o:Nat)(T:TriM)(w:World)(h0:w.cell? ⟨b,o,none⟩=some (.int .i64 T.v0))(h1:w.cell? ⟨b,o+1,none⟩=some (.int .i64 T.v1))(h2:w.cell? ⟨b,o+2,none⟩=some (.int .i64 T.v2)):Calls Tryz.prog 72 #[.pointer (some ⟨b,o,none⟩)] w fun e w'=>e= .returned (.bool (goneB T))∧w=w':=by
  obtain⟨v0,v1,v2,n0,n1,n2,f0,f1,f2⟩:=T;simp only[] at h0 h1 h2;obtain⟨q,hq⟩:∃q,goneB ⟨v0,v1,v2,n0,n1,n2,f0,f1,f2⟩=q:=⟨_,rfl⟩;rw[hq];have heq:∀w:World,Sem.run Tryz.prog (binOp BinOp.eql 39 (Value.agg #[.int .i64 v0,.int .i64 v1,.int .i64 v2]) (Value.agg #[.int .i64 (-2),.int .i64 (-2),.int .i64 (-2)])) w=Result.ok (Value.bool q) w:=fun w=>by rw[eq3_run,←hq];rfl
  clear hq;go_enter Tryz.func72,Tryz.ntmps72;go_wp2;go_ret;exact⟨rfl,rfl⟩
set_option maxRecDepth 100000 in set_option maxHeartbeats 4000000 in theorem there_any{mb pb pc:Nat}{ta:Option Addr}{tc:Nat}{P:List (Int×Int)}{S:List TriM}(t:Int)(w:World)(h:MeshR w mb pb pc ta tc P S):Calls Tryz.prog 93 #[.pointer (some ⟨mb,0,none⟩),.int .i64 t] w fun e w'=>e= .returned (.bool (thereB S t))∧w=w':=by
  obtain⟨b0,b1,-,-⟩:=h.box.open2;have hsh:=h.short.2;obtain⟨q,hq⟩:∃q,thereB S t=q:=⟨_,rfl⟩;rw[hq];cases hg:getT S t with
  |none=>
    have hq':q=false:=by rw[←hq];unfold thereB;rw[hg]
    subst hq';have HT:=Lib.hid h.tris;have HS:=Lib.hid hsh;clear hq h hsh;rcases getT_none hg with hlt|hge
    · have hd:decide (0≤t)=false:=decide_eq_false (by omega);clear hg;go_enter Tryz.func93,Tryz.ntmps93;go_wp2;go_ret;exact⟨rfl,rfl⟩
    · have h0:0≤t:=by omega
      have hd:decide (t<(S.length:Int))=false:=decide_eq_false (by omega);clear hg;go_enter Tryz.func93,Tryz.ntmps93;go_wp2;go_ret;exact⟨rfl,rfl⟩|some T=>
    have hq':q=!goneB T:=by rw[←hq];unfold thereB;rw[hg]
    subst hq';obtain⟨h0,h1,h2⟩:=getT_some hg;obtain⟨k,rfl⟩:∃k:Nat,t=k:=⟨t.toNat,by omega⟩;obtain⟨b,rfl,hbl,ht⟩:=h.tris.get h2;have c0:=ht.c0;have c1:=ht.c1;have c2:=ht.c2;simp only[Int.toNat_natCast] at c0 c1 c2;have hkl:k<S.length:=by omega
    have HT:=Lib.hid ht;have HS:=Lib.hid hsh;clear hq hg h h2 ht hsh;go_enter Tryz.func93,Tryz.ntmps93;go_wp2_with fail;refine(gone_any b (k*9) T _ c0 c1 c2).mono ?_;rintro e w' ⟨rfl,rfl⟩;go_wp2;go_ret;exact⟨rfl,rfl⟩
set_option maxRecDepth 100000 in set_option maxHeartbeats 4000000 in theorem isPoint_any{mb pb pc:Nat}{ta:Option Addr}{tc:Nat}{P:List (Int×Int)}{S:List TriM}(v:Int)(w:World)(h:MeshR w mb pb pc ta tc P S):Calls Tryz.prog 165 #[.pointer (some ⟨mb,0,none⟩),.int .i64 v] w fun e w'=>e= .returned (.bool (decide (0≤v∧v<(P.length:Int))))∧w=w':=by
  obtain⟨b0,b1,-,-⟩:=h.box.open2;obtain⟨q,hq⟩:∃q,decide (0≤v∧v<(P.length:Int))=q:=⟨_,rfl⟩;rw[hq];clear h;by_cases h0:0≤v
  · have hd:decide (v<(P.length:Int))=q:=by rw[←hq,decide_eq_decide];omega
    clear hq;go_enter Tryz.func165,Tryz.ntmps165;go_wp2;go_ret;exact⟨rfl,rfl⟩
  · have hd:decide (0≤v)=false:=decide_eq_false (by omega);have hq':q=false:=by rw[←hq];exact decide_eq_false (by omega)
    subst hq';clear hq h0;go_enter Tryz.func165,Tryz.ntmps165;go_wp2;go_ret;exact⟨rfl,rfl⟩
def hasB(S:List TriM)(t i:Int):Bool:=thereB S t&&decide (0≤i∧i<3)
set_option maxRecDepth 100000 in set_option maxHeartbeats 4000000 in theorem hasEdge_any{mb pb pc:Nat}{ta:Option Addr}{tc:Nat}{P:List (Int×Int)}{S:List TriM}(t i:Int)(w:World)(h:MeshR w mb pb pc ta tc P S):Calls Tryz.prog 131 #[.pointer (some ⟨mb,0,none⟩),.int .i64 t,.int .i64 i] w fun e w'=>e= .returned (.bool (hasB S t i))∧w=w':=by
  obtain⟨q,hq⟩:∃q,hasB S t i=q:=⟨_,rfl⟩;rw[hq];have hc:=there_any t w h;unfold hasB at hq;cases ht:thereB S t with
  |false=>
    have hq':q=false:=by rw[←hq,ht];rfl
    subst hq';rw[ht] at hc;have HC:=Lib.hid hc;clear hq ht hc h;go_enter Tryz.func131,Tryz.ntmps131;go_wp2_with fail;refine HC.out.mono ?_;rintro e w' ⟨rfl,rfl⟩;go_wp2;go_ret;exact⟨rfl,rfl⟩|true=>
    rw[ht] at hc hq;have HC:=Lib.hid hc;clear ht hc h;by_cases h0:0≤i
    · have hd:decide (i<3)=q:=by rw[←hq,Bool.true_and,decide_eq_decide];omega
      clear hq;go_enter Tryz.func131,Tryz.ntmps131;go_wp2_with fail;refine HC.out.mono ?_;rintro e w' ⟨rfl,rfl⟩;go_wp2;go_ret;exact⟨rfl,rfl⟩
    · have hd:decide (0≤i)=false:=decide_eq_false (by omega);have hq':q=false:=by rw[←hq,Bool.true_and];exact decide_eq_false (by omega)
      subst hq';clear hq h0;go_enter Tryz.func131,Tryz.ntmps131;go_wp2_with fail;refine HC.out.mono ?_;rintro e w' ⟨rfl,rfl⟩;go_wp2;go_ret;exact⟨rfl,rfl⟩
end Go.Proofs.YtammmemfkpcpcaaGreat
namespace Go.MagM
def edgeV(T:TriM):Nat→Int×Int|0=>(T.v1,T.v2)|1=>(T.v2,T.v0)|_=>(T.v0,T.v1)
def linkL(S:List TriM)(t i u j:Nat)(f:Bool):List TriM:=(S.modify t (fun T=>(T.setN i u).setF i f)).modify u (fun T=>(T.setN j t).setF j f)
def rdV(S:List TriM)(t:Nat):Option (Int×Int×Int):=S[t]?.map (fun T=>(T.v0,T.v1,T.v2))
theorem v_set(T:TriM)(i:Nat)(x:Int)(f:Bool):(((T.setN i x).setF i f).v0,((T.setN i x).setF i f).v1,((T.setN i x).setF i f).v2)=(T.v0,T.v1,T.v2):=by match i with|0=>rfl|1=>rfl|_+2=>rfl
theorem rdV_mod(S:List TriM)(t i:Nat)(x:Int)(f:Bool)(t':Nat):rdV (S.modify t (fun T=>(T.setN i x).setF i f)) t'=rdV S t':=by
  unfold rdV;rw[List.getElem?_modify];by_cases h:t=t'
  · subst h;simp only[if_true];cases S[t]? with
    |none=>rfl|some T=>simp only[Option.map_eq_map,Option.map_some];rw[v_set]
  ·simp only[if_neg h];cases S[t']?<;>rfl
theorem linkL_len(S:List TriM)(t i u j:Nat)(f:Bool):(linkL S t i u j f).length=S.length:=by unfold linkL;simp
theorem linkL_v(S:List TriM)(t i u j:Nat)(f:Bool)(t':Nat):rdV (linkL S t i u j f) t'=rdV S t':=by unfold linkL;rw[rdV_mod,rdV_mod]
end Go.MagM
namespace Go.MagM
open Go.RowKit
def Drew(w w':World):Prop:=∃q,w'=w.drewN q
theorem Drew.below{w w':World}(h:Drew w w'):Below w.heap.size w w':=by obtain⟨q,rfl⟩:=h;exact⟨rfl,rfl,rfl,Nat.le_refl _,fun _ _=>rfl⟩
def idxZ(zs:List Int)(x:Int):Int:=match zs.findIdx? (·==x) with|some i=>(i:Int)|none=>-1
def placeT(T:TriM)(v:Int):Int:=if v=T.v0 then 0 else if v=T.v1 then 1 else if v=T.v2 then 2 else-1
def placeM(S:List TriM)(t v:Int):Int:=match getT S t with|none=>-1|some T=>if goneB T then-1 else placeT T v
end Go.MagM
namespace Go.Proofs.YtammmemfkpcpcaaGreat
open Go.RowKit Go.MagM
set_option maxRecDepth 100000 in set_option maxHeartbeats 4000000 in theorem index_any(b o n c:Nat)(zs:List Int)(x:Int)(w:World)(hn:zs.length=n)(hbig:n≤1000000)(hc:∀j v,zs[j]?=some v→w.cell? ⟨b,o+j,none⟩=some (.int .i64 v)):Calls Tryz.prog 78 #[.slice (some ⟨b,o,none⟩) n c,.int .i64 x] w fun e w'=>e= .returned (.int .i64 (idxZ zs x))∧w=w':=by
  obtain⟨r,hr⟩:∃r:Int,idxZ zs x=r:=⟨_,rfl⟩;rw[hr];have HR:=Lib.hid hr;have HC:=Lib.hid hc;have HN:=Lib.hid hn;clear hr hc hn;go_enter Tryz.func78,Tryz.ntmps78;go_wp2;go_loop [5,8] (fun _ iv=>∃k:Nat,k≤n∧iv= .int .i64 k∧∀j v,j<k→zs[j]?=some v→v≠x) (fun _ iv=>n-(intOf iv).toNat);case atStart=>exact⟨0,Nat.zero_le _,rfl,fun j v hj=>by omega⟩
  case round=>
    obtain⟨k,hk,rfl,hne⟩:=hrel;have HNE:=Lib.hid hne;clear hne;by_cases hlt:k<n
    · obtain⟨y,hy⟩:∃y,zs[k]?=some y:=⟨_,List.getElem?_eq_getElem (by rw[HN.out];exact hlt)⟩;have hcell:=HC.out k y hy;have HY:=Lib.hid hy;clear hy;by_cases hxy:x=y
      · have hd:(x==y)=true:=by simp[hxy]
        have hrk:r=(k:Int):=by
          rw[←HR.out];unfold idxZ;have:zs.findIdx? (·==x)=some k:=by
            rw[List.findIdx?_eq_some_iff_getElem];refine⟨by rw[HN.out];exact hlt,?_,fun j hj=>?_⟩;·have:=HY.out;rw[List.getElem?_eq_some_iff] at this;obtain⟨_,e⟩:=this;rw[e,hxy];simp
            ·have:=HNE.out j _ hj (List.getElem?_eq_getElem (by rw[HN.out];omega));simpa using this
          rw[this]
        clear hxy;subst hrk;go_wp2;go_ret;exact⟨rfl,rfl⟩
      · have hd:(x==y)=false:=by simp[hxy]
        have HXY:=Lib.hid hxy;clear hxy;go_wp2;go_round;case rel=>exact⟨k+1,by omega,by go_num,fun j v hj hv=>by
          rcases Nat.lt_or_ge j k with g|g;·exact HNE.out j v g hv
          · obtain rfl:j=k:=by omega
            rw[HY.out] at hv;simp at hv;subst hv;exact fun e=>HXY.out e.symm⟩
        case measure=>simp[intOf];omega
    · have hrm:r=-1:=by
        rw[←HR.out];unfold idxZ;have:zs.findIdx? (·==x)=none:=by
          rw[List.findIdx?_eq_none_iff];intro v hv;obtain⟨j,hj,e⟩:=List.mem_iff_getElem.1 hv;have:=HNE.out j v (by rw[HN.out] at hj;omega) (by rw[List.getElem?_eq_getElem hj,e]);simpa using this
        rw[this]
      subst hrm;go_wp2;go_ret;exact⟨rfl,rfl⟩
end Go.Proofs.YtammmemfkpcpcaaGreat
namespace Go.MagM
open Go.RowKit
theorem place_idx(T:TriM)(v:Int):idxZ [T.v0,T.v1,T.v2] v=placeT T v:=by
  unfold placeT idxZ;by_cases h0:T.v0=v;·simp[List.findIdx?_cons,h0]
  · have n0:¬v=T.v0:=fun e=>h0 e.symm;by_cases h1:T.v1=v
    · rw[if_neg n0,if_pos h1.symm];simp[List.findIdx?_cons,h0,h1]
    · have n1:¬v=T.v1:=fun e=>h1 e.symm;rw[if_neg n0,if_neg n1];by_cases h2:T.v2=v;·rw[if_pos h2.symm];simp[List.findIdx?_cons,h0,h1,h2]
      ·rw[if_neg (fun e=>h2 e.symm)];simp[List.findIdx?_cons,h0,h1,h2]
def firstM(S:List TriM)(v:Int):Int:=match (List.range S.length).find? (fun t:Nat=>placeM S (t:Int) v !=-1) with|some t=>(t:Int)|none=>-1
theorem firstM_hit{S:List TriM}{v:Int}{k:Nat}(hk:k<S.length)(h:placeM S (k:Int) v≠-1)(hn:∀j:Nat,j<k→placeM S (j:Int) v=-1):firstM S v=(k:Int):=by
  unfold firstM;have:(List.range S.length).find? (fun t:Nat=>placeM S (t:Int) v !=-1)=some k:=by
    rw[List.find?_range_eq_some];exact⟨by simpa using h,by simpa using hk,fun j hj=>by simpa using hn j hj⟩
  rw[this]
theorem firstM_miss{S:List TriM}{v:Int}(hn:∀j:Nat,j<S.length→placeM S (j:Int) v=-1):firstM S v=-1:=by
  unfold firstM;have:(List.range S.length).find? (fun t:Nat=>placeM S (t:Int) v !=-1)=none:=by
    rw[List.find?_eq_none];intro j hj;simpa using hn j (List.mem_range.1 hj)
  rw[this]
def atM(S:List TriM)(v:Int):Int:=if v<0 then-1 else firstM S v
end Go.MagM
namespace Go.Proofs.YtammmemfkpcpcaaGreat
open Go.RowKit Go.MagM
set_option maxRecDepth 100000 in set_option maxHeartbeats 4000000 in theorem place_any{mb pb pc:Nat}{ta:Option Addr}{tc:Nat}{P:List (Int×Int)}{S:List TriM}(t v:Int)(w:World)(h:MeshR w mb pb pc ta tc P S):Calls Tryz.prog 75 #[.pointer (some ⟨mb,0,none⟩),.int .i64 t,.int .i64 v] w fun e w'=>e= .returned (.int .i64 (placeM S t v))∧w=w':=by
  obtain⟨b0,b1,-,-⟩:=h.box.open2;have hsh:=h.short.2;have hc:=there_any t w h;obtain⟨q,hq⟩:∃q,placeM S t v=q:=⟨_,rfl⟩;rw[hq];unfold placeM at hq;unfold thereB at hc;cases hg:getT S t with
  |none=>
    rw[hg] at hq hc;simp only[] at hq hc;subst hq;have HC:=Lib.hid hc;clear hc h hsh hg;go_enter Tryz.func75,Tryz.ntmps75;go_wp2_with fail;refine HC.out.mono ?_;rintro e w' ⟨rfl,rfl⟩;go_wp2;go_ret;exact⟨rfl,rfl⟩|some T=>
    rw[hg] at hq hc;simp only[] at hq hc;cases hgo:goneB T with
    |true=>
      rw[hgo,Bool.not_true] at hc;rw[hgo,if_pos rfl] at hq;subst hq;have HC:=Lib.hid hc;clear hc h hsh hg hgo;go_enter Tryz.func75,Tryz.ntmps75;go_wp2_with fail;refine HC.out.mono ?_;rintro e w' ⟨rfl,rfl⟩;go_wp2;go_ret;exact⟨rfl,rfl⟩|false=>
      rw[hgo,Bool.not_false] at hc;rw[hgo,if_neg (by simp)] at hq;obtain⟨h0,h1,h2⟩:=getT_some hg;obtain⟨k,rfl⟩:∃k:Nat,t=k:=⟨t.toNat,by omega⟩;obtain⟨b,rfl,hbl,ht⟩:=h.tris.get h2;simp only[Int.toNat_natCast] at ht;have hi:=index_any b (k*9) 3 3 [T.v0,T.v1,T.v2] v w rfl (by omega) (fun j u hj=>by have h0:=ht.c0;have h1:=ht.c1;have h2:=ht.c2;match j,hj with|0,hj=>simp at hj;subst hj;exact h0|1,hj=>simp at hj;subst hj;exact h1|2,hj=>simp at hj;subst hj;exact h2|_+3,hj=>simp at hj);rw[place_idx,hq] at hi;have hkl:k<S.length:=by omega
      have HC:=Lib.hid hc;have HI:=Lib.hid hi;clear hc hi hq hg hgo h h2 ht hsh;go_enter Tryz.func75,Tryz.ntmps75;go_wp2_with fail;refine HC.out.mono ?_;rintro e w' ⟨rfl,rfl⟩;go_wp2_with fail;refine HI.out.mono ?_;rintro e w' ⟨rfl,rfl⟩;go_wp2;go_ret;exact⟨rfl,rfl⟩
set_option maxRecDepth 100000 in set_option maxHeartbeats 4000000 in theorem first_any{mb pb pc:Nat}{ta:Option Addr}{tc:Nat}{P:List (Int×Int)}{S:List TriM}(v:Int)(w:World)(h:MeshR w mb pb pc ta tc P S):Calls Tryz.prog 36 #[.pointer (some ⟨mb,0,none⟩),.int .i64 v] w fun e w'=>e= .returned (.int .i64 (firstM S v))∧w=w':=by
  obtain⟨b0,b1,-,-⟩:=h.box.open2;have hsh:=h.short.2;have H:=Lib.hid h;clear h;obtain⟨r,hr⟩:∃r,firstM S v=r:=⟨_,rfl⟩;rw[hr];have HR:=Lib.hid hr;clear hr;go_enter Tryz.func36,Tryz.ntmps36;go_wp2;go_loop [5,11] (fun _ iv=>∃k:Nat,k≤S.length∧iv= .int .i64 k∧∀j:Nat,j<k→placeM S (j:Int) v=-1) (fun _ iv=>S.length-(intOf iv).toNat);case atStart=>exact⟨0,Nat.zero_le _,rfl,fun j hj=>by omega⟩
  case round=>
    obtain⟨k,hk,rfl,hne⟩:=hrel;have HNE:=Lib.hid hne;clear hne;by_cases hlt:k<S.length
    · obtain⟨p,hp⟩:∃p,placeM S (k:Int) v=p:=⟨_,rfl⟩;have hc:=place_any (k:Int) v w H.out;rw[hp] at hc;have HC:=Lib.hid hc;have HP:=Lib.hid hp;clear hc hp;by_cases hm:p=-1
      · subst hm;go_wp2_with fail;refine HC.out.mono ?_;rintro e w' ⟨rfl,rfl⟩;go_wp2;go_round;case rel=>exact⟨k+1,by omega,by go_num,fun j hj=>by
          rcases Nat.lt_or_ge j k with g|g;·exact HNE.out j g
          · obtain rfl:j=k:=by omega
            exact HP.out⟩
        case measure=>simp[intOf];omega
      · have hd:(p !=-1)=true:=by simp[hm]
        have hrk:r=(k:Int):=by rw[←HR.out];exact firstM_hit hlt (by rw[HP.out];exact hm) HNE.out
        clear hm;subst hrk;go_wp2_with fail;refine HC.out.mono ?_;rintro e w' ⟨rfl,rfl⟩;go_wp2;go_ret;exact⟨rfl,rfl⟩
    · have hrm:r=-1:=by rw[←HR.out];exact firstM_miss (fun j hj=>HNE.out j (by omega))
      subst hrm;go_wp2;go_ret;exact⟨rfl,rfl⟩
set_option maxRecDepth 100000 in set_option maxHeartbeats 4000000 in theorem At_any{mb pb pc:Nat}{ta:Option Addr}{tc:Nat}{P:List (Int×Int)}{S:List TriM}(v:Int)(w:World)(h:MeshR w mb pb pc ta tc P S):Calls Tryz.prog 12 #[.pointer (some ⟨mb,0,none⟩),.int .i64 v] w fun e w'=>e= .returned (.int .i64 (atM S v))∧w=w':=by
  have hc:=first_any v w h;obtain⟨q,hq⟩:∃q,atM S v=q:=⟨_,rfl⟩;rw[hq];unfold atM at hq;by_cases hv:v<0
  · rw[if_pos hv] at hq;subst hq;clear hc;go_enter Tryz.func12,Tryz.ntmps12;go_wp2;go_ret;exact⟨rfl,rfl⟩
  · rw[if_neg hv] at hq;rw[hq] at hc;have HC:=Lib.hid hc;clear hc hq;go_enter Tryz.func12,Tryz.ntmps12;go_wp2_with fail;refine HC.out.mono ?_;rintro e w' ⟨rfl,rfl⟩;go_wp2;go_ret;exact⟨rfl,rfl⟩
end Go.Proofs.YtammmemfkpcpcaaGreat
namespace Go.MagM
open Go.RowKit
def edgeT(T:TriM)(a b:Int):Int:=if edgeV T 0=(a,b) then 0 else if edgeV T 1=(a,b) then 1 else if edgeV T 2=(a,b) then 2 else-1
theorem edgeT_hit{T:TriM}{a b:Int}{k:Nat}(hk:k<3)(h:edgeV T k=(a,b))(hn:∀j:Nat,j<k→edgeV T j≠(a,b)):edgeT T a b=(k:Int):=by
  unfold edgeT;obtain rfl|rfl|rfl:k=0∨k=1∨k=2:=by omega
  ·rw[if_pos h];rfl
  ·rw[if_neg (hn 0 (by omega)),if_pos h];rfl
  ·rw[if_neg (hn 0 (by omega)),if_neg (hn 1 (by omega)),if_pos h];rfl
theorem edgeT_miss{T:TriM}{a b:Int}(hn:∀j:Nat,j<3→edgeV T j≠(a,b)):edgeT T a b=-1:=by unfold edgeT;rw[if_neg (hn 0 (by omega)),if_neg (hn 1 (by omega)),if_neg (hn 2 (by omega))]
end Go.MagM
namespace Go.Proofs.YtammmemfkpcpcaaGreat
open Go.RowKit Go.MagM
end Go.Proofs.YtammmemfkpcpcaaGreat
