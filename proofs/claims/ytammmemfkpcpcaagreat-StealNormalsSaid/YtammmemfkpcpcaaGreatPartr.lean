import Derived.Test.YtammmemfkpcpcaaGreatPartq
import Derived.RangeFuncNested
import Derived.RangeFuncBound
import Derived.RangeFuncCalls
import Derived.RangeFuncLeaves
import Derived.Test.YtammmemfkpcpcaaGreatPartn
import Derived.Test.YtammmemfkpcpcaaGreatParti
import Derived.Test.YtammmemfkpcpcaaGreatParth
set_option linter.unusedSimpArgs false
set_option linter.unusedVariables false
namespace Go.MagM
open Go.RowKit
def beginM(S:List TriM)(from':Int):Int:=if realM S from'=true then from' else match realsK S S.length with|x::_=>(x.1:Int)|[]=>-1
def BegX{S:List TriM}(rb:Nat)(ty:TypeId)(pre:List (RA S))(W:World):Prop:=∃x:RA S,pre=[x]∧Boxed W rb ty (.int .i64 (x.1.1:Int))
theorem begX_own{S:List TriM}(rb:Nat)(ty:TypeId)(B:Nat):OwnFrom B (fun(pre:List (RA S)) W=>BegX rb ty pre W):=by intro s A B' row hs hg hr;obtain⟨x,hx,hb⟩:=hs;exact⟨x,hx,(Own.from (boxed_own rb ty (fun _:List (RA S)=>Value.int .i64 (x.1.1:Int))) B) s A B' row hb hg hr⟩
end Go.MagM
namespace Go.Proofs.YtammmemfkpcpcaaGreat
open Go.RowKit Go.MagM Go.Shelf
attribute [local go_sem] Oper.semAt_some
set_option maxRecDepth 100000 in set_option maxHeartbeats 4000000 in theorem begin_yes{mb pb pc:Nat}{ta:Option Addr}{tc:Nat}{P:List (Int×Int)}{S:List TriM}(t:Int)(w:World)(h:MeshR w mb pb pc ta tc P S)(hr:realM S t=true):Calls Tryz.prog 85 #[.pointer (some ⟨mb,0,none⟩),.int .i64 t] w fun e w'=>e= .returned (.int .i64 (beginM S t))∧Below w.heap.size w w':=by
  obtain⟨w1,hw1,pp,hb1,hs1⟩:=new_box w _ rfl [.int .i64 0] 3;have hre:=Real_any t w1 (h.below hb1);rw[hr] at hre;have hq:beginM S t=t:=by unfold beginM;rw[if_pos hr]
  rw[hq];have HRE:=Lib.hid hre;have PP:=Lib.hid pp;have HB1:=Lib.hid hb1;clear h hr hre hq pp hb1 hs1;go_enter Tryz.func85,Tryz.ntmps85;go_wp2_with fail;refine HRE.out.mono ?_;rintro e w2 ⟨rfl,hd⟩;have pq:=PP.out.below hd.below;have o0:=pq.c 0 _ rfl;have g0:=pq.f 0 _ rfl;obtain⟨wz,hwz⟩:∃wz,setAll w2 w.heap.size 0 [.int .i64 t]=wz:=⟨_,rfl⟩;have pz:Box wz w.heap.size [.int .i64 t]:=by rw[←hwz];exact pq.setAll [.int .i64 t] rfl
  have hbz:Below w.heap.size w wz:=by rw[←hwz];exact below_setAll (HB1.out.trans (hd.below.mono HB1.out.size)) (Nat.le_refl _) _
  have z0:=pz.c 0 _ rfl;have Z0:=Lib.hid z0;have HWZ:=Lib.hid hwz;have HBZ:=Lib.hid hbz;clear pq pz hbz hwz z0 hd;go_wp2;have z0:=Z0.out;have hwz:=HWZ.out;simp only[setAll] at hwz;rw[hwz];(try simp only[Exit.inBlock,Exit.then]);refine bodyPost_ret (v:= .int .i64 t) ?_ rfl ?_;·simp[results,Tryz.results85,go_sem,z0]
  ·exact⟨rfl,HBZ.out⟩
set_option maxRecDepth 100000 in set_option maxHeartbeats 8000000 in theorem begin_no{mb pb pc:Nat}{ta:Option Addr}{tc:Nat}{P:List (Int×Int)}{S:List TriM}(t:Int)(w:World)(h:MeshR w mb pb pc ta tc P S)(hin:MeshIn (fun b=>b<w.heap.size) mb pb ta)(hr:realM S t=false):Calls Tryz.prog 85 #[.pointer (some ⟨mb,0,none⟩),.int .i64 t] w fun e w'=>e= .returned (.int .i64 (beginM S t))∧Below w.heap.size w w':=by
  obtain⟨w1,hw1,pp,hb1,hs1⟩:=new_box w _ rfl [.int .i64 0] 3;have bx1:Boxed w1 w.heap.size 3 (.int .i64 0):=by rw[←hw1];exact Boxed.new w _ _
  have hm1:=h.below hb1;have hre:=Real_any t w1 hm1;rw[hr] at hre;obtain⟨q,hq⟩:∃q,beginM S t=q:=⟨_,rfl⟩;rw[hq];have hqn:¬realM S t=true:=by rw[hr];decide
  unfold beginM at hq;rw[if_neg hqn] at hq;have HQ:=Lib.hid hq;have HRE:=Lib.hid hre;have HB1:=Lib.hid hb1;have BX1:=Lib.hid bx1;have HM1:=Lib.hid hm1;have HIN:=Lib.hid hin;clear h hin hr hre hq hqn pp hb1 hs1 bx1 hm1;refine(callsIn_wide (n:=20)).1 (callsIn_of_wp_marks (F:=Fence.wide) (n:=20) Tryz.func85 rfl trivial ?_ rfl);simp only[Tryz.ntmps85,List.size_toArray,List.length_cons,List.length_nil,Nat.reduceAdd,Nat.reduceSub,Array.replicate_succ,Array.replicate_zero,List.push_toArray,List.append_toArray,List.nil_append,List.cons_append];rw[wpIn_wide];go_wp2_with fail;refine HRE.out.mono ?_;rintro e w2 ⟨rfl,hd⟩;have hm2:=HM1.out.below hd.below;have hb2:=HB1.out.trans (hd.below.mono HB1.out.size);have bx2:Boxed w2 w.heap.size 3 (.int .i64 0):=by obtain⟨k,rfl⟩:=hd;exact BX1.out
  have HAL:=Lib.hid (All_any (some ⟨mb,0,none⟩) w2);have HM2:=Lib.hid hm2;have HB2:=Lib.hid hb2;have BX2:=Lib.hid bx2;clear hd hm2 hb2 bx2;go_wp2_with fail;refine HAL.out.mono ?_;rintro e w3 ⟨rfl,hw3⟩;go_wp2;have hsz3:w3.heap.size=w2.heap.size+1:=by rw[←hw3];simp
  have hn2:w.heap.size≤w2.heap.size:=HB2.out.size;have hb23:Below w2.heap.size w2 w3:=by rw[←hw3];exact(Below.refl _ _).alloc (Nat.le_refl _) _
  have hm3:=HM2.out.below hb23;have hB3:=HB2.out.trans (hb23.mono HB2.out.size);have bx3:Boxed w3 w.heap.size 3 (.int .i64 0):=by rw[←hw3];exact BX2.out.alloc _
  have bm3:Boxed w3 w2.heap.size 26 (.pointer (some ⟨mb,0,none⟩)):=by rw[←hw3];exact Boxed.new w2 _ _
  have hin3:MeshIn (fun b=>b<w3.heap.size) mb pb ta:=⟨by have:=HIN.out.m;omega,by have:=HIN.out.p;omega,fun b hb=>by have:=HIN.out.t b hb;omega⟩;have hlt3:∀b,(fun b=>b<w3.heap.size) b→b<w3.heap.size:=fun _ h=>h;have hbm:=bm3.cell;have hbl:w2.heap.size<w3.heap.size:=by omega
  rw[←wpIn_wide (n:=20)];refine wpIn_rangeFunc_ownG rfl (by omega) (gf:=166) (lb:=#[.pointer (some ⟨w2.heap.size,0,none⟩)]) rfl trivial (enters_of Tryz.func166 (by kernel_rfl) rfl) (all_stops 19 (by omega) w2.heap.size (fun b=>b<w3.heap.size) w3 hlt3 hm3 hin3 hbm hbl) (fun h k=>KeepB.trans h k) ?kb (Below.refl _ _) (fun _=>rfl) (fun pre W=>(pre=[]∧Boxed W w.heap.size 3 (.int .i64 0))∧Below w.heap.size w W) (fun c pre W=>(c= .ret∧BegX w.heap.size 3 pre W)∧Below w.heap.size w W) (OwnFrom.and (fun s A B row hs hg hr=>⟨hs.1,(Own.from (boxed_own w.heap.size 3 (fun _:List (RA S)=>Value.int .i64 0)) w3.heap.size) s A B row hs.2 hg hr⟩) (ownFrom_below (Nat.le_refl _) (by omega))) (fun c=>OwnFrom.and (fun s A B row hs hg hr=>⟨hs.1,begX_own _ _ _ s A B row hs.2 hg hr⟩) (ownFrom_below (Nat.le_refl _) (by omega))) ⟨⟨rfl,bx3⟩,hB3⟩ (fun x=>{tmps:=#[.pointer (some ⟨mb,0,none⟩),.int .i64 t,undef,undef,.pointer (some ⟨w.heap.size,0,none⟩),.int .i64 (x.1.1:Int),.pointer (some ⟨mb,0,none⟩),.int .i64 t,.bool false,undef,.pointer (some ⟨mb,0,none⟩),.func (.func 166) #[] #[.pointer (some ⟨w2.heap.size,0,none⟩)],.int .i64 (x.1.1:Int),triV x.1.2,undef],defers:=[]}) ?assign ?body ?done ?stop;case kb=>
    intro W l o o' hl h _ _ b hb;exact World.putObj_heap_other (fun e=>by omega)
  case assign=>
    intro l x W K hK;dsimp only[encA];gi_wp2;exact hK
  case body=>
    rintro l pre x W ⟨⟨rfl,hbx⟩,hB⟩ _;have hc:=hbx.cell;have hf:=hbx.frozen;gi_wp2;exact⟨(KeepsOthers.setCell _ _ _).from _,⟨rfl,⟨x,rfl,hbx.set _⟩⟩,hB.setCell (p:=⟨w.heap.size,0,none⟩) (Nat.le_refl _) _⟩
  case done=>
    rintro D xs W hD hS ⟨⟨rfl,hbx⟩,hB⟩ hK;have hrn:realsK S S.length=[]:=hS.symm;have hc:=hbx.cell;have hf:=hbx.frozen;have hq:q=-1:=by have:=HQ.out;rw[hrn] at this;exact this.symm
    subst hq;gi_wp2;go_wp2;have hK':=(KeepsOthers.setCell W ⟨w.heap.size,0,none⟩ (.int .i64 (-1))).same D _ hK rfl;have hb':=hB.setCell (p:=⟨w.heap.size,0,none⟩) (Nat.le_refl _) (.int .i64 (-1));have hbx':=hbx.set (.int .i64 (-1));refine⟨by simp,.inl ⟨_,_,rfl,run_takeDeferred hK',?_⟩⟩;have hc5:=cell_kept hbx'.cell (grownBy_putObj' _ D (.deferred none)) (fun r e=>by cases e;exact⟨_,hK',rfl⟩);refine⟨.int .i64 (-1),?_,rfl,hb'.trans (belowK_b (w:=w) (Nat.le_refl _) _ D _ _ (by omega) hK' rfl rfl)⟩;simp[results,Tryz.results85,go_sem,hc5]
  case stop=>
    rintro D c pre W hD hS ⟨⟨rfl,⟨x,rfl,hbx⟩⟩,hB⟩ hK;have hq:q=(x.1.1:Int):=by
      have h1:=HQ.out;obtain⟨rest,hr⟩:=hS;rw[←hr] at h1;exact h1.symm
    subst hq;gi_wp2;refine⟨by simp,.inl ⟨_,_,rfl,run_takeDeferred hK,?_⟩⟩;have hc5:=cell_kept hbx.cell (grownBy_putObj' _ D (.deferred none)) (fun r e=>by cases e;exact⟨_,hK,rfl⟩);refine⟨.int .i64 (x.1.1:Int),?_,rfl,hB.trans (belowK_b (w:=w) (Nat.le_refl _) _ D _ _ (by omega) hK rfl rfl)⟩;simp[results,Tryz.results85,go_sem,hc5]
theorem begin_any{mb pb pc:Nat}{ta:Option Addr}{tc:Nat}{P:List (Int×Int)}{S:List TriM}(t:Int)(w:World)(h:MeshR w mb pb pc ta tc P S)(hin:MeshIn (fun b=>b<w.heap.size) mb pb ta):Calls Tryz.prog 85 #[.pointer (some ⟨mb,0,none⟩),.int .i64 t] w fun e w'=>e= .returned (.int .i64 (beginM S t))∧Below w.heap.size w w':=by cases hr:realM S t with|true=>exact begin_yes t w h hr|false=>exact begin_no t w h hin hr
end Go.Proofs.YtammmemfkpcpcaaGreat
namespace Go.MagM
open Go.RowKit
def orS(P:List (Int×Int))(a:Int)(p:Int×Int)(v:Int):Int:=(crs (ptA P a.toNat).1 (ptA P a.toNat).2 p.1 p.2 (ptA P v.toNat).1 (ptA P v.toNat).2).sign
def sideW(P:List (Int×Int))(T:TriM)(p:Int×Int)(v:Int):Int:=match firstK (fun k=>!decide (orS P (T.v k) p v=0)) with|some k=>orS P (T.v k) p v|none=>0
theorem sideW_at{P:List (Int×Int)}{T:TriM}{p:Int×Int}{v:Int}{k:Nat}(hk:k<3)(h:orS P (T.v k) p v≠0)(hn:∀j,j<k→orS P (T.v j) p v=0):sideW P T p v=orS P (T.v k) p v:=by unfold sideW;rw[firstK_at hk (by rw[decide_eq_false h];rfl) (fun j hj=>by rw[decide_eq_true (hn j hj)];rfl)]
theorem sideW_zero{P:List (Int×Int)}{T:TriM}{p:Int×Int}{v:Int}(hn:∀j,j<3→orS P (T.v j) p v=0):sideW P T p v=0:=by unfold sideW;rw[firstK_none (fun j hj=>by rw[decide_eq_true (hn j hj)];rfl)]
end Go.MagM
namespace Go.Proofs.YtammmemfkpcpcaaGreat
open Go.RowKit Go.MagM
set_option maxRecDepth 100000 in set_option maxHeartbeats 8000000 in theorem wayside_any{mb pb pc:Nat}{ta:Option Addr}{tc:Nat}{P:List (Int×Int)}{S:List TriM}(s:Nat)(T:TriM)(p:Int×Int)(v:Int)(w:World)(h:MeshR w mb pb pc ta tc P S)(hP:InPs P)(hp:InP p.1∧InP p.2)(hT:S[s]?=some T)(hv0:∀i,i<3→InV P (T.v i))(hv:InV P v):Calls Tryz.prog 133 #[.agg #[.pointer (some ⟨mb,0,none⟩),.int .i64 (s:Int),.int .i64 p.1,.int .i64 p.2],.int .i64 v] w fun e w'=>e= .returned (.int .i64 (sideW P T p v))∧Below w.heap.size w w':=by
  obtain⟨w1,hw1,pp,hb1,hs1⟩:=new_box w _ rfl [.pointer (some ⟨mb,0,none⟩),.int .i64 (s:Int),.int .i64 p.1,.int .i64 p.2] 142;have hm1:=h.below hb1;obtain⟨len,hlen⟩:∃len,S.length=len:=⟨_,rfl⟩;have hkl:=(List.getElem?_eq_some_iff.1 hT).1;have e1:=hm1.box.c 1 _ rfl;have hsh:=h.short;rw[hlen] at e1 hkl hsh;obtain⟨tb,rfl,hbl,ht⟩:=hm1.tris.get hT;obtain⟨c0,c1,c2,-,-,-,-,-,-⟩:=ht;have d0:=pp.c 0 _ rfl;have d1:=pp.c 1 _ rfl;have i1:(0:Int)≤(s:Int):=by omega
  have i2:(s:Int)<(len:Int):=by omega
  obtain⟨vn,rfl,lv,gv⟩:=hv.nat;obtain⟨pn,hpn⟩:∃pn,P.length=pn:=⟨_,rfl⟩;rw[hpn] at lv;obtain⟨⟨b0,b1⟩,hptb⟩:∃q,ptA P vn=q:=⟨_,rfl⟩;rw[Int.toNat_natCast,hptb] at gv;have hpb:InP b0∧InP b1:=hP _ (List.mem_of_getElem? gv);have hcells:∀(i:Nat)(wr:World),i<3→Below w1.heap.size w1 wr→(wr.cell? ⟨mb,0,none⟩=some (.slice (some ⟨pb,0,none⟩) pn pc)∧wr.cell? ⟨pb,(T.v i).toNat*2,none⟩=some (.int .i64 (ptA P (T.v i).toNat).1)∧wr.cell? ⟨pb,(T.v i).toNat*2+1,none⟩=some (.int .i64 (ptA P (T.v i).toNat).2)∧wr.cell? ⟨pb,vn*2,none⟩=some (.int .i64 b0)∧wr.cell? ⟨pb,vn*2+1,none⟩=some (.int .i64 b1)∧wr.cell? ⟨w.heap.size,0,none⟩=some (.pointer (some ⟨mb,0,none⟩))∧wr.cell? ⟨w.heap.size,2,none⟩=some (.int .i64 p.1)∧wr.cell? ⟨w.heap.size,3,none⟩=some (.int .i64 p.2)):=by
    intro i wr hi hb;obtain⟨a,ea,la,ga⟩:=(hv0 i hi).nat;have hm:=hm1.below hb;have e0:=hm.box.c 0 _ rfl;rw[hpn] at e0;have hpw:=pp.below hb;have e:(T.v i).toNat=a:=by rw[ea,Int.toNat_natCast]
    rw[e] at ga⊢;exact⟨e0,(hm.pt ga).1,(hm.pt ga).2,(hm.pt gv).1,(hm.pt gv).2,hpw.c 0 _ rfl,hpw.c 2 _ rfl,hpw.c 3 _ rfl⟩
  have hfacts:∀i,i<3→∃(a:Nat) (a0 a1:Int),T.v i=(a:Int)∧a<pn∧ptA P a=(a0,a1)∧orS P (T.v i) p (vn:Int)=(crs a0 a1 p.1 p.2 b0 b1).sign∧InP a0∧InP a1:=by
    intro i hi;obtain⟨a,ea,la,ga⟩:=(hv0 i hi).nat;rw[ea,Int.toNat_natCast] at ga;have hpa:InP (ptA P a).1∧InP (ptA P a).2:=hP _ (List.mem_of_getElem? ga);refine⟨a,(ptA P a).1,(ptA P a).2,ea,by omega,rfl,?_,hpa.1,hpa.2⟩;unfold orS;rw[ea,Int.toNat_natCast,Int.toNat_natCast,hptb]
  obtain⟨p0,p1⟩:=p;simp only[] at hp hcells hfacts d0 d1 pp hw1;obtain⟨r,hr⟩:∃r,sideW P T (p0,p1) (vn:Int)=r:=⟨_,rfl⟩;simp only[];rw[hr];have HC:=Lib.hid hcells;have HF:=Lib.hid hfacts;have HB1:=Lib.hid hb1;have HRR:=Lib.hid hr;have HPI:=Lib.hid hp;have HBI:=Lib.hid hpb;have i3:(0:Int)≤(vn:Int):=by omega
  have i4:(vn:Int)<(pn:Int):=by omega
  clear h hP hp hT hv0 hv hm1 hkl hsh hbl pp hb1 hs1 gv hptb hpb hcells hfacts hr hlen hpn lv;go_enter Tryz.func133,Tryz.ntmps133;go_wp2;go_quiet (fail);clear c0 c1 c2 d0 d1 e1;obtain⟨wo,hwo⟩:∃wo,w1.drewN nq=wo:=⟨_,rfl⟩;have hbo:Below w1.heap.size w1 wo:=by rw[←hwo];exact Drew.below ⟨nq,rfl⟩
  rw[hwo];have HBO:=Lib.hid hbo;clear hwo hbo hw1;go_wp2;go_loopw [6,7,18] (fun _ _ iv wr=>∃i:Nat,i≤3∧iv= .int .i64 (i:Int)∧Below w1.heap.size w1 wr∧∀j,j<i→orS P (T.v j) (p0,p1) (vn:Int)=0) (fun _ _ iv _=>3-(intOf iv).toNat);case atStart=>exact⟨0,by omega,rfl,HBO.out,fun j hj=>absurd hj (by omega)⟩
  case round=>
    obtain⟨i,hi,rfl,hbw,hall⟩:=hrel;have HBW:=Lib.hid hbw;have HALL:=Lib.hid hall;have HB0:=Lib.hid (HB1.out.trans (hbw.mono HB1.out.size));clear hbw hall;by_cases hlt:i<3
    · have hyd:decide ((i:Int)<3)=true:=decide_eq_true (by omega);have ir:=fun w=>index3v_run T i hlt w;obtain⟨a,a0,a1,ea,la,hpa,hor,ha0,ha1⟩:=HF.out i hlt;rw[ea] at ir;have i5:(0:Int)≤(a:Int):=by omega
      have i6:(a:Int)<(pn:Int):=by omega
      have CC:Hid (∀w',Below wr.drew.heap.size wr.drew w'→(w'.cell? ⟨mb,0,none⟩=some (.slice (some ⟨pb,0,none⟩) pn pc)∧w'.cell? ⟨pb,a*2,none⟩=some (.int .i64 a0)∧w'.cell? ⟨pb,a*2+1,none⟩=some (.int .i64 a1)∧w'.cell? ⟨pb,vn*2,none⟩=some (.int .i64 b0)∧w'.cell? ⟨pb,vn*2+1,none⟩=some (.int .i64 b1)∧w'.cell? ⟨w.heap.size,0,none⟩=some (.pointer (some ⟨mb,0,none⟩))∧w'.cell? ⟨w.heap.size,2,none⟩=some (.int .i64 p0)∧w'.cell? ⟨w.heap.size,3,none⟩=some (.int .i64 p1))):=Lib.hid (by intro w' hb;have hx:=HC.out i w' hlt (HBW.out.drew'.trans (hb.mono HBW.out.drew'.size));rw[ea,Int.toNat_natCast,hpa] at hx;exact hx);obtain⟨s',hs'⟩:∃s',(crs a0 a1 p0 p1 b0 b1).sign=s':=⟨_,rfl⟩;rw[hs'] at hor;have co:=fun w=>Orient_is a0 a1 p0 p1 b0 b1 ha0 ha1 HPI.out.1 HPI.out.2 HBI.out.1 HBI.out.2 hs' w;have CO:=Lib.hid co;have HOR:=Lib.hid hor;have HEA:=Lib.hid ea;clear co hor ea ha0 ha1 hs' la hpa;have hD_0:=Below.refl wr.drew.heap.size wr.drew;have hB_0:Below w1.heap.size w1 wr.drew:=HBW.out.drew';by_cases hz:s'=0
      · have hyz:(s' !=0)=false:=by simp[hz]
        have HZ:=Lib.hid hz;clear hz;go_wp2;go_region_held3 (fun w'=>w'.cell? ⟨mb,0,none⟩=some (.slice (some ⟨pb,0,none⟩) pn pc)∧w'.cell? ⟨pb,a*2,none⟩=some (.int .i64 a0)∧w'.cell? ⟨pb,a*2+1,none⟩=some (.int .i64 a1)∧w'.cell? ⟨pb,vn*2,none⟩=some (.int .i64 b0)∧w'.cell? ⟨pb,vn*2+1,none⟩=some (.int .i64 b1)∧w'.cell? ⟨w.heap.size,0,none⟩=some (.pointer (some ⟨mb,0,none⟩))∧w'.cell? ⟨w.heap.size,2,none⟩=some (.int .i64 p0)∧w'.cell? ⟨w.heap.size,3,none⟩=some (.int .i64 p1)) (first|with_reducible exact CC.out _ hD_0|with_reducible exact CC.out _ hD_1|fail) (first|(go_at_call 16;(with_reducible refine(CO.out _).mono ?_);rintro e w4 ⟨rfl,hb4⟩;have hB_1:=hB_0.trans (hb4.mono hB_0.size);have hD_1:=hD_0.trans (hb4.mono hD_0.size)));have HB_1:=Lib.hid hB_1;clear hB_0 hB_1 hD_0 hD_1;go_wp2;go_roundw;case rel=>
          refine⟨i+1,by omega,by go_num,HB_1.out,fun j hj=>?_⟩;rcases Nat.lt_or_ge j i with g|g;·exact HALL.out j g
          · obtain rfl:j=i:=by omega
            rw[HOR.out];exact HZ.out
        case measure=>simp[intOf];omega
      · have hyz:(s' !=0)=true:=by simp[hz]
        have HZ:=Lib.hid hz;clear hz;go_wp2;go_region_held3 (fun w'=>w'.cell? ⟨mb,0,none⟩=some (.slice (some ⟨pb,0,none⟩) pn pc)∧w'.cell? ⟨pb,a*2,none⟩=some (.int .i64 a0)∧w'.cell? ⟨pb,a*2+1,none⟩=some (.int .i64 a1)∧w'.cell? ⟨pb,vn*2,none⟩=some (.int .i64 b0)∧w'.cell? ⟨pb,vn*2+1,none⟩=some (.int .i64 b1)∧w'.cell? ⟨w.heap.size,0,none⟩=some (.pointer (some ⟨mb,0,none⟩))∧w'.cell? ⟨w.heap.size,2,none⟩=some (.int .i64 p0)∧w'.cell? ⟨w.heap.size,3,none⟩=some (.int .i64 p1)) (first|with_reducible exact CC.out _ hD_0|with_reducible exact CC.out _ hD_1|fail) (first|(go_at_call 16;(with_reducible refine(CO.out _).mono ?_);rintro e w4 ⟨rfl,hb4⟩;have hB_1:=hB_0.trans (hb4.mono hB_0.size);have hD_1:=hD_0.trans (hb4.mono hD_0.size)));have HB_1:=Lib.hid (HB1.out.trans (hB_1.mono HB1.out.size));clear hB_0 hB_1 hD_0 hD_1;go_wp2;go_ret;exact⟨by rw[←HRR.out,sideW_at hlt (by rw[HOR.out];exact HZ.out) HALL.out,HOR.out];rfl,HB_1.out⟩
    · obtain rfl:i=3:=by omega
      go_wp2;go_ret;exact⟨by rw[←HRR.out,sideW_zero HALL.out];rfl,HB0.out⟩
end Go.Proofs.YtammmemfkpcpcaaGreat
namespace Go.MagM
open Go.RowKit
def leavesW(P:List (Int×Int))(T0 T:TriM)(p:Int×Int)(i:Nat):Bool:=decide (sideW P T0 p (T.v ((i+1)%3))<0)&&decide (0<sideW P T0 p (T.v ((i+2)%3)))
end Go.MagM
namespace Go.Proofs.YtammmemfkpcpcaaGreat
open Go.RowKit Go.MagM
set_option maxRecDepth 100000 in set_option maxHeartbeats 8000000 in theorem leaves_any{mb pb pc:Nat}{ta:Option Addr}{tc:Nat}{P:List (Int×Int)}{S:List TriM}(s t i:Nat)(T0 T:TriM)(p:Int×Int)(w:World)(h:MeshR w mb pb pc ta tc P S)(hP:InPs P)(hp:InP p.1∧InP p.2)(hS:S[s]?=some T0)(hT:S[t]?=some T)(hi:i<3)(hv0:∀i,i<3→InV P (T0.v i))(hv:∀i,i<3→InV P (T.v i)):Calls Tryz.prog 88 #[.agg #[.pointer (some ⟨mb,0,none⟩),.int .i64 (s:Int),.int .i64 p.1,.int .i64 p.2],.int .i64 (t:Int),.int .i64 (i:Int)] w fun e w'=>e= .returned (.bool (leavesW P T0 T p i))∧Below w.heap.size w w':=by
  obtain⟨w1,hw1,pp,hb1,hs1⟩:=new_box w _ rfl [.pointer (some ⟨mb,0,none⟩),.int .i64 (s:Int),.int .i64 p.1,.int .i64 p.2] 142;obtain⟨vb,hvb⟩:∃vb,w1.heap.size=vb:=⟨_,rfl⟩;obtain⟨w2,hw2,pv,hb2,hs2⟩:=new_box w1 _ rfl [.int .i64 T.v0,.int .i64 T.v1,.int .i64 T.v2] 39;rw[hvb] at pv;have hm1:=h.below hb1;have hB2:Below w.heap.size w w2:=hb1.trans (hb2.mono hb1.size);obtain⟨len,hlen⟩:∃len,S.length=len:=⟨_,rfl⟩;have hkl:=(List.getElem?_eq_some_iff.1 hT).1;have e1:=hm1.box.c 1 _ rfl;have hsh:=h.short;rw[hlen] at e1 hkl hsh;obtain⟨tb,rfl,hbl,ht⟩:=hm1.tris.get hT;obtain⟨c0,c1,c2,-,-,-,-,-,-⟩:=ht;have d0:=pp.c 0 _ rfl;have i1:(0:Int)≤(t:Int):=by omega
  have i2:(t:Int)<(len:Int):=by omega
  have pp2:=pp.below hb2;have m1:=mod3_one hi;have m2:=mod3_two hi;obtain⟨k1,hk1⟩:∃k1,(i+1)%3=k1:=⟨_,rfl⟩;obtain⟨k2,hk2⟩:∃k2,(i+2)%3=k2:=⟨_,rfl⟩;have hk13:k1<3:=by omega
  have hk23:k2<3:=by omega
  have y1:=box3_at pv hk13;have y2:=box3_at pv hk23;obtain⟨x1,hx1⟩:∃x1,T.v k1=x1:=⟨_,rfl⟩;obtain⟨x2,hx2⟩:∃x2,T.v k2=x2:=⟨_,rfl⟩;have hv1:=hv k1 hk13;have hv2:=hv k2 hk23;obtain⟨r,hr⟩:∃r,leavesW P T0 T p i=r:=⟨_,rfl⟩;rw[hr];unfold leavesW at hr;rw[hk1,hk2,hx1,hx2] at hr;rw[hk1] at m1;rw[hk2] at m2;rw[hx1] at y1 hv1;rw[hx2] at y2 hv2;have hws:∀(x:Int)(wr:World),InV P x→Below w.heap.size w wr→Calls Tryz.prog 133 #[.agg #[.pointer (some ⟨mb,0,none⟩),.int .i64 (s:Int),.int .i64 p.1,.int .i64 p.2],.int .i64 x] wr fun e w'=>e= .returned (.int .i64 (sideW P T0 p x))∧Below wr.heap.size wr w':=fun x wr hx hb=>wayside_any s T0 p x wr (h.below hb) hP hp hS hv0 hx;obtain⟨s1,hsd1⟩:∃s1,sideW P T0 p x1=s1:=⟨_,rfl⟩;obtain⟨s2,hsd2⟩:∃s2,sideW P T0 p x2=s2:=⟨_,rfl⟩;have hc1:∀wr:World,Below w2.heap.size w2 wr→Calls Tryz.prog 133 #[.agg #[.pointer (some ⟨mb,0,none⟩),.int .i64 (s:Int),.int .i64 p.1,.int .i64 p.2],.int .i64 x1] wr fun e w'=>e= .returned (.int .i64 s1)∧Below wr.heap.size wr w':=fun wr hb=>by rw[←hsd1];exact hws x1 wr hv1 (hB2.trans (hb.mono hB2.size))
  have hc2:∀wr:World,Below w2.heap.size w2 wr→Calls Tryz.prog 133 #[.agg #[.pointer (some ⟨mb,0,none⟩),.int .i64 (s:Int),.int .i64 p.1,.int .i64 p.2],.int .i64 x2] wr fun e w'=>e= .returned (.int .i64 s2)∧Below wr.heap.size wr w':=fun wr hb=>by rw[←hsd2];exact hws x2 wr hv2 (hB2.trans (hb.mono hB2.size))
  rw[hsd1,hsd2] at hr;obtain⟨p0,p1⟩:=p;simp only[] at hc1 hc2 pp2 d0 hw1⊢;have hcc:∀w',Below w2.heap.size w2 w'→(w'.cell? ⟨w.heap.size,0,none⟩=some (.pointer (some ⟨mb,0,none⟩))∧w'.cell? ⟨w.heap.size,1,none⟩=some (.int .i64 (s:Int))∧w'.cell? ⟨w.heap.size,2,none⟩=some (.int .i64 p0)∧w'.cell? ⟨w.heap.size,3,none⟩=some (.int .i64 p1)∧w'.cell? ⟨vb,k1,none⟩=some (.int .i64 x1)∧w'.cell? ⟨vb,k2,none⟩=some (.int .i64 x2)):=by
    intro w' hb;have hpw:=pp2.below hb;have hvw:=pv.below hb;have y1:=box3_at hvw hk13;have y2:=box3_at hvw hk23;rw[hx1] at y1;rw[hx2] at y2;exact⟨hpw.c 0 _ rfl,hpw.c 1 _ rfl,hpw.c 2 _ rfl,hpw.c 3 _ rfl,y1,y2⟩
  have CC:=Lib.hid hcc;have C1:=Lib.hid hc1;have C2:=Lib.hid hc2;have HRR:=Lib.hid hr;have HB2:=Lib.hid hB2;have i7:(0:Int)≤(k1:Int):=by omega
  have i8:(k1:Int)<3:=by omega
  have i9:(0:Int)≤(k2:Int):=by omega
  have i10:(k2:Int)<3:=by omega
  clear h hP hp hS hT hi hv0 hv hb1 hb2 hB2 pp pv pp2 hm1 hlen hkl hsh hbl hk1 hk2 y1 y2 hx1 hx2 hv1 hv2 hr hws hs1 hs2 hsd1 hsd2 hc1 hc2 hcc;go_enter Tryz.func88,Tryz.ntmps88;go_wp2;clear c0 c1 c2 d0 e1 hw1 hw2;have hB:=Below.refl w2.heap.size w2;by_cases hneg:s1<0
  · have hg:decide (s1<0)=true:=decide_eq_true hneg;have hB_0:=hB.drew';refine wp_region_noPanic ?_;refine wp_region_held_drew (S:=fun w'=>w'.cell? ⟨w.heap.size,0,none⟩=some (.pointer (some ⟨mb,0,none⟩))∧w'.cell? ⟨w.heap.size,1,none⟩=some (.int .i64 (s:Int))∧w'.cell? ⟨w.heap.size,2,none⟩=some (.int .i64 p0)∧w'.cell? ⟨w.heap.size,3,none⟩=some (.int .i64 p1)∧w'.cell? ⟨vb,k1,none⟩=some (.int .i64 x1)∧w'.cell? ⟨vb,k2,none⟩=some (.int .i64 x2)) (by kernel_rfl) (CC.out _ hB_0) (fun hHeld=>?_);refine rU 0 _ _ ?_;refine rU 1 _ _ ?_;refine rU 2 _ _ ?_;refine rU 3 _ _ ?_;refine rU 4 _ _ ?_;refine rU 5 _ _ ?_;refine rC 6 _ (fun K hK=>?_);go_simp;refine(C1.out _ hB_0).mono ?_;rintro e wq1 ⟨rfl,hbwq1⟩;have hB_1:=hB_0.trans (hbwq1.mono hB_0.size);clear hbwq1;go_wp2_with fail;refine hK.out _ _ (CC.out _ hB_1) (fun hHeld=>?_);clear hK K;try simp only[Act.put,sA,sZ,sS]
    refine rU 7 _ _ ?_;refine rU 8 _ _ ?_;refine rU 9 _ _ ?_;refine rU 10 _ _ ?_;refine rU 11 _ _ ?_;refine rU 12 _ _ ?_;refine rU 13 _ _ ?_;refine rU 14 _ _ ?_;refine rC 15 _ (fun K hK=>?_);go_simp;refine(C2.out _ hB_1).mono ?_;rintro e wq2 ⟨rfl,hbwq2⟩;have hB_2:=hB_1.trans (hbwq2.mono hB_1.size);clear hbwq2;go_wp2_with fail;refine hK.out _ _ (CC.out _ hB_2) (fun hHeld=>?_);clear hK K;try simp only[Act.put,sA,sZ,sS]
    refine rU 16 _ _ ?_;refine rU 17 _ _ ?_;refine rU 18 _ _ ?_;refine wpAnyH_done (by kernel_rfl) ?_ _;refine NoPanic.normal ?_;have HBF:=Lib.hid (HB2.out.trans (hB_2.mono HB2.out.size));clear hB hB_0 hB_1 hB_2;go_wp2;go_ret;exact⟨by rw[←HRR.out,hg];rfl,HBF.out⟩
  · have hg:decide (s1<0)=false:=decide_eq_false hneg;have hB_0:=hB.drew';refine wp_region_noPanic ?_;refine wp_region_held_drew (S:=fun w'=>w'.cell? ⟨w.heap.size,0,none⟩=some (.pointer (some ⟨mb,0,none⟩))∧w'.cell? ⟨w.heap.size,1,none⟩=some (.int .i64 (s:Int))∧w'.cell? ⟨w.heap.size,2,none⟩=some (.int .i64 p0)∧w'.cell? ⟨w.heap.size,3,none⟩=some (.int .i64 p1)∧w'.cell? ⟨vb,k1,none⟩=some (.int .i64 x1)∧w'.cell? ⟨vb,k2,none⟩=some (.int .i64 x2)) (by kernel_rfl) (CC.out _ hB_0) (fun hHeld=>?_);refine rU 0 _ _ ?_;refine rU 1 _ _ ?_;refine rU 2 _ _ ?_;refine rU 3 _ _ ?_;refine rU 4 _ _ ?_;refine rU 5 _ _ ?_;refine rC 6 _ (fun K hK=>?_);go_simp;refine(C1.out _ hB_0).mono ?_;rintro e wq1 ⟨rfl,hbwq1⟩;have hB_1:=hB_0.trans (hbwq1.mono hB_0.size);clear hbwq1;go_wp2_with fail;refine hK.out _ _ (CC.out _ hB_1) (fun hHeld=>?_);clear hK K;try simp only[Act.put,sA,sZ,sS]
    refine rU 7 _ _ ?_;refine rU 8 _ _ ?_;refine rS 9 ?_ ?_ ?_ ?_;rotate_left 1;·simp only[gA,gS,gZ];exact rfl
    ·rfl
    try simp only[Act.put,sA,sZ,sS]
    refine rS 10 ?_ ?_ ?_ ?_;rotate_left 1;·simp only[gA,gS,gZ];exact rfl
    ·rfl
    try simp only[Act.put,sA,sZ,sS]
    refine rS 11 ?_ ?_ ?_ ?_;rotate_left 1;·simp only[gA,gS,gZ];exact rfl
    ·rfl
    try simp only[Act.put,sA,sZ,sS]
    refine rS 12 ?_ ?_ ?_ ?_;rotate_left 1;·simp only[gA,gS,gZ];exact rfl
    ·rfl
    try simp only[Act.put,sA,sZ,sS]
    refine rS 13 ?_ ?_ ?_ ?_;rotate_left 1;·simp only[gA,gS,gZ];exact rfl
    ·rfl
    try simp only[Act.put,sA,sZ,sS]
    refine rS 14 ?_ ?_ ?_ ?_;rotate_left 1;·simp only[gA,gS,gZ];exact rfl
    ·rfl
    try simp only[Act.put,sA,sZ,sS]
    refine rS 15 ?_ ?_ ?_ ?_;rotate_left 1;·simp only[gA,gS,gZ];exact rfl
    ·rfl
    try simp only[Act.put,sA,sZ,sS]
    refine rS 16 ?_ ?_ ?_ ?_;rotate_left 1;·simp only[gA,gS,gZ];exact rfl
    ·rfl
    try simp only[Act.put,sA,sZ,sS]
    refine rU 17 _ _ ?_;refine rU 18 _ _ ?_;refine wpAnyH_done (by kernel_rfl) ?_ _;refine NoPanic.normal ?_;have HBF:=Lib.hid (HB2.out.trans (hB_1.mono HB2.out.size));clear hB hB_0 hB_1;go_wp2;go_ret;exact⟨by rw[←HRR.out,hg];rfl,HBF.out⟩
end Go.Proofs.YtammmemfkpcpcaaGreat
