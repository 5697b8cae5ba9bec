import Derived.Test.YtammmemfkpcpcaaGreatPartp
import Derived.WideKeyArr
import Derived.DataShut
import Derived.Test.YtammmemfkpcpcaaGreatPartq
import Derived.StillTailTactics
import Derived.Test.YtammmemfkpcpcaaGreatPartm
import Derived.Test.YtammmemfkpcpcaaGreatPartj
import Derived.Test.YtammmemfkpcpcaaGreatWalkSk
import Derived.BigQuiet
import Derived.Deep.QuietTactic
import Derived.Test.YtammmemfkpcpcaaGreatPartk
import Derived.Test.YtammmemfkpcpcaaGreatParti
import Derived.Test.YtammmemfkpcpcaaGreatParth
import Derived.Test.YtammmemfkpcpcaaGreatPartl
import Derived.Test.YtammmemfkpcpcaaGreatPartg
set_option linter.unusedSimpArgs false
set_option linter.unusedVariables false
namespace Go.Proofs.YtammmemfkpcpcaaGreat
open Go.RowKit Go.MagM Go.Maps Go.WideMaps Go.WideShapes
theorem keyedI:Keyed Tryz.prog 3:=int_keyed Tryz.underlying3
theorem wf_small{a:Int}(h:-1000000≤a∧a≤1000000):(Lit.int .i64 a).wf=true:=by rw[Lit.wf_int_iff];exact⟨by show-9223372036854775808≤a;omega,by show a≤9223372036854775807;omega⟩
theorem keyI_of{a:Int}(ha:-1000000≤a∧a≤1000000):keyOf Tryz.prog 3 (.int .i64 a)=some (.int .i64 a):=keyOf_int_mk Tryz.underlying3 (wf_small ha)
end Go.Proofs.YtammmemfkpcpcaaGreat
namespace Go.Proofs.YtammmemfkpcpcaaGreat
open Go.RowKit Go.MagM
section
variable{P:List (Int×Int)}{a b c:Nat}
theorem newM_get(a b c:Int)(k:Nat)(T:TriM)(h:(newM a b c)[k]?=some T):(k=0∧T=⟨a,b,c,1,2,3,false,false,false⟩)∨(k=1∧T=⟨c,b,-1,3,2,0,false,false,false⟩)∨(k=2∧T=⟨a,c,-1,1,3,0,false,false,false⟩)∨(k=3∧T=⟨b,a,-1,2,1,0,false,false,false⟩):=by match k,h with|0,h=>simp[newM] at h;exact .inl ⟨rfl,h.symm⟩|1,h=>simp[newM] at h;exact .inr (.inl ⟨rfl,h.symm⟩)|2,h=>simp[newM] at h;exact .inr (.inr (.inl ⟨rfl,h.symm⟩))|3,h=>simp[newM] at h;exact .inr (.inr (.inr ⟨rfl,h.symm⟩))|_+4,h=>simp[newM] at h
end
end Go.Proofs.YtammmemfkpcpcaaGreat
namespace Go.MagM
open Go.RowKit
section
variable{P:Program}
theorem MeshO.turned{p e:TypeId}{w w':World}{lo mb pb pc:Nat}{tv:Value}{P:List (Int×Int)}{S:List TriM}{ob:Nat}(h:MeshO p e w lo mb pb pc tv P S)(ht:Turned w w' ob)(h1:mb≠ob)(h2:pb≠ob)(h3:tv.ownBlock≠some ob):MeshO p e w' lo mb pb pc tv P S:=⟨h.box.same (ht.block mb h1),owns_turned h.prow ht (fun e=>h2 (by simpa[Value.ownBlock] using e)),owns_turned h.row ht h3,by rw[ht.size];exact h.low,h.apart,h.short⟩
end
end Go.MagM
namespace Go.Proofs.YtammmemfkpcpcaaGreat
open Go.RowKit Go.MagM Go.Maps
end Go.Proofs.YtammmemfkpcpcaaGreat
namespace Go.MagM
open Go.RowKit
def ptT(P:List (Int×Int))(T:TriM)(k:Nat):Int×Int:=ptA P (T.v k).toNat
theorem box9v{w:World}{g:Nat}{T:TriM}(h:Box w g T.cells){k:Nat}(hk:k<3):w.cell? ⟨g,k,none⟩=some (.int .i64 (T.v k)):=by
  obtain rfl|rfl|rfl:k=0∨k=1∨k=2:=by omega
  ·exact h.c 0 _ rfl
  ·exact h.c 1 _ rfl
  ·exact h.c 2 _ rfl
theorem edgeV_is(T:TriM){i:Nat}(hi:i<3):edgeV T i=(T.v ((i+1)%3),T.v ((i+2)%3)):=by
  obtain rfl|rfl|rfl:i=0∨i=1∨i=2:=by omega
  all_goals rfl
def corK(P:List (Int×Int))(T:TriM)(k:Nat):List (Int×Int):=if 0≤T.v k∧T.v k<(P.length:Int) then[ptT P T k] else[]
def corF(T:TriM):Nat:=(placeT T (-1)+1).toNat
def corsN(P:List (Int×Int))(T:TriM):Nat→List (Int×Int)|0=>[]|n+1=>corsN P T n++corK P T ((corF T+n)%3)
def cors(P:List (Int×Int))(T:TriM):List (Int×Int):=corsN P T 3
theorem corK_le(P:List (Int×Int))(T:TriM)(k:Nat):(corK P T k).length≤1:=by unfold corK;split<;>simp
theorem corsN_le(P:List (Int×Int))(T:TriM):∀n,(corsN P T n).length≤n|0=>Nat.le_refl _|n+1=>by have:=corsN_le P T n;have:=corK_le P T ((corF T+n)%3);rw[corsN,List.length_append];omega
theorem corF_lt(T:TriM):corF T≤3:=by unfold corF;rcases placeT_cases T (-1) with e|e|e|e<;>rw[e]<;>decide
end Go.MagM
namespace Go.Proofs.YtammmemfkpcpcaaGreat
open Go.RowKit Go.MagM
set_option maxRecDepth 100000 in set_option maxHeartbeats 4000000 in theorem cvEnds_any(T:TriM)(i:Nat)(hi:i<3)(w:World):Calls Tryz.prog 173 #[triV T,.int .i64 (i:Int)] w fun e w'=>e= .returned (.tuple #[.int .i64 (edgeV T i).1,.int .i64 (edgeV T i).2])∧Below w.heap.size w w':=by
  rw[edgeV_is T hi];obtain⟨v0,v1,v2,n0,n1,n2,f0,f1,f2⟩:=T;unfold triV;simp only[];obtain⟨w1,hw1,hp,hb1,hs1⟩:=new_box w _ rfl [.int .i64 v0,.int .i64 v1,.int .i64 v2,.int .i64 n0,.int .i64 n1,.int .i64 n2,.bool f0,.bool f1,.bool f2] 42;have m1:=mod3_one hi;have m2:=mod3_two hi;obtain⟨k1,hk1⟩:∃k1,(i+1)%3=k1:=⟨_,rfl⟩;obtain⟨k2,hk2⟩:∃k2,(i+2)%3=k2:=⟨_,rfl⟩;rw[hk1] at m1;rw[hk2] at m2;have hk13:k1<3:=by omega
  have hk23:k2<3:=by omega
  rw[hk1,hk2];obtain⟨x1,hx1⟩:∃x,(⟨v0,v1,v2,n0,n1,n2,f0,f1,f2⟩:TriM).v k1=x:=⟨_,rfl⟩;obtain⟨x2,hx2⟩:∃x,(⟨v0,v1,v2,n0,n1,n2,f0,f1,f2⟩:TriM).v k2=x:=⟨_,rfl⟩;have y1:=box9v (T:=⟨v0,v1,v2,n0,n1,n2,f0,f1,f2⟩) hp hk13;have y2:=box9v (T:=⟨v0,v1,v2,n0,n1,n2,f0,f1,f2⟩) hp hk23;rw[hx1] at y1;rw[hx2] at y2;rw[hx1,hx2];have HB1:=Lib.hid hb1;have i7:(0:Int)≤(k1:Int):=by omega
  have i8:(k1:Int)<3:=by omega
  have i9:(0:Int)≤(k2:Int):=by omega
  have i10:(k2:Int)<3:=by omega
  clear hp hb1 hs1 hk1 hk2 hx1 hx2;go_enter Tryz.func173,Tryz.ntmps173;go_wp2;refine wp_region_noPanic ?_;refine wp_region_held_drew (S:=fun w'=>w'.cell? ⟨w.heap.size,k1,none⟩=some (.int .i64 x1)∧w'.cell? ⟨w.heap.size,k2,none⟩=some (.int .i64 x2)) (by kernel_rfl) (⟨y1,y2⟩) (fun hHeld=>?_);refine rU 0 _ _ ?_;refine rU 1 _ _ ?_;refine rU 2 _ _ ?_;refine rU 3 _ _ ?_;refine rU 4 _ _ ?_;refine rU 5 _ _ ?_;refine rU 6 _ _ ?_;refine rU 7 _ _ ?_;refine rU 8 _ _ ?_;refine rU 9 _ _ ?_;refine rU 10 _ _ ?_;refine rU 11 _ _ ?_;refine rU 12 _ _ ?_;refine rU 13 _ _ ?_;refine wpAnyH_done (by kernel_rfl) ?_ _;refine NoPanic.normal ?_;go_wp2;go_ret2;exact⟨rfl,HB1.out.drew'⟩
set_option maxRecDepth 100000 in set_option maxHeartbeats 8000000 in theorem cvEdge_any{mb pb pc:Nat}{ta:Option Addr}{tc:Nat}{P:List (Int×Int)}{S:List TriM}(t:Nat)(T:TriM)(a b:Int)(w:World)(h:MeshR w mb pb pc ta tc P S)(hT:S[t]?=some T):Calls Tryz.prog 172 #[.pointer (some ⟨mb,0,none⟩),.int .i64 (t:Int),.int .i64 a,.int .i64 b] w fun e w'=>e= .returned (.int .i64 (edgeT T a b))∧Below w.heap.size w w':=by
  have hsh:=h.short.2;have hlt:=(List.getElem?_eq_some_iff.1 hT).1;obtain⟨len,hlen⟩:∃len,S.length=len:=⟨_,rfl⟩;have q1:decide ((t:Int)<0)=false:=decide_eq_false (by omega);have q2:decide ((len:Int)≤(t:Int))=false:=decide_eq_false (by omega);have q3:decide (len≤t)=false:=decide_eq_false (by omega);have i1:(0:Int)≤(t:Int):=by omega
  have i2:(t:Int)<(len:Int):=by omega
  have b1:=h.box.c1;rw[hlen] at b1 hsh hlt;obtain⟨r,hr⟩:∃r,edgeT T a b=r:=⟨_,rfl⟩;rw[hr];have H:=Lib.hid h;have HT:=Lib.hid hT;have HLEN:=Lib.hid hlen;have HR:=Lib.hid hr;clear h hT hlen hr;go_enter Tryz.func172,Tryz.ntmps172;go_wp2;clear b1;go_loopw [23] (fun iv wr=>∃i:Nat,i≤3∧iv= .int .i64 (i:Int)∧(∀j:Nat,j<i→edgeV T j≠(a,b))∧Below w.heap.size w wr) (fun iv _=>3-(intOf iv).toNat);case atStart=>exact⟨0,by omega,rfl,fun j hj=>by omega,Below.refl _ _⟩
  case round=>
    obtain⟨i,hi,rfl,hne,hbw⟩:=hrel;have HNE:=Lib.hid hne;clear hne;by_cases hlt3:i<3
    · have hr_0:=H.out.below hbw;obtain⟨tb,hta,-,h9⟩:=hr_0.tris.get HT.out;subst hta;have b1:=hr_0.box.c1;rw[HLEN.out] at b1;obtain⟨c0,c1,c2,c3,c4,c5,c6,c7,c8⟩:=h9;have HEN:=Lib.hid (fun W=>cvEnds_any T i hlt3 W);obtain⟨x,y,hxy⟩:∃x y,edgeV T i=(x,y):=⟨_,_,rfl⟩;have HEN2:=Lib.hid (show∀W:World,Calls Tryz.prog 173 #[triV T,.int .i64 (i:Int)] W fun e w'=>e= .returned (.tuple #[.int .i64 x,.int .i64 y])∧Below W.heap.size W w' from fun W=>by have h:=HEN.out W;rw[hxy] at h;exact h);have HXY:=Lib.hid hxy;have HBW:=Lib.hid hbw;obtain⟨v0,v1,v2,n0,n1,n2,f0,f1,f2⟩:=T;simp only[] at c0 c1 c2 c3 c4 c5 c6 c7 c8;unfold triV at HEN2;simp only[] at HEN2;clear hr_0 hxy hbw HEN;go_wp2_with fail;refine(HEN2.out _).mono ?_;rintro e w2 ⟨rfl,hb2⟩;have HB2:=Lib.hid (HBW.out.trans (hb2.mono HBW.out.size));clear hb2 c0 c1 c2 c3 c4 c5 c6 c7 c8 b1;by_cases hxa:x=a
      · by_cases hyb:y=b
        · subst hxa;subst hyb;have p1:(x==x)=true:=by simp
          have p2:(y==y)=true:=by simp
          go_wp2;go_ret;exact⟨by rw[←HR.out,edgeT_hit hlt3 HXY.out HNE.out];rfl,HB2.out⟩
        · have p1:(x==a)=true:=by simpa using hxa
          have p2:(y==b)=false:=by simpa using hyb
          have HYB:=Lib.hid hyb;clear hxa hyb;go_wp2;go_roundw;case rel=>
            refine⟨i+1,by omega,by go_num,fun j hj=>?_,HB2.out⟩;rcases Nat.lt_or_ge j i with g|g;·exact HNE.out j g
            · obtain rfl:j=i:=by omega
              rw[HXY.out];intro e;cases e;exact HYB.out rfl
          case measure=>simp[intOf];omega
      · have p1:(x==a)=false:=by simpa using hxa
        have HXA:=Lib.hid hxa;clear hxa;go_wp2;go_roundw;case rel=>
          refine⟨i+1,by omega,by go_num,fun j hj=>?_,HB2.out⟩;rcases Nat.lt_or_ge j i with g|g;·exact HNE.out j g
          · obtain rfl:j=i:=by omega
            rw[HXY.out];intro e;cases e;exact HXA.out rfl
        case measure=>simp[intOf];omega
    · obtain rfl:i=3:=by omega
      have HB2:=Lib.hid hbw;clear hbw;go_wp2;go_ret;exact⟨by rw[←HR.out,edgeT_miss HNE.out];rfl,HB2.out⟩
end Go.Proofs.YtammmemfkpcpcaaGreat
namespace Go.MagM
open Go.RowKit
theorem box3v{w:World}{g:Nat}{T:TriM}(h:Box w g [.int .i64 T.v0,.int .i64 T.v1,.int .i64 T.v2]){k:Nat}(hk:k<3):w.cell? ⟨g,k,none⟩=some (.int .i64 (T.v k)):=by
  obtain rfl|rfl|rfl:k=0∨k=1∨k=2:=by omega
  ·exact h.c 0 _ rfl
  ·exact h.c 1 _ rfl
  ·exact h.c 2 _ rfl
theorem mod3_sum{f k:Nat}(hf:f≤3)(hk:k<3):(IntKind.i64.wrap ((f:Int)+(k:Int))).tmod 3=(((f+k)%3:Nat):Int):=by
  obtain rfl|rfl|rfl|rfl:f=0∨f=1∨f=2∨f=3:=by omega
  all_goals (obtain rfl|rfl|rfl:k=0∨k=1∨k=2:=by omega)
  all_goals decide
theorem cors_le(P:List (Int×Int))(T:TriM):(cors P T).length≤3:=corsN_le P T 3
end Go.MagM
namespace Go.Proofs.YtammmemfkpcpcaaGreat
open Go.RowKit Go.MagM
set_option maxRecDepth 100000 in set_option maxHeartbeats 8000000 in theorem cvCorners_any{mb pb pc:Nat}{ta:Option Addr}{tc:Nat}{P:List (Int×Int)}{S:List TriM}(t:Nat)(T:TriM)(w:World)(h:MeshR w mb pb pc ta tc P S)(hT:S[t]?=some T):Calls Tryz.prog 39 #[.pointer (some ⟨mb,0,none⟩),.int .i64 (t:Int)] w fun e w'=>∃v,e= .returned v∧RowN w' (w.heap.size+1) 24 2 v (cors P T).length (ptsCells (cors P T))∧Below w.heap.size w w':=by
  have hsh:=h.short;have hlt:=(List.getElem?_eq_some_iff.1 hT).1;obtain⟨len,hlen⟩:∃len,S.length=len:=⟨_,rfl⟩;obtain⟨pn,hpn⟩:∃pn,P.length=pn:=⟨_,rfl⟩;have q1:decide ((t:Int)<0)=false:=decide_eq_false (by omega);have q2:decide ((len:Int)≤(t:Int))=false:=decide_eq_false (by omega);have q3:decide (len≤t)=false:=decide_eq_false (by omega);have i1:(0:Int)≤(t:Int):=by omega
  have i2:(t:Int)<(len:Int):=by omega
  have b1:=h.box.c1;rw[hlen] at b1 hsh hlt;rw[hpn] at hsh;obtain⟨tb,hta,-,h9⟩:=h.tris.get hT;subst hta;obtain⟨c0,c1,c2,c3,c4,c5,c6,c7,c8⟩:=h9;obtain⟨i0,hi,hz0,hz1,hz2⟩:=info_parts infoPt;have HI:=Lib.hid hi;have HZ0:=Lib.hid hz0;have HZ1:=Lib.hid hz1;have HZ2:=Lib.hid hz2;clear hi hz0 hz1 hz2;obtain⟨w1,hw1,hp,hb1,hs1⟩:=new_box w _ rfl [.int .i64 T.v0,.int .i64 T.v1,.int .i64 T.v2] 39;obtain⟨r,hr⟩:∃r:Int,placeT T (-1)=r:=⟨_,rfl⟩;obtain⟨f,hf⟩:∃f,corF T=f:=⟨_,rfl⟩;have hfr:IntKind.i64.wrap (r+1)=(f:Int):=by rw[←hf,←hr];unfold corF;rcases placeT_cases T (-1) with e|e|e|e<;>rw[e]<;>decide
  have hf3:f≤3:=hf▸corF_lt T;have HIX:=Lib.hid (show Calls Tryz.prog 78 #[.slice (some ⟨w.heap.size,0,none⟩) 3 3,.int .i64 (-1)] w1 fun e w'=>e= .returned (.int .i64 r)∧w1=w' from by
    have:=index_any w.heap.size 0 3 3 [T.v0,T.v1,T.v2] (-1) w1 rfl (by omega) (fun j v hj=>by
      obtain⟨hl,-⟩:=List.getElem?_eq_some_iff.1 hj;have hj3:j<3:=by simpa using hl
      obtain rfl|rfl|rfl:j=0∨j=1∨j=2:=by omega
      ·cases hj;exact hp.c 0 _ rfl
      ·cases hj;exact hp.c 1 _ rfl
      ·cases hj;exact hp.c 2 _ rfl);rw[place_idx,hr] at this;exact this);have H:=Lib.hid (h.below hb1);have HT:=Lib.hid hT;have HPN:=Lib.hid hpn;have HR:=Lib.hid hr;have HF:=Lib.hid hf;have HP:=Lib.hid hp;have HB1:=Lib.hid hb1;have HS1:=Lib.hid (show w1.heap.size=w.heap.size+1 from by omega);have HF3:=Lib.hid hf3;clear h hT hlen hpn hr hf hp hb1 hs1 hf3;go_enter Tryz.func39,Tryz.ntmps39;go_wp2_with fail;refine HIX.out.mono ?_;rintro e w2 ⟨rfl,rfl⟩;clear b1 c0 c1 c2 c3 c4 c5 c6 c7 c8 hw1 i1 i2;go_wp2;clear hfr;go_loopw [7,32] (fun pv iv wr=>∃(k:Nat) (vv:Value),k≤3∧iv= .int .i64 (k:Int)∧vv=pv∧RowN wr (w.heap.size+1) 24 2 vv (corsN P T k).length (ptsCells (corsN P T k))∧Box wr w.heap.size [.int .i64 T.v0,.int .i64 T.v1,.int .i64 T.v2]∧Below w1.heap.size w1 wr∧Below w.heap.size w wr) (fun _ iv _=>3-(intOf iv).toNat);case atStart=>exact⟨0,_,Nat.zero_le _,rfl,rfl,RowN.nil _ _ _ _,HP.out,Below.refl _ _,HB1.out⟩
  case round=>
    obtain⟨k,vv,hk,rfl,rfl,hrow,hbx,hbo,hbw⟩:=hrel;by_cases hlt3:k<3
    · have hj:(f+k)%3<3:=Nat.mod_lt _ (by omega);have hm:=mod3_sum HF3.out hlt3;obtain⟨j,hje⟩:∃j,(f+k)%3=j:=⟨_,rfl⟩;rw[hje] at hj hm;have hm2:(wrap64 ((f:Int)+(k:Int))).tmod 3=(j:Int):=by rw[←IntWalk.i64_left];exact hm
      obtain⟨x,hx⟩:∃x,T.v j=x:=⟨_,rfl⟩;have y1:=box3v hbx hj;rw[hx] at y1;have HST:=Lib.hid (show corsN P T (k+1)=corsN P T k++corK P T j by rw[corsN,HF.out,hje]);have j1:(0:Int)≤(j:Int):=by omega
      have j2:(j:Int)<3:=by omega
      have hr_0:=H.out.below hbo;have b0:=hr_0.box.c 0 _ rfl;rw[HPN.out] at b0;have HX:=Lib.hid hx;clear hje hx hj;by_cases hx0:0≤x
      · obtain⟨a,rfl⟩:=Int.eq_ofNat_of_zero_le hx0;have g1:decide (0≤(a:Int))=true:=decide_eq_true (by omega);by_cases hap:a<pn
        · have g2:decide ((a:Int)<(pn:Int))=true:=decide_eq_true (by omega);have g3:decide (a<pn)=true:=decide_eq_true hap;have j4:(a:Int)<(pn:Int):=by omega
          have hck:corK P T j=[ptA P a]:=by unfold corK ptT;rw[HX.out,HPN.out,if_pos ⟨hx0,j4⟩];rfl
          obtain⟨⟨px,py⟩,hpa⟩:∃q,ptA P a=q:=⟨_,rfl⟩;have hat:=ptA_at (P:=P) (v:=a) (by rw[HPN.out];exact hap);rw[hpa] at hat hck;obtain⟨d0,d1⟩:=hr_0.pt hat;obtain⟨w3,hw3,pz,hb3,hs3⟩:=new_box wr _ rfl [.int .i64 px,.int .i64 py] 24;have hrow3:=hrow.below hb3;have hbx3:=hbx.below hb3;have hbw3:=hbw.trans (hb3.mono hbw.size);have hbo3:=hbo.trans (hb3.mono hbo.size);have hcl:=corsN_le P T k;have hz1:=HS1.out;have hz2:=hbo.size;obtain⟨v1,w4,hrun,rown,hgrow,hkept⟩:=run_append_row (P:=Tryz.prog) w3 (w.heap.size+1) 35 35 24 i0 (.agg #[.int .i64 0,.int .i64 0]) 2 16 (by kernel_rfl) HI.out HZ0.out HZ1.out HZ2.out rfl (noWordI2 _ _) _ (corsN P T k).length _ hrow3 ⟨wr.heap.size,0,none⟩ 1 1 [.int .i64 px,.int .i64 py] (by omega) rfl pz.news (by intro u hu;simp at hu;rcases hu with rfl|rfl<;>rfl) (noWordI2 _ _) (by unfold maxLen;omega) (by omega) (by omega);have hne:∀g,vv.ownBlock=some g→w.heap.size+1≤g:=fun g hg=>(hrow3.lt g hg).1;have hbx4:=hbx3.grown hgrow (fun e=>by have:=hne _ e;omega) hbx3.lt;have hbw4:Below w.heap.size w w4:=hbw3.grown hgrow (by omega) (fun g hg=>by have:=hne g hg;omega);have hbo4:Below w1.heap.size w1 w4:=hbo3.grown hgrow (by omega) (fun g hg=>by have:=hne g hg;omega);have rown2:RowN w4 (w.heap.size+1) 24 2 v1 (corsN P T (k+1)).length (ptsCells (corsN P T (k+1))):=by rw[HST.out,hck,List.length_append,ptsCells_app];exact rown
          have FIN:=Lib.hid (And.intro rown2 (And.intro hbx4 (And.intro hbo4 hbw4)));clear hrow hbx hbo hbw hr_0 pz hb3 hs3 hrow3 hbx3 hbw3 hbo3 rown hgrow hkept hne hbx4 hbw4 hbo4 rown2 hcl hat hck hz1 hz2;go_wp2_with (refine wpList_append_row rfl _ _ 35 rfl rfl rfl hrun ?_);have FI:=FIN.out;exact⟨⟨k+1,_,by omega,by go_num,rfl,FI.1,FI.2.1,FI.2.2.1,FI.2.2.2⟩,by simp[intOf];omega⟩
        · have g2:decide ((a:Int)<(pn:Int))=false:=decide_eq_false (by omega);have g3:decide (a<pn)=false:=decide_eq_false hap;have HNO:=Lib.hid (show corK P T j=[] by unfold corK;rw[HX.out,HPN.out,if_neg (by omega)]);have FIN:=Lib.hid (And.intro hrow (And.intro hbx (And.intro hbo hbw)));clear hrow hbx hbo hbw hr_0;go_wp2;have FI:=FIN.out;refine⟨⟨k+1,_,by omega,by go_num,rfl,?_,FI.2.1,FI.2.2.1,FI.2.2.2⟩,by simp[intOf];omega⟩;rw[HST.out,HNO.out,List.append_nil];exact FI.1
      · have g1:decide (0≤x)=false:=decide_eq_false hx0;have HNO:=Lib.hid (show corK P T j=[] by unfold corK;rw[HX.out,if_neg (by omega)]);have FIN:=Lib.hid (And.intro hrow (And.intro hbx (And.intro hbo hbw)));clear hrow hbx hbo hbw hr_0;go_wp2;have FI:=FIN.out;refine⟨⟨k+1,_,by omega,by go_num,rfl,?_,FI.2.1,FI.2.2.1,FI.2.2.2⟩,by simp[intOf];omega⟩;rw[HST.out,HNO.out,List.append_nil];exact FI.1
    · obtain rfl:k=3:=by omega
      have FIN:=Lib.hid (And.intro hrow hbw);clear hrow hbx hbo hbw;go_wp2;go_ret;exact⟨_,rfl,FIN.out.1,FIN.out.2⟩
end Go.Proofs.YtammmemfkpcpcaaGreat
namespace Go.MagM
open Go.RowKit
theorem corsN_in{P:List (Int×Int)}{T:TriM}{q:Int×Int}:∀n,q∈corsN P T n→q∈P
  |0,h=>by cases h|n+1,h=>by
    rw[corsN] at h;rcases List.mem_append.1 h with h|h;·exact corsN_in n h
    · unfold corK at h;split at h
      · rename_i hc;simp only[List.mem_singleton] at h;have hl:(T.v ((corF T+n)%3)).toNat<P.length:=by omega
        rw[h];unfold ptT ptA;rw[List.getElem?_eq_getElem hl];exact List.getElem_mem hl
      ·cases h
theorem RowN.ptCell{w:World}{base:Nat}{e:TypeId}{n:Nat}{l:List (Int×Int)}{g c:Nat}(h:RowN w base e 2 (.slice (some ⟨g,0,none⟩) n c) n (ptsCells l)){j:Nat}{u:Value}(hj:(ptsCells l)[j]?=some u):w.cell? ⟨g,j,none⟩=some u:=h.cells rfl j u hj
theorem sign_pos{x:Int}:(0:Int)<x.sign↔0<x:=by
  rcases Int.lt_trichotomy x 0 with h|h|h;·rw[Int.sign_eq_neg_one_of_neg h];omega
  ·subst h;simp
  ·rw[Int.sign_eq_one_of_pos h];omega
end Go.MagM
namespace Go.Proofs.YtammmemfkpcpcaaGreat
open Go.RowKit Go.MagM
def conflictL(l:List (Int×Int))(p:Int×Int):Bool:=match l with|[a,b,c]=>decide (0<inc a.1 a.2 b.1 b.2 c.1 c.2 p.1 p.2)|[a,b]=>decide (0<crs a.1 a.2 b.1 b.2 p.1 p.2)||(decide (¬(p.1=a.1∧p.2=a.2)∧¬(p.1=b.1∧p.2=b.2))&&onP p.1 p.2 a.1 a.2 b.1 b.2)|_=>false
def conflictM(P:List (Int×Int))(T:TriM)(p:Int×Int):Bool:=conflictL (cors P T) p
set_option maxRecDepth 100000 in set_option maxHeartbeats 8000000 in theorem cvConflict_any{mb pb pc:Nat}{ta:Option Addr}{tc:Nat}{P:List (Int×Int)}{S:List TriM}(t:Nat)(T:TriM)(p0 p1:Int)(w:World)(h:MeshR w mb pb pc ta tc P S)(hP:InPs P)(hp:InP p0∧InP p1)(hT:S[t]?=some T):Calls Tryz.prog 15 #[.pointer (some ⟨mb,0,none⟩),.int .i64 (t:Int),.agg #[.int .i64 p0,.int .i64 p1]] w fun e w'=>e= .returned (.bool (conflictM P T (p0,p1)))∧Below w.heap.size w w':=by
  obtain⟨w1,hw1,hp1,hb1,hs1⟩:=new_box w _ rfl [.int .i64 p0,.int .i64 p1] 24;have HC:=Lib.hid (cvCorners_any t T w1 (h.below hb1) hT);have HIN:=Lib.hid (show∀q∈cors P T,InP q.1∧InP q.2 from fun q hq=>hP q (corsN_in 3 hq));obtain⟨r,hr⟩:∃r,conflictM P T (p0,p1)=r:=⟨_,rfl⟩;obtain⟨l,hl⟩:∃l,cors P T=l:=⟨_,rfl⟩;rw[hl] at HC HIN;rw[hr];have HR:=Lib.hid (show conflictL l (p0,p1)=r from by rw[←hl];exact hr);have HPP:=Lib.hid hp;have HP1:=Lib.hid hp1;have HB1:=Lib.hid hb1;have HS1:=Lib.hid hs1;have hl3:l.length≤3:=by rw[←hl];exact cors_le P T
  clear h hP hT hr hl hp hp1 hb1 hs1;go_enter Tryz.func15,Tryz.ntmps15;go_wp2_with fail;refine HC.out.mono ?_;rintro e w2 ⟨v,rfl,hrow,hb2⟩;clear hw1;have HB2:=Lib.hid (HB1.out.trans (hb2.mono HB1.out.size));have HP2:=Lib.hid (HP1.out.below hb2);have HROW:=Lib.hid hrow;clear hb2;rcases l with _|⟨⟨a0,a1⟩,_|⟨⟨b0,b1⟩,_|⟨⟨c0,c1⟩,_|⟨d,l4⟩⟩⟩⟩
  · obtain⟨ao,c,rfl⟩:∃ao c,v= .slice ao 0 c:=by
      rcases hrow.2 with⟨h1,-⟩|⟨g,cap,cur,h1,-⟩;·exact⟨_,_,h1⟩
      ·exact⟨_,_,h1⟩
    clear hrow;go_wp2;go_ret;exact⟨by rw[←HR.out];rfl,HB2.out⟩
  · obtain⟨g,c,rfl⟩:∃g c,v= .slice (some ⟨g,0,none⟩) 1 c:=by
      rcases hrow.2 with⟨-,h1⟩|⟨g,cap,cur,h1,-⟩;·cases h1
      ·exact⟨g,cap,h1⟩
    clear hrow;go_wp2;go_ret;exact⟨by rw[←HR.out];rfl,HB2.out⟩
  · obtain⟨g,c,rfl⟩:∃g c,v= .slice (some ⟨g,0,none⟩) 2 c:=by
      rcases hrow.2 with⟨-,h1⟩|⟨g,cap,cur,h1,-⟩;·cases h1
      ·exact⟨g,cap,h1⟩
    have hA:=HIN.out (a0,a1) (by simp);have hB:=HIN.out (b0,b1) (by simp);have HO:=Lib.hid (fun W=>Orient_any a0 a1 b0 b1 p0 p1 hA.1 hA.2 hB.1 hB.2 HPP.out.1 HPP.out.2 W);have HBT:=Lib.hid (fun W=>Between_any p0 p1 a0 a1 b0 b1 _ (fun W=>On_is p0 p1 a0 a1 b0 b1 HPP.out.1 HPP.out.2 hA.1 hA.2 hB.1 hB.2 _ rfl W) W);have K0:=Lib.hid (show w2.cell? ⟨g,0,none⟩=some (.int .i64 a0)∧w2.cell? ⟨g,1,none⟩=some (.int .i64 a1)∧w2.cell? ⟨g,2,none⟩=some (.int .i64 b0)∧w2.cell? ⟨g,3,none⟩=some (.int .i64 b1)∧w2.cell? ⟨w.heap.size,0,none⟩=some (.int .i64 p0)∧w2.cell? ⟨w.heap.size,1,none⟩=some (.int .i64 p1) from⟨HROW.out.ptCell rfl,HROW.out.ptCell rfl,HROW.out.ptCell rfl,HROW.out.ptCell rfl,HP2.out.c 0 _ rfl,HP2.out.c 1 _ rfl⟩);obtain⟨s,hs⟩:∃s,(crs a0 a1 b0 b1 p0 p1).sign=s:=⟨_,rfl⟩;rw[hs] at HO;have hcs:decide (0<crs a0 a1 b0 b1 p0 p1)=decide (0<s):=by rw[←hs,decide_eq_decide];exact sign_pos.symm
    obtain⟨q,hq⟩:∃q,(decide (¬(p0=a0∧p1=a1)∧¬(p0=b0∧p1=b1))&&onP p0 p1 a0 a1 b0 b1)=q:=⟨_,rfl⟩;rw[hq] at HBT;have HRQ:=Lib.hid (show(decide (0<s)||q)=r by rw[←HR.out,←hq,←hcs];rfl);clear hrow hA hB hs hcs hq;by_cases hs0:0<s
    · have e1:decide (0<s)=true:=decide_eq_true hs0;have HRT:=Lib.hid (show true=r by rw[←HRQ.out,e1];rfl);clear hs0;go_wp2;refine wp_region_noPanic ?_;refine wp_region_held_drew (S:=fun w'=>w'.cell? ⟨g,0,none⟩=some (.int .i64 a0)∧w'.cell? ⟨g,1,none⟩=some (.int .i64 a1)∧w'.cell? ⟨g,2,none⟩=some (.int .i64 b0)∧w'.cell? ⟨g,3,none⟩=some (.int .i64 b1)∧w'.cell? ⟨w.heap.size,0,none⟩=some (.int .i64 p0)∧w'.cell? ⟨w.heap.size,1,none⟩=some (.int .i64 p1)) (by kernel_rfl) (K0.out) (fun hHeld=>?_);refine rU 0 _ _ ?_;refine rU 1 _ _ ?_;refine rU 2 _ _ ?_;refine rU 3 _ _ ?_;refine rU 4 _ _ ?_;refine rU 5 _ _ ?_;refine rU 6 _ _ ?_;refine rC 7 _ (fun K hK=>?_);go_simp;refine(HO.out _).mono ?_;rintro e w3 ⟨rfl,hb3⟩;have HB3:=Lib.hid hb3;clear hb3;refine hK.out _ _ (⟨(HB3.out.cell (World.block_lt_of_cell? _ _ K0.out.1)).trans K0.out.1,(HB3.out.cell (World.block_lt_of_cell? _ _ K0.out.2.1)).trans K0.out.2.1,(HB3.out.cell (World.block_lt_of_cell? _ _ K0.out.2.2.1)).trans K0.out.2.2.1,(HB3.out.cell (World.block_lt_of_cell? _ _ K0.out.2.2.2.1)).trans K0.out.2.2.2.1,(HB3.out.cell (World.block_lt_of_cell? _ _ K0.out.2.2.2.2.1)).trans K0.out.2.2.2.2.1,(HB3.out.cell (World.block_lt_of_cell? _ _ K0.out.2.2.2.2.2)).trans K0.out.2.2.2.2.2⟩) (fun hHeld=>?_);clear hK K;try simp only[Act.put,sA,sZ,sS]
      refine rU 8 _ _ ?_;refine rU 9 _ _ ?_;refine rS 10 ?_ ?_ ?_ ?_;rotate_left 1;·simp only[gA,gS,gZ];exact rfl
      ·rfl
      try simp only[Act.put,sA,sZ,sS]
      refine rS 11 ?_ ?_ ?_ ?_;rotate_left 1;·simp only[gA,gS,gZ];exact rfl
      ·rfl
      try simp only[Act.put,sA,sZ,sS]
      refine rS 12 ?_ ?_ ?_ ?_;rotate_left 1;·simp only[gA,gS,gZ];exact rfl
      ·rfl
      try simp only[Act.put,sA,sZ,sS]
      refine rS 13 ?_ ?_ ?_ ?_;rotate_left 1;·simp only[gA,gS,gZ];exact rfl
      ·rfl
      try simp only[Act.put,sA,sZ,sS]
      refine rS 14 ?_ ?_ ?_ ?_;rotate_left 1;·simp only[gA,gS,gZ];exact rfl
      ·rfl
      try simp only[Act.put,sA,sZ,sS]
      refine rS 15 ?_ ?_ ?_ ?_;rotate_left 1;·simp only[gA,gS,gZ];exact rfl
      ·rfl
      try simp only[Act.put,sA,sZ,sS]
      refine rS 16 ?_ ?_ ?_ ?_;rotate_left 1;·simp only[gA,gS,gZ];exact rfl
      ·rfl
      try simp only[Act.put,sA,sZ,sS]
      refine rS 17 ?_ ?_ ?_ ?_;rotate_left 1;·simp only[gA,gS,gZ];exact rfl
      ·rfl
      try simp only[Act.put,sA,sZ,sS]
      refine rU 18 _ _ ?_;refine rU 19 _ _ ?_;refine wpAnyH_done (by kernel_rfl) ?_ _;refine NoPanic.normal ?_;go_wp2;go_ret;exact⟨by rw[←HRT.out];rfl,HB2.out.drew'.trans (HB3.out.mono HB2.out.size)⟩
    · have e1:decide (0<s)=false:=decide_eq_false hs0;have HRT:=Lib.hid (show q=r by rw[←HRQ.out,e1];rfl);clear hs0;go_wp2;refine wp_region_noPanic ?_;refine wp_region_held_drew (S:=fun w'=>w'.cell? ⟨g,0,none⟩=some (.int .i64 a0)∧w'.cell? ⟨g,1,none⟩=some (.int .i64 a1)∧w'.cell? ⟨g,2,none⟩=some (.int .i64 b0)∧w'.cell? ⟨g,3,none⟩=some (.int .i64 b1)∧w'.cell? ⟨w.heap.size,0,none⟩=some (.int .i64 p0)∧w'.cell? ⟨w.heap.size,1,none⟩=some (.int .i64 p1)) (by kernel_rfl) (K0.out) (fun hHeld=>?_);refine rU 0 _ _ ?_;refine rU 1 _ _ ?_;refine rU 2 _ _ ?_;refine rU 3 _ _ ?_;refine rU 4 _ _ ?_;refine rU 5 _ _ ?_;refine rU 6 _ _ ?_;refine rC 7 _ (fun K hK=>?_);go_simp;refine(HO.out _).mono ?_;rintro e w3 ⟨rfl,hb3⟩;have HB3:=Lib.hid hb3;clear hb3;have K1:=Lib.hid (show w3.cell? ⟨g,0,none⟩=some (.int .i64 a0)∧w3.cell? ⟨g,1,none⟩=some (.int .i64 a1)∧w3.cell? ⟨g,2,none⟩=some (.int .i64 b0)∧w3.cell? ⟨g,3,none⟩=some (.int .i64 b1)∧w3.cell? ⟨w.heap.size,0,none⟩=some (.int .i64 p0)∧w3.cell? ⟨w.heap.size,1,none⟩=some (.int .i64 p1) from⟨(HB3.out.cell (World.block_lt_of_cell? _ _ K0.out.1)).trans K0.out.1,(HB3.out.cell (World.block_lt_of_cell? _ _ K0.out.2.1)).trans K0.out.2.1,(HB3.out.cell (World.block_lt_of_cell? _ _ K0.out.2.2.1)).trans K0.out.2.2.1,(HB3.out.cell (World.block_lt_of_cell? _ _ K0.out.2.2.2.1)).trans K0.out.2.2.2.1,(HB3.out.cell (World.block_lt_of_cell? _ _ K0.out.2.2.2.2.1)).trans K0.out.2.2.2.2.1,(HB3.out.cell (World.block_lt_of_cell? _ _ K0.out.2.2.2.2.2)).trans K0.out.2.2.2.2.2⟩);refine hK.out _ _ (K1.out) (fun hHeld=>?_);clear hK K;try simp only[Act.put,sA,sZ,sS]
      refine rU 8 _ _ ?_;refine rU 9 _ _ ?_;refine rU 10 _ _ ?_;refine rU 11 _ _ ?_;refine rU 12 _ _ ?_;refine rU 13 _ _ ?_;refine rU 14 _ _ ?_;refine rU 15 _ _ ?_;refine rU 16 _ _ ?_;refine rC 17 _ (fun K hK=>?_);go_simp;refine(HBT.out _).mono ?_;rintro e w4 ⟨rfl,hb4⟩;have HB4:=Lib.hid hb4;clear hb4;refine hK.out _ _ (⟨(HB4.out.cell (World.block_lt_of_cell? _ _ K1.out.1)).trans K1.out.1,(HB4.out.cell (World.block_lt_of_cell? _ _ K1.out.2.1)).trans K1.out.2.1,(HB4.out.cell (World.block_lt_of_cell? _ _ K1.out.2.2.1)).trans K1.out.2.2.1,(HB4.out.cell (World.block_lt_of_cell? _ _ K1.out.2.2.2.1)).trans K1.out.2.2.2.1,(HB4.out.cell (World.block_lt_of_cell? _ _ K1.out.2.2.2.2.1)).trans K1.out.2.2.2.2.1,(HB4.out.cell (World.block_lt_of_cell? _ _ K1.out.2.2.2.2.2)).trans K1.out.2.2.2.2.2⟩) (fun hHeld=>?_);clear hK K;try simp only[Act.put,sA,sZ,sS]
      refine rU 18 _ _ ?_;refine rU 19 _ _ ?_;refine wpAnyH_done (by kernel_rfl) ?_ _;refine NoPanic.normal ?_;go_wp2;go_ret;exact⟨by rw[←HRT.out];rfl,(HB2.out.drew'.trans (HB3.out.mono HB2.out.size)).trans (HB4.out.mono (HB2.out.drew'.trans (HB3.out.mono HB2.out.size)).size)⟩
  · obtain⟨g,c,rfl⟩:∃g c,v= .slice (some ⟨g,0,none⟩) 3 c:=by
      rcases hrow.2 with⟨-,h1⟩|⟨g,cap,cur,h1,-⟩;·cases h1
      ·exact⟨g,cap,h1⟩
    have hA:=HIN.out (a0,a1) (by simp);have hB:=HIN.out (b0,b1) (by simp);have hC:=HIN.out (c0,c1) (by simp);obtain⟨s,hs⟩:∃s,(inc a0 a1 b0 b1 c0 c1 p0 p1).sign=s:=⟨_,rfl⟩;have HO:=Lib.hid (fun W=>Circle_is a0 a1 b0 b1 c0 c1 p0 p1 hA.1 hA.2 hB.1 hB.2 hC.1 hC.2 HPP.out.1 HPP.out.2 hs W);have HRQ:=Lib.hid (show decide (0<s)=r by rw[←HR.out,←hs,decide_eq_decide.2 sign_pos];rfl);have K0:=Lib.hid (show w2.cell? ⟨g,0,none⟩=some (.int .i64 a0)∧w2.cell? ⟨g,1,none⟩=some (.int .i64 a1)∧w2.cell? ⟨g,2,none⟩=some (.int .i64 b0)∧w2.cell? ⟨g,3,none⟩=some (.int .i64 b1)∧w2.cell? ⟨g,4,none⟩=some (.int .i64 c0)∧w2.cell? ⟨g,5,none⟩=some (.int .i64 c1)∧w2.cell? ⟨w.heap.size,0,none⟩=some (.int .i64 p0)∧w2.cell? ⟨w.heap.size,1,none⟩=some (.int .i64 p1) from⟨HROW.out.ptCell rfl,HROW.out.ptCell rfl,HROW.out.ptCell rfl,HROW.out.ptCell rfl,HROW.out.ptCell rfl,HROW.out.ptCell rfl,HP2.out.c 0 _ rfl,HP2.out.c 1 _ rfl⟩);clear hrow hA hB hC hs;go_wp2;refine wp_region_noPanic ?_;refine wp_region_held_drew (S:=fun w'=>w'.cell? ⟨g,0,none⟩=some (.int .i64 a0)∧w'.cell? ⟨g,1,none⟩=some (.int .i64 a1)∧w'.cell? ⟨g,2,none⟩=some (.int .i64 b0)∧w'.cell? ⟨g,3,none⟩=some (.int .i64 b1)∧w'.cell? ⟨g,4,none⟩=some (.int .i64 c0)∧w'.cell? ⟨g,5,none⟩=some (.int .i64 c1)∧w'.cell? ⟨w.heap.size,0,none⟩=some (.int .i64 p0)∧w'.cell? ⟨w.heap.size,1,none⟩=some (.int .i64 p1)) (by kernel_rfl) (K0.out) (fun hHeld=>?_);refine rU 0 _ _ ?_;refine rU 1 _ _ ?_;refine rU 2 _ _ ?_;refine rU 3 _ _ ?_;refine rU 4 _ _ ?_;refine rU 5 _ _ ?_;refine rU 6 _ _ ?_;refine rU 7 _ _ ?_;refine rU 8 _ _ ?_;refine rU 9 _ _ ?_;refine rC 10 _ (fun K hK=>?_);go_simp;refine(HO.out _).mono ?_;rintro e w3 ⟨rfl,hb3⟩;have HB3:=Lib.hid hb3;clear hb3;refine hK.out _ _ (⟨(HB3.out.cell (World.block_lt_of_cell? _ _ K0.out.1)).trans K0.out.1,(HB3.out.cell (World.block_lt_of_cell? _ _ K0.out.2.1)).trans K0.out.2.1,(HB3.out.cell (World.block_lt_of_cell? _ _ K0.out.2.2.1)).trans K0.out.2.2.1,(HB3.out.cell (World.block_lt_of_cell? _ _ K0.out.2.2.2.1)).trans K0.out.2.2.2.1,(HB3.out.cell (World.block_lt_of_cell? _ _ K0.out.2.2.2.2.1)).trans K0.out.2.2.2.2.1,(HB3.out.cell (World.block_lt_of_cell? _ _ K0.out.2.2.2.2.2.1)).trans K0.out.2.2.2.2.2.1,(HB3.out.cell (World.block_lt_of_cell? _ _ K0.out.2.2.2.2.2.2.1)).trans K0.out.2.2.2.2.2.2.1,(HB3.out.cell (World.block_lt_of_cell? _ _ K0.out.2.2.2.2.2.2.2)).trans K0.out.2.2.2.2.2.2.2⟩) (fun hHeld=>?_);clear hK K;try simp only[Act.put,sA,sZ,sS]
    refine rU 11 _ _ ?_;refine rU 12 _ _ ?_;refine wpAnyH_done (by kernel_rfl) ?_ _;refine NoPanic.normal ?_;go_wp2;go_ret;exact⟨by rw[←HRQ.out];rfl,HB2.out.drew'.trans (HB3.out.mono HB2.out.size)⟩
  ·simp at hl3
end Go.Proofs.YtammmemfkpcpcaaGreat
namespace Go.MagM
def hasE(ts:List Int):List (Value×Value):=ts.map fun t=>(.int .i64 t,.agg #[])
end Go.MagM
namespace Go.Proofs.YtammmemfkpcpcaaGreat
open Go.RowKit Go.MagM Go.Maps
theorem hole_look{w:World}{b:Nat}{ts:List Int}(h:MapB Tryz.prog 3 w b (hasE ts)){t:Int}(ht:-1000000≤t∧t≤1000000):(Instr.lookup 164 (.map (some b)) (.int .i64 t) true).run Tryz.prog w= .ok (.tuple #[.agg #[],.bool (decide (t∈ts))]) w:=by
  rcases h.look keyedI Tryz.underlying164 (keyI_of ht) (z:= .agg #[]) (by kernel_rfl) true with⟨v,hv,hr⟩|⟨hno,hr⟩
  · obtain⟨x,hx,e⟩:=List.mem_map.1 hv;simp only[Prod.mk.injEq,Value.int.injEq,true_and] at e;obtain⟨rfl,rfl⟩:=e;rw[hr,decide_eq_true hx];rfl
  ·rw[hr,decide_eq_false (fun hx=>hno (.agg #[]) (List.mem_map.2 ⟨t,hx,rfl⟩))];rfl
theorem hole_store{w:World}{b:Nat}{ts:List Int}(h:MapB Tryz.prog 3 w b (hasE ts)){t:Int}(ht:-1000000≤t∧t≤1000000)(hno:t∉ts):∃w',(Instr.mapUpdate 164 (.map (some b)) (.int .i64 t) (.agg #[])).run Tryz.prog w= .ok () w'∧Turned w w' b∧MapB Tryz.prog 3 w' b (hasE (ts++[t])):=by
  obtain⟨w',m',h1,h2,h3,h4⟩:=h.store keyedI Tryz.underlying164 (keyI_of ht) (.agg #[]);refine⟨w',h1,h2,?_⟩;rcases h4 with⟨-,rfl⟩|⟨j,u,hj,-⟩;·unfold hasE;rw[List.map_append];exact h3
  · exfalso;obtain⟨x,hx,e⟩:=List.mem_map.1 (List.mem_of_getElem? hj);simp only[Prod.mk.injEq,Value.int.injEq,true_and] at e;obtain⟨rfl,-⟩:=e;exact hno hx
set_option maxRecDepth 100000 in set_option maxHeartbeats 4000000 in theorem cvHolds_any(hb b:Nat)(ts:List Int)(t:Int)(w:World)(hc:w.cell? ⟨hb,2,none⟩=some (.map (some b)))(hm:MapB Tryz.prog 3 w b (hasE ts))(ht:-1000000≤t∧t≤1000000):Calls Tryz.prog 140 #[.pointer (some ⟨hb,0,none⟩),.int .i64 t] w fun e w'=>e= .returned (.bool (decide (t∈ts)))∧Below w.heap.size w w':=by obtain⟨w1,hw1,hp,hb1,hs1⟩:=new_box w _ rfl [] 220;have hlk:=hole_look hm ht;obtain⟨q,hq⟩:∃q,decide (t∈ts)=q:=⟨_,rfl⟩;rw[hq] at hlk⊢;have HB:=Lib.hid hb1;clear hb1 hs1 hp hm hq;go_enter Tryz.func140,Tryz.ntmps140;go_wp2;go_ret;exact⟨rfl,HB.out⟩
end Go.Proofs.YtammmemfkpcpcaaGreat
namespace Go.MagM
def takeM(P:List (Int×Int))(T:TriM)(t:Int)(ts:List Int):List Int:=if 0<(cors P T).length∧t∉ts then ts++[t] else ts
end Go.MagM
namespace Go.Proofs.YtammmemfkpcpcaaGreat
open Go.RowKit Go.MagM Go.Maps
structure HoleR(w:World)(lo hb mb b:Nat)(v:Value)(ts:List Int):Prop where
  box:Box w hb [.pointer (some ⟨mb,0,none⟩),v,.map (some b)]
  row:RowN w lo 3 1 v ts.length (intCells ts)
  map:MapB Tryz.prog 3 w b (hasE ts)
  low:lo≤hb∧lo≤b∧hb≠b∧v.ownBlock≠some hb∧v.ownBlock≠some b
  short:ts.length≤1000000
theorem HoleR.below{w w':World}{lo hb mb b:Nat}{v:Value}{ts:List Int}(h:HoleR w lo hb mb b v ts)(hw:Below w.heap.size w w'):HoleR w' lo hb mb b v ts:=⟨h.box.below hw,h.row.below hw,h.map.below hw,h.low,h.short⟩
structure KeepH(w w':World)(hb b:Nat)(v v':Value):Prop where
  block:∀g,g<w.heap.size→g≠hb→g≠b→v.ownBlock≠some g→w'.heap[g]?=w.heap[g]?
  own:v'.ownBlock=v.ownBlock∨∀k,v'.ownBlock=some k→w.heap.size≤k
  size:w.heap.size≤w'.heap.size
theorem KeepH.of_below{w w':World}{hb b:Nat}{v:Value}(h:Below w.heap.size w w'):KeepH w w' hb b v v:=⟨fun g hg _ _ _=>h.block g hg,.inl rfl,h.size⟩
theorem KeepH.trans{w w1 w2:World}{hb b:Nat}{v v1 v2:Value}(h:KeepH w w1 hb b v v1)(h2:KeepH w1 w2 hb b v1 v2):KeepH w w2 hb b v v2:=by
  have hs:=h.size;refine⟨fun g hg a c d=>(h2.block g (by omega) a c ?_).trans (h.block g hg a c d),?_,Nat.le_trans h.size h2.size⟩
  · rcases h.own with e|e;·rw[e];exact d
    ·intro k;have:=e _ k;omega
  · rcases h2.own with e|e
    · rcases h.own with e1|e1;·exact .inl (e.trans e1)
      ·exact .inr fun k hk=>e1 k (e▸hk)
    ·exact .inr fun k hk=>by have:=e k hk;omega
theorem Box.keepH{w w':World}{hb b g:Nat}{v v':Value}{vs:List Value}(h:Box w g vs)(hk:KeepH w w' hb b v v')(hl:g<w.heap.size)(h1:g≠hb)(h2:g≠b)(h3:v.ownBlock≠some g):Box w' g vs:=h.same (hk.block g hl h1 h2 h3)
set_option maxRecDepth 100000 in set_option maxHeartbeats 8000000 in theorem cvTake_any{w0:World}{mb pb pc hb b:Nat}{ta:Option Addr}{tc:Nat}{P:List (Int×Int)}{S:List TriM}{v:Value}{ts:List Int}(t:Nat)(T:TriM)(w:World)(h:MeshR w0 mb pb pc ta tc P S)(hB:Below w0.heap.size w0 w)(hH:HoleR w w0.heap.size hb mb b v ts)(hT:S[t]?=some T)(hts:ts.length<1000000):Calls Tryz.prog 138 #[.pointer (some ⟨hb,0,none⟩),.int .i64 (t:Int)] w fun e w'=>e= .returned (.tuple #[])∧(∃v',HoleR w' w0.heap.size hb mb b v' (takeM P T t ts)∧KeepH w w' hb b v v')∧Below w0.heap.size w0 w':=by
  have htl:t<S.length:=(List.getElem?_eq_some_iff.1 hT).1;have htr:-1000000≤(t:Int)∧(t:Int)≤1000000:=by have:=h.short.2;omega
  have HC:=Lib.hid (cvCorners_any t T w (h.below hB) hT);have HB:=Lib.hid hB;have HH:=Lib.hid hH;have HTR:=Lib.hid htr;have HTS:=Lib.hid hts;have b0:=hH.box.c0;obtain⟨i0,hi,hz0,hz1,hz2⟩:=info_parts infoI;have HI:=Lib.hid hi;have HZ0:=Lib.hid hz0;have HZ1:=Lib.hid hz1;have HZ2:=Lib.hid hz2;clear hi hz0 hz1 hz2 h hB hH hT htl htr hts;go_enter Tryz.func138,Tryz.ntmps138;go_wp2_with fail;refine HC.out.mono ?_;rintro e w2 ⟨cv,rfl,hrow,hb2⟩;clear b0;have HH2:=Lib.hid (HH.out.below hb2);have HB2:=Lib.hid (HB.out.trans (hb2.mono HB.out.size));have BW2:=Lib.hid hb2;clear hb2;obtain⟨n,hn⟩:∃n,(cors P T).length=n:=⟨_,rfl⟩;rw[hn] at hrow;obtain⟨ao,c,rfl⟩:∃ao c,cv= .slice ao n c:=by
    rcases hrow.2 with⟨h1,h2⟩|⟨g,cap,cur,h1,-⟩;·exact⟨_,_,by rw[h1,h2]⟩
    ·exact⟨_,_,h1⟩
  have HN:=Lib.hid hn;clear hrow hn;by_cases hn0:0<n
  · have e1:decide ((0:Int)<(n:Int))=true:=decide_eq_true (by omega);have e2:decide (0<n)=true:=decide_eq_true hn0;have HN0:=Lib.hid hn0;clear hn0;go_wp2_with fail;refine(cvHolds_any hb b ts t w2 HH2.out.box.c2 HH2.out.map HTR.out).mono ?_;rintro e w3 ⟨rfl,hb3⟩;have HH3:=Lib.hid (HH2.out.below hb3);have HB3:=Lib.hid (HB2.out.trans (hb3.mono HB2.out.size));have BW3:=Lib.hid (BW2.out.trans (hb3.mono BW2.out.size));clear hb3;by_cases hin:(t:Int)∈ts
    · have e3:decide ((t:Int)∈ts)=true:=decide_eq_true hin;rw[e3];have HM:=Lib.hid (show takeM P T t ts=ts by unfold takeM;rw[if_neg (by simp[hin])]);clear hin e3;go_wp2;go_end0;exact⟨rfl,⟨v,by rw[HM.out];exact HH3.out,KeepH.of_below BW3.out⟩,HB3.out⟩
    · have e3:decide ((t:Int)∈ts)=false:=decide_eq_false hin;rw[e3];have HM:=Lib.hid (show takeM P T t ts=ts++[(t:Int)] by unfold takeM;rw[if_pos ⟨by rw[HN.out];exact HN0.out,hin⟩]);have HIN:=Lib.hid hin;clear hin e3;have hz:=HH3.out.low;have hzb:=HB3.out.size;have hts:=HTS.out;have d1:=HH3.out.box.c1;obtain⟨w4,hw4,pz,hb4,hs4⟩:=new_box w3 _ rfl [.int .i64 (t:Int)] 3;have H4:=HH3.out.below hb4;obtain⟨v1,w5,hrun,rown,hgrow,hkept⟩:=run_append_row (P:=Tryz.prog) w4 w0.heap.size 75 75 3 i0 (.int .i64 0) 1 8 (by kernel_rfl) HI.out HZ0.out HZ1.out HZ2.out rfl (by intro u hu;simp[Value.cells] at hu;subst hu;exact NoWord.int _) _ ts.length _ H4.row ⟨w3.heap.size,0,none⟩ 1 1 [.int .i64 (t:Int)] (by omega) rfl pz.news (by intro u hu;simp at hu;subst hu;rfl) (by intro u hu;simp at hu;subst hu;exact NoWord.int _) (by unfold maxLen;omega) (by omega) (by omega);obtain⟨v2,w5',hrun2,-,-,hwh⟩:=run_append_where (P:=Tryz.prog) w4 w0.heap.size 75 75 3 i0 (.int .i64 0) 1 8 (by kernel_rfl) HI.out HZ0.out HZ1.out HZ2.out rfl _ ts.length _ H4.row.own ⟨w3.heap.size,0,none⟩ 1 1 [.int .i64 (t:Int)] (by omega) rfl pz.news (by intro u hu;simp at hu;subst hu;rfl) (by unfold maxLen;omega) (by omega) (by omega);obtain⟨rfl,rfl⟩:v1=v2∧w5=w5':=by have e:=Result.ok.inj (hrun.symm.trans hrun2);exact⟨e.1,e.2⟩
      obtain⟨ln,hln⟩:∃ln,ts.length+1=ln:=⟨_,rfl⟩;obtain⟨gv,gc,rfl⟩:∃g c,v1= .slice (some ⟨g,0,none⟩) ln c:=by
        rcases rown.2 with⟨-,h1⟩|⟨g,cap,cur,h1,-⟩;·omega
        ·exact⟨g,cap,by rw[←hln];exact h1⟩
      have hv1:(Value.slice (some ⟨gv,0,none⟩) ln gc).ownBlock≠some hb∧(Value.slice (some ⟨gv,0,none⟩) ln gc).ownBlock≠some b:=by
        rcases hwh with e|e;·rw[e];exact hz.2.2.2
        · have l1:=H4.box.lt;have l2:=H4.map.lt;exact⟨fun k=>by have:=e _ k;omega,fun k=>by have:=e _ k;omega⟩
      have hbx5:=H4.box.grown hgrow hz.2.2.2.1 H4.box.lt;have hmp5:=H4.map.block (hgrow.block b H4.map.lt (fun k=>hz.2.2.2.2 k.symm));have hB5:Below w0.heap.size w0 w5:=(HB3.out.trans (hb4.mono (by omega))).grown hgrow (by omega) (fun k hk=>(H4.row.lt k hk).1);obtain⟨w6,hw6⟩:∃w6,w5.setCell ⟨hb,1,none⟩ (.slice (some ⟨gv,0,none⟩) ln gc)=w6:=⟨_,rfl⟩;have hbx6:Box w6 hb [.pointer (some ⟨mb,0,none⟩),.slice (some ⟨gv,0,none⟩) ln gc,.map (some b)]:=by rw[←hw6];exact hbx5.set 1 _
      have hmp6:MapB Tryz.prog 3 w6 b (hasE ts):=by rw[←hw6];exact hmp5.block (heap_set_far _ _ _ _ _ (Ne.symm hz.2.2.1))
      have hrow6:=rown.block (w':=w6) (fun k hk _=>by rw[←hw6];exact heap_set_far _ _ _ _ _ (fun e=>hv1.1 (e▸hk)));have hB6:Below w0.heap.size w0 w6:=by rw[←hw6];exact hB5.setCell (p:=⟨hb,1,none⟩) hz.1 _
      obtain⟨w7,hst,htu,hmp7⟩:=hole_store hmp6 HTR.out HIN.out;have H7:HoleR w7 w0.heap.size hb mb b (.slice (some ⟨gv,0,none⟩) ln gc) (takeM P T t ts):=by
        rw[HM.out];refine⟨hbx6.turned htu hz.2.2.1,?_,hmp7,⟨hz.1,hz.2.1,hz.2.2.1,hv1⟩,by rw[List.length_append];simp;omega⟩;have:=hrow6.turned htu (fun k hk e=>hv1.2 (e▸hk));rw[List.length_append];unfold intCells;rw[List.map_append];exact this
      have b34:Below w.heap.size w w4:=BW3.out.trans (hb4.mono BW3.out.size);have hown:(Value.slice (some ⟨gv,0,none⟩) ln gc).ownBlock=v.ownBlock∨∀k,(Value.slice (some ⟨gv,0,none⟩) ln gc).ownBlock=some k→w.heap.size≤k:=by
        rcases hwh with e|e;·exact .inl e
        ·exact .inr fun k hk=>by have:=e k hk;have:=b34.size;omega
      have KH:=Lib.hid (show KeepH w w7 hb b v (.slice (some ⟨gv,0,none⟩) ln gc) from⟨fun g hg a c d=>by
        have l4:g<w4.heap.size:=by have:=b34.size;omega
        rw[htu.block g c,←hw6,heap_set_far _ _ _ _ _ a,hgrow.block g l4 (fun k=>d k.symm),b34.block g hg],hown,by
        have:=b34.size;have:=hgrow.size;have:w6.heap.size=w5.heap.size:=by rw[←hw6];simp
        rw[htu.size];omega⟩);have FIN:=Lib.hid (And.intro H7 (hB6.trans (htu.below hz.2.1)));have d2:=hbx5.c1;have d3:=hbx5.f 1 _ rfl;have d4:=hbx6.c2;clear hz hzb hts b34 hown pz hb4 hs4 H4 rown hgrow hkept hrun2 hwh hv1 hbx5 hmp5 hB5 hbx6 hmp6 hrow6 hB6 htu hmp7 H7;go_wp2_with (refine wpList_append_row rfl _ _ 75 rfl rfl rfl hrun ?_);go_end0;exact⟨rfl,⟨_,FIN.out.1,KH.out⟩,FIN.out.2⟩
  · have e1:decide ((0:Int)<(n:Int))=false:=decide_eq_false (by omega);have e2:decide (0<n)=false:=decide_eq_false hn0;have HM:=Lib.hid (show takeM P T t ts=ts by unfold takeM;rw[HN.out,if_neg (fun h=>hn0 h.1)]);clear hn0;go_wp2;go_end0;exact⟨rfl,⟨v,by rw[HM.out];exact HH2.out,KeepH.of_below BW2.out⟩,HB2.out⟩
end Go.Proofs.YtammmemfkpcpcaaGreat
namespace Go.Proofs.YtammmemfkpcpcaaGreat
open Go.RowKit Go.MagM
def confT(P:List (Int×Int))(S:List TriM)(p:Int×Int)(u:Int):Bool:=match S[u.toNat]? with|some U=>conflictM P U p|none=>false
def takeS(P:List (Int×Int))(S:List TriM)(u:Int)(ts:List Int):List Int:=match S[u.toNat]? with|some U=>takeM P U u ts|none=>ts
def stepM(P:List (Int×Int))(S:List TriM)(p:Int×Int)(T:TriM)(i:Nat)(ts:List Int):List Int:=if T.f i=false∧T.n i∉ts∧confT P S p (T.n i)=true then takeS P S (T.n i) ts else ts
def innerM(P:List (Int×Int))(S:List TriM)(p:Int×Int)(T:TriM):Nat→List Int→List Int|0,ts=>ts|n+1,ts=>stepM P S p T n (innerM P S p T n ts)
def spreadM(P:List (Int×Int))(S:List TriM)(p:Int×Int):Nat→Nat→List Int→List Int|0,_,ts=>ts|fuel+1,n,ts=>match ts[n]? with|none=>ts|some t=>match S[t.toNat]? with|none=>spreadM P S p fuel (n+1) ts|some T=>spreadM P S p fuel (n+1) (innerM P S p T 3 ts)
structure InS(S:List TriM)(ts:List Int):Prop where
  once:ts.Nodup
  is:∀t∈ts,∃u:Nat,t=(u:Int)∧u<S.length
def Nexts(S:List TriM):Prop:=∀(t:Nat)(T:TriM),S[t]?=some T→∀i,i<3→∃u:Nat,T.n i=(u:Int)∧u<S.length
theorem InS.take{S:List TriM}{ts:List Int}(h:InS S ts)(P:List (Int×Int)){u:Nat}{U:TriM}(hU:S[u]?=some U):InS S (takeM P U (u:Int) ts):=by
  unfold takeM;split
  · rename_i hc;refine⟨?_,fun t ht=>?_⟩
    · rw[List.nodup_append];refine⟨h.once,by simp,fun x hx y hy e=>?_⟩;simp only[List.mem_singleton] at hy;subst hy;subst e;exact hc.2 hx
    · rcases List.mem_append.1 ht with ht|ht;·exact h.is t ht
      · simp only[List.mem_singleton] at ht;exact⟨u,ht,(List.getElem?_eq_some_iff.1 hU).1⟩
  ·exact h
theorem InS.takeS{S:List TriM}{ts:List Int}(h:InS S ts)(P:List (Int×Int)){z:Int}(hz:∃u:Nat,z=(u:Int)∧u<S.length):InS S (takeS P S z ts):=by obtain⟨u,rfl,hu⟩:=hz;unfold Go.Proofs.YtammmemfkpcpcaaGreat.takeS;rw[Int.toNat_natCast,List.getElem?_eq_getElem hu];exact h.take P (List.getElem?_eq_getElem hu)
theorem InS.step{S:List TriM}{ts:List Int}(h:InS S ts)(P:List (Int×Int))(p:Int×Int){T:TriM}{i:Nat}(hz:∃u:Nat,T.n i=(u:Int)∧u<S.length):InS S (stepM P S p T i ts):=by
  unfold stepM;split;·exact h.takeS P hz
  ·exact h
theorem InS.inner{S:List TriM}{ts:List Int}(h:InS S ts)(P:List (Int×Int))(p:Int×Int){T:TriM}(hz:∀i,i<3→∃u:Nat,T.n i=(u:Int)∧u<S.length):∀n,n≤3→InS S (innerM P S p T n ts)|0,_=>h|n+1,hn=>(InS.inner h P p hz n (by omega)).step P p (hz n (by omega))
theorem InS.le{S:List TriM}{ts:List Int}(h:InS S ts):ts.length≤S.length:=by
  have hm:(ts.map Int.toNat).Nodup:=by
    rw[List.nodup_iff_pairwise_ne,List.pairwise_map];refine(List.nodup_iff_pairwise_ne.1 h.once).imp_of_mem ?_;intro a b ha hb hne e;obtain⟨x,rfl,-⟩:=h.is a ha;obtain⟨y,rfl,-⟩:=h.is b hb;exact hne (by simp at e;rw[e])
  have hs:∀x∈ts.map Int.toNat,x∈List.range S.length:=by
    intro x hx;obtain⟨t,ht,rfl⟩:=List.mem_map.1 hx;obtain⟨u,rfl,hu⟩:=h.is t ht;simpa using hu
  have:=List.Nodup.length_le_of_subset hm (fun x hx=>hs x hx);simpa using this
theorem spreadM_end(P:List (Int×Int))(S:List TriM)(p:Int×Int){ts:List Int}:∀(fuel:Nat){n:Nat},ts.length≤n→spreadM P S p fuel n ts=ts|0,_,_=>rfl|fuel+1,n,h=>by rw[spreadM,List.getElem?_eq_none h]
theorem spreadM_on(P:List (Int×Int))(S:List TriM)(p:Int×Int){ts:List Int}{fuel n t:Nat}{T:TriM}(h:ts[n]?=some (t:Int))(hT:S[t]?=some T):spreadM P S p (fuel+1) n ts=spreadM P S p fuel (n+1) (innerM P S p T 3 ts):=by rw[spreadM,h];simp only[Int.toNat_natCast,hT]
end Go.Proofs.YtammmemfkpcpcaaGreat
namespace Go.Proofs.YtammmemfkpcpcaaGreat
open Go.RowKit Go.MagM Go.Maps
set_option maxRecDepth 100000 in set_option maxHeartbeats 8000000 in theorem cvSide0{mb pb pc hb:Nat}{ta:Option Addr}{tc:Nat}{P:List (Int×Int)}{S:List TriM}(t u:Nat)(v0 v1 v2 n1 n2:Int)(f0 f1 f2:Bool)(U:TriM)(w:World)(h:MeshR w mb pb pc ta tc P S)(hc:w.cell? ⟨hb,0,none⟩=some (.pointer (some ⟨mb,0,none⟩)))(hT:S[t]?=some (⟨v0,v1,v2,(u:Int),n1,n2,f0,f1,f2⟩:TriM))(hU:S[u]?=some U):Calls Tryz.prog 141 #[.pointer (some ⟨hb,0,none⟩),.int .i64 (t:Int),.int .i64 0] w fun e w'=>e= .returned (.agg #[.int .i64 v1,.int .i64 v2,.int .i64 (u:Int),.int .i64 (edgeT U v2 v1),.bool f0])∧Below w.heap.size w w':=by
  obtain⟨w1,hw1,pl,hb1,hs1⟩:=new_box w _ rfl [.int .i64 0,.int .i64 0,.int .i64 0,.int .i64 0,.bool false] 161;have NE:=Lib.hid (show w1.heap.size≠w.heap.size by omega);have hc1:w1.cell? ⟨hb,0,none⟩=some (.pointer (some ⟨mb,0,none⟩)):=(hb1.cell (World.block_lt_of_cell? _ _ hc)).trans hc;have h1:=h.below hb1;obtain⟨w2,hw2,px,hb2,hs2⟩:=new_box w1 _ rfl [.int .i64 v0,.int .i64 v1,.int .i64 v2,.int .i64 (u:Int),.int .i64 n1,.int .i64 n2,.bool f0,.bool f1,.bool f2] 42;have hlt:=(List.getElem?_eq_some_iff.1 hT).1;have hsh:=h.short.2;obtain⟨len,hlen⟩:∃len,S.length=len:=⟨_,rfl⟩;have i1:(0:Int)≤(t:Int):=by omega
  have i2:(t:Int)<(len:Int):=by omega
  have b1:=h1.box.c1;rw[hlen] at b1 hsh hlt;obtain⟨tb,hta,-,h9⟩:=h1.tris.get hT;subst hta;obtain⟨c0,c1,c2,c3,c4,c5,c6,c7,c8⟩:=h9;simp only[] at c0 c1 c2 c3 c4 c5 c6 c7 c8;have HEN:=Lib.hid (show∀W:World,Calls Tryz.prog 173 #[.agg #[.int .i64 v0,.int .i64 v1,.int .i64 v2,.int .i64 (u:Int),.int .i64 n1,.int .i64 n2,.bool f0,.bool f1,.bool f2],.int .i64 0] W fun e w'=>e= .returned (.tuple #[.int .i64 v1,.int .i64 v2])∧Below W.heap.size W w' from fun W=>cvEnds_any (⟨v0,v1,v2,(u:Int),n1,n2,f0,f1,f2⟩:TriM) 0 (by omega) W);obtain⟨j,hj⟩:∃j,edgeT U v2 v1=j:=⟨_,rfl⟩;rw[hj];have HED:=Lib.hid (show∀W:World,Below w1.heap.size w1 W→Calls Tryz.prog 172 #[.pointer (some ⟨mb,0,none⟩),.int .i64 (u:Int),.int .i64 v2,.int .i64 v1] W fun e w'=>e= .returned (.int .i64 j)∧Below W.heap.size W w' from fun W hW=>by have:=cvEdge_any u U v2 v1 W (h1.below hW) hU;rw[hj] at this;exact this);have HB1:=Lib.hid hb1;have HB2:=Lib.hid hb2;have PL2:=Lib.hid (pl.below hb2);have PX2:=Lib.hid px;have d0:=px.c 0 _ rfl;have d1:=px.c 1 _ rfl;have d2:=px.c 2 _ rfl;have d3:=px.c 3 _ rfl;have d4:=px.c 4 _ rfl;have d5:=px.c 5 _ rfl;have d6:=px.c 6 _ rfl;have d7:=px.c 7 _ rfl;have d8:=px.c 8 _ rfl;have HC1:=Lib.hid hc1;have HC0:=Lib.hid hc;clear h hc hT hU hb1 hb2 hs1 hs2 pl px h1 hlen hj;go_enter Tryz.func141,Tryz.ntmps141;go_wp2_with fail;refine(HEN.out _).mono ?_;rintro e w3 ⟨rfl,hb3⟩;clear hw1 hw2 d0 d1 d2 d3 d4 d5 d6 d7 d8 c0 c1 c2 c3 c4 c5 c6 c7 c8 b1 hc1 i1 i2;have HB3:=Lib.hid (HB2.out.trans (hb3.mono HB2.out.size));have PL:=Lib.hid (PL2.out.below hb3);have PX:=Lib.hid (PX2.out.below hb3);clear hb3;have d0:=PX.out.c 3 _ rfl;go_wp2;clear d0;refine wp_region_noPanic ?_;refine wp_region_held_drew (S:=fun w'=>w'.cell? ⟨hb,0,none⟩=some (.pointer (some ⟨mb,0,none⟩))∧w'.cell? ⟨w1.heap.size,6,none⟩=some (.bool f0)) (by kernel_rfl) (⟨(HB3.out.cell (World.block_lt_of_cell? _ _ HC1.out)).trans HC1.out,PX.out.c 6 _ rfl⟩) (fun hHeld=>?_);refine rU 0 _ _ ?_;refine rU 1 _ _ ?_;refine rU 2 _ _ ?_;refine rU 3 _ _ ?_;refine rU 4 _ _ ?_;refine rU 5 _ _ ?_;refine rU 6 _ _ ?_;refine rU 7 _ _ ?_;refine rU 8 _ _ ?_;refine rU 9 _ _ ?_;refine rU 11 _ _ ?_;refine rU 12 _ _ ?_;refine rU 13 _ _ ?_;refine rU 14 _ _ ?_;refine rC 10 _ (fun K hK=>?_);go_simp;refine(HED.out _ HB3.out.drew').mono ?_;rintro e w4 ⟨rfl,hb4⟩;have HB4:=Lib.hid hb4;clear hb4;have PX4:=Lib.hid ((PX.out.drew).below HB4.out);have HB34:=Lib.hid (HB3.out.drew'.trans (HB4.out.mono HB3.out.size));refine hK.out _ _ (⟨(HB34.out.cell (World.block_lt_of_cell? _ _ HC1.out)).trans HC1.out,PX4.out.c 6 _ rfl⟩) (fun hHeld=>?_);clear hK K;try simp only[Act.put,sA,sZ,sS]
  refine rU 15 _ _ ?_;refine rC 16 _ (fun K hK=>?_);have hbq:=HB34.out;have plq:=(PL.out.drew).below HB4.out;obtain⟨wz,hwz⟩:∃wz,setAll w4 w.heap.size 0 [.int .i64 v1,.int .i64 v2,.int .i64 (u:Int),.int .i64 j,.bool f0]=wz:=⟨_,rfl⟩;have pz:Box wz w.heap.size [.int .i64 v1,.int .i64 v2,.int .i64 (u:Int),.int .i64 j,.bool f0]:=by rw[←hwz];exact plq.setAll [.int .i64 v1,.int .i64 v2,.int .i64 (u:Int),.int .i64 j,.bool f0] rfl
  have hbz:Below w.heap.size w wz:=by rw[←hwz];exact below_setAll (HB1.out.trans (hbq.mono HB1.out.size)) (Nat.le_refl _) _
  have hne:w1.heap.size≠w.heap.size:=NE.out;have pxz:Box wz w1.heap.size [.int .i64 v0,.int .i64 v1,.int .i64 v2,.int .i64 (u:Int),.int .i64 n1,.int .i64 n2,.bool f0,.bool f1,.bool f2]:=by rw[←hwz];exact(((((PX4.out.far hne _ _).far hne _ _).far hne _ _).far hne _ _).far hne _ _)
  have z0:=pz.c 0 _ rfl;have z1:=pz.c 1 _ rfl;have z2:=pz.c 2 _ rfl;have z3:=pz.c 3 _ rfl;have z4:=pz.c 4 _ rfl;have o0:=plq.c 0 _ rfl;have o1:=plq.c 1 _ rfl;have o2:=plq.c 2 _ rfl;have o3:=plq.c 3 _ rfl;have o4:=plq.c 4 _ rfl;have g0:=plq.f 0 _ rfl;have g1:=plq.f 1 _ rfl;have g2:=plq.f 2 _ rfl;have g3:=plq.f 3 _ rfl;have g4:=plq.f 4 _ rfl;have HWZ:=Lib.hid hwz;have HBZ:=Lib.hid hbz;have HZ:=Lib.hid (And.intro z0 (And.intro z1 (And.intro z2 (And.intro z3 z4))));have PXZ:=Lib.hid pxz;clear hbq plq hwz pz hbz hne pxz z0 z1 z2 z3 z4;go_simp;clear o0 o1 o2 o3 o4 g0 g1 g2 g3 g4;have hwz:=HWZ.out;simp only[setAll] at hwz;rw[hwz];refine hK.out _ _ (⟨(HBZ.out.cell (World.block_lt_of_cell? _ _ HC0.out)).trans HC0.out,PXZ.out.c 6 _ rfl⟩) (fun hHeld=>?_);clear hK K;try simp only[Act.put,sA,sZ,sS]
  refine wpAnyH_done (by kernel_rfl) ?_ _;refine NoPanic.normal ?_;go_wp2;have z0:=HZ.out.1;have z1:=HZ.out.2.1;have z2:=HZ.out.2.2.1;have z3:=HZ.out.2.2.2.1;have z4:=HZ.out.2.2.2.2;(try simp only[Exit.inBlock,Exit.then]);refine bodyPost_ret (v:= .agg #[.int .i64 v1,.int .i64 v2,.int .i64 (u:Int),.int .i64 j,.bool f0]) ?_ rfl ?_;·simp[results,Tryz.results141,go_sem,z0,z1,z2,z3,z4]
  ·exact⟨rfl,HBZ.out⟩
set_option maxRecDepth 100000 in set_option maxHeartbeats 8000000 in theorem cvSide1{mb pb pc hb:Nat}{ta:Option Addr}{tc:Nat}{P:List (Int×Int)}{S:List TriM}(t u:Nat)(v0 v1 v2 n0 n2:Int)(f0 f1 f2:Bool)(U:TriM)(w:World)(h:MeshR w mb pb pc ta tc P S)(hc:w.cell? ⟨hb,0,none⟩=some (.pointer (some ⟨mb,0,none⟩)))(hT:S[t]?=some (⟨v0,v1,v2,n0,(u:Int),n2,f0,f1,f2⟩:TriM))(hU:S[u]?=some U):Calls Tryz.prog 141 #[.pointer (some ⟨hb,0,none⟩),.int .i64 (t:Int),.int .i64 1] w fun e w'=>e= .returned (.agg #[.int .i64 v2,.int .i64 v0,.int .i64 (u:Int),.int .i64 (edgeT U v0 v2),.bool f1])∧Below w.heap.size w w':=by
  obtain⟨w1,hw1,pl,hb1,hs1⟩:=new_box w _ rfl [.int .i64 0,.int .i64 0,.int .i64 0,.int .i64 0,.bool false] 161;have NE:=Lib.hid (show w1.heap.size≠w.heap.size by omega);have hc1:w1.cell? ⟨hb,0,none⟩=some (.pointer (some ⟨mb,0,none⟩)):=(hb1.cell (World.block_lt_of_cell? _ _ hc)).trans hc;have h1:=h.below hb1;obtain⟨w2,hw2,px,hb2,hs2⟩:=new_box w1 _ rfl [.int .i64 v0,.int .i64 v1,.int .i64 v2,.int .i64 n0,.int .i64 (u:Int),.int .i64 n2,.bool f0,.bool f1,.bool f2] 42;have hlt:=(List.getElem?_eq_some_iff.1 hT).1;have hsh:=h.short.2;obtain⟨len,hlen⟩:∃len,S.length=len:=⟨_,rfl⟩;have i1:(0:Int)≤(t:Int):=by omega
  have i2:(t:Int)<(len:Int):=by omega
  have b1:=h1.box.c1;rw[hlen] at b1 hsh hlt;obtain⟨tb,hta,-,h9⟩:=h1.tris.get hT;subst hta;obtain⟨c0,c1,c2,c3,c4,c5,c6,c7,c8⟩:=h9;simp only[] at c0 c1 c2 c3 c4 c5 c6 c7 c8;have HEN:=Lib.hid (show∀W:World,Calls Tryz.prog 173 #[.agg #[.int .i64 v0,.int .i64 v1,.int .i64 v2,.int .i64 n0,.int .i64 (u:Int),.int .i64 n2,.bool f0,.bool f1,.bool f2],.int .i64 1] W fun e w'=>e= .returned (.tuple #[.int .i64 v2,.int .i64 v0])∧Below W.heap.size W w' from fun W=>cvEnds_any (⟨v0,v1,v2,n0,(u:Int),n2,f0,f1,f2⟩:TriM) 1 (by omega) W);obtain⟨j,hj⟩:∃j,edgeT U v0 v2=j:=⟨_,rfl⟩;rw[hj];have HED:=Lib.hid (show∀W:World,Below w1.heap.size w1 W→Calls Tryz.prog 172 #[.pointer (some ⟨mb,0,none⟩),.int .i64 (u:Int),.int .i64 v0,.int .i64 v2] W fun e w'=>e= .returned (.int .i64 j)∧Below W.heap.size W w' from fun W hW=>by have:=cvEdge_any u U v0 v2 W (h1.below hW) hU;rw[hj] at this;exact this);have HB1:=Lib.hid hb1;have HB2:=Lib.hid hb2;have PL2:=Lib.hid (pl.below hb2);have PX2:=Lib.hid px;have d0:=px.c 0 _ rfl;have d1:=px.c 1 _ rfl;have d2:=px.c 2 _ rfl;have d3:=px.c 3 _ rfl;have d4:=px.c 4 _ rfl;have d5:=px.c 5 _ rfl;have d6:=px.c 6 _ rfl;have d7:=px.c 7 _ rfl;have d8:=px.c 8 _ rfl;have HC1:=Lib.hid hc1;have HC0:=Lib.hid hc;clear h hc hT hU hb1 hb2 hs1 hs2 pl px h1 hlen hj;go_enter Tryz.func141,Tryz.ntmps141;go_wp2_with fail;refine(HEN.out _).mono ?_;rintro e w3 ⟨rfl,hb3⟩;clear hw1 hw2 d0 d1 d2 d3 d4 d5 d6 d7 d8 c0 c1 c2 c3 c4 c5 c6 c7 c8 b1 hc1 i1 i2;have HB3:=Lib.hid (HB2.out.trans (hb3.mono HB2.out.size));have PL:=Lib.hid (PL2.out.below hb3);have PX:=Lib.hid (PX2.out.below hb3);clear hb3;have d0:=PX.out.c 4 _ rfl;go_wp2;clear d0;refine wp_region_noPanic ?_;refine wp_region_held_drew (S:=fun w'=>w'.cell? ⟨hb,0,none⟩=some (.pointer (some ⟨mb,0,none⟩))∧w'.cell? ⟨w1.heap.size,7,none⟩=some (.bool f1)) (by kernel_rfl) (⟨(HB3.out.cell (World.block_lt_of_cell? _ _ HC1.out)).trans HC1.out,PX.out.c 7 _ rfl⟩) (fun hHeld=>?_);refine rU 0 _ _ ?_;refine rU 1 _ _ ?_;refine rU 2 _ _ ?_;refine rU 3 _ _ ?_;refine rU 4 _ _ ?_;refine rU 5 _ _ ?_;refine rU 6 _ _ ?_;refine rU 7 _ _ ?_;refine rU 8 _ _ ?_;refine rU 9 _ _ ?_;refine rU 11 _ _ ?_;refine rU 12 _ _ ?_;refine rU 13 _ _ ?_;refine rU 14 _ _ ?_;refine rC 10 _ (fun K hK=>?_);go_simp;refine(HED.out _ HB3.out.drew').mono ?_;rintro e w4 ⟨rfl,hb4⟩;have HB4:=Lib.hid hb4;clear hb4;have PX4:=Lib.hid ((PX.out.drew).below HB4.out);have HB34:=Lib.hid (HB3.out.drew'.trans (HB4.out.mono HB3.out.size));refine hK.out _ _ (⟨(HB34.out.cell (World.block_lt_of_cell? _ _ HC1.out)).trans HC1.out,PX4.out.c 7 _ rfl⟩) (fun hHeld=>?_);clear hK K;try simp only[Act.put,sA,sZ,sS]
  refine rU 15 _ _ ?_;refine rC 16 _ (fun K hK=>?_);have hbq:=HB34.out;have plq:=(PL.out.drew).below HB4.out;obtain⟨wz,hwz⟩:∃wz,setAll w4 w.heap.size 0 [.int .i64 v2,.int .i64 v0,.int .i64 (u:Int),.int .i64 j,.bool f1]=wz:=⟨_,rfl⟩;have pz:Box wz w.heap.size [.int .i64 v2,.int .i64 v0,.int .i64 (u:Int),.int .i64 j,.bool f1]:=by rw[←hwz];exact plq.setAll [.int .i64 v2,.int .i64 v0,.int .i64 (u:Int),.int .i64 j,.bool f1] rfl
  have hbz:Below w.heap.size w wz:=by rw[←hwz];exact below_setAll (HB1.out.trans (hbq.mono HB1.out.size)) (Nat.le_refl _) _
  have hne:w1.heap.size≠w.heap.size:=NE.out;have pxz:Box wz w1.heap.size [.int .i64 v0,.int .i64 v1,.int .i64 v2,.int .i64 n0,.int .i64 (u:Int),.int .i64 n2,.bool f0,.bool f1,.bool f2]:=by rw[←hwz];exact(((((PX4.out.far hne _ _).far hne _ _).far hne _ _).far hne _ _).far hne _ _)
  have z0:=pz.c 0 _ rfl;have z1:=pz.c 1 _ rfl;have z2:=pz.c 2 _ rfl;have z3:=pz.c 3 _ rfl;have z4:=pz.c 4 _ rfl;have o0:=plq.c 0 _ rfl;have o1:=plq.c 1 _ rfl;have o2:=plq.c 2 _ rfl;have o3:=plq.c 3 _ rfl;have o4:=plq.c 4 _ rfl;have g0:=plq.f 0 _ rfl;have g1:=plq.f 1 _ rfl;have g2:=plq.f 2 _ rfl;have g3:=plq.f 3 _ rfl;have g4:=plq.f 4 _ rfl;have HWZ:=Lib.hid hwz;have HBZ:=Lib.hid hbz;have HZ:=Lib.hid (And.intro z0 (And.intro z1 (And.intro z2 (And.intro z3 z4))));have PXZ:=Lib.hid pxz;clear hbq plq hwz pz hbz hne pxz z0 z1 z2 z3 z4;go_simp;clear o0 o1 o2 o3 o4 g0 g1 g2 g3 g4;have hwz:=HWZ.out;simp only[setAll] at hwz;rw[hwz];refine hK.out _ _ (⟨(HBZ.out.cell (World.block_lt_of_cell? _ _ HC0.out)).trans HC0.out,PXZ.out.c 7 _ rfl⟩) (fun hHeld=>?_);clear hK K;try simp only[Act.put,sA,sZ,sS]
  refine wpAnyH_done (by kernel_rfl) ?_ _;refine NoPanic.normal ?_;go_wp2;have z0:=HZ.out.1;have z1:=HZ.out.2.1;have z2:=HZ.out.2.2.1;have z3:=HZ.out.2.2.2.1;have z4:=HZ.out.2.2.2.2;(try simp only[Exit.inBlock,Exit.then]);refine bodyPost_ret (v:= .agg #[.int .i64 v2,.int .i64 v0,.int .i64 (u:Int),.int .i64 j,.bool f1]) ?_ rfl ?_;·simp[results,Tryz.results141,go_sem,z0,z1,z2,z3,z4]
  ·exact⟨rfl,HBZ.out⟩
set_option maxRecDepth 100000 in set_option maxHeartbeats 8000000 in theorem cvSide2{mb pb pc hb:Nat}{ta:Option Addr}{tc:Nat}{P:List (Int×Int)}{S:List TriM}(t u:Nat)(v0 v1 v2 n0 n1:Int)(f0 f1 f2:Bool)(U:TriM)(w:World)(h:MeshR w mb pb pc ta tc P S)(hc:w.cell? ⟨hb,0,none⟩=some (.pointer (some ⟨mb,0,none⟩)))(hT:S[t]?=some (⟨v0,v1,v2,n0,n1,(u:Int),f0,f1,f2⟩:TriM))(hU:S[u]?=some U):Calls Tryz.prog 141 #[.pointer (some ⟨hb,0,none⟩),.int .i64 (t:Int),.int .i64 2] w fun e w'=>e= .returned (.agg #[.int .i64 v0,.int .i64 v1,.int .i64 (u:Int),.int .i64 (edgeT U v1 v0),.bool f2])∧Below w.heap.size w w':=by
  obtain⟨w1,hw1,pl,hb1,hs1⟩:=new_box w _ rfl [.int .i64 0,.int .i64 0,.int .i64 0,.int .i64 0,.bool false] 161;have NE:=Lib.hid (show w1.heap.size≠w.heap.size by omega);have hc1:w1.cell? ⟨hb,0,none⟩=some (.pointer (some ⟨mb,0,none⟩)):=(hb1.cell (World.block_lt_of_cell? _ _ hc)).trans hc;have h1:=h.below hb1;obtain⟨w2,hw2,px,hb2,hs2⟩:=new_box w1 _ rfl [.int .i64 v0,.int .i64 v1,.int .i64 v2,.int .i64 n0,.int .i64 n1,.int .i64 (u:Int),.bool f0,.bool f1,.bool f2] 42;have hlt:=(List.getElem?_eq_some_iff.1 hT).1;have hsh:=h.short.2;obtain⟨len,hlen⟩:∃len,S.length=len:=⟨_,rfl⟩;have i1:(0:Int)≤(t:Int):=by omega
  have i2:(t:Int)<(len:Int):=by omega
  have b1:=h1.box.c1;rw[hlen] at b1 hsh hlt;obtain⟨tb,hta,-,h9⟩:=h1.tris.get hT;subst hta;obtain⟨c0,c1,c2,c3,c4,c5,c6,c7,c8⟩:=h9;simp only[] at c0 c1 c2 c3 c4 c5 c6 c7 c8;have HEN:=Lib.hid (show∀W:World,Calls Tryz.prog 173 #[.agg #[.int .i64 v0,.int .i64 v1,.int .i64 v2,.int .i64 n0,.int .i64 n1,.int .i64 (u:Int),.bool f0,.bool f1,.bool f2],.int .i64 2] W fun e w'=>e= .returned (.tuple #[.int .i64 v0,.int .i64 v1])∧Below W.heap.size W w' from fun W=>cvEnds_any (⟨v0,v1,v2,n0,n1,(u:Int),f0,f1,f2⟩:TriM) 2 (by omega) W);obtain⟨j,hj⟩:∃j,edgeT U v1 v0=j:=⟨_,rfl⟩;rw[hj];have HED:=Lib.hid (show∀W:World,Below w1.heap.size w1 W→Calls Tryz.prog 172 #[.pointer (some ⟨mb,0,none⟩),.int .i64 (u:Int),.int .i64 v1,.int .i64 v0] W fun e w'=>e= .returned (.int .i64 j)∧Below W.heap.size W w' from fun W hW=>by have:=cvEdge_any u U v1 v0 W (h1.below hW) hU;rw[hj] at this;exact this);have HB1:=Lib.hid hb1;have HB2:=Lib.hid hb2;have PL2:=Lib.hid (pl.below hb2);have PX2:=Lib.hid px;have d0:=px.c 0 _ rfl;have d1:=px.c 1 _ rfl;have d2:=px.c 2 _ rfl;have d3:=px.c 3 _ rfl;have d4:=px.c 4 _ rfl;have d5:=px.c 5 _ rfl;have d6:=px.c 6 _ rfl;have d7:=px.c 7 _ rfl;have d8:=px.c 8 _ rfl;have HC1:=Lib.hid hc1;have HC0:=Lib.hid hc;clear h hc hT hU hb1 hb2 hs1 hs2 pl px h1 hlen hj;go_enter Tryz.func141,Tryz.ntmps141;go_wp2_with fail;refine(HEN.out _).mono ?_;rintro e w3 ⟨rfl,hb3⟩;clear hw1 hw2 d0 d1 d2 d3 d4 d5 d6 d7 d8 c0 c1 c2 c3 c4 c5 c6 c7 c8 b1 hc1 i1 i2;have HB3:=Lib.hid (HB2.out.trans (hb3.mono HB2.out.size));have PL:=Lib.hid (PL2.out.below hb3);have PX:=Lib.hid (PX2.out.below hb3);clear hb3;have d0:=PX.out.c 5 _ rfl;go_wp2;clear d0;refine wp_region_noPanic ?_;refine wp_region_held_drew (S:=fun w'=>w'.cell? ⟨hb,0,none⟩=some (.pointer (some ⟨mb,0,none⟩))∧w'.cell? ⟨w1.heap.size,8,none⟩=some (.bool f2)) (by kernel_rfl) (⟨(HB3.out.cell (World.block_lt_of_cell? _ _ HC1.out)).trans HC1.out,PX.out.c 8 _ rfl⟩) (fun hHeld=>?_);refine rU 0 _ _ ?_;refine rU 1 _ _ ?_;refine rU 2 _ _ ?_;refine rU 3 _ _ ?_;refine rU 4 _ _ ?_;refine rU 5 _ _ ?_;refine rU 6 _ _ ?_;refine rU 7 _ _ ?_;refine rU 8 _ _ ?_;refine rU 9 _ _ ?_;refine rU 11 _ _ ?_;refine rU 12 _ _ ?_;refine rU 13 _ _ ?_;refine rU 14 _ _ ?_;refine rC 10 _ (fun K hK=>?_);go_simp;refine(HED.out _ HB3.out.drew').mono ?_;rintro e w4 ⟨rfl,hb4⟩;have HB4:=Lib.hid hb4;clear hb4;have PX4:=Lib.hid ((PX.out.drew).below HB4.out);have HB34:=Lib.hid (HB3.out.drew'.trans (HB4.out.mono HB3.out.size));refine hK.out _ _ (⟨(HB34.out.cell (World.block_lt_of_cell? _ _ HC1.out)).trans HC1.out,PX4.out.c 8 _ rfl⟩) (fun hHeld=>?_);clear hK K;try simp only[Act.put,sA,sZ,sS]
  refine rU 15 _ _ ?_;refine rC 16 _ (fun K hK=>?_);have hbq:=HB34.out;have plq:=(PL.out.drew).below HB4.out;obtain⟨wz,hwz⟩:∃wz,setAll w4 w.heap.size 0 [.int .i64 v0,.int .i64 v1,.int .i64 (u:Int),.int .i64 j,.bool f2]=wz:=⟨_,rfl⟩;have pz:Box wz w.heap.size [.int .i64 v0,.int .i64 v1,.int .i64 (u:Int),.int .i64 j,.bool f2]:=by rw[←hwz];exact plq.setAll [.int .i64 v0,.int .i64 v1,.int .i64 (u:Int),.int .i64 j,.bool f2] rfl
  have hbz:Below w.heap.size w wz:=by rw[←hwz];exact below_setAll (HB1.out.trans (hbq.mono HB1.out.size)) (Nat.le_refl _) _
  have hne:w1.heap.size≠w.heap.size:=NE.out;have pxz:Box wz w1.heap.size [.int .i64 v0,.int .i64 v1,.int .i64 v2,.int .i64 n0,.int .i64 n1,.int .i64 (u:Int),.bool f0,.bool f1,.bool f2]:=by rw[←hwz];exact(((((PX4.out.far hne _ _).far hne _ _).far hne _ _).far hne _ _).far hne _ _)
  have z0:=pz.c 0 _ rfl;have z1:=pz.c 1 _ rfl;have z2:=pz.c 2 _ rfl;have z3:=pz.c 3 _ rfl;have z4:=pz.c 4 _ rfl;have o0:=plq.c 0 _ rfl;have o1:=plq.c 1 _ rfl;have o2:=plq.c 2 _ rfl;have o3:=plq.c 3 _ rfl;have o4:=plq.c 4 _ rfl;have g0:=plq.f 0 _ rfl;have g1:=plq.f 1 _ rfl;have g2:=plq.f 2 _ rfl;have g3:=plq.f 3 _ rfl;have g4:=plq.f 4 _ rfl;have HWZ:=Lib.hid hwz;have HBZ:=Lib.hid hbz;have HZ:=Lib.hid (And.intro z0 (And.intro z1 (And.intro z2 (And.intro z3 z4))));have PXZ:=Lib.hid pxz;clear hbq plq hwz pz hbz hne pxz z0 z1 z2 z3 z4;go_simp;clear o0 o1 o2 o3 o4 g0 g1 g2 g3 g4;have hwz:=HWZ.out;simp only[setAll] at hwz;rw[hwz];refine hK.out _ _ (⟨(HBZ.out.cell (World.block_lt_of_cell? _ _ HC0.out)).trans HC0.out,PXZ.out.c 8 _ rfl⟩) (fun hHeld=>?_);clear hK K;try simp only[Act.put,sA,sZ,sS]
  refine wpAnyH_done (by kernel_rfl) ?_ _;refine NoPanic.normal ?_;go_wp2;have z0:=HZ.out.1;have z1:=HZ.out.2.1;have z2:=HZ.out.2.2.1;have z3:=HZ.out.2.2.2.1;have z4:=HZ.out.2.2.2.2;(try simp only[Exit.inBlock,Exit.then]);refine bodyPost_ret (v:= .agg #[.int .i64 v0,.int .i64 v1,.int .i64 (u:Int),.int .i64 j,.bool f2]) ?_ rfl ?_;·simp[results,Tryz.results141,go_sem,z0,z1,z2,z3,z4]
  ·exact⟨rfl,HBZ.out⟩
def sideV(a b u j:Int)(f:Bool):Value:= .agg #[.int .i64 a,.int .i64 b,.int .i64 u,.int .i64 j,.bool f]
theorem cvSide_any{mb pb pc hb:Nat}{ta:Option Addr}{tc:Nat}{P:List (Int×Int)}{S:List TriM}(t u i:Nat)(hi:i<3)(T U:TriM)(hu:T.n i=(u:Int))(w:World)(h:MeshR w mb pb pc ta tc P S)(hc:w.cell? ⟨hb,0,none⟩=some (.pointer (some ⟨mb,0,none⟩)))(hT:S[t]?=some T)(hU:S[u]?=some U):Calls Tryz.prog 141 #[.pointer (some ⟨hb,0,none⟩),.int .i64 (t:Int),.int .i64 (i:Int)] w fun e w'=>e= .returned (sideV (edgeV T i).1 (edgeV T i).2 (u:Int) (edgeT U (edgeV T i).2 (edgeV T i).1) (T.f i))∧Below w.heap.size w w':=by
  obtain⟨v0,v1,v2,n0,n1,n2,f0,f1,f2⟩:=T;obtain rfl|rfl|rfl:i=0∨i=1∨i=2:=by omega
  · obtain rfl:n0=(u:Int):=hu;exact cvSide0 t u v0 v1 v2 n1 n2 f0 f1 f2 U w h hc hT hU
  · obtain rfl:n1=(u:Int):=hu;exact cvSide1 t u v0 v1 v2 n0 n2 f0 f1 f2 U w h hc hT hU
  · obtain rfl:n2=(u:Int):=hu;exact cvSide2 t u v0 v1 v2 n0 n1 f0 f1 f2 U w h hc hT hU
set_option maxRecDepth 100000 in set_option maxHeartbeats 8000000 in theorem cvAcross_any{mb pb pc:Nat}{ta:Option Addr}{tc:Nat}{P:List (Int×Int)}{S:List TriM}(t:Nat)(T:TriM)(a b:Int)(k:Nat)(hk:k<3)(w:World)(h:MeshR w mb pb pc ta tc P S)(hT:S[t]?=some T)(hj:(edgeT T a b=(k:Int)∧edgeT T b a=-1)∨(edgeT T a b=-1∧edgeT T b a=(k:Int))):Calls Tryz.prog 139 #[.pointer (some ⟨mb,0,none⟩),.int .i64 (t:Int),.int .i64 a,.int .i64 b] w fun e w'=>e= .returned (.int .i64 (T.n k))∧Below w.heap.size w w':=by
  obtain⟨z,hz⟩:∃z:Int,(k:Int)=z:=⟨_,rfl⟩;obtain⟨j1,h1⟩:∃j,edgeT T a b=j:=⟨_,rfl⟩;obtain⟨j2,h2⟩:∃j,edgeT T b a=j:=⟨_,rfl⟩;rw[h1,h2,hz] at hj;have HE1:=Lib.hid (show∀W:World,Below w.heap.size w W→Calls Tryz.prog 172 #[.pointer (some ⟨mb,0,none⟩),.int .i64 (t:Int),.int .i64 a,.int .i64 b] W fun e w'=>e= .returned (.int .i64 j1)∧Below W.heap.size W w' from fun W hW=>by have:=cvEdge_any t T a b W (h.below hW) hT;rw[h1] at this;exact this);have HE2:=Lib.hid (show∀W:World,Below w.heap.size w W→Calls Tryz.prog 172 #[.pointer (some ⟨mb,0,none⟩),.int .i64 (t:Int),.int .i64 b,.int .i64 a] W fun e w'=>e= .returned (.int .i64 j2)∧Below W.heap.size W w' from fun W hW=>by have:=cvEdge_any t T b a W (h.below hW) hT;rw[h2] at this;exact this);have hlt:=(List.getElem?_eq_some_iff.1 hT).1;have hsh:=h.short.2;obtain⟨len,hlen⟩:∃len,S.length=len:=⟨_,rfl⟩;rw[hlen] at hsh hlt;have i1:(0:Int)≤(t:Int):=by omega
  have i2:(t:Int)<(len:Int):=by omega
  have H:=Lib.hid h;have HT:=Lib.hid hT;have HLEN:=Lib.hid hlen;clear h hT hlen h1 h2;obtain rfl|rfl|rfl:k=0∨k=1∨k=2:=by omega
  · obtain rfl:z=0:=by omega
    clear hz hk;obtain⟨rfl,rfl⟩|⟨rfl,rfl⟩:=hj;all_goals (
      go_enter Tryz.func139,Tryz.ntmps139;go_wp2_with fail;refine(HE1.out _ (Below.refl _ _)).mono ?_;rintro e w2 ⟨rfl,hb2⟩;have HB2:=Lib.hid hb2;clear hb2;go_wp2_with fail;refine(HE2.out _ HB2.out).mono ?_;rintro e w3 ⟨rfl,hb3⟩;have HB3:=Lib.hid (HB2.out.trans (hb3.mono HB2.out.size));clear hb3;have hr:=H.out.below HB3.out;obtain⟨tb,hta,-,h9⟩:=hr.tris.get HT.out;subst hta;have b1:=hr.box.c1;rw[HLEN.out] at b1;have c3:=h9.c3;clear hr h9;go_wp2;go_ret;exact⟨rfl,HB3.out⟩)
  · obtain rfl:z=1:=by omega
    clear hz hk;obtain⟨rfl,rfl⟩|⟨rfl,rfl⟩:=hj;all_goals (
      go_enter Tryz.func139,Tryz.ntmps139;go_wp2_with fail;refine(HE1.out _ (Below.refl _ _)).mono ?_;rintro e w2 ⟨rfl,hb2⟩;have HB2:=Lib.hid hb2;clear hb2;go_wp2_with fail;refine(HE2.out _ HB2.out).mono ?_;rintro e w3 ⟨rfl,hb3⟩;have HB3:=Lib.hid (HB2.out.trans (hb3.mono HB2.out.size));clear hb3;have hr:=H.out.below HB3.out;obtain⟨tb,hta,-,h9⟩:=hr.tris.get HT.out;subst hta;have b1:=hr.box.c1;rw[HLEN.out] at b1;have c3:=h9.c4;clear hr h9;go_wp2;go_ret;exact⟨rfl,HB3.out⟩)
  · obtain rfl:z=2:=by omega
    clear hz hk;obtain⟨rfl,rfl⟩|⟨rfl,rfl⟩:=hj;all_goals (
      go_enter Tryz.func139,Tryz.ntmps139;go_wp2_with fail;refine(HE1.out _ (Below.refl _ _)).mono ?_;rintro e w2 ⟨rfl,hb2⟩;have HB2:=Lib.hid hb2;clear hb2;go_wp2_with fail;refine(HE2.out _ HB2.out).mono ?_;rintro e w3 ⟨rfl,hb3⟩;have HB3:=Lib.hid (HB2.out.trans (hb3.mono HB2.out.size));clear hb3;have hr:=H.out.below HB3.out;obtain⟨tb,hta,-,h9⟩:=hr.tris.get HT.out;subst hta;have b1:=hr.box.c1;rw[HLEN.out] at b1;have c3:=h9.c5;clear hr h9;go_wp2;go_ret;exact⟨rfl,HB3.out⟩)
theorem HoleR.mono{w:World}{lo lo' hb mb b:Nat}{v:Value}{ts:List Int}(h:HoleR w lo hb mb b v ts)(hl:lo'≤lo):HoleR w lo' hb mb b v ts:=by
  refine⟨h.box,⟨h.row.1,?_⟩,h.map,⟨by have:=h.low;omega,by have:=h.low;omega,h.low.2.2⟩,h.short⟩;rcases h.row.2 with h1|⟨g,cap,cur,h1,h2,h3⟩;·exact .inl h1
  ·exact .inr ⟨g,cap,cur,h1,by omega,h3⟩
set_option maxRecDepth 100000 in set_option maxHeartbeats 8000000 in theorem cvBegin_off{mb pb pc:Nat}{ta:Option Addr}{tc:Nat}{P:List (Int×Int)}{S:List TriM}(t:Nat)(T:TriM)(kd:Int)(a b:Int)(w:World)(h:MeshR w mb pb pc ta tc P S)(hT:S[t]?=some T)(hkd:(kd==1)=false):Calls Tryz.prog 101 #[.pointer (some ⟨mb,0,none⟩),.agg #[.int .i64 kd,.int .i64 (t:Int),.int .i64 a,.int .i64 b]] w fun e w'=>∃(hb m:Nat) (v:Value),e= .returned (.pointer (some ⟨hb,0,none⟩))∧HoleR w' w.heap.size hb mb m v (takeM P T (t:Int) [])∧Below w.heap.size w w':=by
  obtain⟨w1,hw1,pp,hb1,hs1⟩:=new_box w _ rfl [.int .i64 kd,.int .i64 (t:Int),.int .i64 a,.int .i64 b] 83;obtain⟨hrun,hmap⟩:=run_new_map (P:=Tryz.prog) w1 164 3;obtain⟨w2,hw2⟩:∃w2,w1.alloc (.map #[] 0)=w2:=⟨_,rfl⟩;rw[hw2] at hrun hmap;have hb2:Below w1.heap.size w1 w2:=by rw[←hw2];exact(Below.refl _ _).alloc (Nat.le_refl _) _
  have hs2:w2.heap.size=w1.heap.size+1:=by rw[←hw2];simp
  obtain⟨w3,hw3,ph,hb3,hs3⟩:=new_box w2 _ rfl [.pointer (some ⟨mb,0,none⟩),.slice none 0 0,.map (some w1.heap.size)] 166;have HH:=Lib.hid (show HoleR w3 w1.heap.size w2.heap.size mb w1.heap.size (.slice none 0 0) [] from⟨ph,RowN.nil _ _ _ _,hmap.below hb3,⟨by omega,by omega,by omega,by simp[Value.ownBlock],by simp[Value.ownBlock]⟩,by simp⟩);have HB3:=Lib.hid (show Below w1.heap.size w1 w3 from hb2.trans (hb3.mono (by omega)));have HB1:=Lib.hid hb1;have PP:=Lib.hid ((pp.below hb2).below hb3);have H:=Lib.hid (h.below hb1);have PP1:=Lib.hid pp;have HT:=Lib.hid hT;have p1:=PP.out.c 1 _ rfl;clear pp hmap hb1 hb2 hb3 hs1 hs2 hs3 ph h hT hw2;go_enter Tryz.func101,Tryz.ntmps101;go_wp2_with fail;refine(cvTake_any t T w3 H.out HB3.out HH.out HT.out (by simp)).mono ?_;rintro e w4 ⟨rfl,⟨v4,hh4,-⟩,hb4⟩;have HH4:=Lib.hid hh4;have HB4:=Lib.hid hb4;clear hh4 hb4 p1 hrun hw1 hw3;have PP4:=Lib.hid (PP1.out.below HB4.out);have p0:=PP4.out.c 0 _ rfl;have p1:=PP4.out.c 1 _ rfl;have p2:=PP4.out.c 2 _ rfl;have p3:=PP4.out.c 3 _ rfl;go_wp2;go_ret;exact⟨_,_,_,rfl,HH4.out.mono HB1.out.size,HB1.out.trans (HB4.out.mono HB1.out.size)⟩
set_option maxRecDepth 100000 in set_option maxHeartbeats 8000000 in theorem cvBegin_on{mb pb pc:Nat}{ta:Option Addr}{tc:Nat}{P:List (Int×Int)}{S:List TriM}(t:Nat)(T:TriM)(a b:Int)(w:World)(h:MeshR w mb pb pc ta tc P S)(hT:S[t]?=some T)(k:Nat)(hk:k<3)(u:Nat)(U:TriM)(hu:T.n k=(u:Int))(hU:S[u]?=some U)(hj:(edgeT T a b=(k:Int)∧edgeT T b a=-1)∨(edgeT T a b=-1∧edgeT T b a=(k:Int))):Calls Tryz.prog 101 #[.pointer (some ⟨mb,0,none⟩),.agg #[.int .i64 1,.int .i64 (t:Int),.int .i64 a,.int .i64 b]] w fun e w'=>∃(hb m:Nat) (v:Value),e= .returned (.pointer (some ⟨hb,0,none⟩))∧HoleR w' w.heap.size hb mb m v (takeM P U (u:Int) (takeM P T (t:Int) []))∧Below w.heap.size w w':=by
  obtain⟨w1,hw1,pp,hb1,hs1⟩:=new_box w _ rfl [.int .i64 1,.int .i64 (t:Int),.int .i64 a,.int .i64 b] 83;obtain⟨hrun,hmap⟩:=run_new_map (P:=Tryz.prog) w1 164 3;obtain⟨w2,hw2⟩:∃w2,w1.alloc (.map #[] 0)=w2:=⟨_,rfl⟩;rw[hw2] at hrun hmap;have hb2:Below w1.heap.size w1 w2:=by rw[←hw2];exact(Below.refl _ _).alloc (Nat.le_refl _) _
  have hs2:w2.heap.size=w1.heap.size+1:=by rw[←hw2];simp
  obtain⟨w3,hw3,ph,hb3,hs3⟩:=new_box w2 _ rfl [.pointer (some ⟨mb,0,none⟩),.slice none 0 0,.map (some w1.heap.size)] 166;have HH:=Lib.hid (show HoleR w3 w1.heap.size w2.heap.size mb w1.heap.size (.slice none 0 0) [] from⟨ph,RowN.nil _ _ _ _,hmap.below hb3,⟨by omega,by omega,by omega,by simp[Value.ownBlock],by simp[Value.ownBlock]⟩,by simp⟩);have HB3:=Lib.hid (show Below w1.heap.size w1 w3 from hb2.trans (hb3.mono (by omega)));have HB1:=Lib.hid hb1;have PP:=Lib.hid ((pp.below hb2).below hb3);have H:=Lib.hid (h.below hb1);have PP1:=Lib.hid pp;have HT:=Lib.hid hT;have p1:=PP.out.c 1 _ rfl;clear pp hmap hb1 hb2 hb3 hs1 hs2 hs3 ph h hT hw2;go_enter Tryz.func101,Tryz.ntmps101;go_wp2_with fail;refine(cvTake_any t T w3 H.out HB3.out HH.out HT.out (by simp)).mono ?_;rintro e w4 ⟨rfl,⟨v4,hh4,-⟩,hb4⟩;have HH4:=Lib.hid hh4;have HB4:=Lib.hid hb4;clear hh4 hb4 p1 hrun hw1 hw3;have PP4:=Lib.hid (PP1.out.below HB4.out);have p0:=PP4.out.c 0 _ rfl;have p1:=PP4.out.c 1 _ rfl;have p2:=PP4.out.c 2 _ rfl;have p3:=PP4.out.c 3 _ rfl;have HU:=Lib.hid hU;have HA:=Lib.hid (show∀W:World,Below w1.heap.size w1 W→Calls Tryz.prog 139 #[.pointer (some ⟨mb,0,none⟩),.int .i64 (t:Int),.int .i64 a,.int .i64 b] W fun e w'=>e= .returned (.int .i64 (u:Int))∧Below W.heap.size W w' from fun W hW=>by have:=cvAcross_any t T a b k hk W (H.out.below hW) HT.out hj;rw[hu] at this;exact this);have HLT:=Lib.hid (show(takeM P T (t:Int) []).length<1000000 by unfold takeM;split<;>simp);clear hj hu hU;go_wp2_with fail;refine(HA.out _ HB4.out).mono ?_;rintro e w5 ⟨rfl,hb5⟩;have HH5:=Lib.hid (HH4.out.below hb5);have HB5:=Lib.hid (HB4.out.trans (hb5.mono HB4.out.size));clear hb5 p0 p1 p2 p3;go_wp2_with fail;refine(cvTake_any u U w5 H.out HB5.out HH5.out HU.out HLT.out).mono ?_;rintro e w6 ⟨rfl,⟨v6,hh6,-⟩,hb6⟩;have HH6:=Lib.hid hh6;have HB6:=Lib.hid hb6;clear hh6 hb6;go_wp2;go_ret;exact⟨_,_,_,rfl,HH6.out.mono HB1.out.size,HB1.out.trans (HB6.out.mono HB1.out.size)⟩
end Go.Proofs.YtammmemfkpcpcaaGreat
namespace Go.MagM
open Go.RowKit
structure SideM where
  a:Int
  b:Int
  u:Int
  i:Int
  f:Bool
def SideM.cells(s:SideM):List Value:=[.int .i64 s.a,.int .i64 s.b,.int .i64 s.u,.int .i64 s.i,.bool s.f]
def sideCells(l:List SideM):List Value:=l.flatMap SideM.cells
theorem sideCells_app(l k:List SideM):sideCells (l++k)=sideCells l++sideCells k:=List.flatMap_append
theorem sideCells_get:∀(l:List SideM)(i j:Nat)(s:SideM),l[i]?=some s→j<5→(sideCells l)[i*5+j]?=s.cells[j]?
  |s::l,0,j,s',h,hj=>by
    cases h;show(s.cells++sideCells l)[0*5+j]?=_;rw[Nat.zero_mul,Nat.zero_add,List.getElem?_append_left (by show j<5;exact hj)]|s::l,i+1,j,s',h,hj=>by
    show(s.cells++sideCells l)[(i+1)*5+j]?=_;rw[List.getElem?_append_right (by show 5≤_;omega)];have e:(i+1)*5+j-s.cells.length=i*5+j:=by show(i+1)*5+j-5=_;omega
    rw[e];exact sideCells_get l i j s' (by simpa using h) hj
def outI(S:List TriM)(u a b:Int):Int:=match S[u.toNat]? with|some U=>edgeT U a b|none=>-1
def sideS(S:List TriM)(T:TriM)(i:Nat):SideM:=⟨(edgeV T i).1,(edgeV T i).2,T.n i,outI S (T.n i) (edgeV T i).2 (edgeV T i).1,T.f i⟩
def rimI(S:List TriM)(ts:List Int)(T:TriM):Nat→List SideM|0=>[]|n+1=>rimI S ts T n++(if T.n n∈ts then[] else[sideS S T n])
def rimT(S:List TriM)(ts:List Int)(t:Int):List SideM:=match S[t.toNat]? with|some T=>rimI S ts T 3|none=>[]
def rimP(S:List TriM)(ts:List Int):Nat→List SideM|0=>[]|n+1=>rimP S ts n++(match ts[n]? with|some t=>rimT S ts t|none=>[])
theorem rimI_le(S:List TriM)(ts:List Int)(T:TriM):∀n,(rimI S ts T n).length≤n|0=>Nat.le_refl _|n+1=>by have:=rimI_le S ts T n;rw[rimI,List.length_append];split<;>simp<;>omega
theorem rimT_le(S:List TriM)(ts:List Int)(t:Int):(rimT S ts t).length≤3:=by
  unfold rimT;split;·exact rimI_le _ _ _ _
  ·simp
theorem rimP_le(S:List TriM)(ts:List Int):∀n,(rimP S ts n).length≤3*n|0=>Nat.le_refl _|n+1=>by have:=rimP_le S ts n;rw[rimP,List.length_append];cases ts[n]? with|none=>simp;omega|some t=>have:=rimT_le S ts t;simp only[];omega
theorem rimP_on{S:List TriM}{ts:List Int}{n t:Nat}{T:TriM}(h:ts[n]?=some (t:Int))(hT:S[t]?=some T):rimP S ts (n+1)=rimP S ts n++rimI S ts T 3:=by rw[rimP,h];simp only[];unfold rimT;rw[Int.toNat_natCast,hT]
end Go.MagM
namespace Go.Proofs.YtammmemfkpcpcaaGreat
open Go.RowKit Go.MagM Go.Maps
theorem infoSide:(Tryz.prog.info? 161).map (fun i=>(i.zero,i.size,i.bytes))=some (some (.agg #[.int .i64 0,.int .i64 0,.int .i64 0,.int .i64 0,.bool false]),5,40):=by kernel_rfl
theorem sideV_is(S:List TriM)(T:TriM)(i:Nat){u:Nat}{U:TriM}(hu:T.n i=(u:Int))(hU:S[u]?=some U):sideV (edgeV T i).1 (edgeV T i).2 (u:Int) (edgeT U (edgeV T i).2 (edgeV T i).1) (T.f i)= .agg (sideS S T i).cells.toArray:=by unfold sideV sideS SideM.cells outI;simp only[];rw[hu,Int.toNat_natCast,hU]
end Go.Proofs.YtammmemfkpcpcaaGreat
namespace Go.Proofs.YtammmemfkpcpcaaGreat
open Go.MagM
def cor(l:List (Rat×Rat))(i:Nat):Rat×Rat:=l.getD (i%l.length) (0,0)
def riseQ(l:List (Rat×Rat))(i:Nat):Prop:=(cor l (i+1)).2≤(cor l i).2∧(cor l (i+1)).2<(cor l (i+2)).2
instance(l:List (Rat×Rat))(i:Nat):Decidable (riseQ l i):=by unfold riseQ;infer_instance
end Go.Proofs.YtammmemfkpcpcaaGreat
namespace Go.MagM
open Go.RowKit
theorem RowN.farFrom{base:Nat}{e:TypeId}{size:Nat}{v:Value}{n:Nat}{xs:List Value}{g':Nat}(hne:∀k,v.ownBlock=some k→k≠g'):∀(ys:List Value)(i:Nat){w:World},RowN w base e size v n xs→RowN (Go.MagM.setAll w g' i ys) base e size v n xs|[],_,_,h=>h|y::ys,i,w,h=>RowN.farFrom hne ys (i+1) (h.block fun k hk _=>Below.heap_setCell w ⟨g',i,none⟩ y k (by simpa using hne k hk))
theorem RowN.shape{w:World}{base:Nat}{e:TypeId}{size:Nat}{v:Value}{n:Nat}{xs:List Value}(h:RowN w base e size v n xs):∃ao c,v= .slice ao n c:=by
  rcases h.2 with⟨h1,h2⟩|⟨g,cap,_,h1,_⟩;·subst h2;exact⟨_,_,h1⟩
  ·exact⟨_,_,h1⟩
def SrR(w:World)(L:Nat)(xs:List Value)(l:List (Rat×Rat)):Prop:=(∀u∈xs,u.oneCell'=true)∧(∀u∈xs,NoWord u)∧xs.length=l.length*6∧∀i x y,l[i]?=some (x,y)→∃m so sn sc tp tn tc m' so' sn' sc' tp' tn' tc',xs[i*6]?=some (.bool m)∧xs[i*6+1]?=some (.slice so sn sc)∧xs[i*6+2]?=some (.slice tp tn tc)∧xs[i*6+3]?=some (.bool m')∧xs[i*6+4]?=some (.slice so' sn' sc')∧xs[i*6+5]?=some (.slice tp' tn' tc')∧RF w (.agg #[.bool m,.slice so sn sc,.slice tp tn tc]) L x∧RF w (.agg #[.bool m',.slice so' sn' sc',.slice tp' tn' tc']) L y
theorem SrR.kept{w w':World}{L:Nat}{xs:List Value}{l:List (Rat×Rat)}(h:SrR w L xs l)(hk:Kept w w'):SrR w' L xs l:=⟨h.1,h.2.1,h.2.2.1,fun i x y hi=>by obtain⟨m,so,sn,sc,tp,tn,tc,m',so',sn',sc',tp',tn',tc',h1,h2,h3,h4,h5,h6,h7,h8⟩:=h.2.2.2 i x y hi;exact⟨m,so,sn,sc,tp,tn,tc,m',so',sn',sc',tp',tn',tc',h1,h2,h3,h4,h5,h6,h7.kept hk,h8.kept hk⟩⟩
theorem SrR.below{w w':World}{L:Nat}{xs:List Value}{l:List (Rat×Rat)}(h:SrR w L xs l)(hb:Below w.heap.size w w'):SrR w' L xs l:=h.kept (Kept.below hb)
theorem SrR.nil(w:World)(L:Nat):SrR w L [] []:=⟨by simp,by simp,rfl,fun i x y hi=>by simp at hi⟩
theorem SrR.one{w:World}{L:Nat}{m:Bool}{so:Option Addr}{sn sc:Nat}{tp:Option Addr}{tn tc:Nat}{m':Bool}{so':Option Addr}{sn' sc':Nat}{tp':Option Addr}{tn' tc':Nat}{x y:Rat}(hx:RF w (.agg #[.bool m,.slice so sn sc,.slice tp tn tc]) L x)(hy:RF w (.agg #[.bool m',.slice so' sn' sc',.slice tp' tn' tc']) L y):SrR w L [.bool m,.slice so sn sc,.slice tp tn tc,.bool m',.slice so' sn' sc',.slice tp' tn' tc'] [(x,y)]:=by
  refine⟨?_,noWord6 _ _ _ _ _ _ _ _ _ _ _ _ _ _,rfl,fun i a b hi=>?_⟩;·intro u hu;simp at hu;rcases hu with rfl|rfl|rfl|rfl|rfl|rfl<;>rfl
  · have hi':=(List.getElem?_eq_some_iff.1 hi).1;obtain rfl:i=0:=by simpa using hi'
    simp at hi;obtain⟨rfl,rfl⟩:=hi;exact⟨_,_,_,_,_,_,_,_,_,_,_,_,_,_,rfl,rfl,rfl,rfl,rfl,rfl,hx,hy⟩
theorem SrR.append{w:World}{L:Nat}{xs ys:List Value}{l k:List (Rat×Rat)}(h:SrR w L xs l)(h':SrR w L ys k):SrR w L (xs++ys) (l++k):=by
  refine⟨?_,?_,?_,fun i x y hi=>?_⟩
  · intro u hu;rw[List.mem_append] at hu;rcases hu with hu|hu;·exact h.1 u hu
    ·exact h'.1 u hu
  · intro u hu;rw[List.mem_append] at hu;rcases hu with hu|hu;·exact h.2.1 u hu
    ·exact h'.2.1 u hu
  ·rw[List.length_append,List.length_append,h.2.2.1,h'.2.2.1,Nat.add_mul]
  · by_cases hlt:i<l.length
    · rw[List.getElem?_append_left hlt] at hi;have hl:=h.2.2.1;obtain⟨m,so,sn,sc,tp,tn,tc,m',so',sn',sc',tp',tn',tc',h1,h2,h3,h4,h5,h6,h7⟩:=h.2.2.2 i x y hi;refine⟨m,so,sn,sc,tp,tn,tc,m',so',sn',sc',tp',tn',tc',?_,?_,?_,?_,?_,?_,h7⟩<;>rw[List.getElem?_append_left (by omega)]<;>assumption
    · rw[List.getElem?_append_right (by omega)] at hi;have hl:=h.2.2.1;obtain⟨m,so,sn,sc,tp,tn,tc,m',so',sn',sc',tp',tn',tc',h1,h2,h3,h4,h5,h6,h7⟩:=h'.2.2.2 _ x y hi;refine⟨m,so,sn,sc,tp,tn,tc,m',so',sn',sc',tp',tn',tc',?_,?_,?_,?_,?_,?_,h7⟩;·rw[List.getElem?_append_right (by omega),show i*6-xs.length=(i-l.length)*6 by omega];exact h1
      ·rw[List.getElem?_append_right (by omega),show i*6+1-xs.length=(i-l.length)*6+1 by omega];exact h2
      ·rw[List.getElem?_append_right (by omega),show i*6+2-xs.length=(i-l.length)*6+2 by omega];exact h3
      ·rw[List.getElem?_append_right (by omega),show i*6+3-xs.length=(i-l.length)*6+3 by omega];exact h4
      ·rw[List.getElem?_append_right (by omega),show i*6+4-xs.length=(i-l.length)*6+4 by omega];exact h5
      ·rw[List.getElem?_append_right (by omega),show i*6+5-xs.length=(i-l.length)*6+5 by omega];exact h6
theorem SrR.at{w:World}{base:Nat}{e:TypeId}{v:Value}{n L:Nat}{xs:List Value}{l:List (Rat×Rat)}(h:SrR w L xs l)(hr:RowN w base e 6 v n xs){i:Nat}{x y:Rat}(hi:l[i]?=some (x,y)):∃g c m so sn sc tp tn tc m' so' sn' sc' tp' tn' tc',v= .slice (some ⟨g,0,none⟩) n c∧At6 w g (i*6) (.bool m) (.slice so sn sc) (.slice tp tn tc) (.bool m') (.slice so' sn' sc') (.slice tp' tn' tc')∧RF w (.agg #[.bool m,.slice so sn sc,.slice tp tn tc]) L x∧RF w (.agg #[.bool m',.slice so' sn' sc',.slice tp' tn' tc']) L y:=by
  obtain⟨m,so,sn,sc,tp,tn,tc,m',so',sn',sc',tp',tn',tc',h1,h2,h3,h4,h5,h6,h7,h8⟩:=h.2.2.2 i x y hi;have hl:=(List.getElem?_eq_some_iff.1 h1).1;rcases hr.2 with⟨rfl,rfl⟩|⟨g,cap,cur,rfl,_⟩;·have:=hr.1;omega
  ·exact⟨g,cap,m,so,sn,sc,tp,tn,tc,m',so',sn',sc',tp',tn',tc',rfl,⟨hr.cells rfl _ _ h1,hr.cells rfl _ _ h2,hr.cells rfl _ _ h3,hr.cells rfl _ _ h4,hr.cells rfl _ _ h5,hr.cells rfl _ _ h6⟩,h7,h8⟩
def SpotsR(w:World)(ao:Option Addr)(L:Nat)(l:List (Rat×Rat)):Prop:=∀i x y,l[i]?=some (x,y)→∃b o m so sn sc tp tn tc m' so' sn' sc' tp' tn' tc',ao=some ⟨b,o,none⟩∧At6 w b (o+i*6) (.bool m) (.slice so sn sc) (.slice tp tn tc) (.bool m') (.slice so' sn' sc') (.slice tp' tn' tc')∧RF w (.agg #[.bool m,.slice so sn sc,.slice tp tn tc]) L x∧RF w (.agg #[.bool m',.slice so' sn' sc',.slice tp' tn' tc']) L y
theorem SpotsR.below{w w':World}{ao:Option Addr}{L:Nat}{l:List (Rat×Rat)}(h:SpotsR w ao L l)(hb:Below w.heap.size w w'):SpotsR w' ao L l:=by intro i x y hi;obtain⟨b,o,m,so,sn,sc,tp,tn,tc,m',so',sn',sc',tp',tn',tc',h0,h1,h7,h8⟩:=h i x y hi;exact⟨b,o,m,so,sn,sc,tp,tn,tc,m',so',sn',sc',tp',tn',tc',h0,h1.below hb,h7.below hb,h8.below hb⟩
theorem SpotsR.nil(w:World)(ao:Option Addr)(L:Nat):SpotsR w ao L []:=fun i x y hi=>by simp at hi
theorem SpotsR.spots{w:World}{ao:Option Addr}{L:Nat}{l:List (Rat×Rat)}(h:SpotsR w ao L l):Spots w ao L l:=by intro i x y hi;obtain⟨b,o,m,so,sn,sc,tp,tn,tc,m',so',sn',sc',tp',tn',tc',h0,h1,h7,h8⟩:=h i x y hi;exact⟨b,o,m,so,sn,sc,tp,tn,tc,m',so',sn',sc',tp',tn',tc',h0,h1.c0,h1.c1,h1.c2,h1.c3,h1.c4,h1.c5,h7.q,h8.q⟩
theorem SrR.spotsR{w:World}{base:Nat}{e:TypeId}{v:Value}{n L:Nat}{xs:List Value}{l:List (Rat×Rat)}(h:SrR w L xs l)(hr:RowN w base e 6 v n xs)(hl:l.length=n):∃ao c,v= .slice ao n c∧SpotsR w ao L l:=by
  rcases hr.2 with⟨rfl,rfl⟩|⟨g,cap,cur,rfl,_⟩
  · obtain rfl:=List.length_eq_zero_iff.1 hl;exact⟨_,_,rfl,SpotsR.nil _ _ _⟩
  · refine⟨_,_,rfl,fun i x y hi=>?_⟩;obtain⟨m,so,sn,sc,tp,tn,tc,m',so',sn',sc',tp',tn',tc',h1,h2,h3,h4,h5,h6,h7,h8⟩:=h.2.2.2 i x y hi;refine⟨g,0,m,so,sn,sc,tp,tn,tc,m',so',sn',sc',tp',tn',tc',rfl,⟨?_,?_,?_,?_,?_,?_⟩,h7,h8⟩<;>rw[Nat.zero_add]<;>exact hr.cells rfl _ _ (by assumption)
section
variable{P:Program}
theorem run_append_row'(w:World)(base:Nat)(t ty e:TypeId)(i:TypeInfo)(z:Value)(size bytes:Nat)(ht:P.underlying t=some (.slice e))(hi:P.info? e=some i)(hz:i.zero=some z)(hsize:i.size=size)(hby:i.bytes=bytes)(hzs:z.cells.size=size)(hzw:∀u∈z.cells.toList,NoWord u)(v:Value)(n:Nat)(xs:List Value)(hrow:RowN w base e size v n xs)(a:Addr)(m c:Nat)(news:List Value)(hm0:0<m)(hl:news.length=m*size)(hnews:∀j u,news[j]?=some u→w.cell? (a.add j)=some u)(h1:∀u∈news,u.oneCell'=true)(hnw:∀u∈news,NoWord u)(h63:n+m≤maxLen)(hbytes:(n+m)*bytes≤140737488355328)(hbase:base≤w.heap.size):∃v' w',(Builtin.append_ #[t,t] ty #[v,.slice (some a) m c]).run P w= .ok v' w'∧RowN w' base e size v' (n+m) (xs++news)∧w.grownBy w' v.ownBlock∧Kept w w'∧∀g,v'.ownBlock=some g→v.ownBlock=some g∨w.heap.size≤g:=by
  subst hsize;subst hby;have hlen:(xs++news).length=(n+m)*i.size:=by rw[List.length_append,hrow.1,hl,Nat.add_mul]
  have grown:∀(old:Nat),old<n+m→(∀u∈xs,NoWord u)→∀(row:Option Nat),RowN (w.drew.alloc (.cells (xs.toArray++news.toArray++Builtin.zeroCells z.cells (grownCap w (n+m) old e-(n+m))) e)) base e i.size (.slice (some ⟨w.heap.size,0,none⟩) (n+m) (grownCap w (n+m) old e)) (n+m) (xs++news)∧w.grownBy (w.drew.alloc (.cells (xs.toArray++news.toArray++Builtin.zeroCells z.cells (grownCap w (n+m) old e-(n+m))) e)) row:=by
    intro old ho hxw row;have hge:=grownCap_ge w (n+m) old e;have hcm:grownCap w (n+m) old e≤maxLen:=grownCap_le_maxLen w (n+m) old e h63;refine⟨⟨hlen,.inr ⟨w.heap.size,_,_,rfl,hbase,heap_alloc_new w.drew _,hge,hcm,?_,?_,?_⟩⟩,⟨rfl,rfl,rfl,by simp,fun k hk _=>heap_alloc_old w.drew _ hk⟩⟩
    · simp only[Array.size_append,List.size_toArray,size_zeroCells,hzs,hrow.1,hl,←Nat.add_mul];congr 1;omega
    · simp only[Array.toList_append,List.append_assoc];rw[←List.append_assoc,←hlen];exact List.take_left
    · intro u hu;simp only[Array.toList_append,List.mem_append] at hu;rcases hu with(hu|hu)|hu;·exact hxw u hu
      ·exact hnw u hu
      ·exact noWord_zero hzw _ u hu
  have hrow':=hrow;rcases hrow.2 with⟨rfl,rfl⟩|⟨g,cap,cur,rfl,hbg,hg,hnc,hcm,hcs,htake,hcw⟩
  · have hx:xs=[]:=List.eq_nil_of_length_eq_zero (by simpa using hrow.1);subst hx;have hr:=run_append_nil (P:=P) w t ty e i z ht hi hz a m c news hl hnews hm0 (by simp only[maxLen] at h63;omega) (by have hb:=hbytes;simp only[Nat.zero_add] at hb;omega);have hgr:=grown 0 (by omega) (fun u hu=>by cases hu) (Value.ownBlock (.slice none 0 0));simp only[Nat.zero_add,List.nil_append,Array.empty_append] at hgr⊢;exact⟨_,_,hr,hgr.1,hgr.2,Kept.alloc w _,fun g hg=> .inr (by simp[Value.ownBlock] at hg;omega)⟩
  · by_cases hroom:n+m≤cap
    · have hfit:n*i.size+news.length≤cur.size:=by rw[hl,hcs,←Nat.add_mul];exact Nat.mul_le_mul_right _ hroom
      have hr:=run_append_room (P:=P) w t ty e i ht hi g n cap cur hg a m c news hl hnews h1 hroom hfit;have hcells:∀u∈cur.toList.take (n*i.size)++news++cur.toList.drop (n*i.size+news.length),NoWord u:=by
        intro u hu;rw[List.mem_append,List.mem_append] at hu;rcases hu with(hu|hu)|hu;·exact hcw u (List.mem_of_mem_take hu)
        ·exact hnw u hu
        ·exact hcw u (List.mem_of_mem_drop hu)
      refine⟨_,_,hr,⟨hlen,.inr ⟨g,cap,_,rfl,hbg,setRow_heap w g cur _ e _ hg,hroom,hcm,?_,?_,hcells⟩⟩,⟨rfl,rfl,rfl,by simp,fun k _ hk=>setRow_other w g k _ (fun e=>hk (by simp[Value.ownBlock,e]))⟩,?_,fun k hk=> .inl hk⟩
      · simp only[List.size_toArray,List.length_append,List.length_take,List.length_drop,Array.length_toList];omega
      · rw[htake,←hlen];exact List.take_left
      · intro p x hp;by_cases hpg:p.block=g
        · exfalso;obtain⟨pb,po,ps⟩:=p;simp at hpg;subst hpg;have hsp:=World.cell?_spot hp;simp at hsp;subst hsp;rw[cell_of_row w pb po cur e (0,0) hg] at hp;have hmem:Value.int .u64 x∈cur.toList:=Array.mem_toList_iff.2 (Array.mem_of_getElem? hp);exact hcw _ hmem x rfl
        ·rw[World.cell?_of_block (w:=w) (a:=p) (setRow_other w g p.block _ hpg)];exact hp
    · have holds:∀j u,xs[j]?=some u→w.cell? ((⟨g,0,none⟩:Addr).add j)=some u:=hrow'.own.cells (g:=g) rfl;have hr:=run_append_grow (P:=P) w t ty e i z ht hi hz ⟨g,0,none⟩ n cap xs hrow'.1 holds a m c news hl hnews (by omega) (by simp only[maxLen] at h63;omega) (growslice_fits (by omega) hbytes);have hgr:=grown cap (by omega) (fun u hu=>hcw u (by rw[←htake] at hu;exact List.mem_of_mem_take hu)) (Value.ownBlock (.slice (some ⟨g,0,none⟩) n cap));exact⟨_,_,hr,hgr.1,hgr.2,Kept.alloc w _,fun g hg=> .inr (by simp[Value.ownBlock] at hg;omega)⟩
end
end Go.MagM
namespace Go.Proofs.YtammmemfkpcpcaaGreat
open Go.RowKit Go.MagM
theorem info_spotL:(Tryz.prog.info? 70).map (fun i=>(i.zero,i.size,i.bytes))=some (some (.agg #[.bool false,.slice none 0 0,.slice none 0 0,.bool false,.slice none 0 0,.slice none 0 0]),6,112):=by kernel_rfl
theorem ptA_ofL{P:List (Int×Int)}{i:Nat}{q:Int×Int}(h:P[i]?=some q):ptA P i=q:=by unfold ptA;rw[h];rfl
def cornR(P:List (Int×Int))(p0 p1:Int)(s:SideM):Rat×Rat:=(cx p0 p1 (ptA P s.a.toNat).1 (ptA P s.a.toNat).2 (ptA P s.b.toNat).1 (ptA P s.b.toNat).2,cy p0 p1 (ptA P s.a.toNat).1 (ptA P s.a.toNat).2 (ptA P s.b.toNat).1 (ptA P s.b.toNat).2)
def SidesOk(P:List (Int×Int))(p0 p1:Int)(R:List SideM):Prop:=∀s∈R,∃a b:Nat,s.a=(a:Int)∧s.b=(b:Int)∧a<P.length∧b<P.length∧crs p0 p1 (ptA P a).1 (ptA P a).2 (ptA P b).1 (ptA P b).2≠0
theorem rowN_base{w:World}{B B':Nat}{e:TypeId}{size:Nat}{v:Value}{n:Nat}{xs:List Value}(hb:B≤B')(h:RowN w B' e size v n xs):RowN w B e size v n xs:=by refine⟨h.1,h.2.imp id fun⟨g,cap,cur,h1,h2,h3⟩=>⟨g,cap,cur,h1,Nat.le_trans hb h2,h3⟩⟩
set_option maxRecDepth 100000 in set_option maxHeartbeats 16000000 in theorem stCell_any{mb pb pc:Nat}{ta:Option Addr}{tcc:Nat}{P:List (Int×Int)}{S:List TriM}(p0 p1:Int)(tg:Option Addr)(tn tc:Nat)(ro:Option Addr)(rn rc:Nat)(ct:Bool)(R:List SideM)(base:Nat)(w:World)(hm:MeshR w mb pb pc ta tcc P S)(hrim:RowN w base 161 5 (.slice ro rn rc) rn (sideCells R))(hrl:R.length=rn)(hr9:rn≤100000)(hok:SidesOk P p0 p1 R)(hin:InPs P)(hp:InP p0∧InP p1):Calls Tryz.prog 48 #[.pointer (some ⟨mb,0,none⟩),.agg #[.int .i64 p0,.int .i64 p1],.agg #[.slice tg tn tc,.slice ro rn rc,.bool ct]] w fun e w'=>∃v xs,e= .returned v∧RowN w' w.heap.size 70 6 v rn xs∧SrR w' 7 xs (R.map (cornR P p0 p1))∧Below w.heap.size w w':=by
  have hB_0:=Below.refl w.heap.size w;have HM:=Lib.hid hm;have HRIM:=Lib.hid hrim;have HRL:=Lib.hid hrl;have HOK:=Lib.hid hok;have HIN:=Lib.hid hin;have HP:=Lib.hid hp;have HR9:=Lib.hid hr9;clear hm hrim hrl hok hin hp;obtain⟨i0,hi,hz0,hz1,hz2⟩:=info_parts info_spotL;have Hi:=Lib.hid hi;have Hi0:=Lib.hid hz0;have Hi1:=Lib.hid hz1;have Hi2:=Lib.hid hz2;clear hi hz0 hz1 hz2;obtain⟨w1,hw1,pp_0,hb1,hs1⟩:=new_box w (w.heap.size) rfl [.int .i64 p0,.int .i64 p1] 24;have hb1':Below w.heap.size w w1:=hb1.mono (by omega);clear hb1;have hB_1:=hB_0.trans (hb1'.mono hB_0.size);clear hb1' hB_0;obtain⟨w2,hw2,pc_0,hb2,hs2⟩:=new_box w1 (w.heap.size+1) hs1 [.slice tg tn tc,.slice ro rn rc,.bool ct] 99;have hb2':Below w1.heap.size w1 w2:=hb2.mono (by omega);clear hb2;have hB_2:=hB_1.trans (hb2'.mono hB_1.size);have pp_1:=pp_0.below hb2';clear hb2' hB_1 pp_0;go_enter Tryz.func48,Tryz.ntmps48;obtain⟨pce0,pce1,pce2,pce3,pce4,pce5⟩:=pc_0.open3;go_wp2;clear pce0 pce1 pce2 pce3 pce4 pce5;have HPP:=Lib.hid pp_1;have HB0:=Lib.hid hB_2;have HSZ:=Lib.hid (show w.heap.size≤w2.heap.size from hB_2.size);clear pp_1 pc_0 hB_2;go_loopw [7,9,10,11,15] (fun pv _ _ _ iv wr=>∃k:Nat,∃xs:List Value,∃u:Value,k≤rn∧iv= .int .i64 k∧u=pv∧RowN wr w2.heap.size 70 6 u k xs∧SrR wr 7 xs ((R.map (cornR P p0 p1)).take k)∧Below w2.heap.size w2 wr) (fun _ _ _ _ iv _=>rn-(intOf iv).toNat);case atStart=>exact⟨0,[],_,Nat.zero_le _,rfl,rfl,RowN.nil _ _ _ _,SrR.nil _ _,Below.refl _ _⟩
  case round=>
    obtain⟨k,xs,u,hk,rfl,hu,row_0,sr_0,hB_0⟩:=hrel;subst hu;by_cases hlt:k<rn
    · have hlt':decide ((k:Int)<(rn:Int))=true:=decide_eq_true (by omega);obtain⟨⟨sa,sb,su,si,sf⟩,hs⟩:∃s,R[k]?=some s:=⟨_,List.getElem?_eq_getElem (by rw[HRL.out];exact hlt)⟩;obtain⟨va,vb,ea,eb,hva,hvb,hne⟩:=HOK.out _ (List.mem_of_getElem? hs);simp only[] at ea eb;subst ea;subst eb;obtain⟨⟨a0,a1⟩,hA⟩:∃q,P[va]?=some q:=⟨_,List.getElem?_eq_getElem hva⟩;obtain⟨⟨b0,b1⟩,hB'⟩:∃q,P[vb]?=some q:=⟨_,List.getElem?_eq_getElem hvb⟩;rw[ptA_ofL hA,ptA_ofL hB'] at hne;have hcr:cornR P p0 p1 ⟨(va:Int),(vb:Int),su,si,sf⟩=(cx p0 p1 a0 a1 b0 b1,cy p0 p1 a0 a1 b0 b1):=by unfold cornR;simp only[Int.toNat_natCast];rw[ptA_ofL hA,ptA_ofL hB']
      have hT:(R.map (cornR P p0 p1)).take (k+1)=(R.map (cornR P p0 p1)).take k++[(cx p0 p1 a0 a1 b0 b1,cy p0 p1 a0 a1 b0 b1)]:=by rw[List.take_add_one,List.getElem?_map,hs];exact congrArg _ (congrArg (fun z=>[z]) hcr)
      have iA:=HIN.out _ (List.mem_of_getElem? hA);have iB:=HIN.out _ (List.mem_of_getElem? hB');have HA:=Lib.hid hA;have HBB:=Lib.hid hB';have HNE:=Lib.hid hne;have HT:=Lib.hid hT;have HIA:=Lib.hid iA;have HIB:=Lib.hid iB;obtain⟨rg,rfl⟩:∃rg,ro=some ⟨rg,0,none⟩:=by
        rcases HRIM.out.2 with⟨h1,h2⟩|⟨rg,cap,cur,h1,-⟩;·omega
        ·exact⟨rg,by injection h1⟩
      have hr0:=HRIM.out.below (HB0.out.trans (hB_0.mono HB0.out.size));have hee:∀j u,(SideM.cells ⟨(va:Int),(vb:Int),su,si,sf⟩)[j]?=some u→j<5→wr.cell? ⟨rg,k*5+j,none⟩=some u:=fun j u hj h5=>hr0.cells (g:=rg) rfl _ _ ((sideCells_get R k j _ hs h5).trans hj);have ee0:wr.cell? ⟨rg,k*5,none⟩=some (.int .i64 (va:Int)):=hee 0 _ rfl (by omega);have ee1:=hee 1 _ rfl (by omega);have ee2:=hee 2 _ rfl (by omega);have ee3:=hee 3 _ rfl (by omega);have ee4:=hee 4 _ rfl (by omega);have j1:(0:Int)≤(k:Int):=by omega
      have j2:(k:Int)<(rn:Int):=by omega
      have pp_0:=HPP.out.below hB_0;have hxl:xs.length=((R.map (cornR P p0 p1)).take k).length*6:=by rw[row_0.1,List.length_take,List.length_map,HRL.out];omega
      have HXL:=Lib.hid hxl;have hrlt:=row_0.lt;have HROW:=Lib.hid row_0;have HSRR:=Lib.hid sr_0;have hX_0:=Below.refl wr.heap.size wr;clear hs hA hB' hne hcr hT iA iB hr0 hee hva hvb hxl row_0 sr_0;have hl1pp:=pp_0.lt;have hl1B:=hB_0.size;obtain⟨w3,hw3,ps_0,hb3,hs3⟩:=new_box wr (wr.heap.size) rfl [.int .i64 ((va:Int)),.int .i64 ((vb:Int)),.int .i64 su,.int .i64 si,.bool sf] 161;have hb3':Below wr.heap.size wr w3:=hb3.mono (by omega);clear hb3;have hB_1:=hB_0.trans (hb3'.mono hB_0.size);have hX_1:=hX_0.trans (hb3'.mono hX_0.size);have pp_1:=pp_0.below hb3';clear hb3' hB_0 hX_0 pp_0;go_wp2;try rw[hw3]
      clear ee0 ee1 ee2 ee3 ee4;have hWq_0:=Below.refl w3.heap.size w3;have hsq:w2.heap.size≤w3.heap.size:=hB_1.size;have hlqpp:=pp_1.lt;have hlqps:=ps_0.lt;have hB_2:=hB_1.drew';have hX_2:=hX_1.drew';have pp_2:=pp_1.drew;have ps_1:=ps_0.drew;have hWq_1:=hWq_0.drew';clear hB_1 hX_1 pp_1 ps_0 hWq_0;refine wp_region_noPanic ?_;refine wp_region_held_drew (S:=fun w'=>w'.cell? ⟨w.heap.size,0,none⟩=some (.int .i64 p0)∧w'.cell? ⟨w.heap.size,1,none⟩=some (.int .i64 p1)∧w'.cell? ⟨wr.heap.size,0,none⟩=some (.int .i64 ((va:Int)))∧w'.cell? ⟨wr.heap.size,1,none⟩=some (.int .i64 ((vb:Int)))) (by kernel_rfl) (⟨pp_2.c0,pp_2.c1,ps_1.c0,ps_1.c1⟩) (fun hHeld=>?_);refine rU 0 _ _ ?_;refine rU 1 _ _ ?_;refine rU 2 _ _ ?_;refine rU 3 _ _ ?_;refine rU 5 _ _ ?_;refine rU 6 _ _ ?_;refine rU 7 _ _ ?_;refine reg_grab (fun WWq aq hWW hAA=>?_);have HWq:=Lib.hid hWW;have HAq:=Lib.hid hAA;clear hWW hAA hHeld;have stq_3t:∀(w':World)(m3x:Bool)(o3x:Option Addr)(n3x:Nat)(c3x:Nat)(p3x:Option Addr)(k3x:Nat)(d3x:Nat)(m3y:Bool)(o3y:Option Addr)(n3y:Nat)(c3y:Nat)(p3y:Option Addr)(k3y:Nat)(d3y:Nat)(gpq:Nat),Below w2.heap.size w2 w'→Below wr.heap.size wr w'→Box w' (w.heap.size) [.int .i64 p0,.int .i64 p1]→Box w' (wr.heap.size) [.int .i64 ((va:Int)),.int .i64 ((vb:Int)),.int .i64 su,.int .i64 si,.bool sf]→Below w3.heap.size w3 w'→RF w' (.agg #[.bool m3x,.slice o3x n3x c3x,.slice p3x k3x d3x]) (7) (cx p0 p1 a0 a1 b0 b1)→RF w' (.agg #[.bool m3y,.slice o3y n3y c3y,.slice p3y k3y d3y]) (7) (cy p0 p1 a0 a1 b0 b1)→Box w' gpq [.bool false,.slice none 0 0,.slice none 0 0,.bool false,.slice none 0 0,.slice none 0 0]→w3.heap.size≤gpq→WWq 2 #[true,true,true,true,true,true,true,true,true,true,true,true,true,true,false,false] (((((((aq.put (some 24) (.agg #[.int .i64 a0,.int .i64 a1])).put (some 28) (.agg #[.int .i64 b0,.int .i64 b1])).put (some 29) (.tuple #[.agg #[.bool m3x,.slice o3x n3x c3x,.slice p3x k3x d3x,.bool m3y,.slice o3y n3y c3y,.slice p3y k3y d3y],.bool true])).put (some 19) (.tuple #[.agg #[.bool m3x,.slice o3x n3x c3x,.slice p3x k3x d3x,.bool m3y,.slice o3y n3y c3y,.slice p3y k3y d3y],.bool true])).put (some 30) (.agg #[.bool m3x,.slice o3x n3x c3x,.slice p3x k3x d3x,.bool m3y,.slice o3y n3y c3y,.slice p3y k3y d3y])).put (some 31) (.bool true)).put (some 10) (.pointer (some ⟨gpq,0,none⟩))) w':=by
        intro w4 m3x o3x n3x c3x p3x k3x d3x m3y o3y n3y c3y p3y k3y d3y gpq hB_0 hX_0 pp_0 ps_0 hWq_0 f3x_0 f3y_0 pq_0 hgpq;rw[HWq.out,HAq.out];try simp only[Act.put,sA,sZ,sS]
        clear hWq_0;obtain⟨sf1a,sf1b,sf1c,sf1d,sf1e,sf1f,sf1g,sf1h,sf1i,sf1j,sf1k,sf1l⟩:=pq_0.open6;obtain⟨sg1a,sg1b,sg1c,sg1d,sg1e,sg1f,sg1g,sg1h,sg1i,sg1j⟩:=Box.put6 pq_0 (.bool m3x) (.slice o3x n3x c3x) (.slice p3x k3x d3x) (.bool m3y) (.slice o3y n3y c3y);refine rC 14 _ (fun K hK=>?_);go_simp;have hB_1:=below_setAll hB_0 (g:=gpq) (by omega) [.bool m3x,.slice o3x n3x c3x,.slice p3x k3x d3x,.bool m3y,.slice o3y n3y c3y,.slice p3y k3y d3y];have hX_1:=below_setAll hX_0 (g:=gpq) (by omega) [.bool m3x,.slice o3x n3x c3x,.slice p3x k3x d3x,.bool m3y,.slice o3y n3y c3y,.slice p3y k3y d3y];have pp_1:=pp_0.farAll (g':=gpq) (by omega) [.bool m3x,.slice o3x n3x c3x,.slice p3x k3x d3x,.bool m3y,.slice o3y n3y c3y,.slice p3y k3y d3y];have ps_1:=ps_0.farAll (g':=gpq) (by omega) [.bool m3x,.slice o3x n3x c3x,.slice p3x k3x d3x,.bool m3y,.slice o3y n3y c3y,.slice p3y k3y d3y];have f3x_1:=f3x_0.setAll pq_0 (noWord6 _ _ _ _ _ _ _ _ _ _ _ _ _ _) [.bool m3x,.slice o3x n3x c3x,.slice p3x k3x d3x,.bool m3y,.slice o3y n3y c3y,.slice p3y k3y d3y] rfl;have f3y_1:=f3y_0.setAll pq_0 (noWord6 _ _ _ _ _ _ _ _ _ _ _ _ _ _) [.bool m3x,.slice o3x n3x c3x,.slice p3x k3x d3x,.bool m3y,.slice o3y n3y c3y,.slice p3y k3y d3y] rfl;have pq_1:=pq_0.setAll [.bool m3x,.slice o3x n3x c3x,.slice p3x k3x d3x,.bool m3y,.slice o3y n3y c3y,.slice p3y k3y d3y] rfl;simp only[setAll,Nat.zero_add,Nat.reduceAdd] at hB_1 hX_1 pp_1 ps_1 f3x_1 f3y_1 pq_1;clear sf1a sf1b sf1c sf1d sf1e sf1f sf1g sf1h sf1i sf1j sf1k sf1l sg1a sg1b sg1c sg1d sg1e sg1f sg1g sg1h sg1i sg1j;clear hB_0 hX_0 pp_0 ps_0 f3x_0 f3y_0 pq_0;refine hK.out _ _ ⟨pp_1.c0,pp_1.c1,ps_1.c0,ps_1.c1⟩ (fun hHeld=>?_);clear hK K;try simp only[Act.put,sA,sZ,sS]
        generalize (World.setCell (World.setCell (World.setCell (World.setCell (World.setCell (World.setCell w4 ⟨gpq,0,none⟩ (.bool m3x)) ⟨gpq,1,none⟩ (.slice o3x n3x c3x)) ⟨gpq,2,none⟩ (.slice p3x k3x d3x)) ⟨gpq,3,none⟩ (.bool m3y)) ⟨gpq,4,none⟩ (.slice o3y n3y c3y)) ⟨gpq,5,none⟩ (.slice p3y k3y d3y))=w5 at*;refine rU 15 _ _ ?_;refine wpAnyH_done (by kernel_rfl) ?_ _;refine NoPanic.normal ?_;clear pp_1;clear ps_1;have row_0:=HROW.out.below hX_1;have sr_0:=HSRR.out.below hX_1;have hrlw:=hX_1.size;clear hX_1;have lq0:=pq_1.c 0 _ rfl;have lq1:=pq_1.c 1 _ rfl;have lq2:=pq_1.c 2 _ rfl;have lq3:=pq_1.c 3 _ rfl;have lq4:=pq_1.c 4 _ rfl;have lq5:=pq_1.c 5 _ rfl;have hl2pq:=pq_1.lt;have hl2B:=hB_1.size;obtain⟨w6,hw6,pz_0,hb6,hs6⟩:=new_box w5 (w5.heap.size) rfl [.bool m3x,.slice o3x n3x c3x,.slice p3x k3x d3x,.bool m3y,.slice o3y n3y c3y,.slice p3y k3y d3y] 70;have hb6':Below w5.heap.size w5 w6:=hb6.mono (by omega);clear hb6;have hB_2:=hB_1.trans (hb6'.mono hB_1.size);have f3x_2:=f3x_1.below hb6';have f3y_2:=f3y_1.below hb6';have pq_2:=pq_1.below hb6';have row_1:=row_0.below hb6';have sr_1:=sr_0.below hb6';clear hb6' hB_1 f3x_1 f3y_1 pq_1 row_0 sr_0;have hzpq:=pq_2.lt;have hzpz:=pz_0.lt;obtain⟨v1,wa,hrun,rown,hgrow,hkept,hnew⟩:=run_append_row' (P:=Tryz.prog) w6 (w2.heap.size) 104 104 70 i0 (.agg #[.bool false,.slice none 0 0,.slice none 0 0,.bool false,.slice none 0 0,.slice none 0 0]) 6 112 (by kernel_rfl) Hi.out Hi0.out Hi1.out Hi2.out rfl (noWord6 _ _ _ _ _ _ _ _ _ _ _ _ _ _) u k xs row_1 ⟨w5.heap.size,0,none⟩ 1 1 [.bool m3x,.slice o3x n3x c3x,.slice p3x k3x d3x,.bool m3y,.slice o3y n3y c3y,.slice p3y k3y d3y] (by omega) rfl pz_0.news (by intro u hu;simp at hu;rcases hu with rfl|rfl|rfl|rfl|rfl|rfl<;>rfl) (noWord6 _ _ _ _ _ _ _ _ _ _ _ _ _ _) (by unfold maxLen;omega) (by omega) (by have:=hB_2.size;omega);go_wp2_with (refine wpList_append_row rfl _ _ 104 rfl rfl rfl hrun ?_);clear row_1 hrun;have hB_3:=hB_2.grown hgrow (by have:=hB_2.size;omega) (fun k hk=>by have:=hrlt k hk;omega);have f3x_3:=f3x_2.kept hkept;have f3y_3:=f3y_2.kept hkept;have sr_2:=sr_1.kept hkept;clear hB_2 f3x_2 f3y_2 sr_1;have hsn:=sr_2.append (SrR.one f3x_3 f3y_3);go_wp2;refine⟨⟨k+1,_,_,by omega,by go_num,rfl,rown,?_,hB_3⟩,by simp[intOf];omega⟩;rw[HT.out];exact hsn
      simp only[HAq.out,Act.put,sA,sZ,sS] at stq_3t;have stq_3f:∀(w':World)(m3x:Bool)(o3x:Option Addr)(n3x:Nat)(c3x:Nat)(p3x:Option Addr)(k3x:Nat)(d3x:Nat)(m3y:Bool)(o3y:Option Addr)(n3y:Nat)(c3y:Nat)(p3y:Option Addr)(k3y:Nat)(d3y:Nat),Below w2.heap.size w2 w'→Below wr.heap.size wr w'→Box w' (w.heap.size) [.int .i64 p0,.int .i64 p1]→Box w' (wr.heap.size) [.int .i64 ((va:Int)),.int .i64 ((vb:Int)),.int .i64 su,.int .i64 si,.bool sf]→Below w3.heap.size w3 w'→RF w' (.agg #[.bool m3x,.slice o3x n3x c3x,.slice p3x k3x d3x]) (7) (cx p0 p1 a0 a1 b0 b1)→RF w' (.agg #[.bool m3y,.slice o3y n3y c3y,.slice p3y k3y d3y]) (7) (cy p0 p1 a0 a1 b0 b1)→WWq 3 #[true,true,true,true,true,true,true,true,true,true,true,true,true,false,false,false] ((((((aq.put (some 24) (.agg #[.int .i64 a0,.int .i64 a1])).put (some 28) (.agg #[.int .i64 b0,.int .i64 b1])).put (some 29) (.tuple #[.agg #[.bool m3x,.slice o3x n3x c3x,.slice p3x k3x d3x,.bool m3y,.slice o3y n3y c3y,.slice p3y k3y d3y],.bool true])).put (some 19) (.tuple #[.agg #[.bool m3x,.slice o3x n3x c3x,.slice p3x k3x d3x,.bool m3y,.slice o3y n3y c3y,.slice p3y k3y d3y],.bool true])).put (some 30) (.agg #[.bool m3x,.slice o3x n3x c3x,.slice p3x k3x d3x,.bool m3y,.slice o3y n3y c3y,.slice p3y k3y d3y])).put (some 31) (.bool true)) w':=by
        intro w7 m3x o3x n3x c3x p3x k3x d3x m3y o3y n3y c3y p3y k3y d3y hB_0 hX_0 pp_0 ps_0 hWq_0 f3x_0 f3y_0;rw[HWq.out,HAq.out];try simp only[Act.put,sA,sZ,sS]
        refine reg_all1 13 ?_ (by kernel_rfl) ?_ (fun K hK=>?_);rotate_left 1;·simp only[gA,gS,gZ];exact rfl
        · go_simp;have hgn:w3.heap.size≤w7.heap.size:=hWq_0.size;obtain⟨w8,hww8,pq_0,hb8,-⟩:=new_box w7 _ rfl [.bool false,.slice none 0 0,.slice none 0 0,.bool false,.slice none 0 0,.slice none 0 0] 70;rw[hww8];have hB_1:=hB_0.trans (hb8.mono hB_0.size);have hX_1:=hX_0.trans (hb8.mono hX_0.size);have pp_1:=pp_0.below hb8;have ps_1:=ps_0.below hb8;have hWq_1:=hWq_0.trans (hb8.mono hWq_0.size);have f3x_1:=f3x_0.below hb8;have f3y_1:=f3y_0.below hb8;clear hb8 hB_0 hX_0 pp_0 ps_0 hWq_0 f3x_0 f3y_0;refine hK.out _ _ ⟨pp_1.c0,pp_1.c1,ps_1.c0,ps_1.c1⟩ (fun hHeld=>?_);clear hK K;try simp only[Act.put,sA,sZ,sS]
          rw[←HWq.out];exact stq_3t _ m3x o3x n3x c3x p3x k3x d3x m3y o3y n3y c3y p3y k3y d3y w7.heap.size hB_1 hX_1 pp_1 ps_1 hWq_1 f3x_1 f3y_1 pq_0 (by omega)
      try simp only[HAq.out,Act.put,sA,sZ,sS] at stq_3f
      have stq_2t:∀(w':World)(gpq:Nat),Below w2.heap.size w2 w'→Below wr.heap.size wr w'→Box w' (w.heap.size) [.int .i64 p0,.int .i64 p1]→Box w' (wr.heap.size) [.int .i64 ((va:Int)),.int .i64 ((vb:Int)),.int .i64 su,.int .i64 si,.bool sf]→Below w3.heap.size w3 w'→Box w' gpq [.bool false,.slice none 0 0,.slice none 0 0,.bool false,.slice none 0 0,.slice none 0 0]→w3.heap.size≤gpq→WWq 6 #[true,true,true,true,true,true,true,true,true,false,false,false,false,true,false,false] (((aq.put (some 24) (.agg #[.int .i64 a0,.int .i64 a1])).put (some 28) (.agg #[.int .i64 b0,.int .i64 b1])).put (some 10) (.pointer (some ⟨gpq,0,none⟩))) w':=by
        intro w9 gpq hB_0 hX_0 pp_0 ps_0 hWq_0 pq_0 hgpq;rw[HWq.out,HAq.out];try simp only[Act.put,sA,sZ,sS]
        refine reg_all1 9 ?_ (by kernel_rfl) ?_ (fun K hK=>?_);rotate_left 1;·simp only[gA,gS,gZ];exact rfl
        · go_simp;refine(sCentre_s p0 p1 a0 a1 b0 b1 HP.out.1 HP.out.2 HIA.out.1 HIA.out.2 HIB.out.1 HIB.out.2 HNE.out _).mono ?_;rintro e w10 ⟨m3x,o3x,n3x,c3x,p3x,k3x,d3x,m3y,o3y,n3y,c3y,p3y,k3y,d3y,rfl,f3x_0,f3y_0,hb10⟩;have hB_1:=hB_0.trans (hb10.mono hB_0.size);have hX_1:=hX_0.trans (hb10.mono hX_0.size);have pp_1:=pp_0.below hb10;have ps_1:=ps_0.below hb10;have hWq_1:=hWq_0.trans (hb10.mono hWq_0.size);have pq_1:=pq_0.below hb10;clear hb10 hB_0 hX_0 pp_0 ps_0 hWq_0 pq_0;go_wp2_with fail;refine hK.out _ _ ⟨pp_1.c0,pp_1.c1,ps_1.c0,ps_1.c1⟩ (fun hHeld=>?_);clear hK K;try simp only[Act.put,sA,sZ,sS]
          refine rU 10 _ _ ?_;refine rU 11 _ _ ?_;refine rU 12 _ _ ?_;rw[←HWq.out];exact stq_3t _ m3x o3x n3x c3x p3x k3x d3x m3y o3y n3y c3y p3y k3y d3y gpq hB_1 hX_1 pp_1 ps_1 hWq_1 f3x_0 f3y_0 pq_1 (by omega)
      try simp only[HAq.out,Act.put,sA,sZ,sS] at stq_2t
      have stq_2f:∀(w':World),Below w2.heap.size w2 w'→Below wr.heap.size wr w'→Box w' (w.heap.size) [.int .i64 p0,.int .i64 p1]→Box w' (wr.heap.size) [.int .i64 ((va:Int)),.int .i64 ((vb:Int)),.int .i64 su,.int .i64 si,.bool sf]→Below w3.heap.size w3 w'→WWq 7 #[true,true,true,true,true,true,true,true,true,false,false,false,false,false,false,false] ((aq.put (some 24) (.agg #[.int .i64 a0,.int .i64 a1])).put (some 28) (.agg #[.int .i64 b0,.int .i64 b1])) w':=by
        intro w11 hB_0 hX_0 pp_0 ps_0 hWq_0;rw[HWq.out,HAq.out];try simp only[Act.put,sA,sZ,sS]
        refine reg_all2 9 13 ?_ ?_ (by kernel_rfl) ?_ ?_ (fun K hK=>?_) (fun K hK=>?_);rotate_left 2;·simp only[gA,gS,gZ];exact rfl
        ·simp only[gA,gS,gZ];exact rfl
        · go_simp;refine(sCentre_s p0 p1 a0 a1 b0 b1 HP.out.1 HP.out.2 HIA.out.1 HIA.out.2 HIB.out.1 HIB.out.2 HNE.out _).mono ?_;rintro e w12 ⟨m3x,o3x,n3x,c3x,p3x,k3x,d3x,m3y,o3y,n3y,c3y,p3y,k3y,d3y,rfl,f3x_0,f3y_0,hb12⟩;have hB_1:=hB_0.trans (hb12.mono hB_0.size);have hX_1:=hX_0.trans (hb12.mono hX_0.size);have pp_1:=pp_0.below hb12;have ps_1:=ps_0.below hb12;have hWq_1:=hWq_0.trans (hb12.mono hWq_0.size);clear hb12 hB_0 hX_0 pp_0 ps_0 hWq_0;go_wp2_with fail;refine hK.out _ _ ⟨pp_1.c0,pp_1.c1,ps_1.c0,ps_1.c1⟩ (fun hHeld=>?_);clear hK K;try simp only[Act.put,sA,sZ,sS]
          refine rU 10 _ _ ?_;refine rU 11 _ _ ?_;refine rU 12 _ _ ?_;rw[←HWq.out];exact stq_3f _ m3x o3x n3x c3x p3x k3x d3x m3y o3y n3y c3y p3y k3y d3y hB_1 hX_1 pp_1 ps_1 hWq_1 f3x_0 f3y_0
        · go_simp;have hgn:w3.heap.size≤w11.heap.size:=hWq_0.size;obtain⟨w13,hww13,pq_0,hb13,-⟩:=new_box w11 _ rfl [.bool false,.slice none 0 0,.slice none 0 0,.bool false,.slice none 0 0,.slice none 0 0] 70;rw[hww13];have hB_1:=hB_0.trans (hb13.mono hB_0.size);have hX_1:=hX_0.trans (hb13.mono hX_0.size);have pp_1:=pp_0.below hb13;have ps_1:=ps_0.below hb13;have hWq_1:=hWq_0.trans (hb13.mono hWq_0.size);clear hb13 hB_0 hX_0 pp_0 ps_0 hWq_0;refine hK.out _ _ ⟨pp_1.c0,pp_1.c1,ps_1.c0,ps_1.c1⟩ (fun hHeld=>?_);clear hK K;try simp only[Act.put,sA,sZ,sS]
          rw[←HWq.out];exact stq_2t _ w11.heap.size hB_1 hX_1 pp_1 ps_1 hWq_1 pq_0 (by omega)
      try simp only[HAq.out,Act.put,sA,sZ,sS] at stq_2f
      have stq_1t:∀(w':World)(gpq:Nat),Below w2.heap.size w2 w'→Below wr.heap.size wr w'→Box w' (w.heap.size) [.int .i64 p0,.int .i64 p1]→Box w' (wr.heap.size) [.int .i64 ((va:Int)),.int .i64 ((vb:Int)),.int .i64 su,.int .i64 si,.bool sf]→Below w3.heap.size w3 w'→Box w' gpq [.bool false,.slice none 0 0,.slice none 0 0,.bool false,.slice none 0 0,.slice none 0 0]→w3.heap.size≤gpq→WWq 7 #[true,true,true,true,true,true,true,true,false,false,false,false,false,true,false,false] ((aq.put (some 24) (.agg #[.int .i64 a0,.int .i64 a1])).put (some 10) (.pointer (some ⟨gpq,0,none⟩))) w':=by
        intro w14 gpq hB_0 hX_0 pp_0 ps_0 hWq_0 pq_0 hgpq;rw[HWq.out,HAq.out];try simp only[Act.put,sA,sZ,sS]
        refine reg_all1 8 ?_ (by kernel_rfl) ?_ (fun K hK=>?_);rotate_left 1;·simp only[gA,gS,gZ];exact rfl
        · go_simp;refine(stPoint_any vb b0 b1 _ (HM.out.below (HB0.out.trans (hB_0.mono HB0.out.size))) HBB.out).mono ?_;rintro e w15 ⟨rfl,hb15⟩;have hB_1:=hB_0.trans (hb15.mono hB_0.size);have hX_1:=hX_0.trans (hb15.mono hX_0.size);have pp_1:=pp_0.below hb15;have ps_1:=ps_0.below hb15;have hWq_1:=hWq_0.trans (hb15.mono hWq_0.size);have pq_1:=pq_0.below hb15;clear hb15 hB_0 hX_0 pp_0 ps_0 hWq_0 pq_0;go_wp2_with fail;refine hK.out _ _ ⟨pp_1.c0,pp_1.c1,ps_1.c0,ps_1.c1⟩ (fun hHeld=>?_);clear hK K;try simp only[Act.put,sA,sZ,sS]
          rw[←HWq.out];exact stq_2t _ gpq hB_1 hX_1 pp_1 ps_1 hWq_1 pq_1 (by omega)
      try simp only[HAq.out,Act.put,sA,sZ,sS] at stq_1t
      have stq_1f:∀(w':World),Below w2.heap.size w2 w'→Below wr.heap.size wr w'→Box w' (w.heap.size) [.int .i64 p0,.int .i64 p1]→Box w' (wr.heap.size) [.int .i64 ((va:Int)),.int .i64 ((vb:Int)),.int .i64 su,.int .i64 si,.bool sf]→Below w3.heap.size w3 w'→WWq 8 #[true,true,true,true,true,true,true,true,false,false,false,false,false,false,false,false] (aq.put (some 24) (.agg #[.int .i64 a0,.int .i64 a1])) w':=by
        intro w16 hB_0 hX_0 pp_0 ps_0 hWq_0;rw[HWq.out,HAq.out];try simp only[Act.put,sA,sZ,sS]
        refine reg_all2 8 13 ?_ ?_ (by kernel_rfl) ?_ ?_ (fun K hK=>?_) (fun K hK=>?_);rotate_left 2;·simp only[gA,gS,gZ];exact rfl
        ·simp only[gA,gS,gZ];exact rfl
        · go_simp;refine(stPoint_any vb b0 b1 _ (HM.out.below (HB0.out.trans (hB_0.mono HB0.out.size))) HBB.out).mono ?_;rintro e w17 ⟨rfl,hb17⟩;have hB_1:=hB_0.trans (hb17.mono hB_0.size);have hX_1:=hX_0.trans (hb17.mono hX_0.size);have pp_1:=pp_0.below hb17;have ps_1:=ps_0.below hb17;have hWq_1:=hWq_0.trans (hb17.mono hWq_0.size);clear hb17 hB_0 hX_0 pp_0 ps_0 hWq_0;go_wp2_with fail;refine hK.out _ _ ⟨pp_1.c0,pp_1.c1,ps_1.c0,ps_1.c1⟩ (fun hHeld=>?_);clear hK K;try simp only[Act.put,sA,sZ,sS]
          rw[←HWq.out];exact stq_2f _ hB_1 hX_1 pp_1 ps_1 hWq_1
        · go_simp;have hgn:w3.heap.size≤w16.heap.size:=hWq_0.size;obtain⟨w18,hww18,pq_0,hb18,-⟩:=new_box w16 _ rfl [.bool false,.slice none 0 0,.slice none 0 0,.bool false,.slice none 0 0,.slice none 0 0] 70;rw[hww18];have hB_1:=hB_0.trans (hb18.mono hB_0.size);have hX_1:=hX_0.trans (hb18.mono hX_0.size);have pp_1:=pp_0.below hb18;have ps_1:=ps_0.below hb18;have hWq_1:=hWq_0.trans (hb18.mono hWq_0.size);clear hb18 hB_0 hX_0 pp_0 ps_0 hWq_0;refine hK.out _ _ ⟨pp_1.c0,pp_1.c1,ps_1.c0,ps_1.c1⟩ (fun hHeld=>?_);clear hK K;try simp only[Act.put,sA,sZ,sS]
          rw[←HWq.out];exact stq_1t _ w16.heap.size hB_1 hX_1 pp_1 ps_1 hWq_1 pq_0 (by omega)
      try simp only[HAq.out,Act.put,sA,sZ,sS] at stq_1f
      have stq_0t:∀(w':World)(gpq:Nat),Below w2.heap.size w2 w'→Below wr.heap.size wr w'→Box w' (w.heap.size) [.int .i64 p0,.int .i64 p1]→Box w' (wr.heap.size) [.int .i64 ((va:Int)),.int .i64 ((vb:Int)),.int .i64 su,.int .i64 si,.bool sf]→Below w3.heap.size w3 w'→Box w' gpq [.bool false,.slice none 0 0,.slice none 0 0,.bool false,.slice none 0 0,.slice none 0 0]→w3.heap.size≤gpq→WWq 8 #[true,true,true,true,false,true,true,true,false,false,false,false,false,true,false,false] (aq.put (some 10) (.pointer (some ⟨gpq,0,none⟩))) w':=by
        intro w19 gpq hB_0 hX_0 pp_0 ps_0 hWq_0 pq_0 hgpq;rw[HWq.out,HAq.out];try simp only[Act.put,sA,sZ,sS]
        refine reg_all1 4 ?_ (by kernel_rfl) ?_ (fun K hK=>?_);rotate_left 1;·simp only[gA,gS,gZ];exact rfl
        · go_simp;refine(stPoint_any va a0 a1 _ (HM.out.below (HB0.out.trans (hB_0.mono HB0.out.size))) HA.out).mono ?_;rintro e w20 ⟨rfl,hb20⟩;have hB_1:=hB_0.trans (hb20.mono hB_0.size);have hX_1:=hX_0.trans (hb20.mono hX_0.size);have pp_1:=pp_0.below hb20;have ps_1:=ps_0.below hb20;have hWq_1:=hWq_0.trans (hb20.mono hWq_0.size);have pq_1:=pq_0.below hb20;clear hb20 hB_0 hX_0 pp_0 ps_0 hWq_0 pq_0;go_wp2_with fail;refine hK.out _ _ ⟨pp_1.c0,pp_1.c1,ps_1.c0,ps_1.c1⟩ (fun hHeld=>?_);clear hK K;try simp only[Act.put,sA,sZ,sS]
          rw[←HWq.out];exact stq_1t _ gpq hB_1 hX_1 pp_1 ps_1 hWq_1 pq_1 (by omega)
      try simp only[HAq.out,Act.put,sA,sZ,sS] at stq_0t
      have stq_0f:∀(w':World),Below w2.heap.size w2 w'→Below wr.heap.size wr w'→Box w' (w.heap.size) [.int .i64 p0,.int .i64 p1]→Box w' (wr.heap.size) [.int .i64 ((va:Int)),.int .i64 ((vb:Int)),.int .i64 su,.int .i64 si,.bool sf]→Below w3.heap.size w3 w'→WWq 9 #[true,true,true,true,false,true,true,true,false,false,false,false,false,false,false,false] aq w':=by
        intro w21 hB_0 hX_0 pp_0 ps_0 hWq_0;rw[HWq.out,HAq.out];try simp only[Act.put,sA,sZ,sS]
        refine reg_all2 4 13 ?_ ?_ (by kernel_rfl) ?_ ?_ (fun K hK=>?_) (fun K hK=>?_);rotate_left 2;·simp only[gA,gS,gZ];exact rfl
        ·simp only[gA,gS,gZ];exact rfl
        · go_simp;refine(stPoint_any va a0 a1 _ (HM.out.below (HB0.out.trans (hB_0.mono HB0.out.size))) HA.out).mono ?_;rintro e w22 ⟨rfl,hb22⟩;have hB_1:=hB_0.trans (hb22.mono hB_0.size);have hX_1:=hX_0.trans (hb22.mono hX_0.size);have pp_1:=pp_0.below hb22;have ps_1:=ps_0.below hb22;have hWq_1:=hWq_0.trans (hb22.mono hWq_0.size);clear hb22 hB_0 hX_0 pp_0 ps_0 hWq_0;go_wp2_with fail;refine hK.out _ _ ⟨pp_1.c0,pp_1.c1,ps_1.c0,ps_1.c1⟩ (fun hHeld=>?_);clear hK K;try simp only[Act.put,sA,sZ,sS]
          rw[←HWq.out];exact stq_1f _ hB_1 hX_1 pp_1 ps_1 hWq_1
        · go_simp;have hgn:w3.heap.size≤w21.heap.size:=hWq_0.size;obtain⟨w23,hww23,pq_0,hb23,-⟩:=new_box w21 _ rfl [.bool false,.slice none 0 0,.slice none 0 0,.bool false,.slice none 0 0,.slice none 0 0] 70;rw[hww23];have hB_1:=hB_0.trans (hb23.mono hB_0.size);have hX_1:=hX_0.trans (hb23.mono hX_0.size);have pp_1:=pp_0.below hb23;have ps_1:=ps_0.below hb23;have hWq_1:=hWq_0.trans (hb23.mono hWq_0.size);clear hb23 hB_0 hX_0 pp_0 ps_0 hWq_0;refine hK.out _ _ ⟨pp_1.c0,pp_1.c1,ps_1.c0,ps_1.c1⟩ (fun hHeld=>?_);clear hK K;try simp only[Act.put,sA,sZ,sS]
          rw[←HWq.out];exact stq_0t _ w21.heap.size hB_1 hX_1 pp_1 ps_1 hWq_1 pq_0 (by omega)
      exact stq_0f _ hB_2 hX_2 pp_2 ps_1 hWq_1
    · have hlt':decide ((k:Int)<(rn:Int))=false:=decide_eq_false (by omega);have hke:k=rn:=by omega
      have hsr:SrR wr 7 xs (R.map (cornR P p0 p1)):=by
        have h:=sr_0;rw[List.take_of_length_le (by rw[List.length_map,HRL.out];omega)] at h;exact h
      have HSR:=Lib.hid hsr;have HROW:=Lib.hid (show RowN wr w2.heap.size 70 6 u rn xs by rw[←hke];exact row_0);have HBW:=Lib.hid hB_0;clear hsr row_0 sr_0 hB_0;go_wp2;go_ret;exact⟨u,xs,rfl,rowN_base HSZ.out HROW.out,HSR.out,HB0.out.trans (HBW.out.mono HB0.out.size)⟩
theorem info_share:(Tryz.prog.info? 61).map (fun i=>(i.zero,i.size,i.bytes))=some (some (.agg #[.int .i64 0,.bool false,.slice none 0 0,.slice none 0 0]),4,64):=by kernel_rfl
def ShR(w:World)(L:Nat)(xs:List Value)(l:List (Int×Rat)):Prop:=xs.length=l.length*4∧∀i v q,l[i]?=some (v,q)→∃m so sn sc tp tn tc,xs[i*4]?=some (.int .i64 v)∧xs[i*4+1]?=some (.bool m)∧xs[i*4+2]?=some (.slice so sn sc)∧xs[i*4+3]?=some (.slice tp tn tc)∧RF w (.agg #[.bool m,.slice so sn sc,.slice tp tn tc]) L q
theorem ShR.kept{w w':World}{L:Nat}{xs:List Value}{l:List (Int×Rat)}(h:ShR w L xs l)(hk:Kept w w'):ShR w' L xs l:=⟨h.1,fun i v q hi=>by obtain⟨m,so,sn,sc,tp,tn,tc,h1,h2,h3,h4,h5⟩:=h.2 i v q hi;exact⟨m,so,sn,sc,tp,tn,tc,h1,h2,h3,h4,h5.kept hk⟩⟩
theorem ShR.below{w w':World}{L:Nat}{xs:List Value}{l:List (Int×Rat)}(h:ShR w L xs l)(hb:Below w.heap.size w w'):ShR w' L xs l:=h.kept (Kept.below hb)
theorem ShR.nil(w:World)(L:Nat):ShR w L [] []:=⟨rfl,fun i v q hi=>by simp at hi⟩
theorem ShR.snoc{w:World}{L:Nat}{xs:List Value}{l:List (Int×Rat)}(h:ShR w L xs l)(v:Int){m:Bool}{so:Option Addr}{sn sc:Nat}{tp:Option Addr}{tn tc:Nat}{q:Rat}(hq:RF w (.agg #[.bool m,.slice so sn sc,.slice tp tn tc]) L q):ShR w L (xs++[.int .i64 v,.bool m,.slice so sn sc,.slice tp tn tc]) (l++[(v,q)]):=by
  have hl:=h.1;refine⟨by simp;omega,fun i v' q' hi=>?_⟩;by_cases hlt:i<l.length
  · rw[List.getElem?_append_left hlt] at hi;obtain⟨m',so',sn',sc',tp',tn',tc',h1,h2,h3,h4,h5⟩:=h.2 i v' q' hi;refine⟨m',so',sn',sc',tp',tn',tc',?_,?_,?_,?_,h5⟩<;>rw[List.getElem?_append_left (by omega)]<;>assumption
  · rw[List.getElem?_append_right (by omega)] at hi;have h0:=(List.getElem?_eq_some_iff.1 hi).1;obtain⟨rfl⟩:i=l.length:=by simp at h0;omega
    simp at hi;obtain⟨rfl,rfl⟩:=hi;refine⟨m,so,sn,sc,tp,tn,tc,?_,?_,?_,?_,hq⟩;·rw[List.getElem?_append_right (by omega),show l.length*4-xs.length=0 by omega];rfl
    ·rw[List.getElem?_append_right (by omega),show l.length*4+1-xs.length=1 by omega];rfl
    ·rw[List.getElem?_append_right (by omega),show l.length*4+2-xs.length=2 by omega];rfl
    ·rw[List.getElem?_append_right (by omega),show l.length*4+3-xs.length=3 by omega];rfl
theorem ahead_mod{k n j:Nat}(hk:k<n)(hn:n≤100000)(hj:(k+n-1)%n=j):((k:Int)+(n:Int)-1).tmod (n:Int)=(j:Int)∧wrap64 ((k:Int)+(n:Int))=(k:Int)+(n:Int)∧wrap64 ((k:Int)+(n:Int)-1)=(k:Int)+(n:Int)-1:=by
  refine⟨?_,?_,?_⟩;·rw[←hj,show(k:Int)+(n:Int)-1=((k+n-1:Nat):Int) by omega];exact(Int.ofNat_tmod _ _).symm
  ·clear hj;rw[←IntWalk.i64_left,IntKind.wrap_i64];omega
  ·clear hj;rw[←IntWalk.i64_left,IntKind.wrap_i64];omega
def sd0:SideM:=⟨0,0,0,0,false⟩
end Go.Proofs.YtammmemfkpcpcaaGreat
