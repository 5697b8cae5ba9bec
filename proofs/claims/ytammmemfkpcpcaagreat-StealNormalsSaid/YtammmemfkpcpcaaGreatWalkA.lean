import Derived.Test.YtammmemfkpcpcaaGreatProg
import Derived.Test.YtammmemfkpcpcaaGreatKit
import Derived.BigQuiet
import Derived.Deep.QuietTactic
import Derived.OwnWalk
import Derived.Laws.Externs
namespace Go.Proofs.YtammmemfkpcpcaaGreat
open Go.RowKit Go.MagM
theorem info_u64:(Tryz.prog.info? 93).map (fun i=>(i.zero,i.size,i.bytes))=some (some (.int .u64 0),1,8):=by kernel_rfl
theorem size_u64:(Tryz.prog.info? 93).map (·.size)=some 1:=by kernel_rfl
set_option maxHeartbeats 400000 in theorem trim_any(ao:Option Addr)(n c:Nat)(w:World)(hn:n≤9000000000)(f:Nat→Nat)(hnc:n≤c)(hc:Reads w ao n f):Calls Tryz.prog 120 #[.slice ao n c] w fun e w'=>e= .returned (.slice ao (tlen f n) c)∧w=w':=by
  go_enter Tryz.func120,Tryz.ntmps120;go_wp2;go_loop [3] (fun i=>∃k:Nat,k≤n∧i= .int .i64 k∧tlen f n=tlen f k) (fun i=>(intOf i).toNat);case atStart=>exact⟨n,Nat.le_refl _,rfl,rfl⟩
  case round=>
    obtain⟨k,hk,rfl,hr⟩:=hrel;have HR:=Lib.hid hr;clear hr;cases k with
    |zero=>clear hc;go_wp2;go_ret;exact⟨by rw[HR.out,tlen];rfl,rfl⟩|succ k=>
      obtain⟨b,o,rfl,hcell,_⟩:=hc k (by omega);clear hc;by_cases h0:f k=0
      · have H0:=Lib.hid h0;rw[h0] at hcell;clear h0;go_wp2;exact⟨⟨k,by omega,rfl,by rw[HR.out,tlen,if_pos H0.out]⟩,by simp[intOf]⟩
      · have h0':(((f k:Nat):Int)==0)=false:=by simp only[beq_eq_false_iff_ne];omega
        obtain⟨x,hx⟩:∃x,x=f k:=⟨_,rfl⟩;rw[←hx] at hcell h0';have HX:=Lib.hid hx;have H0:=Lib.hid h0;clear hx h0;go_wp2;go_ret;exact⟨by rw[HR.out,tlen,if_neg H0.out];rfl,rfl⟩
theorem under_words:Tryz.prog.underlying 54=some (.slice 93):=by kernel_rfl
theorem Of_any(x:Nat)(w:World)(hx:x<B):Calls Tryz.prog 50 #[.int .u64 x] w fun e w'=>∃v,e= .returned v∧RMag w' v 1 x∧Below w.heap.size w w':=by
  by_cases h0:x=0
  · subst h0;go_enter Tryz.func50,Tryz.ntmps50;go_wp2;go_ret;exact⟨_,rfl,(RMag.nil w).more (by omega),Below.refl _ _⟩
  · have h0':((x:Int)==0)=false:=by simp only[beq_eq_false_iff_ne];omega
    go_enter Tryz.func50,Tryz.ntmps50;go_wp2;go_ret;refine⟨_,rfl,⟨_,1,1,fun _=>x,rfl,Nat.le_refl _,Nat.le_refl _,?_,by simp[V],fun k hk=>h0⟩,(Below.refl _ _).alloc (Nat.le_refl _) _⟩;intro i hi;refine⟨w.heap.size,0,rfl,?_,hx⟩;have:i=0:=by omega
    subst this;exact World.cell?_alloc_new w _ _ _
theorem clone_any(ao:Option Addr)(n c:Nat)(w:World)(hn:n≤9000000000)(f:Nat→Nat)(hc:Reads w ao n f):Calls Tryz.prog 154 #[.slice ao n c] w fun e w'=>e= .returned (.slice (some ⟨w.heap.size,0,none⟩) n n)∧Held w' w.heap.size 0 n f∧Below w.heap.size w w'∧w.heap.size<w'.heap.size:=by have HC:=Lib.hid hc;clear hc;go_enter Tryz.func154,Tryz.ntmps154;go_wp2_with (first|(at_make;refine wpList_make_words rfl (.tmp 5) (.tmp 5) 54 rfl 93 under_words info_u64 .i64 .i64 _ _ n rfl rfl rfl rfl hn ?_;intro w1 hh1 hb1 hs1;replace hh1:=Lib.hid hh1)|(with_reducible refine wpList_copy_words rfl (.tmp 7) (.tmp 8) 54 54 rfl 93 under_words size_u64 _ _ _ _ _ _ _ rfl rfl _ f hh1.out (HC.out.below hb1) ?_;intro w2 hh2 ht2;replace hh2:=Lib.hid hh2));go_ret;refine⟨rfl,hh2.out.congr (fun i hi=>if_pos hi),ht2.below hb1 (Nat.le_refl _) (by omega),?_⟩;have:=ht2.size;omega
def cmpn(x y:Nat):Int:=if x<y then-1 else if y<x then 1 else 0
theorem cmp_int(x y:Nat)(w:World):Calls Tryz.prog 61 #[.int .i64 x,.int .i64 y] w fun e w'=>e= .returned (.int .i64 (cmpn x y))∧w=w':=by
  have hx:((x:Int) !=(x:Int))=false:=by simp
  have hy:((y:Int) !=(y:Int))=false:=by simp
  rcases Nat.lt_trichotomy x y with h|h|h
  · have he:cmpn x y=-1:=by simp[cmpn,h]
    have HE:=Lib.hid he;clear he;go_enter Tryz.func61,Tryz.ntmps61;go_wp2_with go_in;go_ret;exact⟨by rw[HE.out];rfl,rfl⟩
  · subst h;have he:cmpn x x=0:=by simp[cmpn]
    have HE:=Lib.hid he;clear he;go_enter Tryz.func61,Tryz.ntmps61;go_wp2_with go_in;go_ret;exact⟨by rw[HE.out];rfl,rfl⟩
  · have he:cmpn x y=1:=by simp[cmpn,h];omega
    have HE:=Lib.hid he;clear he;go_enter Tryz.func61,Tryz.ntmps61;go_wp2_with go_in;go_ret;exact⟨by rw[HE.out];rfl,rfl⟩
theorem cmp_u64(x y:Nat)(w:World):Calls Tryz.prog 159 #[.int .u64 x,.int .u64 y] w fun e w'=>e= .returned (.int .i64 (cmpn x y))∧w=w':=by
  have hx:((x:Int) !=(x:Int))=false:=by simp
  have hy:((y:Int) !=(y:Int))=false:=by simp
  rcases Nat.lt_trichotomy x y with h|h|h
  · have he:cmpn x y=-1:=by simp[cmpn,h]
    have HE:=Lib.hid he;clear he;go_enter Tryz.func159,Tryz.ntmps159;go_wp2_with go_in;go_ret;exact⟨by rw[HE.out];rfl,rfl⟩
  · subst h;have he:cmpn x x=0:=by simp[cmpn]
    have HE:=Lib.hid he;clear he;go_enter Tryz.func159,Tryz.ntmps159;go_wp2_with go_in;go_ret;exact⟨by rw[HE.out];rfl,rfl⟩
  · have he:cmpn x y=1:=by simp[cmpn,h];omega
    have HE:=Lib.hid he;clear he;go_enter Tryz.func159,Tryz.ntmps159;go_wp2_with go_in;go_ret;exact⟨by rw[HE.out];rfl,rfl⟩
theorem cmpn_of_lt{x y:Nat}(h:x<y):cmpn x y=-1:=by simp[cmpn,h]
theorem cmpn_of_gt{x y:Nat}(h:y<x):cmpn x y=1:=by simp[cmpn,h];omega
theorem cmpn_self(x:Nat):cmpn x x=0:=by simp[cmpn]
set_option maxHeartbeats 1000000 in theorem Cmp_any(va vb:Value)(L M X Y:Nat)(w:World)(hL:L≤4000000000)(hM:M≤4000000000)(ha:Mag w va L X)(hb:Mag w vb M Y):Calls Tryz.prog 118 #[va,vb] w fun e w'=>∃q,e= .returned (.int .i64 (cmpn X Y))∧w'=w.drewN q:=by
  obtain⟨ao,n0,ca,f,rfl,hnc,hnL,hra,hX⟩:=ha;obtain⟨bo,m0,cb,g,rfl,hmc,hmM,hrb,hY⟩:=hb;have htn:=tlen_le f n0;have htm:=tlen_le g m0;have rf:=tlen_right f n0;have rg:=tlen_right g m0;rw[←tlen_V] at hX hY;have hra':=hra.less htn;have hrb':=hrb.less htm;have T1:=Lib.hid (trim_any ao n0 ca w (by omega) f hnc hra);have T2:=Lib.hid (trim_any bo m0 cb w (by omega) g hmc hrb);obtain⟨n,hn⟩:∃n,tlen f n0=n:=⟨_,rfl⟩;obtain⟨m,hm⟩:∃m,tlen g m0=m:=⟨_,rfl⟩;rw[hn] at T1 hX htn rf hra';rw[hm] at T2 hY htm rg hrb';have hn9:n≤4000000000:=by omega
  have hm9:m≤4000000000:=by omega
  have HX:=Lib.hid hX;have HY:=Lib.hid hY;have RF:=Lib.hid rf;have RG:=Lib.hid rg;have HA:=Lib.hid hra';have HB:=Lib.hid hrb';clear hX hY rf rg hra' hrb' hn hm hra hrb;by_cases hnm:n=m
  · subst hnm;have hne:((n:Int) !=(n:Int))=false:=by simp
    go_enter Tryz.func118,Tryz.ntmps118;go_wp2_with fail;refine T1.out.mono ?_;rintro e w1 ⟨rfl,rfl⟩;go_wp2_with fail;refine T2.out.mono ?_;rintro e w1 ⟨rfl,rfl⟩;go_wp2;go_loopw [5] (fun i wr=>∃k q:Nat,k≤n∧i= .int .i64 ((k:Int)-1)∧wr=w.drewN q∧∀j,k≤j→j<n→f j=g j) (fun i _=>(intOf i+1).toNat);case atStart=>exact⟨n,0,Nat.le_refl _,rfl,rfl,fun j h1 h2=>by omega⟩
    case round=>
      obtain⟨k,q,hk,rfl,rfl,hsame⟩:=hrel;have HS:=Lib.hid hsame;clear hsame;cases k with
      |zero=>
        go_wp2;go_ret;refine⟨q,?_,rfl⟩;rw[show X=Y by rw[←HX.out,←HY.out];exact V_congr (fun i hi=>HS.out i (by omega) hi),cmpn_self];rfl|succ k=>
        obtain⟨ab,ao',rfl,hac,haB⟩:=HA.out k (by omega);obtain⟨bb,bo',rfl,hbc,hbB⟩:=HB.out k (by omega);obtain⟨x,hx⟩:∃x,f k=x:=⟨_,rfl⟩;obtain⟨y,hy⟩:∃y,g k=y:=⟨_,rfl⟩;rw[hx] at hac;rw[hy] at hbc;have HFX:=Lib.hid hx;have HGY:=Lib.hid hy;clear hx hy;have hk1:((k+1:Nat):Int)-1=(k:Int):=by omega
        rw[hk1];clear hk1;by_cases hxy:x=y
        · subst hxy;have hxx:((x:Int) !=(x:Int))=false:=by simp
          go_wp2;go_quiet (fail);go_wp2;refine⟨⟨k,q+nq,by omega,rfl,rfl,fun j h1 h2=>?_⟩,by simp[intOf]⟩;by_cases hj:j=k;·rw[hj,HFX.out,HGY.out]
          ·exact HS.out j (by omega) h2
        · have hxx:((x:Int) !=(y:Int))=true:=by simp;omega
          go_wp2;go_quiet (fail);go_wp2;have hac2:((w.drewN q).drewN nq).cell? ⟨ab,ao'+k,none⟩=some (.int .u64 (x:Int)):=hac;have hbc2:((w.drewN q).drewN nq).cell? ⟨bb,bo'+k,none⟩=some (.int .u64 (y:Int)):=hbc;generalize hw2:(w.drewN q).drewN nq=w2 at hac2 hbc2⊢;obtain⟨q2,hq2⟩:∃q2,w2=w.drewN q2:=⟨_,by rw[←hw2,World.drewN_drewN]⟩;have HW:=Lib.hid hq2;clear hw2 hq2;go_quiet ((go_at_call 159;exact Calls.quiet_of_same ((cmp_u64 _ _ _).mono fun _ _ h=>⟨h.1,h.2.symm⟩)));go_wp2;go_ret;refine⟨q2+nq,?_,by rw[HW.out,World.drewN_drewN]⟩;rcases Nat.lt_or_gt_of_ne hxy with h|h;·rw[cmpn_of_lt (show X<Y by rw[←HX.out,←HY.out];exact V_lt_at (k:=k) (by omega) HA.out.lt (fun i h1 h2=>HS.out i (by omega) h2) (by rw[HFX.out,HGY.out];exact h)),←cmpn_of_lt h];rfl
          ·rw[cmpn_of_gt (show Y<X by rw[←HX.out,←HY.out];exact V_lt_at (k:=k) (by omega) HB.out.lt (fun i h1 h2=>(HS.out i (by omega) h2).symm) (by rw[HFX.out,HGY.out];exact h)),←cmpn_of_gt h];rfl
  · have hne:((n:Int) !=(m:Int))=true:=by simp;omega
    go_enter Tryz.func118,Tryz.ntmps118;go_wp2_with fail;refine T1.out.mono ?_;rintro e w1 ⟨rfl,rfl⟩;go_wp2_with fail;refine T2.out.mono ?_;rintro e w1 ⟨rfl,rfl⟩;go_wp2_with (go_at_call 61;refine(cmp_int _ _ _).mono ?_;rintro e w1 ⟨rfl,rfl⟩);go_ret;refine⟨0,?_,rfl⟩;rcases Nat.lt_or_gt_of_ne hnm with h|h;·rw[cmpn_of_lt (show X<Y by rw[←HX.out,←HY.out];exact V_lt_of_len HA.out.lt RG.out h),←cmpn_of_lt h];rfl
    ·rw[cmpn_of_gt (show Y<X by rw[←HX.out,←HY.out];exact V_lt_of_len HB.out.lt RF.out h),←cmpn_of_gt h];rfl
end Go.Proofs.YtammmemfkpcpcaaGreat
