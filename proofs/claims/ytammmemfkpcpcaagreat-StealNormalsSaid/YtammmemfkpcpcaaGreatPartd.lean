import Derived.Test.YtammmemfkpcpcaaGreatWalkA
import Derived.Lib.Mul64
import Derived.Laws.Bits64b
import Derived.Test.YtammmemfkpcpcaaGreatMath
set_option linter.unusedSimpArgs false
set_option linter.unusedVariables false
namespace Go.Proofs.YtammmemfkpcpcaaGreat
open Go.RowKit Go.MagM
theorem ret2{k k':IntKind}{a a' b b':Int}(h:a=a')(h':b=b'):Ending.returned (.tuple #[.int k a,.int k' b])=Ending.returned (.tuple #[.int k a',.int k' b']):=by rw[h,h']
theorem ret1{k:IntKind}{a a':Int}(h:a=a'):Ending.returned (.int k a)=Ending.returned (.int k a'):=by rw[h]
theorem maskN(a:Nat)(ha:a<B):bits .and .u64 (a:Int) 4294967295=((a%4294967296:Nat):Int):=by have h:=bits_and_u64_nat a 4294967295 (by unfold B at ha;omega) (by omega);have e:a&&&4294967295=a%4294967296:=Nat.and_two_pow_sub_one_eq_mod a 32;rw[e] at h;exact h
theorem divH(a:Nat):(a:Int)/4294967296=((a/4294967296:Nat):Int):=by omega
theorem mulN(a b:Nat):(a:Int)*(b:Int)=((a*b:Nat):Int):=(Int.natCast_mul a b).symm
theorem addN(a b:Nat):(a:Int)+(b:Int)=((a+b:Nat):Int):=(Int.natCast_add a b).symm
theorem wrapN(a:Nat):IntKind.u64.wrap (a:Int)=((a%B:Nat):Int):=by rw[IntKind.wrap_u64];unfold B;omega
theorem wrapS(a:Nat)(ha:a<B):IntKind.u64.wrap (a:Int)=(a:Int):=by rw[wrapN,Nat.mod_eq_of_lt ha]
set_option maxHeartbeats 1000000 in theorem mul64_any(x y:Nat)(w:World)(hx:x<B)(hy:y<B):Calls Tryz.prog 161 #[.int .u64 x,.int .u64 y] w fun e w'=>e= .returned (.tuple #[.int .u64 ((x*y/B:Nat):Int),.int .u64 ((x*y%B:Nat):Int)])∧w=w':=by
  have HX:=Lib.hid hx;have HY:=Lib.hid hy;clear hx hy;go_enter Tryz.func161,Tryz.ntmps161;go_wp2;go_ret2;refine⟨ret2 (k:= .u64) (k':= .u64) ?_ ?_,rfl⟩
  · have hx:=HX.out;have hy:=HY.out;simp only[maskN,mod_lt,hx,hy,divH,mulN,addN,wrapN];obtain⟨bd,bt,bw,hhi⟩:=Lib.mul64_hi x y hx hy;have bp:=Nat.mul_le_mul (show x/4294967296≤4294967295 by unfold B at hx;omega) (show y/4294967296≤4294967295 by unfold B at hy;omega);have bb:=Nat.mul_le_mul (show x/4294967296≤4294967295 by unfold B at hx;omega) (show y%4294967296≤4294967295 by omega);have bc:=Nat.mul_le_mul (show x%4294967296≤4294967295 by omega) (show y/4294967296≤4294967295 by unfold B at hy;omega);have hq:x*y/B<B:=Nat.div_lt_of_lt_mul (Nat.mul_lt_mul'' hx hy);simp only[B_eq] at*;generalize x%4294967296*(y%4294967296)=p at*;generalize x/4294967296*(y%4294967296)=q at*;generalize x%4294967296*(y/4294967296)=r at*;generalize x/4294967296*(y/4294967296)=s at*;generalize x*y/18446744073709551616=t at*;omega
  ·rw[mulN,wrapN]
def add64Entry:Array Value→Sem Value:=fun args=>do
  let (x,y,c)←Extern.MathBitsCarry.three "Add64" args
  pure (Extern.MathBitsCarry.pair ((x+y+c)%Extern.MathBitsCarry.m64) ((x+y+c)/Extern.MathBitsCarry.m64))
theorem add64_run(x y c:Nat)(hc:c≤1)(w:World):(callFunc 162 #[.int .u64 x,.int .u64 y,.int .u64 c]).run Tryz.prog w= .ok (.value (.tuple #[.int .u64 (((x+y+c)%B:Nat):Int),.int .u64 (((x+y+c)/B:Nat):Int)])) w:=by
  rw[run_callFunc_extern Tryz.func162 (by kernel_rfl) (by kernel_rfl) (by kernel_rfl) (e:=add64Entry) (by kernel_rfl)];have:c=0∨c=1:=by omega
  rcases this with rfl|rfl<;>rfl
def sub64Entry:Array Value→Sem Value:=fun args=>do
  let (x,y,b)←Extern.MathBitsCarry.three "Sub64" args
  pure (Extern.MathBitsCarry.pair ((x+Extern.MathBitsCarry.m64-y-b)%Extern.MathBitsCarry.m64) (if x<y+b then 1 else 0))
def bor(x y b:Nat):Nat:=if x<y+b then 1 else 0
theorem bor_le(x y b:Nat):bor x y b≤1:=by unfold bor;split<;>omega
theorem sub64_run(x y b:Nat)(hb:b≤1)(w:World):(callFunc 169 #[.int .u64 x,.int .u64 y,.int .u64 b]).run Tryz.prog w= .ok (.value (.tuple #[.int .u64 (((x+B-y-b)%B:Nat):Int),.int .u64 ((bor x y b:Nat):Int)])) w:=by
  rw[run_callFunc_extern Tryz.func169 (by kernel_rfl) (by kernel_rfl) (by kernel_rfl) (e:=sub64Entry) (by kernel_rfl)];have:b=0∨b=1:=by omega
  rcases this with rfl|rfl<;>rfl
set_option maxHeartbeats 1000000 in theorem addTo_any(g o n c:Nat)(bo:Option Addr)(m c':Nat)(w:World)(hn:n≤9000000000)(f h:Nat→Nat)(hm:m≤n)(hf:Held w g o n f)(hb:Reads w bo m h)(hne:Apart bo m g):Calls Tryz.prog 158 #[.slice (some ⟨g,o,none⟩) n c,.slice bo m c'] w fun e w'=>e= .returned (.tuple #[])∧∃f' cc,cc≤1∧Held w' g o n f'∧Turn g o n w w'∧V f' n+cc*B^n=V f n+V h m:=by
  have hfB:=hf.lt;have hhB:=hb.lt;have HF:=Lib.hid hf;have HB:=Lib.hid hb;have HN:=Lib.hid hne;have HFB:=Lib.hid hfB;have HHB:=Lib.hid hhB;clear hf hb hne hfB hhB;go_enter Tryz.func158,Tryz.ntmps158;go_wp2;go_loopw [4,10] (fun cy i wr=>∃k cc:Nat,∃f':Nat→Nat,k≤m∧cc≤1∧i= .int .i64 k∧cy= .int .u64 cc∧Held wr g o n f'∧Turn g o n w wr∧V f' k+cc*B^k=V f k+V h k∧∀i,k≤i→f' i=f i) (fun _ i _=>m-(intOf i).toNat);case atStart=>exact⟨0,0,f,Nat.zero_le _,by omega,rfl,rfl,HF.out,Turn.refl _ _ _ _,by simp[V],fun _ _=>rfl⟩
  case round=>
    obtain⟨k,cc,f',hk,hcc,rfl,rfl,hfr,htr,hV,hs⟩:=hrel;have HFR:=Lib.hid hfr;have HTR:=Lib.hid htr;have HV:=Lib.hid hV;have HS:=Lib.hid hs;clear hfr htr hV hs;by_cases hlt:k<m
    · obtain⟨b',o',rfl,hbc,hbB⟩:=(HB.out.turn HTR.out HN.out) k hlt;obtain⟨hac,haf,haB⟩:=HFR.out k (by omega);rw[HS.out k (Nat.le_refl _)] at hac haB;have hadd:=fun w=>add64_run (f k) (h k) cc hcc w;go_wp2;clear hadd;refine⟨⟨k+1,(f k+h k+cc)/B,upd f' k ((f k+h k+cc)%B),by omega,sum_carry haB hbB hcc,by go_num,rfl,HFR.out.setCell (mod_lt _) (by omega),HTR.out.setCell (by omega) (by omega) _,?_,?_⟩,by simp[intOf];omega⟩
      · rw[V_upd_succ,V_succ f,V_succ h];rw[Nat.pow_succ];exact add_arith _ _ _ _ (sum_step (f k) (h k) cc) HV.out
      ·intro i hi;rw[upd_other _ _ _ (by omega)];exact HS.out i (by omega)
    · have hkm:k=m:=by omega
      subst hkm;go_wp2;go_loopw [4,7] (fun cy i wr=>∃k' cc:Nat,∃f':Nat→Nat,k≤k'∧k'≤n∧cc≤1∧i= .int .i64 k'∧cy= .int .u64 cc∧Held wr g o n f'∧Turn g o n w wr∧V f' k'+cc*B^k'=V f k'+V h k∧∀i,k'≤i→f' i=f i) (fun _ i _=>n-(intOf i).toNat);case atStart=>exact⟨k,cc,f',Nat.le_refl _,hm,hcc,rfl,rfl,HFR.out,HTR.out,HV.out,HS.out⟩
      case round=>
        clear HFR HTR HV HS;obtain⟨k',cc,f',hkk,hk,hcc,rfl,rfl,hfr,htr,hV,hs⟩:=hrel;have HFR:=Lib.hid hfr;have HTR:=Lib.hid htr;have HV:=Lib.hid hV;have HS:=Lib.hid hs;clear hfr htr hV hs;have hend:(cc=0∨k'=n)→∃f'' cc,cc≤1∧Held wr g o n f''∧Turn g o n w wr∧V f'' n+cc*B^n=V f n+V h k:=by
          intro hor;refine⟨f',cc,hcc,HFR.out,HTR.out,?_⟩;rcases hor with h0|h0
          · have h1:=V_above (f:=f') (g:=f) hk (fun i a _=>HS.out i a);have h2:=HV.out;rw[h0] at h2⊢;omega
          ·rw[←h0];exact HV.out
        have HE:=Lib.hid hend;clear hend;by_cases h0:cc=0
        · subst h0;have he:=HE.out (.inl rfl);have HE2:=Lib.hid he;clear he HE;go_wp2;go_end0;exact⟨rfl,HE2.out⟩
        · have hc1:((cc:Int) !=0)=true:=by simp only[bne_iff_ne];omega
          by_cases hlt:k'<n
          · obtain⟨hac,haf,haB⟩:=HFR.out k' hlt;rw[HS.out k' (Nat.le_refl _)] at hac haB;have hadd:∀w,(callFunc 162 #[.int .u64 (f k'),.int .u64 0,.int .u64 cc]).run Tryz.prog w= .ok (.value (.tuple #[.int .u64 (((f k'+0+cc)%B:Nat):Int),.int .u64 (((f k'+0+cc)/B:Nat):Int)])) w:=fun w=>add64_run (f k') 0 cc hcc w;go_wp2;clear hadd;refine⟨⟨k'+1,(f k'+0+cc)/B,upd f' k' ((f k'+0+cc)%B),by omega,by omega,sum_carry haB B_pos hcc,by go_num,rfl,HFR.out.setCell (mod_lt _) (by omega),HTR.out.setCell (by omega) (by omega) _,?_,?_⟩,by simp[intOf];omega⟩;· rw[V_upd_succ,V_succ f];rw[Nat.pow_succ];have:=add_arith _ _ _ _ (sum_step (f k') 0 cc) HV.out;omega
            ·intro i hi;rw[upd_other _ _ _ (by omega)];exact HS.out i (by omega)
          · have he:=HE.out (.inr (by omega));have HE2:=Lib.hid he;clear he HE;go_wp2;go_end0;exact⟨rfl,HE2.out⟩
theorem diff_stepb{x y b:Nat}(hx:x<B)(hy:y<B)(hb:b≤1):(x+B-y-b)%B+y+b=x+bor x y b*B:=diff_step hx hy hb
set_option maxHeartbeats 1000000 in theorem takeFrom_any(g o n c:Nat)(bo:Option Addr)(m c':Nat)(w:World)(hn:n≤9000000000)(f h:Nat→Nat)(hm:m≤n)(hf:Held w g o n f)(hb:Reads w bo m h)(hne:Apart bo m g)(hle:V h m≤V f n):Calls Tryz.prog 160 #[.slice (some ⟨g,o,none⟩) n c,.slice bo m c'] w fun e w'=>e= .returned (.tuple #[])∧∃f',Held w' g o n f'∧Turn g o n w w'∧V f' n+V h m=V f n:=by
  have HF:=Lib.hid hf;have HB:=Lib.hid hb;have HN:=Lib.hid hne;have HLE:=Lib.hid hle;clear hf hb hne hle;go_enter Tryz.func160,Tryz.ntmps160;go_wp2;go_loopw [4,10] (fun cy i wr=>∃k cc:Nat,∃f':Nat→Nat,k≤m∧cc≤1∧i= .int .i64 k∧cy= .int .u64 cc∧Held wr g o n f'∧Turn g o n w wr∧V f' k+V h k=V f k+cc*B^k∧∀i,k≤i→f' i=f i) (fun _ i _=>m-(intOf i).toNat);case atStart=>exact⟨0,0,f,Nat.zero_le _,by omega,rfl,rfl,HF.out,Turn.refl _ _ _ _,by simp[V],fun _ _=>rfl⟩
  case round=>
    obtain⟨k,cc,f',hk,hcc,rfl,rfl,hfr,htr,hV,hs⟩:=hrel;have HFR:=Lib.hid hfr;have HTR:=Lib.hid htr;have HV:=Lib.hid hV;have HS:=Lib.hid hs;clear hfr htr hV hs;by_cases hlt:k<m
    · obtain⟨b',o',rfl,hbc,hbB⟩:=(HB.out.turn HTR.out HN.out) k hlt;obtain⟨hac,haf,haB⟩:=HFR.out k (by omega);rw[HS.out k (Nat.le_refl _)] at hac haB;have hsub:=fun w=>sub64_run (f k) (h k) cc hcc w;go_wp2;clear hsub;refine⟨⟨k+1,bor (f k) (h k) cc,upd f' k ((f k+B-h k-cc)%B),by omega,bor_le _ _ _,by go_num,rfl,HFR.out.setCell (mod_lt _) (by omega),HTR.out.setCell (by omega) (by omega) _,?_,?_⟩,by simp[intOf];omega⟩
      · rw[V_upd_succ,V_succ f,V_succ h,Nat.pow_succ];exact sub_arith _ _ _ _ (diff_stepb haB hbB hcc) HV.out
      ·intro i hi;rw[upd_other _ _ _ (by omega)];exact HS.out i (by omega)
    · have hkm:k=m:=by omega
      subst hkm;go_wp2;go_loopw [4,7] (fun cy i wr=>∃k' cc:Nat,∃f':Nat→Nat,k≤k'∧k'≤n∧cc≤1∧i= .int .i64 k'∧cy= .int .u64 cc∧Held wr g o n f'∧Turn g o n w wr∧V f' k'+V h k=V f k'+cc*B^k'∧∀i,k'≤i→f' i=f i) (fun _ i _=>n-(intOf i).toNat);case atStart=>exact⟨k,cc,f',Nat.le_refl _,hm,hcc,rfl,rfl,HFR.out,HTR.out,HV.out,HS.out⟩
      case round=>
        clear HFR HTR HV HS;obtain⟨k',cc,f',hkk,hk,hcc,rfl,rfl,hfr,htr,hV,hs⟩:=hrel;have HFR:=Lib.hid hfr;have HTR:=Lib.hid htr;have HV:=Lib.hid hV;have HS:=Lib.hid hs;clear hfr htr hV hs;by_cases h0:cc=0
        · subst h0;have he:∃f'',Held wr g o n f''∧Turn g o n w wr∧V f'' n+V h k=V f n:=by
            refine⟨f',HFR.out,HTR.out,?_⟩;have h1:=V_above (f:=f') (g:=f) hk (fun i a _=>HS.out i a);have h2:=HV.out;omega
          have HE2:=Lib.hid he;clear he;go_wp2;go_end0;exact⟨rfl,HE2.out⟩
        · have hlt:k'<n:=by
            rcases Nat.lt_or_ge k' n with hh|hh;·exact hh
            · exfalso;have:k'=n:=by omega
              subst this;have h1:=HV.out;have h2:=V_lt HFR.out.lt;have h3:=HLE.out;have h4:cc=1:=by omega
              rw[h4] at h1;omega
          have hc1:((cc:Int) !=0)=true:=by simp only[bne_iff_ne];omega
          obtain⟨hac,haf,haB⟩:=HFR.out k' hlt;rw[HS.out k' (Nat.le_refl _)] at hac haB;have hsub:∀w,(callFunc 169 #[.int .u64 (f k'),.int .u64 0,.int .u64 cc]).run Tryz.prog w= .ok (.value (.tuple #[.int .u64 (((f k'+B-0-cc)%B:Nat):Int),.int .u64 ((bor (f k') 0 cc:Nat):Int)])) w:=fun w=>sub64_run (f k') 0 cc hcc w;go_wp2;clear hsub;refine⟨⟨k'+1,bor (f k') 0 cc,upd f' k' ((f k'+B-0-cc)%B),by omega,by omega,bor_le _ _ _,by go_num,rfl,HFR.out.setCell (mod_lt _) (by omega),HTR.out.setCell (by omega) (by omega) _,?_,?_⟩,by simp[intOf];omega⟩
          · rw[V_upd_succ,V_succ f,Nat.pow_succ];have:=sub_arith _ _ _ _ (diff_stepb haB B_pos hcc) HV.out;omega
          ·intro i hi;rw[upd_other _ _ _ (by omega)];exact HS.out i (by omega)
set_option maxHeartbeats 1000000 in theorem addTimes_any(g o n c:Nat)(bo:Option Addr)(m c' x:Nat)(w:World)(hn:n≤9000000000)(f h:Nat→Nat)(hm:m≤n)(hx:x<B)(hf:Held w g o n f)(hb:Reads w bo m h)(hne:Apart bo m g):Calls Tryz.prog 121 #[.slice (some ⟨g,o,none⟩) n c,.slice bo m c',.int .u64 x] w fun e w'=>∃f' over,e= .returned (.int .u64 ((over:Nat):Int))∧over<B∧Held w' g o n f'∧Turn g o m w w'∧V f' m+over*B^m=V f m+V h m*x∧∀i,m≤i→f' i=f i:=by
  have HF:=Lib.hid hf;have HB:=Lib.hid hb;have HN:=Lib.hid hne;have HX:=Lib.hid hx;clear hf hb hne hx;go_enter Tryz.func121,Tryz.ntmps121;go_wp2;go_loopw [7,16] (fun ov i wr=>∃k over:Nat,∃f':Nat→Nat,k≤m∧over<B∧i= .int .i64 k∧ov= .int .u64 over∧Held wr g o n f'∧Turn g o m w wr∧V f' k+over*B^k=V f k+V h k*x∧∀i,k≤i→f' i=f i) (fun _ i _=>m-(intOf i).toNat);case atStart=>exact⟨0,0,f,Nat.zero_le _,B_pos,rfl,rfl,HF.out,Turn.refl _ _ _ _,by simp[V],fun _ _=>rfl⟩
  case round=>
    obtain⟨k,over,f',hk,hov,rfl,rfl,hfr,htr,hV,hs⟩:=hrel;have HFR:=Lib.hid hfr;have HTR:=Lib.hid htr;have HV:=Lib.hid hV;have HS:=Lib.hid hs;have HOV:=Lib.hid hov;clear hfr htr hV hs hov;by_cases hlt:k<m
    · obtain⟨b',o',rfl,hbc,hbB⟩:=(HB.out.turn HTR.out HN.out) k hlt;obtain⟨hac,haf,haB⟩:=HFR.out k (by omega);rw[HS.out k (Nat.le_refl _)] at hac haB;have hmac:=mac hbB HX.out HOV.out haB;have hmul:=fun w=>mul64_any (h k) x w hbB HX.out;have hadd1:=fun w=>add64_run (h k*x%B) over 0 (by omega) w;have hadd2:=fun w=>add64_run (f k) ((h k*x%B+over+0)%B) 0 (by omega) w;obtain⟨hi,ehi⟩:∃t,h k*x/B=t:=⟨_,rfl⟩;obtain⟨lo,elo⟩:∃t,h k*x%B=t:=⟨_,rfl⟩;rw[ehi,elo] at hmac;simp only[ehi,elo] at hmul;simp only[elo] at hadd1 hadd2;obtain⟨c1,ec1⟩:∃t,(lo+over+0)/B=t:=⟨_,rfl⟩;obtain⟨l2,el2⟩:∃t,(lo+over+0)%B=t:=⟨_,rfl⟩;rw[ec1,el2] at hmac;simp only[ec1,el2] at hadd1;simp only[el2] at hadd2;have hsB:(f k+l2+0)%B<B:=mod_lt _;obtain⟨d1,ed1⟩:∃t,(f k+l2+0)/B=t:=⟨_,rfl⟩;obtain⟨s1,es1⟩:∃t,(f k+l2+0)%B=t:=⟨_,rfl⟩;rw[ed1,es1] at hmac;rw[es1] at hsB;simp only[ed1,es1] at hadd2;have HM:=Lib.hid hmac;have HSB:=Lib.hid hsB;have HMUL:=Lib.hid hmul;clear hmac hbB haB ehi elo ec1 el2 ed1 es1 hsB hmul;have hadd1':∀w,(callFunc 162 #[.int .u64 lo,.int .u64 over,.int .u64 0]).run Tryz.prog w= .ok (.value (.tuple #[.int .u64 l2,.int .u64 c1])) w:=hadd1;have hadd2':∀w,(callFunc 162 #[.int .u64 (f k),.int .u64 l2,.int .u64 0]).run Tryz.prog w= .ok (.value (.tuple #[.int .u64 s1,.int .u64 d1])) w:=hadd2;clear hadd1 hadd2;go_wp2_with (go_at_call 161;refine(HMUL.out _).mono ?_;rintro e w1 ⟨rfl,rfl⟩);clear hadd1' hadd2';refine⟨⟨k+1,hi+c1+d1,upd f' k s1,by omega,HM.out.1,by go_num,?_,HFR.out.setCell HSB.out (by omega),HTR.out.setCell (by omega) (by omega) _,?_,?_⟩,by simp[intOf];omega⟩
      · have h1:=HM.out.1;have h2:hi+c1<B:=by omega
        rw[addN,wrapS _ h2,addN,wrapS _ h1]
      · rw[V_upd_succ,V_succ f,V_succ h,Nat.pow_succ];exact mac_arith _ _ _ _ HM.out.2 HV.out
      ·intro i hi';rw[upd_other _ _ _ (by omega)];exact HS.out i (by omega)
    · have hkm:k=m:=by omega
      subst hkm;go_wp2;go_ret;exact⟨f',over,rfl,HOV.out,HFR.out,HTR.out,HV.out,HS.out⟩
set_option maxHeartbeats 1000000 in theorem takeTimes_any(g o n c:Nat)(bo:Option Addr)(m c' x:Nat)(w:World)(hn:n≤9000000000)(f h:Nat→Nat)(hm:m≤n)(hx:x<B)(hf:Held w g o n f)(hb:Reads w bo m h)(hne:Apart bo m g):Calls Tryz.prog 205 #[.slice (some ⟨g,o,none⟩) n c,.slice bo m c',.int .u64 x] w fun e w'=>∃f' over,e= .returned (.int .u64 ((over:Nat):Int))∧over<B∧Held w' g o n f'∧Turn g o m w w'∧V f' m+V h m*x=V f m+over*B^m∧∀i,m≤i→f' i=f i:=by
  have HF:=Lib.hid hf;have HB:=Lib.hid hb;have HN:=Lib.hid hne;have HX:=Lib.hid hx;clear hf hb hne hx;go_enter Tryz.func205,Tryz.ntmps205;go_wp2;go_loopw [7,16] (fun ov i wr=>∃k over:Nat,∃f':Nat→Nat,k≤m∧over<B∧i= .int .i64 k∧ov= .int .u64 over∧Held wr g o n f'∧Turn g o m w wr∧V f' k+V h k*x=V f k+over*B^k∧∀i,k≤i→f' i=f i) (fun _ i _=>m-(intOf i).toNat);case atStart=>exact⟨0,0,f,Nat.zero_le _,B_pos,rfl,rfl,HF.out,Turn.refl _ _ _ _,by simp[V],fun _ _=>rfl⟩
  case round=>
    obtain⟨k,over,f',hk,hov,rfl,rfl,hfr,htr,hV,hs⟩:=hrel;have HFR:=Lib.hid hfr;have HTR:=Lib.hid htr;have HV:=Lib.hid hV;have HS:=Lib.hid hs;have HOV:=Lib.hid hov;clear hfr htr hV hs hov;by_cases hlt:k<m
    · obtain⟨b',o',rfl,hbc,hbB⟩:=(HB.out.turn HTR.out HN.out) k hlt;obtain⟨hac,haf,haB⟩:=HFR.out k (by omega);rw[HS.out k (Nat.le_refl _)] at hac haB;have hmac:=msc hbB HX.out HOV.out haB;have hmul:=fun w=>mul64_any (h k) x w hbB HX.out;have hadd1:=fun w=>add64_run (h k*x%B) over 0 (by omega) w;have hadd2:=fun w=>sub64_run (f k) ((h k*x%B+over+0)%B) 0 (by omega) w;obtain⟨hi,ehi⟩:∃t,h k*x/B=t:=⟨_,rfl⟩;obtain⟨lo,elo⟩:∃t,h k*x%B=t:=⟨_,rfl⟩;rw[ehi,elo] at hmac;simp only[ehi,elo] at hmul;simp only[elo] at hadd1 hadd2;obtain⟨c1,ec1⟩:∃t,(lo+over+0)/B=t:=⟨_,rfl⟩;obtain⟨l2,el2⟩:∃t,(lo+over+0)%B=t:=⟨_,rfl⟩;rw[ec1,el2] at hmac;simp only[ec1,el2] at hadd1;simp only[el2] at hadd2;have hsB:(f k+B-l2-0)%B<B:=mod_lt _;obtain⟨d1,ed1⟩:∃t,(if f k<l2+0 then 1 else 0)=t:=⟨_,rfl⟩;obtain⟨s1,es1⟩:∃t,(f k+B-l2-0)%B=t:=⟨_,rfl⟩;rw[ed1,es1] at hmac;rw[es1] at hsB;simp only[bor,ed1,es1] at hadd2;have HM:=Lib.hid hmac;have HSB:=Lib.hid hsB;have HMUL:=Lib.hid hmul;clear hmac hbB haB ehi elo ec1 el2 ed1 es1 hsB hmul;have hadd1':∀w,(callFunc 162 #[.int .u64 lo,.int .u64 over,.int .u64 0]).run Tryz.prog w= .ok (.value (.tuple #[.int .u64 l2,.int .u64 c1])) w:=hadd1;have hadd2':∀w,(callFunc 169 #[.int .u64 (f k),.int .u64 l2,.int .u64 0]).run Tryz.prog w= .ok (.value (.tuple #[.int .u64 s1,.int .u64 d1])) w:=hadd2;clear hadd1 hadd2;go_wp2_with (go_at_call 161;refine(HMUL.out _).mono ?_;rintro e w1 ⟨rfl,rfl⟩);clear hadd1' hadd2';refine⟨⟨k+1,hi+c1+d1,upd f' k s1,by omega,HM.out.1,by go_num,?_,HFR.out.setCell HSB.out (by omega),HTR.out.setCell (by omega) (by omega) _,?_,?_⟩,by simp[intOf];omega⟩
      · have h1:=HM.out.1;have h2:hi+c1<B:=by omega
        rw[addN,wrapS _ h2,addN,wrapS _ h1]
      · rw[V_upd_succ,V_succ f,V_succ h,Nat.pow_succ];exact msc_arith _ _ _ _ HM.out.2 HV.out
      ·intro i hi';rw[upd_other _ _ _ (by omega)];exact HS.out i (by omega)
    · have hkm:k=m:=by omega
      subst hkm;go_wp2;go_ret;exact⟨f',over,rfl,HOV.out,HFR.out,HTR.out,HV.out,HS.out⟩
theorem copied_V(f:Nat→Nat)(n d:Nat):V (fun i=>if i<n then f i else 0) (n+d)=V f n:=by rw[V_split,V_congr (g:=f) (fun i hi=>if_pos hi),V_none (fun i _=>if_neg (by omega))];simp
set_option maxHeartbeats 1000000 in theorem Add_end{n m:Nat}{f g f':Nat→Nat}{cc X Y:Nat}(hcc:cc≤1)(hmn:m≤n)(hf:∀i,i<n→f i<B)(hg:∀i,i<m→g i<B)(hX:V f n=X)(hY:V g m=Y)(h:V f' (n+1)+cc*B^(n+1)=V (fun i=>if i<n then f i else 0) (n+1)+V g m):V f' (n+1)=X+Y:=by
  rw[copied_V,hX,hY] at h;have h1:=V_lt hf;have h2:=V_lt hg;have h3:B^m≤B^n:=Nat.pow_le_pow_right B_pos hmn;have h4:2*B^n≤B^(n+1):=by rw[Nat.pow_succ,Nat.mul_comm (B^n) B];exact Nat.mul_le_mul_right _ (by unfold B;omega)
  have h5:cc=0∨cc=1:=by omega
  rcases h5 with rfl|rfl<;>omega
set_option maxHeartbeats 1000000 in theorem Add_any(va vb:Value)(L M X Y:Nat)(w:World)(hL:L≤4000000000)(hM:M≤4000000000)(ha:Mag w va L X)(hb:Mag w vb M Y):Calls Tryz.prog 117 #[va,vb] w fun e w'=>∃v,e= .returned v∧RMag w' v (max L M+1) (X+Y)∧Below w.heap.size w w':=by
  obtain⟨ao,n0,ca,f,rfl,hnc,hnL,hra,hX⟩:=ha;obtain⟨bo,m0,cb,g,rfl,hmc,hmM,hrb,hY⟩:=hb;have htn:=tlen_le f n0;have htm:=tlen_le g m0;rw[←tlen_V] at hX hY;have hra':=hra.less htn;have hrb':=hrb.less htm;have T1:=Lib.hid (trim_any ao n0 ca w (by omega) f hnc hra);have T2:=Lib.hid (trim_any bo m0 cb w (by omega) g hmc hrb);obtain⟨n,hn⟩:∃n,tlen f n0=n:=⟨_,rfl⟩;obtain⟨m,hm⟩:∃m,tlen g m0=m:=⟨_,rfl⟩;rw[hn] at T1 hX htn hra';rw[hm] at T2 hY htm hrb';have hn9:n≤4000000000:=by omega
  have hm9:m≤4000000000:=by omega
  have hnL':n≤L:=by omega
  have hmM':m≤M:=by omega
  have HX:=Lib.hid hX;have HY:=Lib.hid hY;have HA:=Lib.hid hra';have HB:=Lib.hid hrb';clear hX hY hra' hrb' hn hm hra hrb;by_cases hnm:n<m
  · go_enter Tryz.func117,Tryz.ntmps117;go_wp2_with fail;refine T1.out.mono ?_;rintro e w1 ⟨rfl,rfl⟩;go_wp2_with fail;refine T2.out.mono ?_;rintro e w1 ⟨rfl,rfl⟩;go_wp2_with (first|(at_make;refine wpList_make_words rfl (.tmp 19) (.tmp 19) 54 rfl 93 under_words info_u64 .i64 .i64 _ _ (m+1) rfl rfl (by omega) (by omega) (by omega) ?_;intro w1 hh1 hb1 hs1;replace hh1:=Lib.hid hh1)|(with_reducible refine wpList_copy_words rfl (.tmp 21) (.tmp 22) 54 54 rfl 93 under_words size_u64 _ _ _ _ _ _ _ rfl rfl _ g hh1.out (HB.out.below hb1) ?_;intro w2 hh2 ht2;replace hh2:=Lib.hid hh2)|(go_at_call 158;refine(addTo_any _ _ _ _ _ _ _ _ (by omega) _ f (by omega) hh2.out ((HA.out.below hb1).turn ht2 (HA.out.apart (Nat.le_refl _))) (HA.out.apart (Nat.le_refl _))).mono ?_;rintro e w3 ⟨rfl,f3,cc,hcc,hh3,ht3,hv3⟩;replace hh3:=Lib.hid hh3;replace hv3:=Lib.hid hv3)|(go_at_call 120;refine(trim_any _ _ _ _ (by omega) f3 (Nat.le_refl _) hh3.out.reads).mono ?_;rintro e w4 ⟨rfl,rfl⟩));go_ret;refine⟨_,rfl,?_,(ht3.below (ht2.below hb1 (Nat.le_refl _) (by omega)) (Nat.le_refl _) (by have:=ht2.size;omega))⟩;have hv:=Add_end hcc (by omega) HB.out.lt HA.out.lt HY.out HX.out hv3.out;have:=RMag.of_trim hh3.out.reads (Nat.le_refl (m+1));rw[hv,Nat.add_comm Y X] at this;exact this.more (by omega)
  · go_enter Tryz.func117,Tryz.ntmps117;go_wp2_with fail;refine T1.out.mono ?_;rintro e w1 ⟨rfl,rfl⟩;go_wp2_with fail;refine T2.out.mono ?_;rintro e w1 ⟨rfl,rfl⟩;go_wp2_with (first|(at_make;refine wpList_make_words rfl (.tmp 19) (.tmp 19) 54 rfl 93 under_words info_u64 .i64 .i64 _ _ (n+1) rfl rfl (by omega) (by omega) (by omega) ?_;intro w1 hh1 hb1 hs1;replace hh1:=Lib.hid hh1)|(with_reducible refine wpList_copy_words rfl (.tmp 21) (.tmp 22) 54 54 rfl 93 under_words size_u64 _ _ _ _ _ _ _ rfl rfl _ f hh1.out (HA.out.below hb1) ?_;intro w2 hh2 ht2;replace hh2:=Lib.hid hh2)|(go_at_call 158;refine(addTo_any _ _ _ _ _ _ _ _ (by omega) _ g (by omega) hh2.out ((HB.out.below hb1).turn ht2 (HB.out.apart (Nat.le_refl _))) (HB.out.apart (Nat.le_refl _))).mono ?_;rintro e w3 ⟨rfl,f3,cc,hcc,hh3,ht3,hv3⟩;replace hh3:=Lib.hid hh3;replace hv3:=Lib.hid hv3)|(go_at_call 120;refine(trim_any _ _ _ _ (by omega) f3 (Nat.le_refl _) hh3.out.reads).mono ?_;rintro e w4 ⟨rfl,rfl⟩));go_ret;refine⟨_,rfl,?_,(ht3.below (ht2.below hb1 (Nat.le_refl _) (by omega)) (Nat.le_refl _) (by have:=ht2.size;omega))⟩;have hv:=Add_end hcc (by omega) HA.out.lt HB.out.lt HX.out HY.out hv3.out;have:=RMag.of_trim hh3.out.reads (Nat.le_refl (n+1));rw[hv] at this;exact this.more (by omega)
theorem below_drewN(w:World)(q:Nat):Below w.heap.size w (w.drewN q):=⟨rfl,rfl,rfl,Nat.le_refl _,fun _ _=>rfl⟩
theorem drewN_size{w w1:World}{q:Nat}(h:w1=w.drewN q):Below w.heap.size w w1∧w1.heap.size=w.heap.size:=by subst h;exact⟨below_drewN w q,rfl⟩
set_option maxHeartbeats 1000000 in theorem Sub_any(va vb:Value)(L M X Y:Nat)(w:World)(hL:L≤4000000000)(hM:M≤4000000000)(ha:Mag w va L X)(hb:Mag w vb M Y):Calls Tryz.prog 119 #[va,vb] w fun e w'=>∃v,e= .returned v∧RMag w' v L (X-Y)∧Below w.heap.size w w':=by
  have hcmp:=Cmp_any va vb L M X Y w hL hM ha hb;obtain⟨ao,n0,ca,f,rfl,hnc,hnL,hra,hX⟩:=ha;obtain⟨bo,m0,cb,g,rfl,hmc,hmM,hrb,hY⟩:=hb;rcases Nat.lt_or_ge Y X with hlt|hge
  · rw[cmpn_of_gt hlt] at hcmp;have htn:=tlen_le f n0;have htm:=tlen_le g m0;have hX':=hX;have hY':=hY;rw[←tlen_V] at hX' hY';have HC:=Lib.hid hcmp;have HA:=Lib.hid hra;have HB:=Lib.hid hrb;clear hcmp hra hrb;obtain⟨n,hn⟩:∃n,tlen f n0=n:=⟨_,rfl⟩;obtain⟨m,hm⟩:∃m,tlen g m0=m:=⟨_,rfl⟩;have HN:=Lib.hid hn;have HM:=Lib.hid hm;rw[hn] at htn hX';rw[hm] at htm hY';have HX:=Lib.hid hX';have HY:=Lib.hid hY';clear hX hY hX' hY' hn hm;have hmn:m≤9000000000:=by omega
    go_enter Tryz.func119,Tryz.ntmps119;go_wp2_with fail;refine HC.out.mono ?_;rintro e w1 ⟨q,rfl,hq⟩;obtain⟨hb1,hz1⟩:=drewN_size hq;have HZ1:=Lib.hid hz1;clear hq hz1;have c1:=trim_any ao n0 ca w1 (by omega) f hnc (HA.out.below hb1);rw[HN.out] at c1;have C1:=Lib.hid c1;clear c1;go_wp2_with fail;refine C1.out.mono ?_;rintro e w2 ⟨rfl,rfl⟩;go_wp2_with fail;refine(clone_any ao n ca _ (by omega) f ((HA.out.below hb1).less htn)).mono ?_;rintro e w2 ⟨rfl,hh2,hb2,hs2⟩;replace hh2:=Lib.hid hh2;have hb12:Below w.heap.size w w2:=hb1.trans (hb2.mono (by have:=HZ1.out;omega));have c2:=trim_any bo m0 cb w2 (by omega) g hmc (HB.out.below hb12);rw[HM.out] at c2;have C2:=Lib.hid c2;clear c2;go_wp2_with fail;refine C2.out.mono ?_;rintro e w3 ⟨rfl,rfl⟩;have hle:m≤n:=by
      rcases Nat.lt_or_ge n m with h|h
      · have h1:=V_lt_of_len (f:=f) (g:=g) (n:=n) (m:=m) (HA.out.less htn).lt (by rw[←HM.out];exact tlen_right g m0) h;have h2:=HX.out;have h3:=HY.out;omega
      ·exact h
    go_wp2_with (first
      |(go_at_call 160;refine(takeFrom_any _ _ _ _ _ _ _ _ (by omega) f g hle hh2.out ((HB.out.below hb12).less htm) ((HB.out.less htm).apart (by have:=HZ1.out;omega)) (by have h2:=HX.out;have h3:=HY.out;omega)).mono ?_;rintro e w3 ⟨rfl,f3,hh3,ht3,hv3⟩;replace hh3:=Lib.hid hh3;replace hv3:=Lib.hid hv3)|(go_at_call 120;refine(trim_any _ _ _ _ (by omega) f3 (Nat.le_refl _) hh3.out.reads).mono ?_;rintro e w4 ⟨rfl,rfl⟩));go_ret;have:=RMag.of_trim hh3.out.reads (Nat.le_refl n);rw[show V f3 n=X-Y by have h1:=hv3.out;have h2:=HX.out;have h3:=HY.out;omega] at this;refine⟨_,rfl,this.more (by omega),ht3.below hb12 (by have:=HZ1.out;omega) (by have:=hb12.size;omega)⟩
  · have h0:X-Y=0:=by omega
    rw[h0];have hc:cmpn X Y=0∨cmpn X Y=-1:=by
      rcases Nat.lt_or_eq_of_le hge with h|h;·exact .inr (cmpn_of_lt h)
      ·rw[h];exact .inl (cmpn_self _)
    rcases hc with hc|hc;all_goals
      rw[hc] at hcmp;have HC:=Lib.hid hcmp;clear hcmp hX hY hge h0 hc hra hrb;go_enter Tryz.func119,Tryz.ntmps119;go_wp2_with fail;refine HC.out.mono ?_;rintro e w1 ⟨q,rfl,rfl⟩;go_wp2;go_ret;exact⟨_,rfl,(RMag.nil _).more (by omega),below_drewN _ _⟩
set_option maxHeartbeats 1000000 in theorem Mul_any(va vb:Value)(L M X Y:Nat)(w:World)(hL:L≤4000000000)(hM:M≤4000000000)(ha:Mag w va L X)(hb:Mag w vb M Y):Calls Tryz.prog 55 #[va,vb] w fun e w'=>∃v,e= .returned v∧RMag w' v (L+M) (X*Y)∧Below w.heap.size w w':=by
  obtain⟨ao,n0,ca,f,rfl,hnc,hnL,hra,hX⟩:=ha;obtain⟨bo,m0,cb,g,rfl,hmc,hmM,hrb,hY⟩:=hb;have htn:=tlen_le f n0;have htm:=tlen_le g m0;rw[←tlen_V] at hX hY;have hra':=hra.less htn;have hrb':=hrb.less htm;have T1:=Lib.hid (trim_any ao n0 ca w (by omega) f hnc hra);have T2:=Lib.hid (trim_any bo m0 cb w (by omega) g hmc hrb);obtain⟨n,hn⟩:∃n,tlen f n0=n:=⟨_,rfl⟩;obtain⟨m,hm⟩:∃m,tlen g m0=m:=⟨_,rfl⟩;rw[hn] at T1 hX htn hra';rw[hm] at T2 hY htm hrb';have hn9:n≤4000000000:=by omega
  have hm9:m≤4000000000:=by omega
  have hnL':n≤L:=by omega
  have hmM':m≤M:=by omega
  have HX:=Lib.hid hX;have HY:=Lib.hid hY;have HA:=Lib.hid hra';have HB:=Lib.hid hrb';clear hX hY hra' hrb' hn hm hra hrb;go_enter Tryz.func55,Tryz.ntmps55;go_wp2_with fail;refine T1.out.mono ?_;rintro e w1 ⟨rfl,rfl⟩;go_wp2_with fail;refine T2.out.mono ?_;rintro e w1 ⟨rfl,rfl⟩;go_wp2_with (first|(at_make;refine wpList_make_words rfl (.tmp 16) (.tmp 16) 54 rfl 93 under_words info_u64 .i64 .i64 _ _ (n+m) rfl rfl (by omega) (by omega) (by omega) ?_;intro w1 hh1 hb1 hs1;replace hh1:=Lib.hid hh1));go_loopw [20] (fun i wr=>∃k:Nat,∃f':Nat→Nat,k≤n∧i= .int .i64 k∧Held wr w.heap.size 0 (n+m) f'∧Turn w.heap.size 0 (n+m) w1 wr∧V f' (k+m)=V f k*V g m∧∀i,k+m≤i→f' i=0) (fun i _=>n-(intOf i).toNat);case atStart=>exact⟨0,fun _=>0,Nat.zero_le _,rfl,hh1.out,Turn.refl _ _ _ _,by rw[V_none (fun _ _=>rfl)];simp[V],fun _ _=>rfl⟩
  case round=>
    obtain⟨k,f',hk,rfl,hfr,htr,hV,hs⟩:=hrel;have HFR:=Lib.hid hfr;have HTR:=Lib.hid htr;have HV:=Lib.hid hV;have HS:=Lib.hid hs;clear hfr htr hV hs;have hbr:Below w.heap.size w wr:=HTR.out.below hb1 (Nat.le_refl _) (by omega);by_cases hlt:k<n
    · obtain⟨ab,aoff,rfl,hac,haB⟩:=(HA.out.below hbr) k hlt;have hcap:¬(n+m=k):=by omega
      obtain⟨hoc,hof,hoB⟩:=HFR.out (k+m) (by omega);go_wp2_with fail;refine(addTimes_any w.heap.size k m _ _ _ _ (f k) wr (by omega) (fun i=>f' (k+i)) g (Nat.le_refl _) haB (by have:=HFR.out.part (k:=k) (m:=m) (by omega);simpa using this) (HB.out.below hbr) (HB.out.apart (Nat.le_refl _))).mono ?_;rintro e w2 ⟨f2,over,rfl,hov,hh2,ht2,hv2,_⟩;have hoc2:w2.cell? ⟨w.heap.size,k+m,none⟩=some (.int .u64 ((f' (k+m):Nat):Int)):=by rw[ht2.cell (k+m) (by omega)];simpa using hoc
      have hof2:w2.frozen? ⟨w.heap.size,k+m,none⟩=false:=by rw[ht2.frz];simpa using hof
      have hh3:Held w2 w.heap.size 0 (n+m) (spl f' f2 k m):=HFR.out.splice (by simpa using ht2) (by simpa using hh2) (by omega);have HH3:=Lib.hid hh3;have HT2:=Lib.hid ht2;have HV2:=Lib.hid hv2;have HOV:=Lib.hid hov;clear hh3 ht2 hv2 hov hh2;go_wp2;refine⟨⟨k+1,upd (spl f' f2 k m) (k+m) over,by omega,by go_num,?_,?_,?_,?_⟩,by simp[intOf];omega⟩;·have:=HH3.out.setCell (k:=k+m) HOV.out (by omega);simpa using this
      ·exact(HTR.out.trans (HT2.out.wider (by omega) (by omega))).setCell (by omega) (by omega) _
      · rw[show k+1+m=k+m+1 from by omega,V_upd_succ,spl_V,V_succ];refine mul_arith _ _ _ _ HV2.out ?_ (Nat.pow_add _ _ _);rw[←HV.out,V_split]
      · intro i hi;rw[upd_other _ _ _ (by omega),spl_out _ _ (.inr (by omega))];exact HS.out i (by omega)
    · have hkn:k=n:=by omega
      subst hkn;go_wp2_with (go_at_call 120;refine(trim_any _ _ _ _ (by omega) f' (Nat.le_refl _) HFR.out.reads).mono ?_;rintro e w4 ⟨rfl,rfl⟩);go_ret;have:=RMag.of_trim HFR.out.reads (Nat.le_refl (k+m));rw[HV.out,HX.out,HY.out] at this;exact⟨_,rfl,this.more (by omega),hbr⟩
end Go.Proofs.YtammmemfkpcpcaaGreat
namespace Go.MagM
def bl(x:Nat):Nat:=if x=0 then 0 else x.log2+1
theorem bl_lt(x:Nat):x<2^bl x:=by
  unfold bl;split;·rename_i h;rw[h];simp
  ·exact Nat.lt_log2_self
theorem bl_ge{x:Nat}(h:x≠0):2^(bl x-1)≤x:=by unfold bl;rw[if_neg h];exact Nat.log2_self_le h
theorem bl_pos{x:Nat}(h:x≠0):1≤bl x:=by unfold bl;rw[if_neg h];omega
theorem bl_zero:bl 0=0:=rfl
theorem bl_unique{x k:Nat}(h1:x<2^k)(h2:x=0→k=0)(h3:x≠0→2^(k-1)≤x∧1≤k):bl x=k:=by
  by_cases h:x=0;·rw[h2 h,h];rfl
  · obtain⟨h4,h5⟩:=h3 h;have a:=bl_lt x;have b:=bl_ge h;have c:=bl_pos h;have d:=(Nat.pow_lt_pow_iff_right (show 1<2 by omega)).1 (Nat.lt_of_le_of_lt b h1);have e:=(Nat.pow_lt_pow_iff_right (show 1<2 by omega)).1 (Nat.lt_of_le_of_lt h4 a);omega
theorem bl_shift{x:Nat}(k:Nat)(h:2^k≤x):bl x=k+bl (x/2^k):=by
  have hq:x/2^k≠0:=by have:=Nat.div_pos h (Nat.pow_pos (show 0<2 by omega));omega
  have a:=bl_lt (x/2^k);have b:=bl_ge hq;have c:=bl_pos hq;apply bl_unique;·rw[Nat.pow_add,Nat.mul_comm];exact(Nat.div_lt_iff_lt_mul (Nat.pow_pos (by omega))).1 a
  ·intro h0;have:=Nat.pow_pos (n:=k) (show 0<2 by omega);omega
  · intro _;refine⟨?_,by omega⟩;rw[show k+bl (x/2^k)-1=k+(bl (x/2^k)-1) from by omega,Nat.pow_add];exact Nat.le_trans (Nat.mul_le_mul_left _ b) (Nat.mul_div_le x (2^k))
theorem B_pow(n:Nat)(h:n≤64):B=2^(64-n)*2^n:=by rw[←Nat.pow_add,show 64-n+n=64 from by omega];rfl
theorem shl_mod(x n:Nat)(h:n≤64):x*2^n%B=2^n*(x%2^(64-n)):=by rw[B_pow n h,Nat.mul_mod_mul_right,Nat.mul_comm]
theorem shr_eq(y n:Nat)(h:n≤64):y/2^(64-n)=y*2^n/B:=by rw[B_pow n h,Nat.mul_div_mul_right _ _ (Nat.pow_pos (by omega))]
theorem shl_div_lt{y n:Nat}(hy:y<B):y*2^n/B<2^n:=by apply Nat.div_lt_of_lt_mul;exact Nat.mul_lt_mul_of_pos_right hy (Nat.pow_pos (by omega))
theorem or_up{x y n:Nat}(hy:y<B)(h:n≤64):(x*2^n%B)|||(y*2^n/B)=x*2^n%B+y*2^n/B:=by rw[shl_mod x n h];exact(Nat.two_pow_add_eq_or_of_lt (shl_div_lt hy) _).symm
theorem or_down{x y n:Nat}(hx:x<B)(h:n≤64):(x/2^n)|||(y*2^(64-n)%B)=x/2^n+(y%2^n)*2^(64-n):=by
  rw[shl_mod y (64-n) (by omega),show 64-(64-n)=n from by omega,Nat.or_comm];have:x/2^n<2^(64-n):=by
    apply Nat.div_lt_of_lt_mul;rw[Nat.mul_comm,←B_pow n h];exact hx
  rw[←Nat.two_pow_add_eq_or_of_lt this,Nat.mul_comm (2^(64-n))];omega
theorem V_moveUp{f f':Nat→Nat}{n:Nat}(h0:f' 0=f 0*2^n%B):∀{len:Nat},(∀j,j<len→f' (j+1)=f (j+1)*2^n%B+f j*2^n/B)→V f' (len+1)+f len*2^n/B*B^(len+1)=V f (len+1)*2^n
  |0,_=>by
    rw[V_one,V_one,h0,Nat.pow_one];have:=Nat.mod_add_div (f 0*2^n) B;rw[Nat.mul_comm (f 0*2^n/B) B];exact this|len+1,h=>by
    have ih:=V_moveUp (len:=len) h0 (fun j hj=>h j (by omega));rw[V_succ f',V_succ f (len+1),h len (by omega),Nat.add_mul (V f (len+1)),←ih];have e1:=Nat.mod_add_div (f (len+1)*2^n) B;have e2:f (len+1)*B^(len+1)*2^n=f (len+1)*2^n*B^(len+1):=by rw[Nat.mul_right_comm]
    have e3:f (len+1)*2^n/B*B^(len+1+1)=B*(f (len+1)*2^n/B)*B^(len+1):=by rw[Nat.pow_succ,Nat.mul_comm (B^(len+1)) B,←Nat.mul_assoc,Nat.mul_comm _ B]
    rw[e2,e3,Nat.add_mul];have e4:(f (len+1)*2^n%B+B*(f (len+1)*2^n/B))*B^(len+1)=f (len+1)*2^n*B^(len+1):=by rw[e1]
    rw[Nat.add_mul] at e4;omega
theorem V_moveDown{f f':Nat→Nat}{n:Nat}(hn:n≤64):∀{len:Nat},(∀j,j<len→f' j=f j/2^n+f (j+1)%2^n*2^(64-n))→V f' len*2^n+f 0%2^n=V f len+f len%2^n*B^len
  |0,_=>by simp[V]|len+1,h=>by
    have ih:=V_moveDown hn (len:=len) (fun j hj=>h j (by omega));rw[V_succ f',V_succ f,h len (by omega),Nat.add_mul];have e1:=Nat.mod_add_div (f len) (2^n);have e2:(f len/2^n+f (len+1)%2^n*2^(64-n))*B^len*2^n=f len/2^n*2^n*B^len+f (len+1)%2^n*B^(len+1):=by
      rw[Nat.add_mul,Nat.add_mul,Nat.mul_right_comm (f len/2^n),Nat.pow_succ,Nat.mul_comm (B^len) B,←Nat.mul_assoc];congr 1;rw[Nat.mul_right_comm,Nat.mul_assoc (f (len+1)%2^n),←B_pow n hn]
    have e3:(f len%2^n+2^n*(f len/2^n))*B^len=f len*B^len:=by rw[e1]
    rw[Nat.add_mul,Nat.mul_comm (2^n)] at e3;rw[e2];omega
theorem V_down_all{f f':Nat→Nat}{n len:Nat}(hn:n≤64)(hl:f' len=f len/2^n)(h:∀j,j<len→f' j=f j/2^n+f (j+1)%2^n*2^(64-n)):V f' (len+1)=V f (len+1)/2^n:=by
  have h1:=V_moveDown hn h;have e1:=Nat.mod_add_div (f len) (2^n);have e3:(f len%2^n+2^n*(f len/2^n))*B^len=f len*B^len:=by rw[e1]
  rw[Nat.add_mul,Nat.mul_comm (2^n)] at e3;have h2:V f' (len+1)*2^n+f 0%2^n=V f (len+1):=by rw[V_succ f',V_succ f,hl,Nat.add_mul,Nat.mul_right_comm (f len/2^n)];omega
  have h3:f 0%2^n<2^n:=Nat.mod_lt _ (Nat.pow_pos (by omega));rw[←h2,Nat.add_comm (V f' (len+1)*2^n),Nat.add_mul_div_right _ _ (Nat.pow_pos (by omega)),Nat.div_eq_of_lt h3,Nat.zero_add]
theorem Bpow_two(k:Nat):B^k=2^(64*k):=by rw[show B=2^64 from rfl,←Nat.pow_mul]
theorem V_high(f:Nat→Nat){k n:Nat}(hf:∀i,i<k+n→f i<B):V (fun i=>f (k+i)) n=V f (k+n)/B^k:=by rw[V_split,Nat.add_mul_div_left _ _ (Bp k),Nat.div_eq_of_lt (V_lt (fun i hi=>hf i (by omega))),Nat.zero_add]
end Go.MagM
