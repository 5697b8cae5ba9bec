import Derived.Test.YtammmemfkpcpcaaGreatWalkE
import Derived.StillTailTactics
import Derived.BigRegion
import Derived.Test.YtammmemfkpcpcaaGreatPartd
set_option linter.unusedSimpArgs false
set_option linter.unusedVariables false
namespace Go.Proofs.YtammmemfkpcpcaaGreat
open Go.RowKit Go.MagM
theorem shlW(a n:Nat):IntKind.u64.wrap ((a:Int)*2^n)=((a*2^n%B:Nat):Int):=by rw[show((a:Int)*2^n)=((a*2^n:Nat):Int) by simp,wrapN]
theorem divP(a n:Nat):(a:Int)/2^n=((a/2^n:Nat):Int):=by simp
theorem orU(x y n:Nat)(hy:y<B)(h:n≤64):bits .or .u64 (IntKind.u64.wrap ((x:Int)*2^n)) ((y:Int)/2^(64-n))=((x*2^n%B+y*2^n/B:Nat):Int):=by have h1:y/2^(64-n)<B:=Nat.lt_of_le_of_lt (Nat.div_le_self _ _) hy;rw[shlW,divP,bits_or_u64_nat _ _ (mod_lt _) h1,shr_eq y n h,or_up hy h]
theorem orD(x y n:Nat)(hx:x<B)(h:n≤64):bits .or .u64 ((x:Int)/2^n) (IntKind.u64.wrap ((y:Int)*2^(64-n)))=((x/2^n+y%2^n*2^(64-n):Nat):Int):=by have h1:x/2^n<B:=Nat.lt_of_le_of_lt (Nat.div_le_self _ _) hx;rw[shlW,divP,bits_or_u64_nat _ _ h1 (mod_lt _),or_down hx h]
theorem up_lt(x:Nat){y n:Nat}(hy:y<B)(h:n≤64):x*2^n%B+y*2^n/B<B:=by have h1:=shl_div_lt (n:=n) hy;rw[shl_mod x n h];have h2:x%2^(64-n)+1≤2^(64-n):=Nat.mod_lt _ (Nat.pow_pos (by omega));have h3:=Nat.mul_le_mul_left (2^n) h2;rw[Nat.mul_add,Nat.mul_comm (2^n) (2^(64-n)),←B_pow n h] at h3;omega
theorem down_lt{x:Nat}(y:Nat){n:Nat}(hx:x<B)(h:n≤64):x/2^n+y%2^n*2^(64-n)<B:=by
  have h1:x/2^n<2^(64-n):=by apply Nat.div_lt_of_lt_mul;rw[Nat.mul_comm,←B_pow n h];exact hx
  have h2:y%2^n+1≤2^n:=Nat.mod_lt _ (Nat.pow_pos (by omega));have h3:=Nat.mul_le_mul_right (2^(64-n)) h2;rw[Nat.add_mul,Nat.mul_comm (2^n) (2^(64-n)),←B_pow n h] at h3;omega
set_option maxRecDepth 100000 in set_option maxHeartbeats 1000000 in theorem moveUp_any(g o len c n:Nat)(w:World)(hlen:len+1≤9000000000)(hn:n<64)(f:Nat→Nat)(hf:Held w g o (len+1) f):Calls Tryz.prog 192 #[.slice (some ⟨g,o,none⟩) (len+1:Nat) c,.int .i64 n] w fun e w'=>e= .returned (.tuple #[])∧∃f',Held w' g o (len+1) f'∧Turn g o (len+1) w w'∧f' 0=f 0*2^n%B∧∀j,j<len→f' (j+1)=f (j+1)*2^n%B+f j*2^n/B:=by
  have HF:=Lib.hid hf;clear hf;go_enter Tryz.func192,Tryz.ntmps192;go_wp2;go_loopw [4] (fun i wr=>∃k:Nat,∃f':Nat→Nat,k≤len∧i= .int .i64 k∧Held wr g o (len+1) f'∧Turn g o (len+1) w wr∧(∀j,j≤k→f' j=f j)∧∀j,k<j+1→j<len→f' (j+1)=f (j+1)*2^n%B+f j*2^n/B) (fun i _=>(intOf i).toNat);case atStart=>exact⟨len,f,Nat.le_refl _,by go_num,HF.out,Turn.refl _ _ _ _,fun _ _=>rfl,fun j h1 h2=>by omega⟩
  case round=>obtain⟨k,f',hk,rfl,hfr,htr,hs,hd⟩:=hrel;have HFR:=Lib.hid hfr;have HTR:=Lib.hid htr;have HS:=Lib.hid hs;have HD:=Lib.hid hd;clear hfr htr hs hd;cases k with
    |zero=>
      obtain⟨hac,haf,haB⟩:=HFR.out 0 (by omega);simp only[Nat.add_zero] at hac haf;rw[HS.out 0 (Nat.le_refl _)] at hac haB;have HAB:=Lib.hid haB;clear haB;go_wp2;go_end0;rw[shlW];refine⟨rfl,upd f' 0 (f 0*2^n%B),?_,HTR.out.setCell (by omega) (by omega) _,upd_same _ _ _,?_⟩;·have:=HFR.out.setCell (k:=0) (mod_lt (f 0*2^n)) (by omega);simpa using this
      ·intro j hj;rw[upd_other _ _ _ (by omega)];exact HD.out j (by omega) hj|succ k=>
      obtain⟨hac,haf,haB⟩:=HFR.out (k+1) (by omega);obtain⟨hbc,hbf,hbB⟩:=HFR.out k (by omega);rw[HS.out _ (by omega)] at hac haB hbc hbB;have HAB:=Lib.hid haB;have HBB:=Lib.hid hbB;clear haB hbB hbf;have hk1:IntKind.i64.wrap (((k+1:Nat):Int)-1)=(k:Int):=by rw[IntWalk.i64_in _ (by omega)];omega
      go_wp2;have hac2:wr.drew.cell? ⟨g,o+(k+1),none⟩=_:=hac;have hbc2:wr.drew.cell? ⟨g,o+k,none⟩=_:=hbc;have haf2:wr.drew.frozen? ⟨g,o+(k+1),none⟩=_:=haf;have HFR2:Hid (Held wr.drew g o (len+1) f'):=HFR;have HTR2:Hid (Turn g o (len+1) w wr.drew):=HTR.out.drew;clear HFR HTR hac hbc haf;refine wp_region_still_tail 18 (by kernel_rfl) (by kernel_rfl) ?_;show wpStill _ _ wr.drew (fun a'=>wpList _ _ _ _ a' wr.drew) _ _;generalize wr.drew=w2 at hac2 hbc2 haf2 HFR2 HTR2⊢;simp only[List.take_succ_cons,List.take_zero,List.drop_succ_cons,List.drop_zero];have b1:(0:Int)≤(k:Int)+1:=by omega
      have b2:k<len:=by omega
      have b3:k<len+1:=by omega
      have b4:(k:Int)<(len:Int)+1:=by omega
      have b5:(0:Int)≤64-(n:Int):=by omega
      have b6:IntKind.i64.wrap (k:Int)=(k:Int):=IntWalk.i64_in _ (by omega);have b7:IntKind.i64.wrap (64-(n:Int))=64-(n:Int):=IntWalk.i64_in _ (by omega);repeat still_step
      refine wpStill_nil ?_;go_wp2;rw[orU _ _ _ HBB.out (by omega)];refine⟨⟨k,upd f' (k+1) (f (k+1)*2^n%B+f k*2^n/B),by omega,rfl,HFR2.out.setCell (up_lt _ HBB.out (by omega)) (by omega),HTR2.out.setCell (by omega) (by omega) _,?_,?_⟩,by simp[intOf]⟩;·intro j hj;rw[upd_other _ _ _ (by omega)];exact HS.out j (by omega)
      · intro j h1 h2;by_cases e:j=k;·rw[e,upd_same]
        ·rw[upd_other _ _ _ (by omega)];exact HD.out j (by omega) h2
set_option maxRecDepth 100000 in set_option maxHeartbeats 1000000 in theorem moveDown_any(g o len c n:Nat)(w:World)(hlen:len+1≤9000000000)(hn:n<64)(f:Nat→Nat)(hf:Held w g o (len+1) f):Calls Tryz.prog 194 #[.slice (some ⟨g,o,none⟩) (len+1:Nat) c,.int .i64 n] w fun e w'=>e= .returned (.tuple #[])∧∃f',Held w' g o (len+1) f'∧Turn g o (len+1) w w'∧f' len=f len/2^n∧∀j,j<len→f' j=f j/2^n+f (j+1)%2^n*2^(64-n):=by
  have HF:=Lib.hid hf;clear hf;go_enter Tryz.func194,Tryz.ntmps194;go_wp2;go_loopw [4] (fun i wr=>∃k:Nat,∃f':Nat→Nat,k≤len∧i= .int .i64 k∧Held wr g o (len+1) f'∧Turn g o (len+1) w wr∧(∀j,k≤j→f' j=f j)∧∀j,j<k→f' j=f j/2^n+f (j+1)%2^n*2^(64-n)) (fun i _=>len-(intOf i).toNat);case atStart=>exact⟨0,f,Nat.zero_le _,by go_num,HF.out,Turn.refl _ _ _ _,fun _ _=>rfl,fun j h=>by omega⟩
  case round=>
    obtain⟨k,f',hk,rfl,hfr,htr,hs,hd⟩:=hrel;have HFR:=Lib.hid hfr;have HTR:=Lib.hid htr;have HS:=Lib.hid hs;have HD:=Lib.hid hd;clear hfr htr hs hd;by_cases hlt:k<len
    · obtain⟨hac,haf,haB⟩:=HFR.out k (by omega);obtain⟨hbc,hbf,hbB⟩:=HFR.out (k+1) (by omega);rw[HS.out _ (by omega)] at hac haB hbc hbB;have HAB:=Lib.hid haB;clear haB hbB hbf;go_wp2;have hac2:wr.drew.cell? ⟨g,o+k,none⟩=_:=hac;have hbc2:wr.drew.cell? ⟨g,o+(k+1),none⟩=_:=hbc;have haf2:wr.drew.frozen? ⟨g,o+k,none⟩=_:=haf;have HFR2:Hid (Held wr.drew g o (len+1) f'):=HFR;have HTR2:Hid (Turn g o (len+1) w wr.drew):=HTR.out.drew;clear HFR HTR hac hbc haf;refine wp_region_still_tail 18 (by kernel_rfl) (by kernel_rfl) ?_;show wpStill _ _ wr.drew (fun a'=>wpList _ _ _ _ a' wr.drew) _ _;generalize wr.drew=w2 at hac2 hbc2 haf2 HFR2 HTR2⊢;simp only[List.take_succ_cons,List.take_zero,List.drop_succ_cons,List.drop_zero];have b1:(0:Int)≤(k:Int)+1:=by omega
      have b3:k<len+1:=by omega
      have b4:(k:Int)<(len:Int)+1:=by omega
      have b5:(0:Int)≤64-(n:Int):=by omega
      have b6:IntKind.i64.wrap ((k:Int)+1)=(k:Int)+1:=IntWalk.i64_in _ (by omega);have b7:IntKind.i64.wrap (64-(n:Int))=64-(n:Int):=IntWalk.i64_in _ (by omega);repeat still_step
      refine wpStill_nil ?_;go_wp2;rw[orD _ _ _ HAB.out (by omega)];refine⟨⟨k+1,upd f' k (f k/2^n+f (k+1)%2^n*2^(64-n)),by omega,by go_num,HFR2.out.setCell (down_lt _ HAB.out (by omega)) (by omega),HTR2.out.setCell (by omega) (by omega) _,?_,?_⟩,by simp[intOf];omega⟩;·intro j hj;rw[upd_other _ _ _ (by omega)];exact HS.out j (by omega)
      · intro j h1;by_cases e:j=k;·rw[e,upd_same]
        ·rw[upd_other _ _ _ (by omega)];exact HD.out j (by omega)
    · have hkl:k=len:=by omega
      subst hkl;obtain⟨hac,haf,haB⟩:=HFR.out k (by omega);rw[HS.out k (Nat.le_refl _)] at hac haB;have HAB:=Lib.hid haB;clear haB;go_wp2;go_end0;rw[divP];refine⟨rfl,upd f' k (f k/2^n),HFR.out.setCell (Nat.lt_of_le_of_lt (Nat.div_le_self _ _) HAB.out) (by omega),HTR.out.setCell (by omega) (by omega) _,upd_same _ _ _,?_⟩;intro j hj;rw[upd_other _ _ _ (by omega)];exact HD.out j hj
theorem bl_V{f:Nat→Nat}{k:Nat}(hf:∀i,i<k→f i<B)(h:f k≠0):bl (V f (k+1))=k*64+bl (f k):=by
  have h1:=V_lt hf;have h2:=bl_lt (f k);have h3:=bl_ge h;have h4:=bl_pos h;have hB:B^k=2^(k*64):=by rw[Bpow_two,Nat.mul_comm]
  rw[hB] at h1;rw[V_succ,hB];apply bl_unique
  · rw[Nat.pow_add];have h5:=Nat.mul_le_mul_right (2^(k*64)) (show f k+1≤2^bl (f k) from h2);rw[Nat.add_mul] at h5;rw[Nat.mul_comm (2^(k*64)) (2^bl (f k))];omega
  · intro h0;have:=Nat.mul_pos (show 0<f k by omega) (Nat.pow_pos (n:=k*64) (show 0<2 by omega));omega
  · intro _;refine⟨?_,by omega⟩;rw[show k*64+bl (f k)-1=bl (f k)-1+k*64 from by omega,Nat.pow_add];have:=Nat.mul_le_mul_right (2^(k*64)) h3;omega
set_option maxHeartbeats 1000000 in theorem Len_any(va:Value)(L X:Nat)(w:World)(hL:L≤4000000000)(ha:Mag w va L X):Calls Tryz.prog 114 #[va] w fun e w'=>e= .returned (.int .i64 ((bl X:Nat):Int))∧w=w':=by
  obtain⟨ao,n0,ca,f,rfl,hnc,hnL,hra,hX⟩:=ha;have htn:=tlen_le f n0;have rf:=tlen_right f n0;rw[←tlen_V] at hX;have hra':=hra.less htn;have T1:=Lib.hid (trim_any ao n0 ca w (by omega) f hnc hra);obtain⟨n,hn⟩:∃n,tlen f n0=n:=⟨_,rfl⟩;rw[hn] at T1 hX htn hra' rf;have hn9:n≤4000000000:=by omega
  have HX:=Lib.hid hX;have HA:=Lib.hid hra';have HR:=Lib.hid rf;clear hX hra' hn hra rf;cases n with
  |zero=>
    have h0:bl X=0:=by rw[←HX.out];rfl
    have H0:=Lib.hid h0;clear h0;go_enter Tryz.func114,Tryz.ntmps114;go_wp2_with fail;refine T1.out.mono ?_;rintro e w1 ⟨rfl,rfl⟩;go_wp2;go_ret;exact⟨by rw[H0.out];rfl,rfl⟩|succ k=>
    have h0:bl X=k*64+bl (f k):=by rw[←HX.out];exact bl_V (fun i hi=>HA.out.lt i (by omega)) (HR.out k rfl)
    obtain⟨ab,aoff,rfl,hc,hl⟩:=HA.out k (by omega);have hb64:bl (f k)≤64:=by
      have h1:=bl_ge (HR.out k rfl);have h2:=(Nat.pow_lt_pow_iff_right (show 1<2 by omega)).1 (show 2^(bl (f k)-1)<2^64 by unfold B at hl;omega);omega
    have H0:=Lib.hid h0;have HL:=Lib.hid hl;clear h0 hl;have hne:(((k:Int)+1)==0)=false:=by simp only[beq_eq_false_iff_ne];omega
    go_enter Tryz.func114,Tryz.ntmps114;go_wp2_with fail;refine T1.out.mono ?_;rintro e w1 ⟨rfl,rfl⟩;go_wp2_with (go_at_call 152;refine(len64_any _ _ HL.out).mono ?_;rintro e w1 ⟨rfl,rfl⟩);go_ret;refine⟨ret1 (k:= .i64) ?_,rfl⟩;rw[H0.out];go_arith
end Go.Proofs.YtammmemfkpcpcaaGreat
namespace Go.MagM
def H:Nat:=4294967296
structure Half(y1 y0 un u1 q1 rh:Nat):Prop where
  b0:y0<H
  b1:u1<H
  b2:y1<H
  lt:un<y1*H+y0
  sum:q1*y1+rh=un
  ge:(un*H+u1)/(y1*H+y0)≤q1
theorem half_mul(q1 y1 y0:Nat):q1*(y1*H+y0)=q1*y1*H+q1*y0:=by rw[Nat.mul_add,Nat.mul_assoc]
theorem Half.quot_lt{y1 y0 un u1 q1 rh:Nat}(h:Half y1 y0 un u1 q1 rh):(un*H+u1)/(y1*H+y0)<H:=by apply Nat.div_lt_of_lt_mul;have h1:=Nat.mul_le_mul_right H (show un+1≤y1*H+y0 from h.lt);have:=h.b1;rw[Nat.add_mul] at h1;omega
theorem Half.start{y1 y0 un u1:Nat}(h0:y0<H)(h1:u1<H)(h2:y1<H)(h3:0<y1)(hl:un<y1*H+y0):Half y1 y0 un u1 (un/y1) (un%y1):=by
  refine⟨h0,h1,h2,hl,by have:=Nat.div_add_mod un y1;rw[Nat.mul_comm] at this;exact this,?_⟩;have e:un/y1=(un*H+u1)/(y1*H):=by rw[Nat.mul_comm y1 H,←Nat.div_div_eq_div_mul,Nat.mul_comm un H,Nat.mul_add_div (by unfold H;omega),Nat.div_eq_of_lt h1,Nat.add_zero]
  rw[e];exact Nat.div_le_div_left (by omega) (Nat.mul_pos h3 (by unfold H;omega))
theorem Half.next{y1 y0 un u1 q1 rh:Nat}(h:Half y1 y0 un u1 q1 rh)(hc:H≤q1∨rh*H+u1<q1*y0):1≤q1∧Half y1 y0 un u1 (q1-1) (rh+y1):=by
  have hq:(un*H+u1)/(y1*H+y0)<q1:=by
    rcases hc with hc|hc;·have:=h.quot_lt;omega
    · have hy:0<y1*H+y0:=by have:=h.lt;omega
      rw[Nat.div_lt_iff_lt_mul hy,half_mul];have h1:q1*y1*H+rh*H=un*H:=by rw[←Nat.add_mul,h.sum]
      omega
  have h1:1≤q1:=Nat.lt_of_le_of_lt (Nat.zero_le _) hq;refine⟨h1,h.b0,h.b1,h.b2,h.lt,?_,Nat.le_sub_one_of_lt hq⟩;have e:(q1-1)*y1+y1=q1*y1:=by
    obtain⟨d,rfl⟩:∃d,q1=d+1:=⟨q1-1,by omega⟩;rw[Nat.add_mul];simp
  have:=h.sum;omega
theorem Half.done{y1 y0 un u1 q1 rh:Nat}(h:Half y1 y0 un u1 q1 rh)(hc:H≤rh∨(q1<H∧q1*y0≤rh*H+u1)):q1=(un*H+u1)/(y1*H+y0):=by
  apply Nat.le_antisymm _ h.ge;have hy:0<y1*H+y0:=by have:=h.lt;omega
  rw[Nat.le_div_iff_mul_le hy,half_mul];have h1:q1*y1*H+rh*H=un*H:=by rw[←Nat.add_mul,h.sum]
  rcases hc with hc|hc
  · have hq:q1<H:=by
      rcases Nat.lt_or_ge q1 H with a|a;·exact a
      · exfalso;have h2:=Nat.mul_le_mul_right y1 a;have h3:=h.sum;have h4:=h.lt;have h5:=h.b0;rw[Nat.mul_comm H y1] at h2;omega
    have h2:=Nat.mul_le_mul_right H hc;have h3:=Nat.mul_le_mul (show q1≤H by omega) (show y0≤H by have:=h.b0;omega);omega
  ·omega
theorem halves{un u1 u0 y q1 q0:Nat}(hq1:q1=(un*H+u1)/y)(hq0:q0=((un*H+u1)%y*H+u0)/y)(hy:0<y):(un*(H*H)+u1*H+u0)/y=q1*H+q0∧(un*(H*H)+u1*H+u0)%y=((un*H+u1)%y*H+u0)%y:=by
  have e1:=Nat.div_add_mod (un*H+u1) y;have e0:=Nat.div_add_mod ((un*H+u1)%y*H+u0) y;rw[←hq1] at e1;rw[←hq0] at e0;have e2:(y*q1+(un*H+u1)%y)*H=(un*H+u1)*H:=by rw[e1]
  rw[Nat.add_mul,Nat.add_mul] at e2;have e3:un*(H*H)+u1*H+u0=((un*H+u1)%y*H+u0)%y+y*(q1*H+q0):=by rw[Nat.mul_add,←Nat.mul_assoc y q1 H,←Nat.mul_assoc un H H];omega
  rw[e3];have hlt:((un*H+u1)%y*H+u0)%y<y:=Nat.mod_lt _ hy;constructor;·rw[Nat.add_mul_div_left _ _ hy,Nat.div_eq_of_lt hlt,Nat.zero_add]
  ·rw[Nat.add_mul_mod_self_left,Nat.mod_mod]
theorem half_quot_lt{un u1 y:Nat}(hu:u1<H)(h:un<y):(un*H+u1)/y<H:=by apply Nat.div_lt_of_lt_mul;have h1:=Nat.mul_le_mul_right H (show un+1≤y from h);rw[Nat.add_mul] at h1;omega
theorem HH_eq:H*H=B:=rfl
theorem div64_up{hi lo y s un un1 un0 y':Nat}(_hs:s≤64)(hy:0<y)(hy':y'=y*2^s)(hun:un=hi*2^s+lo*2^s/B)(hu:un1*H+un0=lo*2^s%B):(un*H+un1)/y'*H+((un*H+un1)%y'*H+un0)/y'=(hi*B+lo)/y∧((un*H+un1)%y'*H+un0)%y'/2^s=(hi*B+lo)%y:=by
  have hp:0<2^s:=Nat.pow_pos (by omega);have hy2:0<y':=by rw[hy'];exact Nat.mul_pos hy hp
  obtain⟨a,b⟩:=halves (un:=un) (u1:=un1) (u0:=un0) (y:=y') rfl rfl hy2;have e:un*(H*H)+un1*H+un0=(hi*B+lo)*2^s:=by
    have h1:=Nat.div_add_mod (lo*2^s) B;have h2:hi*B*2^s=hi*2^s*B:=by rw[Nat.mul_right_comm]
    rw[HH_eq,hun,Nat.add_mul,Nat.add_mul,h2,Nat.mul_comm (lo*2^s/B) B];omega
  rw[←a,←b,e,hy'];exact⟨Nat.mul_div_mul_right _ _ hp,by rw[Nat.mul_mod_mul_right,Nat.mul_div_cancel _ hp]⟩
end Go.MagM
