import Derived.Test.YtammmemfkpcpcaaGreatPartf
import Derived.Deep.DeepCutAuto
import Derived.Deep.CutBlock
import Derived.Test.YtammmemfkpcpcaaGreatKit
set_option linter.unusedSimpArgs false
set_option linter.unusedVariables false
namespace Go.Proofs.YtammmemfkpcpcaaGreat
open Go.RowKit Go.MagM
theorem div64_low(lo y:Nat)(w:World)(hlo:lo<B)(h0:0<y):Calls Tryz.prog 191 #[.int .u64 0,.int .u64 lo,.int .u64 y] w fun e w'=>e= .returned (.tuple #[.int .u64 ((lo/y:Nat):Int),.int .u64 ((lo%y:Nat):Int)])∧Hid (∃q,w'=w.drewN q):=by
  have hy0:((y:Int)==0)=false:=by simp only[beq_eq_false_iff_ne];omega
  have hy1:¬(y:Int)≤0:=by omega
  have e1:IntKind.u64.wrap ((lo:Int)/(y:Int))=((lo/y:Nat):Int):=by rw[←Int.natCast_ediv];exact wrapS _ (Nat.lt_of_le_of_lt (Nat.div_le_self _ _) hlo)
  go_enter Tryz.func191,Tryz.ntmps191;go_wp2;go_quiet (fail);go_wp2;go_ret2;exact⟨ret2 (k:= .u64) (k':= .u64) (by simp) (by simp),⟨nq,rfl⟩⟩
set_option maxHeartbeats 4000000 in theorem div64_high(s y y' yn1 yn0 hi lo un un10 un1 un0:Nat)(w:World)(_hlo:lo<B)(hy:y<B)(h0:0<hi)(hhi:hi<y)(hs64:s<64)(hlead:64-bl y=s)(e1:IntKind.u64.wrap ((y:Int)*2^s)=(y':Int))(e2:(y':Int)/4294967296=(yn1:Int))(e3:bits .and .u64 (y':Int) 4294967295=(yn0:Int))(e4:bits .or .u64 (IntKind.u64.wrap ((hi:Int)*2^s)) ((lo:Int)/2^(64-s))=(un:Int))(e5:IntKind.u64.wrap ((lo:Int)*2^s)=(un10:Int))(e6:(un10:Int)/4294967296=(un1:Int))(e7:bits .and .u64 (un10:Int) 4294967295=(un0:Int))(hyn1:0<yn1)(hb0:yn0<H)(hb1:un1<H)(hb2:yn1<H)(hlt:un<yn1*H+yn0)(hunB:un<B)(hb3:un0<H)(HYY:Hid (yn1*H+yn0=y'))(hyB:y'<B):Calls Tryz.prog 191 #[.int .u64 hi,.int .u64 lo,.int .u64 y] w fun e w'=>e= .returned (.tuple #[.int .u64 (((un*H+un1)/y'*H+((un*H+un1)%y'*H+un0)/y':Nat):Int),.int .u64 ((((un*H+un1)%y'*H+un0)%y'/2^s:Nat):Int)])∧w=w':=by
  have hy0:((y:Int)==0)=false:=by simp only[beq_eq_false_iff_ne];omega
  have hy1:¬(y:Int)≤(hi:Int):=by omega
  have hh0:((hi:Int)==0)=false:=by simp only[beq_eq_false_iff_ne];omega
  have hw64:IntKind.u64.wrap (64-(s:Int))=64-(s:Int):=IntWalk.u64_in _ (by omega);have hz1:¬(yn1:Int)=0:=by omega
  have e8:(un:Int)/(yn1:Int)=((un/yn1:Nat):Int):=(Int.natCast_ediv _ _).symm;obtain⟨qa,hqa⟩:∃qa,un/yn1=qa:=⟨_,rfl⟩;have hqaB:qa<B:=by rw[←hqa];exact Nat.lt_of_le_of_lt (Nat.div_le_self _ _) hunB
  rw[hqa] at e8;have eqa:IntKind.u64.wrap (qa:Int)=(qa:Int):=wrapS _ hqaB;have e9:IntKind.u64.wrap ((un:Int)-IntKind.u64.wrap ((qa:Int)*(yn1:Int)))=((un%yn1:Nat):Int):=by
    have h1:=Nat.div_add_mod un yn1;rw[hqa,Nat.mul_comm] at h1;rw[mulN,wrapS _ (by omega)];rw[show((un:Int)-((qa*yn1:Nat):Int))=((un%yn1:Nat):Int) by omega];exact wrapS _ (by omega)
  have hs0:=Half.start (y1:=yn1) (y0:=yn0) (un:=un) (u1:=un1) hb0 hb1 hb2 hyn1 hlt;rw[hqa] at hs0;obtain⟨ra,hra⟩:∃ra,un%yn1=ra:=⟨_,rfl⟩;rw[hra] at e9 hs0;have hraH:ra<H:=by have:=Nat.mod_lt un hyn1;omega
  have HS0:=Lib.hid hs0;have HL:=Lib.hid hlead;have HY:=Lib.hid hy;clear hlead hy hqa hra hs0;go_enter Tryz.func191,Tryz.ntmps191;go_upto_block 0 with(go_at_call 187;refine(lead64_any _ _ HY.out).mono ?_;rintro e w1 ⟨rfl,rfl⟩;rw[HL.out]);go_cut [15,16] (fun a b wx=>∃q1 rh:Nat,a= .int .u64 q1∧b= .int .u64 rh∧Hid (q1=(un*H+un1)/(yn1*H+yn0))∧wx=w);case first=>
    go_wp2;go_loop [15,16] (fun a b=>∃q1 rh:Nat,Half yn1 yn0 un un1 q1 rh∧q1<B∧rh<H∧a= .int .u64 q1∧b= .int .u64 rh) (fun a _=>(intOf a).toNat);case atStart=>exact⟨_,_,HS0.out,by assumption,by assumption,rfl,rfl⟩
    case round=>
      obtain⟨q1,rh,hhalf,hq1B,hrh,rfl,rfl⟩:=hrel;have hm3:IntKind.u64.wrap (4294967296*(rh:Int))=4294967296*(rh:Int):=by rw[IntKind.wrap_u64];unfold H at hrh;omega
      have hb1:=hhalf.b1;have hm2:IntKind.u64.wrap (4294967296*(rh:Int)+(un1:Int))=4294967296*(rh:Int)+(un1:Int):=by rw[IntKind.wrap_u64];unfold H at hrh hb1;omega
      by_cases hc1:H≤q1
      · obtain⟨h1,hnx⟩:=hhalf.next (.inl hc1);have t1:(4294967296:Int)≤(q1:Int):=by unfold H at hc1;omega
        obtain⟨qm,hqm⟩:∃qm,q1-1=qm:=⟨_,rfl⟩;obtain⟨rn,hrn⟩:∃rn,rh+yn1=rn:=⟨_,rfl⟩;rw[hqm,hrn] at hnx;have t2:IntKind.u64.wrap ((q1:Int)-1)=(qm:Int):=by rw[IntKind.wrap_u64];unfold B at hq1B;omega
        have hb2:=hhalf.b2;have t3:IntKind.u64.wrap ((rh:Int)+(yn1:Int))=(rn:Int):=by rw[IntKind.wrap_u64];unfold H at hrh hb2;omega
        have hqB:qm<B:=by omega
        have hless:qm<q1:=by omega
        have HNX:=Lib.hid hnx;clear hnx hhalf hqm hrn hc1 hb1 hb2;by_cases hrb:H≤rn
        · have t4:(4294967296:Int)≤(rn:Int):=by unfold H at hrb;omega
          have hfin:=HNX.out.done (.inl hrb);have HFIN:=Lib.hid hfin;clear hfin hrb;go_wp2;go_meet;exact⟨qm,rn,rfl,rfl,HFIN,rfl⟩
        · have t4:¬(4294967296:Int)≤(rn:Int):=by unfold H at hrb;omega
          have hrnH:rn<H:=by omega
          clear hrb;go_wp2;exact⟨⟨qm,rn,HNX.out,hqB,hrnH,rfl,rfl⟩,by simp[intOf];omega⟩
      · have t1:¬(4294967296:Int)≤(q1:Int):=by unfold H at hc1;omega
        obtain⟨m1,hm1⟩:∃m1,q1*yn0=m1:=⟨_,rfl⟩;have hm1B:m1<B:=by
          have hb0:=hhalf.b0;have:=Nat.mul_le_mul (show q1≤4294967295 by unfold H at hc1;omega) (show yn0≤4294967295 by unfold H at hb0;omega);rw[hm1] at this;unfold B;omega
        have t5:IntKind.u64.wrap ((q1:Int)*(yn0:Int))=(m1:Int):=by rw[mulN,hm1];exact wrapS _ hm1B
        by_cases hc2:rh*H+un1<q1*yn0
        · obtain⟨h1,hnx⟩:=hhalf.next (.inr hc2);obtain⟨qm,hqm⟩:∃qm,q1-1=qm:=⟨_,rfl⟩;obtain⟨rn,hrn⟩:∃rn,rh+yn1=rn:=⟨_,rfl⟩;rw[hqm,hrn] at hnx;rw[hm1] at hc2;have t6:4294967296*(rh:Int)+(un1:Int)<(m1:Int):=by unfold H at hc2;omega
          have t2:IntKind.u64.wrap ((q1:Int)-1)=(qm:Int):=by rw[IntKind.wrap_u64];unfold B at hq1B;omega
          have hb2:=hhalf.b2;have t3:IntKind.u64.wrap ((rh:Int)+(yn1:Int))=(rn:Int):=by rw[IntKind.wrap_u64];unfold H at hrh hb2;omega
          have hqB:qm<B:=by omega
          have hless:qm<q1:=by omega
          have HNX:=Lib.hid hnx;clear hnx hhalf hqm hrn hc1 hb1 hb2 hm1 hc2;by_cases hrb:H≤rn
          · have t4:(4294967296:Int)≤(rn:Int):=by unfold H at hrb;omega
            have hfin:=HNX.out.done (.inl hrb);have HFIN:=Lib.hid hfin;clear hfin hrb;go_wp2;go_meet;exact⟨qm,rn,rfl,rfl,HFIN,rfl⟩
          · have t4:¬(4294967296:Int)≤(rn:Int):=by unfold H at hrb;omega
            have hrnH:rn<H:=by omega
            clear hrb;go_wp2;exact⟨⟨qm,rn,HNX.out,hqB,hrnH,rfl,rfl⟩,by simp[intOf];omega⟩
        · have hfin:=hhalf.done (.inr ⟨by omega,by omega⟩);rw[hm1] at hc2;have t6:¬(4294967296*(rh:Int)+(un1:Int)<(m1:Int)):=by unfold H at hc2;omega
          have HFIN:=Lib.hid hfin;clear hfin hhalf hc1 hb1 hm1 hc2;go_wp2;go_meet;exact⟨q1,rh,rfl,rfl,HFIN,rfl⟩
  case rest=>
    obtain⟨q1,rh,rfl,rfl,HQ,rfl⟩:=hcut;have hyp:0<y':=by rw[←HYY.out];omega
    have hq1:q1=(un*H+un1)/y':=by rw[←HYY.out];exact HQ.out
    obtain⟨u21,hu21⟩:∃u21,(un*H+un1)%y'=u21:=⟨_,rfl⟩;have hu21lt:u21<y':=by rw[←hu21];exact Nat.mod_lt _ hyp
    have hdm:=Nat.div_add_mod (un*H+un1) y';rw[←hq1,hu21,Nat.mul_comm] at hdm;obtain⟨A1,hA1⟩:∃A1,un*H%B=A1:=⟨_,rfl⟩;obtain⟨A2,hA2⟩:∃A2,(A1+un1)%B=A2:=⟨_,rfl⟩;obtain⟨A3,hA3⟩:∃A3,q1*y'%B=A3:=⟨_,rfl⟩;have f1:IntKind.u64.wrap ((un:Int)*4294967296)=(A1:Int):=by rw[show((un:Int)*4294967296)=((un*H:Nat):Int) by unfold H;omega,wrapN,hA1]
    have f2:IntKind.u64.wrap ((A1:Int)+(un1:Int))=(A2:Int):=by rw[addN,wrapN,hA2]
    have f3:IntKind.u64.wrap ((q1:Int)*(y':Int))=(A3:Int):=by rw[mulN,wrapN,hA3]
    have f4:IntKind.u64.wrap ((A2:Int)-(A3:Int))=(u21:Int):=by
      generalize un*H=p at*;generalize q1*y'=r at*;rw[IntKind.wrap_u64];unfold B at*;omega
    have f5:(u21:Int)/(yn1:Int)=((u21/yn1:Nat):Int):=(Int.natCast_ediv _ _).symm;have hlt2:u21<yn1*H+yn0:=by rw[HYY.out];exact hu21lt
    have hs1:=Half.start (y1:=yn1) (y0:=yn0) (un:=u21) (u1:=un0) hb0 hb3 hb2 hyn1 hlt2;obtain⟨qb,hqb⟩:∃qb,u21/yn1=qb:=⟨_,rfl⟩;have hqbB:qb<B:=by rw[←hqb];exact Nat.lt_of_le_of_lt (Nat.div_le_self _ _) (by omega)
    obtain⟨rb,hrb⟩:∃rb,u21%yn1=rb:=⟨_,rfl⟩;have hrbH:rb<H:=by have:=Nat.mod_lt u21 hyn1;omega
    have h1:=Nat.div_add_mod u21 yn1;rw[hqb,hrb,Nat.mul_comm] at h1;rw[hqb] at f5;rw[hqb,hrb] at hs1;have f6:IntKind.u64.wrap (qb:Int)=(qb:Int):=wrapS _ hqbB;have f7:IntKind.u64.wrap ((u21:Int)-IntKind.u64.wrap ((qb:Int)*(yn1:Int)))=(rb:Int):=by rw[mulN,wrapS _ (by omega)];rw[show((u21:Int)-((qb*yn1:Nat):Int))=(rb:Int) by omega];exact wrapS _ (by omega)
    have HS1:=Lib.hid hs1;have HQ1:=Lib.hid hq1;have HU:=Lib.hid hu21;clear hq1 hu21 hdm hA1 hA2 hA3 hqb hrb h1 hs1 HS0 e8 eqa e9;go_upto_block 2 with fail;go_cut [18,16] (fun a b wx=>∃q0 rh:Nat,a= .int .u64 q0∧b= .int .u64 rh∧Hid (q0=(u21*H+un0)/(yn1*H+yn0))∧wx=wc);case first=>
      go_wp2;go_loop [18,16] (fun a b=>∃q1 rh:Nat,Half yn1 yn0 u21 un0 q1 rh∧q1<B∧rh<H∧a= .int .u64 q1∧b= .int .u64 rh) (fun a _=>(intOf a).toNat);case atStart=>exact⟨qb,rb,HS1.out,hqbB,hrbH,rfl,rfl⟩
      case round=>
        obtain⟨q1,rh,hhalf,hq1B,hrh,rfl,rfl⟩:=hrel;have hm3:IntKind.u64.wrap (4294967296*(rh:Int))=4294967296*(rh:Int):=by rw[IntKind.wrap_u64];unfold H at hrh;omega
        have hb1:=hhalf.b1;have hm2:IntKind.u64.wrap (4294967296*(rh:Int)+(un0:Int))=4294967296*(rh:Int)+(un0:Int):=by rw[IntKind.wrap_u64];unfold H at hrh hb1;omega
        by_cases hc1:H≤q1
        · obtain⟨h1,hnx⟩:=hhalf.next (.inl hc1);have t1:(4294967296:Int)≤(q1:Int):=by unfold H at hc1;omega
          obtain⟨qm,hqm⟩:∃qm,q1-1=qm:=⟨_,rfl⟩;obtain⟨rn,hrn⟩:∃rn,rh+yn1=rn:=⟨_,rfl⟩;rw[hqm,hrn] at hnx;have t2:IntKind.u64.wrap ((q1:Int)-1)=(qm:Int):=by rw[IntKind.wrap_u64];unfold B at hq1B;omega
          have hb2:=hhalf.b2;have t3:IntKind.u64.wrap ((rh:Int)+(yn1:Int))=(rn:Int):=by rw[IntKind.wrap_u64];unfold H at hrh hb2;omega
          have hqB:qm<B:=by omega
          have hless:qm<q1:=by omega
          have HNX:=Lib.hid hnx;clear hnx hhalf hqm hrn hc1 hb1 hb2;by_cases hrb:H≤rn
          · have t4:(4294967296:Int)≤(rn:Int):=by unfold H at hrb;omega
            have hfin:=HNX.out.done (.inl hrb);have HFIN:=Lib.hid hfin;clear hfin hrb;go_wp2;go_meet;exact⟨qm,rn,rfl,rfl,HFIN,rfl⟩
          · have t4:¬(4294967296:Int)≤(rn:Int):=by unfold H at hrb;omega
            have hrnH:rn<H:=by omega
            clear hrb;go_wp2;exact⟨⟨qm,rn,HNX.out,hqB,hrnH,rfl,rfl⟩,by simp[intOf];omega⟩
        · have t1:¬(4294967296:Int)≤(q1:Int):=by unfold H at hc1;omega
          obtain⟨m1,hm1⟩:∃m1,q1*yn0=m1:=⟨_,rfl⟩;have hm1B:m1<B:=by
            have hb0:=hhalf.b0;have:=Nat.mul_le_mul (show q1≤4294967295 by unfold H at hc1;omega) (show yn0≤4294967295 by unfold H at hb0;omega);rw[hm1] at this;unfold B;omega
          have t5:IntKind.u64.wrap ((q1:Int)*(yn0:Int))=(m1:Int):=by rw[mulN,hm1];exact wrapS _ hm1B
          by_cases hc2:rh*H+un0<q1*yn0
          · obtain⟨h1,hnx⟩:=hhalf.next (.inr hc2);obtain⟨qm,hqm⟩:∃qm,q1-1=qm:=⟨_,rfl⟩;obtain⟨rn,hrn⟩:∃rn,rh+yn1=rn:=⟨_,rfl⟩;rw[hqm,hrn] at hnx;rw[hm1] at hc2;have t6:4294967296*(rh:Int)+(un0:Int)<(m1:Int):=by unfold H at hc2;omega
            have t2:IntKind.u64.wrap ((q1:Int)-1)=(qm:Int):=by rw[IntKind.wrap_u64];unfold B at hq1B;omega
            have hb2:=hhalf.b2;have t3:IntKind.u64.wrap ((rh:Int)+(yn1:Int))=(rn:Int):=by rw[IntKind.wrap_u64];unfold H at hrh hb2;omega
            have hqB:qm<B:=by omega
            have hless:qm<q1:=by omega
            have HNX:=Lib.hid hnx;clear hnx hhalf hqm hrn hc1 hb1 hb2 hm1 hc2;by_cases hrb:H≤rn
            · have t4:(4294967296:Int)≤(rn:Int):=by unfold H at hrb;omega
              have hfin:=HNX.out.done (.inl hrb);have HFIN:=Lib.hid hfin;clear hfin hrb;go_wp2;go_meet;exact⟨qm,rn,rfl,rfl,HFIN,rfl⟩
            · have t4:¬(4294967296:Int)≤(rn:Int):=by unfold H at hrb;omega
              have hrnH:rn<H:=by omega
              clear hrb;go_wp2;exact⟨⟨qm,rn,HNX.out,hqB,hrnH,rfl,rfl⟩,by simp[intOf];omega⟩
          · have hfin:=hhalf.done (.inr ⟨by omega,by omega⟩);rw[hm1] at hc2;have t6:¬(4294967296*(rh:Int)+(un0:Int)<(m1:Int)):=by unfold H at hc2;omega
            have HFIN:=Lib.hid hfin;clear hfin hhalf hc1 hb1 hm1 hc2;go_wp2;go_meet;exact⟨q1,rh,rfl,rfl,HFIN,rfl⟩
    case rest=>
      obtain⟨q0,rh,rfl,rfl,HQ0,rfl⟩:=hcut;go_wp2;go_ret2;refine⟨ret2 (k:= .u64) (k':= .u64) ?_ ?_,rfl⟩
      · have hq0:q0=(u21*H+un0)/y':=by rw[←HYY.out];exact HQ0.out
        have b1:q1<H:=by rw[HQ1.out];exact half_quot_lt hb1 (by rw[←HYY.out];exact hlt)
        have b0:q0<H:=by rw[hq0];exact half_quot_lt hb3 hu21lt
        rw[HU.out,←hq0,←HQ1.out,IntKind.wrap_u64,IntKind.wrap_u64];unfold H at*;omega
      · have hq0:q0=(u21*H+un0)/y':=by rw[←HYY.out];exact HQ0.out
        have hdm:=Nat.div_add_mod (u21*H+un0) y';have hml:=Nat.mod_lt (u21*H+un0) hyp;rw[←hq0,Nat.mul_comm] at hdm;rw[HU.out];rw[show IntKind.u64.wrap (IntKind.u64.wrap (IntKind.u64.wrap ((u21:Int)*4294967296)+(un0:Int))-IntKind.u64.wrap ((q0:Int)*(y':Int)))=(((u21*H+un0)%y':Nat):Int) by rw[mulN,show((u21:Int)*4294967296)=((u21*H:Nat):Int) by unfold H;omega];generalize (u21*H+un0)%y'=z at*;generalize u21*H=p at*;generalize q0*y'=r at*;simp only[IntKind.wrap_u64];unfold B at*;omega];exact divP _ _
theorem div64_any(hi lo y:Nat)(w:World)(hlo:lo<B)(hy:y<B)(hhi:hi<y):Calls Tryz.prog 191 #[.int .u64 hi,.int .u64 lo,.int .u64 y] w fun e w'=>e= .returned (.tuple #[.int .u64 (((hi*B+lo)/y:Nat):Int),.int .u64 (((hi*B+lo)%y:Nat):Int)])∧Hid (∃q,w'=w.drewN q):=by
  by_cases h0:hi=0
  · subst h0;rw[Nat.zero_mul,Nat.zero_add];exact div64_low lo y w hlo (by omega)
  · have hyne:y≠0:=by omega
    have hb1:=bl_lt y;have hb2:=bl_ge hyne;have hb3:=bl_pos hyne;have hb4:bl y≤64:=by
      have:=(Nat.pow_lt_pow_iff_right (show 1<2 by omega)).1 (show 2^(bl y-1)<2^64 by unfold B at hy;omega);omega
    obtain⟨s,hs⟩:∃s,64-bl y=s:=⟨_,rfl⟩;have hs64:s<64:=by omega
    have hps:0<2^s:=Nat.pow_pos (by omega);have hyB:y*2^s<B:=by
      have h1:=Nat.mul_lt_mul_of_pos_right hb1 hps;rw[←Nat.pow_add,show bl y+s=64 from by omega] at h1;exact h1
    have hyH:2^63≤y*2^s:=by
      have h1:=Nat.mul_le_mul_right (2^s) hb2;rw[←Nat.pow_add,show bl y-1+s=63 from by omega] at h1;exact h1
    have hunlt:hi*2^s+lo*2^s/B<y*2^s:=by
      have h1:=shl_div_lt (n:=s) hlo;have h2:=Nat.mul_le_mul_right (2^s) (show hi+1≤y from hhi);rw[Nat.add_mul] at h2;omega
    have hun:hi*2^s%B+lo*2^s/B=hi*2^s+lo*2^s/B:=by rw[Nat.mod_eq_of_lt (Nat.lt_of_le_of_lt (Nat.le_add_right _ _) (Nat.lt_trans hunlt hyB))]
    obtain⟨y',hy'⟩:∃y',y*2^s=y':=⟨_,rfl⟩;obtain⟨un,hune⟩:∃un,hi*2^s+lo*2^s/B=un:=⟨_,rfl⟩;obtain⟨un10,hun10⟩:∃un10,lo*2^s%B=un10:=⟨_,rfl⟩;have hun10B:un10<B:=by rw[←hun10];exact mod_lt _
    rw[hy'] at hyB hyH hunlt;rw[hune] at hunlt hun;have key:=div64_high s y y' (y'/4294967296) (y'%4294967296) hi lo un un10 (un10/4294967296) (un10%4294967296) w hlo hy (by omega) hhi hs64 hs (by rw[shlW,hy',Nat.mod_eq_of_lt hyB]) (divH y') (maskN y' hyB) (by rw[orU _ _ _ hlo (by omega),hun]) (by rw[shlW,hun10]) (divH un10) (maskN un10 hun10B) (by omega) (by unfold H;omega) (by unfold H B at*;omega) (by unfold H B at*;omega) (by unfold H;omega) (by omega) (by unfold H;omega) (Lib.hid (by unfold H;omega)) hyB;obtain⟨r1,r2⟩:=div64_up (hi:=hi) (lo:=lo) (y:=y) (s:=s) (un:=un) (un1:=un10/4294967296) (un0:=un10%4294967296) (y':=y') (by omega) (by omega) hy'.symm hune.symm (by rw[hun10];unfold H;omega);rw[r1,r2] at key;exact key.mono fun e w' h=>⟨h.1,Lib.hid ⟨0,h.2.symm⟩⟩
end Go.Proofs.YtammmemfkpcpcaaGreat
namespace Go.MagM
structure Full(y1 y0 un u1 q1 rh:Nat):Prop where
  b0:y0<B
  b1:u1<B
  b2:y1<B
  lt:un<y1*B+y0
  sum:q1*y1+rh=un
  ge:(un*B+u1)/(y1*B+y0)≤q1
theorem full_mul(q1 y1 y0:Nat):q1*(y1*B+y0)=q1*y1*B+q1*y0:=by rw[Nat.mul_add,Nat.mul_assoc]
theorem Full.quot_lt{y1 y0 un u1 q1 rh:Nat}(h:Full y1 y0 un u1 q1 rh):(un*B+u1)/(y1*B+y0)<B:=by apply Nat.div_lt_of_lt_mul;have h1:=Nat.mul_le_mul_right B (show un+1≤y1*B+y0 from h.lt);have:=h.b1;rw[Nat.add_mul] at h1;omega
theorem Full.start{y1 y0 un u1:Nat}(h0:y0<B)(h1:u1<B)(h2:y1<B)(h3:0<y1)(hl:un<y1*B+y0):Full y1 y0 un u1 (un/y1) (un%y1):=by
  refine⟨h0,h1,h2,hl,by have:=Nat.div_add_mod un y1;rw[Nat.mul_comm] at this;exact this,?_⟩;have e:un/y1=(un*B+u1)/(y1*B):=by rw[Nat.mul_comm y1 B,←Nat.div_div_eq_div_mul,Nat.mul_comm un B,Nat.mul_add_div (by unfold B;omega),Nat.div_eq_of_lt h1,Nat.add_zero]
  rw[e];exact Nat.div_le_div_left (by omega) (Nat.mul_pos h3 (by unfold B;omega))
theorem Full.next{y1 y0 un u1 q1 rh:Nat}(h:Full y1 y0 un u1 q1 rh)(hc:B≤q1∨rh*B+u1<q1*y0):1≤q1∧Full y1 y0 un u1 (q1-1) (rh+y1):=by
  have hq:(un*B+u1)/(y1*B+y0)<q1:=by
    rcases hc with hc|hc;·have:=h.quot_lt;omega
    · have hy:0<y1*B+y0:=by have:=h.lt;omega
      rw[Nat.div_lt_iff_lt_mul hy,full_mul];have h1:q1*y1*B+rh*B=un*B:=by rw[←Nat.add_mul,h.sum]
      omega
  have h1:1≤q1:=Nat.lt_of_le_of_lt (Nat.zero_le _) hq;refine⟨h1,h.b0,h.b1,h.b2,h.lt,?_,Nat.le_sub_one_of_lt hq⟩;have e:(q1-1)*y1+y1=q1*y1:=by
    obtain⟨d,rfl⟩:∃d,q1=d+1:=⟨q1-1,by omega⟩;rw[Nat.add_mul];simp
  have:=h.sum;omega
theorem Full.done{y1 y0 un u1 q1 rh:Nat}(h:Full y1 y0 un u1 q1 rh)(hc:B≤rh∨(q1<B∧q1*y0≤rh*B+u1)):q1=(un*B+u1)/(y1*B+y0):=by
  apply Nat.le_antisymm _ h.ge;have hy:0<y1*B+y0:=by have:=h.lt;omega
  rw[Nat.le_div_iff_mul_le hy,full_mul];have h1:q1*y1*B+rh*B=un*B:=by rw[←Nat.add_mul,h.sum]
  rcases hc with hc|hc
  · have hq:q1<B:=by
      rcases Nat.lt_or_ge q1 B with a|a;·exact a
      · exfalso;have h2:=Nat.mul_le_mul_right y1 a;have h3:=h.sum;have h4:=h.lt;have h5:=h.b0;rw[Nat.mul_comm B y1] at h2;omega
    have h2:=Nat.mul_le_mul_right B hc;have h3:=Nat.mul_le_mul (show q1≤B by omega) (show y0≤B by have:=h.b0;omega);omega
  ·omega
theorem full_quot_lt{un u1 y:Nat}(hu:u1<B)(h:un<y):(un*B+u1)/y<B:=by apply Nat.div_lt_of_lt_mul;have h1:=Nat.mul_le_mul_right B (show un+1≤y from h);rw[Nat.add_mul] at h1;omega
def GoodQ(g U D:Nat):Prop:=U/D≤g∧g≤U/D+1
theorem good_of_quot{T D2 P Ul Dl:Nat}(hP:0<P)(hD:B≤D2)(hU:Ul<P)(hDl:Dl<P)(hg:T/D2<B):GoodQ (T/D2) (T*P+Ul) (D2*P+Dl):=by
  have hD0:0<D2:=by have:=B_pos;omega
  have hDP:0<D2*P:=Nat.mul_pos hD0 hP;constructor
  · have h1:(T*P+Ul)/(D2*P+Dl)≤(T*P+Ul)/(D2*P):=Nat.div_le_div_left (by omega) hDP;have h2:(T*P+Ul)/(D2*P)=T/D2:=by rw[Nat.mul_comm D2 P,←Nat.div_div_eq_div_mul,Nat.mul_comm T P,Nat.mul_add_div hP,Nat.div_eq_of_lt hU,Nat.add_zero]
    omega
  · obtain⟨g,hge⟩:∃g,T/D2=g:=⟨_,rfl⟩;rw[hge] at hg⊢;cases g with|zero=>exact Nat.zero_le _|succ g=>
      have h1:(g+1)*D2≤T:=by rw[←hge];exact Nat.div_mul_le_self T D2
      have h2:=Nat.mul_le_mul_right P h1;have h3:g≤(T*P+Ul)/(D2*P+Dl):=by
        rw[Nat.le_div_iff_mul_le (by omega),Nat.mul_add];have h4:=Nat.mul_le_mul_left g (show Dl≤P by omega);have h5:=Nat.mul_le_mul_right P (show g≤D2 by omega);rw[Nat.add_mul,Nat.add_mul,Nat.one_mul,Nat.mul_assoc] at h2;omega
      omega
theorem good_of_max{x y b c P Ul Dl:Nat}(hP:0<P)(hx:B≤2*x)(hy:y<B)(hDl:Dl<P)(hlt:(x*B*B+b*B+c)*P+Ul<((x*B+y)*P+Dl)*B):GoodQ (B-1) ((x*B*B+b*B+c)*P+Ul) ((x*B+y)*P+Dl):=by
  have hD0:0<(x*B+y)*P+Dl:=by
    have:0<x*B:=Nat.mul_pos (by have:=B_pos;omega) B_pos;have:=Nat.mul_pos (show 0<x*B+y by omega) hP;omega
  constructor
  · have:=(Nat.div_lt_iff_lt_mul hD0).2 (show(x*B*B+b*B+c)*P+Ul<B*((x*B+y)*P+Dl) by rw[Nat.mul_comm B];exact hlt);omega
  · have h:B-2≤((x*B*B+b*B+c)*P+Ul)/((x*B+y)*P+Dl):=by
      rw[Nat.le_div_iff_mul_le hD0];have h1:(B-2)*((x*B+y)*P+Dl)≤(B-2)*((x*B+y+1)*P):=by
        apply Nat.mul_le_mul_left;rw[Nat.add_mul _ 1 P];omega
      have h2:(B-2)*(x*B+y+1)≤x*B*B:=by
        have h3:(B-2)*(x*B+y+1)≤(B-2)*(x*B+B):=Nat.mul_le_mul_left _ (by omega);have h4:(B-2)*(x*B+B)=(B-2)*(x+1)*B:=by rw[Nat.mul_assoc,Nat.add_mul,Nat.one_mul]
        have h5:(B-2)*(x+1)≤x*B:=by rw[Nat.mul_add,Nat.mul_one,Nat.sub_mul,Nat.mul_comm x B];have:2*x≤B*x:=Nat.mul_le_mul_right x (by unfold B;omega);omega
        have h6:=Nat.mul_le_mul_right B h5;omega
      have h7:=Nat.mul_le_mul_right P h2;rw[Nat.mul_assoc] at h7;have h8:x*B*B*P≤(x*B*B+b*B+c)*P:=Nat.mul_le_mul_right P (by omega);omega
    omega
theorem take_low{R0 r D g over F P U:Nat}(hg:GoodQ g U D)(hD:0<D)(hDP:D<P)(hU:U=R0+r*P)(_hF:F<P)(h:F+D*g=R0+over*P)(ho:over≤r):g=U/D∧r=over∧F=U%D:=by
  have e:=Nat.div_add_mod U D;have hl:=Nat.mod_lt U hD;have h1:g≤U/D:=by rw[Nat.le_div_iff_mul_le hD,Nat.mul_comm];have:=Nat.mul_le_mul_right P ho;omega
  have h2:g=U/D:=Nat.le_antisymm h1 hg.1;rw[←h2] at e;have h3:r=over:=by
    rcases Nat.lt_or_ge over r with a|a
    · exfalso;have:=Nat.mul_le_mul_right P (show over+1≤r from a);rw[Nat.add_mul] at this;omega
    ·omega
  subst h3;exact⟨h2,rfl,by omega⟩
theorem take_high{R0 r D g over F F2 cc P U:Nat}(hg:GoodQ g U D)(hD:0<D)(hDP:D<P)(hU:U=R0+r*P)(hF:F<P)(hF2:F2<P)(h:F+D*g=R0+over*P)(ho:r<over)(hcc:cc≤1)(ha:F2+cc*P=F+D):1≤g∧g-1=U/D∧F2=U%D:=by
  have e:=Nat.div_add_mod U D;have hl:=Nat.mod_lt U hD;have h1:U<D*g:=by have:=Nat.mul_le_mul_right P (show r+1≤over from ho);rw[Nat.add_mul] at this;omega
  have h2:U/D<g:=by rw[Nat.div_lt_iff_lt_mul hD,Nat.mul_comm];exact h1
  have h3:g=U/D+1:=by have:=hg.2;omega
  rw[h3,Nat.mul_add,Nat.mul_one] at h;generalize U/D=qq at*;generalize U%D=rr at*;have h4:rr+over*P=F+D+r*P:=by omega
  have h5:over=r+1:=by
    rcases Nat.lt_or_ge (r+1) over with a|a
    · exfalso;have:=Nat.mul_le_mul_right P (show r+2≤over from a);rw[Nat.add_mul] at this;omega
    ·omega
  rw[h5,Nat.add_mul,Nat.one_mul] at h4;have h6:cc=1:=by
    have:cc=0∨cc=1:=by omega
    rcases this with rfl|rfl;·exfalso;omega
    ·rfl
  rw[h6] at ha;exact⟨by omega,by omega,by omega⟩
theorem long_step{A Q D W Lo Pk:Nat}(hD:0<D)(hlo:Lo<Pk)(h:A=Q*(Pk*B)*D+(Lo+Pk*W)):A=(Q*B+W/D)*Pk*D+(Lo+Pk*(W%D))∧Lo+Pk*(W%D)<Pk*D:=by
  have e:=Nat.div_add_mod W D;have hl:=Nat.mod_lt W hD;constructor
  · have h1:Pk*W=Pk*(D*(W/D))+Pk*(W%D):=by rw[←Nat.mul_add,e]
    have h2:(Q*B+W/D)*Pk*D=Q*(Pk*B)*D+Pk*(D*(W/D)):=by
      rw[Nat.add_mul,Nat.add_mul];congr 1;·congr 1;rw[Nat.mul_assoc,Nat.mul_comm B Pk]
      ·rw[Nat.mul_comm (W/D) Pk,Nat.mul_assoc,Nat.mul_comm (W/D) D]
    omega
  · have:=Nat.mul_le_mul_left Pk (show W%D+1≤D from hl);rw[Nat.mul_add] at this;omega
theorem long_end{a b Q R s:Nat}(hb:0<b)(h:a*2^s=Q*(b*2^s)+R)(hR:R<b*2^s):Q=a/b∧R/2^s=a%b:=by
  have hp:0<2^s:=Nat.pow_pos (by omega);have hbs:0<b*2^s:=Nat.mul_pos hb hp;have h1:a*2^s/(b*2^s)=Q:=by rw[h,Nat.mul_comm Q,Nat.mul_add_div hbs,Nat.div_eq_of_lt hR,Nat.add_zero]
  have h2:a*2^s%(b*2^s)=R:=by rw[h,Nat.mul_comm Q,Nat.mul_add_mod,Nat.mod_eq_of_lt hR]
  rw[Nat.mul_div_mul_right _ _ hp] at h1;rw[Nat.mul_mod_mul_right] at h2;exact⟨h1.symm,by rw[←h2,Nat.mul_div_cancel _ hp]⟩
theorem V_low(f:Nat→Nat)(k m:Nat):V (fun i=>f (k+i)) (m+1)=f k+B*V (fun i=>f (k+1+i)) m:=by have:=V_split (fun i=>f (k+i)) 1 m;rw[Nat.add_comm 1 m,V_one,Nat.pow_one] at this;simp only[Nat.add_zero] at this;rw[this];simp only[Nat.add_assoc]
end Go.MagM
namespace Go.Proofs.YtammmemfkpcpcaaGreat
open Go.RowKit Go.MagM
theorem guess_max(x b c y:Nat)(w:World):Calls Tryz.prog 206 #[.int .u64 x,.int .u64 b,.int .u64 c,.int .u64 x,.int .u64 y] w fun e w'=>e= .returned (.int .u64 ((B-1:Nat):Int))∧Hid (∃q,w'=w.drewN q):=by
  have h0:((x:Int)==(x:Int))=true:=by simp
  go_enter Tryz.func206,Tryz.ntmps206;go_wp2;go_ret;exact⟨rfl,⟨0,rfl⟩⟩
set_option maxHeartbeats 4000000 in theorem guess_less(a b c x y:Nat)(w:World)(hax:a<x)(hbB:b<B)(hcB:c<B)(hxB:x<B)(hyB:y<B):Calls Tryz.prog 206 #[.int .u64 a,.int .u64 b,.int .u64 c,.int .u64 x,.int .u64 y] w fun e w'=>e= .returned (.int .u64 ((((a*B+b)*B+c)/(x*B+y):Nat):Int))∧Hid (∃q,w'=w.drewN q):=by
  have h0:((a:Int)==(x:Int))=false:=by simp only[beq_eq_false_iff_ne];omega
  have hun:a*B+b<x*B:=by
    have:=Nat.mul_le_mul_right B (show a+1≤x from hax);rw[Nat.add_mul] at this;omega
  have hst:=Full.start (y1:=x) (y0:=y) (un:=a*B+b) (u1:=c) hyB hcB hxB (by omega) (by omega);have hqB0:(a*B+b)/x<B:=Nat.div_lt_of_lt_mul hun;have hrB0:(a*B+b)%x<B:=Nat.lt_trans (Nat.mod_lt _ (by omega)) hxB;have hdiv:=fun w=>div64_any a b x w hbB hxB hax;obtain⟨un,hune⟩:∃un,a*B+b=un:=⟨_,rfl⟩;rw[hune] at hst hqB0 hrB0 hun;simp only[hune] at hdiv;obtain⟨q0,hq0⟩:∃t,un/x=t:=⟨_,rfl⟩;obtain⟨r0,hr0⟩:∃t,un%x=t:=⟨_,rfl⟩;rw[hq0,hr0] at hst;rw[hq0] at hqB0;rw[hr0] at hrB0;simp only[hq0,hr0] at hdiv;have hmul:=fun w=>mul64_any q0 y w hqB0 hyB;have hhl0:q0*y/B*B+q0*y%B=q0*y:=by have:=Nat.div_add_mod (q0*y) B;rw[Nat.mul_comm] at this;exact this
  have hhiB0:q0*y/B<B:=Nat.div_lt_of_lt_mul (Nat.mul_lt_mul'' hqB0 hyB);have hloB0:q0*y%B<B:=mod_lt _;obtain⟨hi0,hhi0⟩:∃t,q0*y/B=t:=⟨_,rfl⟩;obtain⟨lo0,hlo0⟩:∃t,q0*y%B=t:=⟨_,rfl⟩;rw[hhi0,hlo0] at hhl0;rw[hhi0] at hhiB0;rw[hlo0] at hloB0;simp only[hhi0,hlo0] at hmul;have HST:=Lib.hid hst;have HDIV:=Lib.hid hdiv;have HMUL:=Lib.hid hmul;have HHL0:=Lib.hid hhl0;rw[hune];obtain⟨G,hG⟩:∃G,(un*B+c)/(x*B+y)=G:=⟨_,rfl⟩;rw[hG];have HG:=Lib.hid hG;clear hG;clear hst hdiv hmul hhl0 hune hq0 hr0 hhi0 hlo0 hun;go_enter Tryz.func206,Tryz.ntmps206;go_wp2_with fail;refine(HDIV.out _).mono ?_;rintro e w1 ⟨rfl,HW⟩;go_wp2_with fail;refine(HMUL.out _).mono ?_;rintro e w2 ⟨rfl,rfl⟩;go_wp2_with fail;go_loop [11,12,13,14] (fun o rr hh ll=>∃q r hi lo:Nat,Full x y un c q r∧q<B∧r<B∧hi*B+lo=q*y∧hi<B∧lo<B∧o= .int .u64 q∧rr= .int .u64 r∧hh= .int .u64 hi∧ll= .int .u64 lo) (fun o _ _ _=>(intOf o).toNat);case atStart=>exact⟨q0,r0,hi0,lo0,HST.out,hqB0,hrB0,HHL0.out,hhiB0,hloB0,rfl,rfl,rfl,rfl⟩
  case round=>
    clear HST HDIV HMUL HHL0 hqB0 hrB0 hhiB0 hloB0;obtain⟨q,r,hi,lo,hfull,hqB,hrB,hhl,hhiB,hloB,rfl,rfl,rfl,rfl⟩:=hrel;rcases Nat.lt_trichotomy r hi with hc|hc|hc
    · have u1:(r:Int)<(hi:Int):=by omega
      have hcc:r*B+c<q*y:=by
        have:=Nat.mul_le_mul_right B (show r+1≤hi from hc);rw[Nat.add_mul] at this;omega
      obtain⟨h1,hnx⟩:=hfull.next (.inr hcc);obtain⟨qm,hqm⟩:∃qm,q-1=qm:=⟨_,rfl⟩;obtain⟨rn,hrn⟩:∃rn,r+x=rn:=⟨_,rfl⟩;have hqm2:qm+1=q:=by omega
      have hmul:hi*B+lo=qm*y+y:=by rw[hhl,←hqm2,Nat.add_mul,Nat.one_mul]
      rw[hqm,hrn] at hnx;have t2:IntKind.u64.wrap ((q:Int)-1)=(qm:Int):=by rw[IntKind.wrap_u64];unfold B at hqB;omega
      have hst:=diff_stepb hloB hyB (show 0≤1 by omega);have hbl:=bor_le lo y 0;have hsub:=fun w=>sub64_run lo y 0 (by omega) w;have hl2B:(lo+B-y-0)%B<B:=mod_lt _;obtain⟨l2,hl2⟩:∃t,(lo+B-y-0)%B=t:=⟨_,rfl⟩;obtain⟨b1,hb1⟩:∃t,bor lo y 0=t:=⟨_,rfl⟩;rw[hl2,hb1] at hst;rw[hb1] at hbl;rw[hl2] at hl2B;simp only[hl2,hb1] at hsub;have hge:b1≤hi:=by
        rcases Nat.lt_or_ge hi b1 with a1|a1
        · exfalso;have:hi=0:=by omega
          subst this;have:b1=1:=by omega
          subst this;omega
        ·exact a1
      obtain⟨h2,hh2⟩:∃t,hi-b1=t:=⟨_,rfl⟩;have hh2':h2+b1=hi:=by omega
      have hnew:h2*B+l2=qm*y:=by
        have:(h2+b1)*B+lo=qm*y+y:=by rw[hh2'];exact hmul
        rw[Nat.add_mul] at this;omega
      have t3:IntKind.u64.wrap ((hi:Int)-(b1:Int))=(h2:Int):=by rw[IntKind.wrap_u64];unfold B at hhiB;omega
      have hsub':∀w,(callFunc 169 #[.int .u64 lo,.int .u64 y,.int .u64 0]).run Tryz.prog w= .ok (.value (.tuple #[.int .u64 l2,.int .u64 b1])) w:=hsub;have hadd:=fun w=>add64_run r x 0 (by omega) w;obtain⟨r2,hr2⟩:∃t,(r+x+0)%B=t:=⟨_,rfl⟩;obtain⟨c2,hc2⟩:∃t,(r+x+0)/B=t:=⟨_,rfl⟩;simp only[hr2,hc2] at hadd;have hadd':∀w,(callFunc 162 #[.int .u64 r,.int .u64 x,.int .u64 0]).run Tryz.prog w= .ok (.value (.tuple #[.int .u64 r2,.int .u64 c2])) w:=hadd;have hqmB:qm<B:=by omega
      have hless:qm<q:=by omega
      have hh2B:h2<B:=by omega
      have HNX:=Lib.hid hnx;have HNEW:=Lib.hid hnew;by_cases hcar:B≤rn
      · have t4:((c2:Int) !=0)=true:=by simp only[bne_iff_ne];unfold B at*;omega
        have hfin:=HNX.out.done (.inl hcar);have HFIN:=Lib.hid hfin;clear hfin hcar hnx hnew hfull hqm hrn hqm2 hmul hst hl2 hb1 hbl hsub hadd hr2 hc2 hh2 hh2' hhl hge;go_wp2;go_ret;exact⟨ret1 (k:= .u64) (by rw[HFIN.out.trans HG.out]),HW⟩
      · have t4:((c2:Int) !=0)=false:=by simp only[bne_eq_false_iff_eq];unfold B at*;omega
        have hrr:r2=rn:=by unfold B at*;omega
        have hrnB:rn<B:=by omega
        clear hcar hnx hnew hfull hqm hrn hqm2 hmul hst hl2 hb1 hbl hsub hadd hr2 hc2 hh2 hh2' hhl hge;subst hrr;go_wp2;exact⟨⟨qm,_,h2,l2,HNX.out,hqmB,hrnB,HNEW.out,hh2B,hl2B,rfl,rfl,rfl,rfl⟩,by simp[intOf];omega⟩
    · subst hc;have u1:¬((r:Int)<(r:Int)):=by omega
      have u2:((r:Int)==(r:Int))=true:=by simp
      by_cases hd:c<lo
      · have u3:(c:Int)<(lo:Int):=by omega
        have hcc:r*B+c<q*y:=by omega
        obtain⟨h1,hnx⟩:=hfull.next (.inr hcc);obtain⟨qm,hqm⟩:∃qm,q-1=qm:=⟨_,rfl⟩;obtain⟨rn,hrn⟩:∃rn,r+x=rn:=⟨_,rfl⟩;have hqm2:qm+1=q:=by omega
        have hmul:r*B+lo=qm*y+y:=by rw[hhl,←hqm2,Nat.add_mul,Nat.one_mul]
        rw[hqm,hrn] at hnx;have t2:IntKind.u64.wrap ((q:Int)-1)=(qm:Int):=by rw[IntKind.wrap_u64];unfold B at hqB;omega
        have hst:=diff_stepb hloB hyB (show 0≤1 by omega);have hbl:=bor_le lo y 0;have hsub:=fun w=>sub64_run lo y 0 (by omega) w;have hl2B:(lo+B-y-0)%B<B:=mod_lt _;obtain⟨l2,hl2⟩:∃t,(lo+B-y-0)%B=t:=⟨_,rfl⟩;obtain⟨b1,hb1⟩:∃t,bor lo y 0=t:=⟨_,rfl⟩;rw[hl2,hb1] at hst;rw[hb1] at hbl;rw[hl2] at hl2B;simp only[hl2,hb1] at hsub;have hge:b1≤r:=by
          rcases Nat.lt_or_ge r b1 with a1|a1
          · exfalso;have:r=0:=by omega
            subst this;have:b1=1:=by omega
            subst this;omega
          ·exact a1
        obtain⟨h2,hh2⟩:∃t,r-b1=t:=⟨_,rfl⟩;have hh2':h2+b1=r:=by omega
        have hnew:h2*B+l2=qm*y:=by
          have:(h2+b1)*B+lo=qm*y+y:=by rw[hh2'];exact hmul
          rw[Nat.add_mul] at this;omega
        have t3:IntKind.u64.wrap ((r:Int)-(b1:Int))=(h2:Int):=by rw[IntKind.wrap_u64];unfold B at hrB;omega
        have hsub':∀w,(callFunc 169 #[.int .u64 lo,.int .u64 y,.int .u64 0]).run Tryz.prog w= .ok (.value (.tuple #[.int .u64 l2,.int .u64 b1])) w:=hsub;have hadd:=fun w=>add64_run r x 0 (by omega) w;obtain⟨r2,hr2⟩:∃t,(r+x+0)%B=t:=⟨_,rfl⟩;obtain⟨c2,hc2⟩:∃t,(r+x+0)/B=t:=⟨_,rfl⟩;simp only[hr2,hc2] at hadd;have hadd':∀w,(callFunc 162 #[.int .u64 r,.int .u64 x,.int .u64 0]).run Tryz.prog w= .ok (.value (.tuple #[.int .u64 r2,.int .u64 c2])) w:=hadd;have hqmB:qm<B:=by omega
        have hless:qm<q:=by omega
        have hh2B:h2<B:=by omega
        have HNX:=Lib.hid hnx;have HNEW:=Lib.hid hnew;by_cases hcar:B≤rn
        · have t4:((c2:Int) !=0)=true:=by simp only[bne_iff_ne];unfold B at*;omega
          have hfin:=HNX.out.done (.inl hcar);have HFIN:=Lib.hid hfin;clear hfin hcar hnx hnew hfull hqm hrn hqm2 hmul hst hl2 hb1 hbl hsub hadd hr2 hc2 hh2 hh2' hhl hge;go_wp2;go_ret;exact⟨ret1 (k:= .u64) (by rw[HFIN.out.trans HG.out]),HW⟩
        · have t4:((c2:Int) !=0)=false:=by simp only[bne_eq_false_iff_eq];unfold B at*;omega
          have hrr:r2=rn:=by unfold B at*;omega
          have hrnB:rn<B:=by omega
          clear hcar hnx hnew hfull hqm hrn hqm2 hmul hst hl2 hb1 hbl hsub hadd hr2 hc2 hh2 hh2' hhl hge;subst hrr;go_wp2;exact⟨⟨qm,_,h2,l2,HNX.out,hqmB,hrnB,HNEW.out,hh2B,hl2B,rfl,rfl,rfl,rfl⟩,by simp[intOf];omega⟩
      · have u3:¬((c:Int)<(lo:Int)):=by omega
        have hfin:=hfull.done (.inr ⟨hqB,by omega⟩);have HFIN:=Lib.hid hfin;clear hfin hfull hhl;go_wp2;go_ret;exact⟨ret1 (k:= .u64) (by rw[HFIN.out.trans HG.out]),HW⟩
    · have u1:¬((r:Int)<(hi:Int)):=by omega
      have u2:((hi:Int)==(r:Int))=false:=by simp only[beq_eq_false_iff_ne];omega
      have hfin:=hfull.done (.inr ⟨hqB,by have:=Nat.mul_le_mul_right B (show hi+1≤r from hc);rw[Nat.add_mul] at this;omega⟩);have HFIN:=Lib.hid hfin;clear hfin hfull hhl;go_wp2;go_ret;exact⟨ret1 (k:= .u64) (by rw[HFIN.out.trans HG.out]),HW⟩
theorem V_top2(h:Nat→Nat)(d:Nat):V h (d+2)=(h (d+1)*B+h d)*B^d+V h d:=by rw[V_succ,V_succ,Nat.pow_succ,Nat.add_mul,Nat.mul_assoc,Nat.mul_comm B];omega
theorem V_top3(f:Nat→Nat)(d:Nat):V f (d+3)=((f (d+2)*B+f (d+1))*B+f d)*B^d+V f d:=by
  rw[V_succ,V_top2,Nat.add_mul,Nat.add_mul,Nat.add_mul,Nat.pow_succ,Nat.pow_succ,Nat.add_mul (_*B)];have e1:f (d+2)*(B^d*B*B)=f (d+2)*B*B*B^d:=by rw[Nat.mul_assoc (f (d+2)),Nat.mul_assoc (f (d+2)),Nat.mul_assoc (B^d),Nat.mul_comm (B^d) (B*B)]
  omega
theorem guess_any(f h:Nat→Nat)(d:Nat)(hf:∀i,i<d+3→f i<B)(hh:∀i,i<d+2→h i<B)(hx:B≤2*h (d+1))(hlt:V f (d+3)<V h (d+2)*B):∃g,g<B∧GoodQ g (V f (d+3)) (V h (d+2))∧∀w,Calls Tryz.prog 206 #[.int .u64 (f (d+2)),.int .u64 (f (d+1)),.int .u64 (f d),.int .u64 (h (d+1)),.int .u64 (h d)] w fun e w'=>e= .returned (.int .u64 (g:Int))∧∃q,w'=w.drewN q:=by
  have hP:=Bp d;have hUl:=V_lt (f:=f) (n:=d) (fun i hi=>hf i (by omega));have hDl:=V_lt (f:=h) (n:=d) (fun i hi=>hh i (by omega));have hB0:=B_pos;rw[V_top3,V_top2] at*;have hax:f (d+2)≤h (d+1):=by
    rcases Nat.lt_or_ge (h (d+1)) (f (d+2)) with a|a
    · exfalso;have h1:=Nat.mul_le_mul_right (B*B) (show h (d+1)+1≤f (d+2) from a);have hy:=hh d (by omega);have h2:(h (d+1)*B+h d+1)*B≤(f (d+2)*B+f (d+1))*B+f d:=by
        have h3:h (d+1)*B+h d+1≤f (d+2)*B:=by
          have:=Nat.mul_le_mul_right B (show h (d+1)+1≤f (d+2) from a);rw[Nat.add_mul] at this;omega
        have:=Nat.mul_le_mul_right B (show h (d+1)*B+h d+1≤f (d+2)*B+f (d+1) by omega);omega
      have h4:=Nat.mul_le_mul_right (B^d) h2;have h5:((h (d+1)*B+h d)*B^d+V h d)*B≤(h (d+1)*B+h d+1)*B*B^d:=by
        rw[Nat.mul_right_comm];apply Nat.mul_le_mul_right;rw[Nat.add_mul _ 1];omega
      omega
    ·exact a
  rcases Nat.lt_or_eq_of_le hax with a|a
  · have hq:((f (d+2)*B+f (d+1))*B+f d)/(h (d+1)*B+h d)<B:=by
      apply full_quot_lt (hf d (by omega));have:=Nat.mul_le_mul_right B (show f (d+2)+1≤h (d+1) from a);have:=hf (d+1) (by omega);rw[Nat.add_mul] at*;omega
    refine⟨_,hq,good_of_quot hP ?_ hUl hDl hq,fun w=>(guess_less _ _ _ _ _ w a (hf _ (by omega)) (hf _ (by omega)) (hh _ (by omega)) (hh _ (by omega))).mono fun e w' h=>⟨h.1,h.2.out⟩⟩;have:=Nat.mul_le_mul_right B (show 1≤h (d+1) by omega);first|omega|skip
  · rw[a] at hlt⊢;refine⟨B-1,Nat.sub_lt hB0 (by omega),?_,fun w=>(guess_max _ _ _ _ w).mono fun e w' h=>⟨h.1,h.2.out⟩⟩;have e:(h (d+1)*B+f (d+1))*B+f d=h (d+1)*B*B+f (d+1)*B+f d:=by rw[Nat.add_mul]
    rw[e] at hlt⊢;exact good_of_max hP hx (hh d (by omega)) hDl hlt
set_option maxHeartbeats 4000000 in theorem takeOften_any(g o d c:Nat)(bo:Option Addr)(c':Nat)(w:World)(hd:d≤8000000000)(hnc:d+3≤c)(f h:Nat→Nat)(hf:Held w g o (d+3) f)(hb:Reads w bo (d+2) h)(hne:Apart bo (d+2) g)(hx:B≤2*h (d+1))(hlt:V f (d+3)<V h (d+2)*B):Calls Tryz.prog 193 #[.slice (some ⟨g,o,none⟩) (d+3:Nat) c,.slice bo (d+2:Nat) c'] w fun e w'=>∃f',e= .returned (.int .u64 ((V f (d+3)/V h (d+2):Nat):Int))∧Held w' g o (d+3) f'∧Turn g o (d+3) w w'∧f' (d+2)=0∧V f' (d+2)=V f (d+3)%V h (d+2):=by
  have hfB:=hf.lt;have hhB:=hb.lt;obtain⟨q,hqB,hgood,hcall⟩:=guess_any f h d hfB hhB hx hlt;obtain⟨hc0,hf0,_⟩:=hf (d+2) (by omega);obtain⟨hc1,_,_⟩:=hf (d+1) (by omega);obtain⟨hc2,_,_⟩:=hf d (by omega);obtain⟨bb,bof,rfl,hb1,_⟩:=hb (d+1) (by omega);obtain⟨bb',bof',e',hb2,_⟩:=hb d (by omega);simp at e';obtain⟨rfl,rfl⟩:=e';have hDpos:0<V h (d+2):=V_pos (k:=d+1) (by omega) (by have:=B_pos;omega);have hDP:=V_lt hhB;have hU:=V_succ f (d+2);obtain⟨a0,ha0⟩:∃t,f (d+2)=t:=⟨_,rfl⟩;obtain⟨a1,ha1⟩:∃t,f (d+1)=t:=⟨_,rfl⟩;obtain⟨a2,ha2⟩:∃t,f d=t:=⟨_,rfl⟩;obtain⟨x0,hx0⟩:∃t,h (d+1)=t:=⟨_,rfl⟩;obtain⟨y0,hy0⟩:∃t,h d=t:=⟨_,rfl⟩;simp only[ha0,ha1,ha2,hx0,hy0] at hcall hc0 hc1 hc2 hb1 hb2;rw[ha0] at hU;obtain⟨n,hn⟩:∃n,d+2=n:=⟨_,rfl⟩;obtain⟨n1,hn1⟩:∃n1,d+1=n1:=⟨_,rfl⟩;have Hn:n≤2+d∧2+d≤n:=by omega
  have Hn1:n1≤1+d∧1+d≤n1:=by omega
  have e3:d+3=n+1:=by omega
  simp only[e3,hn,hn1] at*;clear hn hn1 e3;have w1:IntKind.i64.wrap ((n:Int)-1)=(n1:Int):=by rw[IntWalk.i64_in _ (by omega)];omega
  have w2:IntKind.i64.wrap ((n:Int)-2)=(d:Int):=by rw[IntWalk.i64_in _ (by omega)];omega
  have k1:n1<n+1:=by omega
  have k2:d<n+1:=by omega
  have k3:n1<n:=by omega
  have k4:d<n:=by omega
  have k5:n≤9000000000:=by omega
  have k6:n≤c:=by omega
  have k7:(n1:Int)<(n:Int)+1:=by omega
  have k8:(d:Int)<(n:Int)+1:=by omega
  have HF:=Lib.hid hf;have HB:=Lib.hid hb;have HN:=Lib.hid hne;have HC:=Lib.hid hcall;have HG:=Lib.hid hgood;have HU:=Lib.hid hU;clear hf hb hne hcall hgood hU ha0 ha1 ha2 hx0 hy0 hx hlt hfB hhB;go_enter Tryz.func193,Tryz.ntmps193;go_wp2;go_quiet ((go_at_call 206;exact Calls.quiet_of (HC.out _)));have HF1:Held (w.drewN nq) g o (n+1) f:=HF.out;have HB1:Reads (w.drewN nq) (some ⟨bb,bof,none⟩) n h:=HB.out;have HC0:=Lib.hid hc0;have HF0:=Lib.hid hf0;clear hc0 hc1 hc2 hb1 hb2 hf0 w1 w2 k1 k2 k3 k4 k7 k8;go_wp2_with fail;refine(takeTimes_any g o n c _ n c' q _ k5 f h (Nat.le_refl _) hqB (HF1.less (by omega)) HB1 HN.out).mono ?_;rintro e w1 ⟨f1,over,rfl,hov,hh1,ht1,hv1,_⟩;have hc0:w1.cell? ⟨g,o+n,none⟩=some (.int .u64 (a0:Int)):=by rw[ht1.cell (o+n) (by omega)];exact HC0.out
  have hf0:w1.frozen? ⟨g,o+n,none⟩=false:=by rw[ht1.frz];exact HF0.out
  have hfull1:Held w1 g o (n+1) (spl f f1 0 n):=HF1.splice (k:=0) (m:=n) (by simpa using ht1) (by simpa using hh1) (by omega);have ht01:Turn g o n w w1:=((Turn.refl g o n w).drewN nq).trans ht1;have hV1:V (spl f f1 0 n) n=V f1 n:=by have:=spl_V f f1 0 n;simpa[V] using this
  have hB1':Reads w1 (some ⟨bb,bof,none⟩) n h:=HB1.turn ht1 HN.out;by_cases hle:over≤a0
  · have hcmp:¬((a0:Int)<(over:Int)):=by omega
    obtain⟨r1,r2,r3⟩:=take_low HG.out hDpos hDP HU.out (V_lt hh1.lt) (hv1) hle;have R1:=Lib.hid r1;have R3:=Lib.hid r3;have HFULL:=Lib.hid hfull1;have HT:=Lib.hid ht01;have HV1:=Lib.hid hV1;clear r1 r2 r3 hfull1 ht01 hV1 hv1 ht1 hh1 hB1' HF1 HB1 hov;go_wp2;go_ret;refine⟨upd (spl f f1 0 n) n 0,ret1 (k:= .u64) (by rw[R1.out]),HFULL.out.setCell (k:=n) B_pos (by omega),(HT.out.wider (by omega) (by omega)).setCell (by omega) (by omega) _,upd_same _ _ _,?_⟩;rw[V_upd_below _ _ _ (Nat.le_refl _),HV1.out,R3.out]
  · have hcmp:(a0:Int)<(over:Int):=by omega
    have hgt:a0<over:=by omega
    have HV:=Lib.hid hv1;have HFULL:=Lib.hid hfull1;have HT:=Lib.hid ht01;have HH1:=Lib.hid hh1;have HB2:=Lib.hid hB1';have HV1:=Lib.hid hV1;have hw:IntKind.u64.wrap ((q:Int)-1)=((q-1:Nat):Int)∨q=0:=by
      by_cases h0:q=0;·exact .inr h0
      ·left;rw[IntKind.wrap_u64];unfold B at hqB;omega
    have hq0:q≠0:=by intro h0;have h1:=HV.out;rw[h0,Nat.mul_zero] at h1;have h2:=V_lt HH1.out.lt;have h3:=Nat.mul_le_mul_right (B^n) (show 1≤over by omega);omega
    obtain⟨qm,hqm⟩:∃qm,q-1=qm:=⟨_,rfl⟩;have t2:IntKind.u64.wrap ((q:Int)-1)=(qm:Int):=by rcases hw with a|a<;>omega
    clear hw hv1 hfull1 ht01 hh1 hB1' hV1 ht1 HF1 HB1 hov hle hq0;have HQM:=Lib.hid hqm;clear hqm;have HC1:=Lib.hid hc0;have HF1:=Lib.hid hf0;go_wp2_with fail;refine(addTo_any g o n c _ n c' _ k5 f1 h (Nat.le_refl _) HH1.out HB2.out HN.out).mono ?_;rintro e w2 ⟨rfl,f2,cc,hcc,hh2,ht2,hv2⟩;obtain⟨r1,r2,r3⟩:=take_high HG.out hDpos hDP HU.out (V_lt HH1.out.lt) (V_lt hh2.lt) HV.out hgt hcc hv2;have hfull2:Held w2 g o (n+1) (spl (spl f f1 0 n) f2 0 n):=HFULL.out.splice (k:=0) (m:=n) (by simpa using ht2) (by simpa using hh2) (by omega);have hV2:V (spl (spl f f1 0 n) f2 0 n) n=V f2 n:=by have:=spl_V (spl f f1 0 n) f2 0 n;simpa[V_zero] using this
    have hc2:w2.cell? ⟨g,o+n,none⟩=some (.int .u64 (a0:Int)):=by rw[ht2.cell (o+n) (by omega)];exact HC1.out
    have hf2:w2.frozen? ⟨g,o+n,none⟩=false:=by rw[ht2.frz];exact HF1.out
    have R2:=Lib.hid r2;have R3:=Lib.hid r3;have HFULL2:=Lib.hid hfull2;have HT2:=Lib.hid (HT.out.trans ht2);have HV2:=Lib.hid hV2;clear r1 r2 r3 hfull2 hV2 ht2 hh2 hv2 hc0 hf0 hcmp;go_wp2;go_ret;refine⟨upd (spl (spl f f1 0 n) f2 0 n) n 0,ret1 (k:= .u64) (by rw[←R2.out,HQM.out]),HFULL2.out.setCell (k:=n) B_pos (by omega),(HT2.out.wider (by omega) (by omega)).setCell (by omega) (by omega) _,upd_same _ _ _,?_⟩;rw[V_upd_below _ _ _ (Nat.le_refl _),HV2.out,R3.out]
theorem word_step{fk Vf Vq x r d r':Nat}(h:Vf=Vq*x+r)(hd:d=(r*B+fk)/x)(hr:r'=(r*B+fk)%x):fk+B*Vf=(d+B*Vq)*x+r':=by have e:=Nat.div_add_mod (r*B+fk) x;rw[←hd,←hr] at e;rw[h,Nat.mul_add,Nat.add_mul,Nat.mul_assoc B Vq x,Nat.mul_comm B r,Nat.mul_comm d x];omega
set_option maxHeartbeats 1000000 in theorem divWord_any(ao:Option Addr)(n c x:Nat)(w:World)(hn:n≤8000000000)(f:Nat→Nat)(hx0:0<x)(hx:x<B)(hr:Reads w ao n f):Calls Tryz.prog 155 #[.slice ao n c,.int .u64 x] w fun e w'=>∃v,e= .returned (.tuple #[v,.int .u64 ((V f n%x:Nat):Int)])∧RMag w' v n (V f n/x)∧Below w.heap.size w w':=by
  have HR:=Lib.hid hr;clear hr;go_enter Tryz.func155,Tryz.ntmps155;go_wp2_with (first|(at_make;refine wpList_make_words rfl (.tmp 10) (.tmp 10) 54 rfl 93 under_words info_u64 .i64 .i64 _ _ n rfl rfl rfl rfl (by omega) ?_;intro w1 hh1 hb1 hs1;replace hh1:=Lib.hid hh1));go_loopw [7,8] (fun rr i wr=>∃k r:Nat,∃qf:Nat→Nat,k≤n∧i= .int .i64 ((k:Int)-1)∧rr= .int .u64 r∧r<x∧Held wr w.heap.size 0 n qf∧Turn w.heap.size 0 n w1 wr∧V (fun i=>f (k+i)) (n-k)=V (fun i=>qf (k+i)) (n-k)*x+r) (fun _ i _=>(intOf i+1).toNat);case atStart=>exact⟨n,0,fun _=>0,Nat.le_refl _,rfl,rfl,hx0,hh1.out,Turn.refl _ _ _ _,by rw[Nat.sub_self];simp[V]⟩
  case round=>
    obtain⟨k,r,qf,hk,rfl,rfl,hrx,hfr,htr,hV⟩:=hrel;have HFR:=Lib.hid hfr;have HTR:=Lib.hid htr;have HV:=Lib.hid hV;clear hfr htr hV;have hbr:Below w.heap.size w wr:=HTR.out.below hb1 (Nat.le_refl _) (by omega);cases k with
    |zero=>
      go_wp2_with (go_at_call 120;refine(trim_any _ _ _ _ (by omega) qf (Nat.le_refl _) HFR.out.reads).mono ?_;rintro e w4 ⟨rfl,rfl⟩);have hv:V f n=V qf n*x+r:=by have:=HV.out;simpa using this
      have h1:V f n/x=V qf n:=by rw[hv,Nat.mul_comm,Nat.mul_add_div hx0,Nat.div_eq_of_lt hrx,Nat.add_zero]
      have h2:V f n%x=r:=by rw[hv,Nat.mul_comm,Nat.mul_add_mod,Nat.mod_eq_of_lt hrx]
      have H1:=Lib.hid h1;have H2:=Lib.hid h2;clear h1 h2 hv;go_ret2;rw[H1.out,H2.out];exact⟨_,rfl,RMag.of_trim HFR.out.reads (Nat.le_refl n),hbr⟩|succ k=>
      obtain⟨ab,aoff,rfl,hac,haB⟩:=(HR.out.below hbr) k (by omega);obtain⟨hqc,hqf,_⟩:=HFR.out k (by omega);rw[Nat.zero_add] at hqc hqf;have hk1:((k+1:Nat):Int)-1=(k:Int):=by omega
      rw[hk1];clear hk1;have hdB:(r*B+f k)/x<B:=full_quot_lt haB hrx;have hrx':(r*B+f k)%x<x:=Nat.mod_lt _ hx0;have hdiv:=fun w=>div64_any r (f k) x w haB hx hrx;obtain⟨d,hd⟩:∃d,(r*B+f k)/x=d:=⟨_,rfl⟩;obtain⟨r2,hr2⟩:∃r2,(r*B+f k)%x=r2:=⟨_,rfl⟩;rw[hd] at hdB;rw[hr2] at hrx';simp only[hd,hr2] at hdiv;have HDIV:=Lib.hid hdiv;have HD:=Lib.hid hd;have HR2:=Lib.hid hr2;clear hdiv hd hr2;go_wp2_with fail;refine(HDIV.out _).mono ?_;rintro e w2 ⟨rfl,hw⟩;obtain⟨dq,rfl⟩:=hw.out;go_wp2;refine⟨⟨k,r2,upd qf k d,by omega,rfl,rfl,hrx',?_,?_,?_⟩,by simp[intOf]⟩;·have:=(HFR.out.drewN dq).setCell (k:=k) hdB (by omega);simpa using this
      ·exact(HTR.out.drewN dq).setCell (by omega) (by omega) _
      · obtain⟨m,hm⟩:∃m,n-(k+1)=m:=⟨_,rfl⟩;have hv:=HV.out;rw[hm] at hv;rw[show n-k=m+1 by omega,V_low,V_low,upd_same,V_congr (f:=fun i=>upd qf k d (k+1+i)) (g:=fun i=>qf (k+1+i)) (fun i _=>upd_other _ _ _ (by omega))];exact word_step hv HD.out.symm HR2.out.symm
theorem top_bit{x y s:Nat}(hx:x≠0)(hxB:x<B)(hs:64-bl x=s):B≤2*(x*2^s%B+y*2^s/B)∧s<64∧x*2^s<B:=by
  have h1:=bl_lt x;have h2:=bl_ge hx;have h3:=bl_pos hx;have h4:bl x≤64:=by
    have:=(Nat.pow_lt_pow_iff_right (show 1<2 by omega)).1 (show 2^(bl x-1)<2^64 by unfold B at hxB;omega);omega
  have hp:0<2^s:=Nat.pow_pos (by omega);have h5:=Nat.mul_lt_mul_of_pos_right h1 hp;rw[←Nat.pow_add,show bl x+s=64 from by omega] at h5;have h6:=Nat.mul_le_mul_right (2^s) h2;rw[←Nat.pow_add,show bl x-1+s=63 from by omega] at h6;have h7:x*2^s<B:=h5;rw[Nat.mod_eq_of_lt h7];refine⟨?_,by omega,h7⟩;have h8:B=2*2^63:=rfl;generalize y*2^s/B=z;omega
theorem spl_V'(f h:Nat→Nat)(k d:Nat):V (spl f h k (d+3)) (k+(d+2))=V f k+B^k*V h (d+2):=by rw[V_split,V_congr (g:=f) (fun i hi=>spl_out f h (.inl hi)),V_congr (f:=fun i=>spl f h k (d+3) (k+i)) (g:=h) (fun i hi=>spl_in f h (by omega))]
set_option maxHeartbeats 4000000 in theorem divLong_any(ao bo:Option Addr)(n d ca cb:Nat)(w:World)(hn:n≤8000000000)(f h:Nat→Nat)(hdn:d+2≤n)(hra:Reads w ao n f)(hrb:Reads w bo (d+2) h)(hright:h (d+1)≠0):Calls Tryz.prog 157 #[.slice ao n ca,.slice bo (d+2:Nat) cb] w fun e w'=>∃vq vr,e= .returned (.tuple #[vq,vr])∧RMag w' vq n (V f n/V h (d+2))∧RMag w' vr (n+1) (V f n%V h (d+2))∧Below w.heap.size w w':=by
  obtain⟨bb,bof,rfl,hbc,hbB⟩:=hrb (d+1) (by omega);have hhB:=hrb.lt;obtain⟨s,hs⟩:∃s,64-bl (h (d+1))=s:=⟨_,rfl⟩;obtain⟨htop,hs64,hxs⟩:=top_bit (y:=h d) hright hbB hs;have hlead:=fun w=>lead64_any (h (d+1)) w hbB;simp only[hs] at hlead;have m1:IntKind.i64.wrap ((d:Int)+2-1)=(d:Int)+1:=by rw[IntWalk.i64_in _ (by omega)];omega
  have hDpos:0<V h (d+2):=V_pos (k:=d+1) (by omega) (by omega);have hR:MagM.Right h (d+1+1):=by
    intro k hk;have:k=d+1:=by omega
    rw[this];exact hright
  have hDge:B^(d+1)≤V h (d+2):=hR.ge;clear hR;obtain⟨lq,hlq⟩:∃lq,n=lq+d+1:=⟨n-(d+1),by omega⟩;have HA:=Lib.hid hra;have HB:=Lib.hid hrb;have HL:=Lib.hid hlead;have HT:=Lib.hid htop;have HLQ:=Lib.hid hlq;have HHB:=Lib.hid hhB;have HFB:=Lib.hid hra.lt;have hlq1:lq+d+1≤n:=by omega
  have hlq2:n≤lq+d+1:=by omega
  have m2:IntKind.i64.wrap ((n:Int)-((d:Int)+2))=(lq:Int)-1:=by rw[IntWalk.i64_in _ (by omega)];omega
  have m3:IntKind.i64.wrap ((lq:Int)-1+1)=(lq:Int):=by rw[IntWalk.i64_in _ (by omega)];omega
  clear hra hrb hlead htop hlq hhB hs;go_enter Tryz.func157,Tryz.ntmps157;go_wp2_with (first
    |(go_at_call 187;refine(HL.out _).mono ?_;rintro e w1 ⟨rfl,rfl⟩)|(at_make;refine wpList_make_words rfl (.tmp 20) (.tmp 20) 54 rfl 93 under_words info_u64 .i64 .i64 _ _ (n+1) rfl rfl (by omega) (by omega) (by omega) ?_;intro w1 hh1 hb1 hs1;replace hh1:=Lib.hid hh1)|(with_reducible refine wpList_copy_words rfl (.tmp 22) (.tmp 23) 54 54 rfl 93 under_words size_u64 _ _ _ _ _ _ _ rfl rfl _ f hh1.out (HA.out.below hb1) ?_;intro w2 hh2 ht2;replace hh2:=Lib.hid hh2;replace ht2:=Lib.hid ht2)|fail);refine(moveUp_any _ _ n _ s _ (by omega) hs64 _ hh2.out).mono ?_;rintro e w3 ⟨rfl,f3,hh3,ht3,hz3,hd3⟩;have ht13:=ht2.out.trans ht3;have hb3:Below w.heap.size w w3:=ht13.below hb1 (Nat.le_refl _) (by omega);have hs3:w.heap.size<w3.heap.size:=by have:=ht13.size;omega
  have hv3:=V_moveUp (f:=fun i=>if i<n then f i else 0) (f':=f3) hz3 hd3;rw[show(if n<n then f n else 0)=0 from if_neg (by omega),copied_V,Nat.zero_mul,Nat.zero_div,Nat.zero_mul,Nat.add_zero] at hv3;have HH3:=Lib.hid hh3;have HV3:=Lib.hid hv3;clear hh3 hv3 hz3 hd3 ht3 ht13 hh1 hh2 ht2;go_wp2_with fail;refine(clone_any _ _ _ _ (by omega) h (HB.out.below hb3)).mono ?_;rintro e w4 ⟨rfl,hh4,hb4,hs4⟩;have hb04:Below w.heap.size w w4:=hb3.trans (hb4.mono (by omega));have HH3':=Lib.hid (HH3.out.below hb4);have HH4:=Lib.hid hh4;clear hh4 HH3;go_wp2_with fail;refine(moveUp_any _ _ (d+1) _ s _ (by omega) hs64 _ HH4.out).mono ?_;rintro e w5 ⟨rfl,h5,hh5,ht5,hz5,hd5⟩;have hv5:=V_moveUp hz5 hd5;have hcarry:h (d+1)*2^s/B=0:=Nat.div_eq_of_lt hxs;rw[hcarry,Nat.zero_mul,Nat.add_zero] at hv5;have hh35:Held w5 w.heap.size 0 (n+1) f3:=HH3'.out.turn_other ht5 (by omega);have hb05:Below w.heap.size w w5:=ht5.below hb04 (by omega) (by omega);have htop5:B≤2*h5 (d+1):=by rw[hd5 d (by omega)];exact HT.out
  obtain⟨gb,hgb⟩:∃gb,w3.heap.size=gb:=⟨_,rfl⟩;rw[hgb] at hh5 ht5 HH4;have hgb1:w.heap.size<gb:=by omega
  have hgb2:gb<w5.heap.size:=by have:=ht5.size;omega
  have HH5:=Lib.hid hh5.reads;have HV5:=Lib.hid hv5;have HH35:=Lib.hid hh35;have HTOP:=Lib.hid htop5;rw[hgb];clear hh5 hv5 hh35 htop5 hz5 hd5 ht5 HH4 HH3' hb4 hs4 hb3 hs3 hgb hcarry;have DD:Hid (∃D,D=V h (d+2)*2^s):=⟨_,rfl⟩;obtain⟨D,hD⟩:=DD.out;obtain⟨A,hA⟩:∃A,A=V f n*2^s:=⟨_,rfl⟩;have hA0:V f3 (n+1)=A:=by rw[hA];exact HV3.out
  have hD0:V h5 (d+2)=D:=by rw[hD];exact HV5.out
  have hps:0<2^s:=Nat.pow_pos (by omega);have hDp:0<D:=by rw[hD];exact Nat.mul_pos hDpos hps
  have hDB:D<B^(d+2):=by rw[←hD0];exact V_lt HH5.out.lt
  have hAD:A<B^lq*D:=by
    have h1:=V_lt HFB.out;have h2:=Nat.mul_le_mul_left (B^lq) hDge;rw[←Nat.pow_add,show lq+(d+1)=n by omega] at h2;rw[hA,hD,←Nat.mul_assoc];exact Nat.mul_lt_mul_of_pos_right (by omega) hps
  have HAD:=Lib.hid hAD;have HA0:=Lib.hid hA0;have HD0:=Lib.hid hD0;have HDE:=Lib.hid hD;have HAE:=Lib.hid hA;have HDB:=Lib.hid hDB;have HDP:=Lib.hid hDp;have HDPOS:=Lib.hid hDpos;clear hAD hA0 hD0 hD hA hDB hDge DD HV3 HV5 hDp hDpos;go_wp2_with (first|(at_make;refine wpList_make_words rfl (.tmp 38) (.tmp 38) 54 rfl 93 under_words info_u64 .i64 .i64 _ _ lq rfl rfl rfl rfl (by omega) ?_;intro w6 hh6 hb6 hs6;replace hh6:=Lib.hid hh6));obtain⟨gq,hgq⟩:∃gq,w5.heap.size=gq:=⟨_,rfl⟩;rw[hgq] at hh6 hb6 hs6 hgb2;rw[hgq];have hb06:Below w.heap.size w w6:=hb05.trans (hb6.mono (by have:=hb05.size;omega));have hgq1:w.heap.size<gq:=by omega
  have HH36:=Lib.hid (HH35.out.below (by rw[hgq];exact hb6));have HH56:=Lib.hid (HH5.out.below (by rw[hgq];exact hb6));clear HH35 HH5 hb05 hb6 hgq;go_loopw [10] (fun i wr=>∃k:Nat,∃rf qf:Nat→Nat,k≤lq∧i= .int .i64 ((k:Int)-1)∧Held wr w.heap.size 0 (n+1) rf∧Held wr gq 0 lq qf∧Reads wr (some ⟨gb,0,none⟩) (d+2) h5∧Below w.heap.size w wr∧w6.heap.size≤wr.heap.size∧A=V (fun i=>qf (k+i)) (lq-k)*B^k*D+V rf (k+(d+2))∧V rf (k+(d+2))<B^k*D∧∀j,k+(d+2)≤j→j<n+1→rf j=0) (fun i _=>(intOf i+1).toNat);case atStart=>
    have e1:lq+(d+2)=n+1:=by omega
    exact⟨lq,f3,fun _=>0,Nat.le_refl _,rfl,HH36.out,hh6.out,HH56.out,hb06,Nat.le_refl _,by rw[e1,HA0.out,V_none (fun _ _=>rfl)];simp,by rw[e1,HA0.out];exact HAD.out,fun j h1 h2=>by omega⟩
  case round=>
    clear HH36 hh6 HH56 hb06;obtain⟨k,rf,qf,hk,rfl,hrf,hqf,hby,hbw,hsz,hsum,hless,hzero⟩:=hrel;have HRF:=Lib.hid hrf;have HQF:=Lib.hid hqf;have HBY:=Lib.hid hby;have HSUM:=Lib.hid hsum;have HLESS:=Lib.hid hless;have HZ:=Lib.hid hzero;clear hrf hqf hby hsum hless hzero;cases k with
    |zero=>
      go_wp2_with fail;refine(moveDown_any _ _ n _ s _ (by omega) hs64 _ HRF.out).mono ?_;rintro e w7 ⟨rfl,f7,hh7,ht7,hz7,hd7⟩;have hv7:=V_down_all (by omega) hz7 hd7;have hR:V rf (n+1)=V rf (d+2):=by
        obtain⟨e0,he0⟩:∃e0,n+1=d+2+e0:=⟨n+1-(d+2),by omega⟩;have hz0:V (fun i=>rf (d+2+i)) e0=0:=V_none (fun i hi=>HZ.out _ (by omega) (by omega));rw[he0,V_split,hz0,Nat.mul_zero,Nat.add_zero]
      have hs0:V f n*2^s=V qf lq*(V h (d+2)*2^s)+V rf (d+2):=by have:=HSUM.out;simp only[Nat.zero_add,Nat.pow_zero,Nat.mul_one,Nat.sub_zero] at this;rw[←HAE.out,←HDE.out];exact this
      have hl0:V rf (d+2)<V h (d+2)*2^s:=by
        have:=HLESS.out;simp only[Nat.zero_add,Nat.pow_zero,Nat.one_mul] at this;rw[←HDE.out];exact this
      obtain⟨q1,q2⟩:=long_end HDPOS.out hs0 hl0;rw[hR,q2] at hv7;have hb7:Below w.heap.size w w7:=ht7.below hbw (Nat.le_refl _) (by omega);have hqf7:Held w7 gq 0 lq qf:=HQF.out.turn_other ht7 (by omega);have HH7:=Lib.hid hh7;have HQ7:=Lib.hid hqf7;have HV7:=Lib.hid hv7;have Q1:=Lib.hid q1;clear hh7 hqf7 hv7 q1 q2 hs0 hl0 hR hz7 hd7 ht7;go_wp2_with fail;refine(trim_any _ _ _ _ (by omega) qf (Nat.le_refl _) HQ7.out.reads).mono ?_;rintro e w8 ⟨rfl,rfl⟩;go_wp2_with fail;refine(trim_any _ _ _ _ (by omega) f7 (Nat.le_refl _) HH7.out.reads).mono ?_;rintro e w8 ⟨rfl,rfl⟩;go_wp2;go_ret2;have r1:=RMag.of_trim HQ7.out.reads (Nat.le_refl lq);have r2:=RMag.of_trim HH7.out.reads (Nat.le_refl (n+1));rw[Q1.out] at r1;rw[HV7.out] at r2;exact⟨_,_,rfl,r1.more (by omega),r2,hb7⟩|succ k=>
      have hk1:((k+1:Nat):Int)-1=(k:Int):=by omega
      rw[hk1];clear hk1;have hcut:¬(n+1=k):=by omega
      have he:k+(d+2)+1-k=d+3:=by omega
      have hpart:=HRF.out.part (k:=k) (m:=d+3) (by omega);rw[Nat.zero_add] at hpart;have hW:V (fun i=>rf (k+i)) (d+3)<V h5 (d+2)*B:=by
        have h1:=HLESS.out;rw[show k+1+(d+2)=k+(d+3) by omega,V_split,Nat.pow_succ,Nat.mul_assoc] at h1;rw[HD0.out,Nat.mul_comm D B];exact Nat.lt_of_mul_lt_mul_left (Nat.lt_of_le_of_lt (Nat.le_add_left _ _) h1)
      have hsum:=HSUM.out;rw[show k+1+(d+2)=k+(d+3) by omega,V_split rf k (d+3),Nat.pow_succ] at hsum;obtain⟨s1,s2⟩:=long_step HDP.out (V_lt (fun i hi=>HRF.out.lt i (by omega))) hsum;have HPART:=Lib.hid hpart;have HW:=Lib.hid hW;have S1:=Lib.hid s1;have S2:=Lib.hid s2;have hwq:V (fun i=>rf (k+i)) (d+3)/V h5 (d+2)<B:=Nat.div_lt_of_lt_mul hW;have HWQ:=Lib.hid hwq;clear hpart hW hsum s1 s2 HSUM HLESS hwq;go_wp2_with fail;refine(takeOften_any w.heap.size k d _ _ _ wr (by omega) (by omega) _ h5 HPART.out HBY.out (by intro _ b' o' e;simp at e;omega) HTOP.out HW.out).mono ?_;rintro e w7 ⟨f2,rfl,hh7,ht7,hz7,hv7⟩;have hq7:=HQF.out.turn_other ht7 (by omega);obtain⟨hqc,hqz,_⟩:=hq7 k (by omega);rw[Nat.zero_add] at hqc hqz;have hr7:Held w7 w.heap.size 0 (n+1) (spl rf f2 k (d+3)):=HRF.out.splice (by rw[Nat.zero_add];exact ht7) (by rw[Nat.zero_add];exact hh7) (by omega);have hby7:Reads w7 (some ⟨gb,0,none⟩) (d+2) h5:=HBY.out.turn ht7 (by intro _ b' o' e;simp at e;omega);have hb7:Below w.heap.size w w7:=ht7.below hbw (Nat.le_refl _) (by have:=hbw.size;omega);have hsz7:w6.heap.size≤w7.heap.size:=by have:=ht7.size;omega
      have hwlt:gq<w7.heap.size:=by omega
      obtain⟨wd,hwd⟩:∃wd,V (fun i=>rf (k+i)) (d+3)/V h5 (d+2)=wd:=⟨_,rfl⟩;have HQ7:=Lib.hid hq7;have HR7:=Lib.hid hr7;have HB7:=Lib.hid hby7;have HZ7:=Lib.hid hz7;have HV7:=Lib.hid hv7;have HWD:=Lib.hid hwd;have hwB:wd<B:=by rw[←hwd];exact HWQ.out
      rw[hwd];clear hq7 hr7 hby7 hz7 hv7 ht7 hh7 hwd HBY HRF HQF HPART HWQ;go_wp2;have hturn:Turn gq 0 lq w7 (w7.setCell ⟨gq,k,none⟩ (.int .u64 (wd:Int))):=(Turn.refl _ _ _ _).setCell (by omega) (by omega) _;refine⟨⟨k,spl rf f2 k (d+3),upd qf k wd,by omega,rfl,HR7.out.turn_other hturn (by omega),?_,HB7.out.turn hturn (by intro _ b' o' e;simp at e;omega),hturn.below hb7 (by omega) (by have:=hb7.size;omega),by have:=hturn.size;omega,?_,?_,?_⟩,by simp[intOf]⟩;·have:=HQ7.out.setCell (k:=k) hwB (by omega);simpa using this
      · obtain⟨mm,hmm⟩:∃mm,lq-(k+1)=mm:=⟨_,rfl⟩;have h1:=S1.out;rw[hmm] at h1;rw[show lq-k=mm+1 by omega,V_low,upd_same,V_congr (f:=fun i=>upd qf k wd (k+1+i)) (g:=fun i=>qf (k+1+i)) (fun i _=>upd_other _ _ _ (by omega)),spl_V',HV7.out,HD0.out];rw[←HD0.out,HWD.out,HD0.out] at h1;rw[Nat.add_comm wd,Nat.mul_comm B];exact h1
      ·rw[spl_V',HV7.out,HD0.out];exact S2.out
      · intro j h1 h2;by_cases e:j=k+(d+2);·rw[e,spl_in _ _ (by omega)];exact HZ7.out
        ·rw[spl_out _ _ (.inr (by omega))];exact HZ.out j (by omega) h2
set_option maxHeartbeats 2000000 in theorem Div_any(va vb:Value)(L M X Y:Nat)(w:World)(hL:L≤4000000000)(hM:M≤4000000000)(ha:Mag w va L X)(hb:Mag w vb M Y):Calls Tryz.prog 116 #[va,vb] w fun e w'=>∃vq vr,e= .returned (.tuple #[vq,vr])∧RMag w' vq L (X/Y)∧RMag w' vr L (X%Y)∧Below w.heap.size w w':=by
  have hXL:=ha.lt;have hmodL:X%Y<B^L:=Nat.lt_of_le_of_lt (Nat.mod_le _ _) hXL;obtain⟨ao,n0,ca,f,rfl,hnc,hnL,hra,hX⟩:=ha;obtain⟨bo,m0,cb,g,rfl,hmc,hmM,hrb,hY⟩:=hb;have htn:=tlen_le f n0;have htm:=tlen_le g m0;have rf:=tlen_right f n0;have rg:=tlen_right g m0;rw[←tlen_V] at hX hY;have hra':=hra.less htn;have hrb':=hrb.less htm;have T1:=Lib.hid (trim_any ao n0 ca w (by omega) f hnc hra);have T2:=Lib.hid (trim_any bo m0 cb w (by omega) g hmc hrb);obtain⟨n,hn⟩:∃n,tlen f n0=n:=⟨_,rfl⟩;obtain⟨m,hm⟩:∃m,tlen g m0=m:=⟨_,rfl⟩;rw[hn] at T1 hX htn rf hra';rw[hm] at T2 hY htm rg hrb';have hn9:n≤4000000000:=by omega
  have hm9:m≤4000000000:=by omega
  have hnL':n≤L:=by omega
  have hncc:n≤ca:=by omega
  have hmcc:m≤cb:=by omega
  have hcmp:=Cmp_any (.slice ao n ca) (.slice bo m cb) n m X Y w hn9 hm9 ⟨ao,n,ca,f,rfl,hncc,Nat.le_refl _,hra',hX⟩ ⟨bo,m,cb,g,rfl,hmcc,Nat.le_refl _,hrb',hY⟩;have HX:=Lib.hid hX;have HY:=Lib.hid hY;have RF:=Lib.hid rf;have RG:=Lib.hid rg;have HA:=Lib.hid hra';have HB:=Lib.hid hrb';have HML:=Lib.hid hmodL;clear hX hY rf rg hra' hrb' hn hm hra hrb hXL hmodL;have hrest:∀(w1 w2:World),Below w.heap.size w w2→Held w2 w1.heap.size 0 n f→(X%Y=X)→RMag w2 (.slice (some ⟨w1.heap.size,0,none⟩) n n) L (X%Y):=by
    intro w1 w2 _ hh e;rw[e];exact⟨_,n,n,f,rfl,Nat.le_refl _,hnL',hh.reads,HX.out,RF.out⟩
  have HR:=Lib.hid hrest;clear hrest;by_cases hm0:m=0
  · subst hm0;have hY0:Y=0:=by rw[←HY.out];rfl
    have hz:X/Y=0∧X%Y=X:=by rw[hY0];exact⟨Nat.div_zero X,Nat.mod_zero X⟩
    have HZ:=Lib.hid hz;clear hz hY0 hcmp;go_enter Tryz.func116,Tryz.ntmps116;go_wp2_with fail;refine T1.out.mono ?_;rintro e w1 ⟨rfl,rfl⟩;go_wp2_with fail;refine T2.out.mono ?_;rintro e w1 ⟨rfl,rfl⟩;go_wp2_with (go_at_call 154;refine(clone_any _ _ _ _ (by omega) f HA.out).mono ?_;rintro e w1 ⟨rfl,hh,hb1,hs1⟩;have HH:=Lib.hid hh;clear hh);go_ret2;refine⟨_,_,rfl,?_,HR.out _ _ hb1 HH.out HZ.out.2,hb1⟩;rw[HZ.out.1];exact(RMag.nil _).more (by omega)
  · have hmne:((m:Int)==0)=false:=by simp only[beq_eq_false_iff_ne];omega
    rcases Nat.lt_or_ge X Y with hlt|hge
    · rw[cmpn_of_lt hlt] at hcmp;have HC:=Lib.hid hcmp;have hz:X/Y=0∧X%Y=X:=⟨Nat.div_eq_of_lt hlt,Nat.mod_eq_of_lt hlt⟩;have HZ:=Lib.hid hz;clear hz hcmp;go_enter Tryz.func116,Tryz.ntmps116;go_wp2_with fail;refine T1.out.mono ?_;rintro e w1 ⟨rfl,rfl⟩;go_wp2_with fail;refine T2.out.mono ?_;rintro e w1 ⟨rfl,rfl⟩;go_wp2_with fail;refine HC.out.mono ?_;rintro e w1 ⟨q,rfl,hq⟩;obtain⟨hb1,hz1⟩:=drewN_size hq;have HZ1:=Lib.hid hz1;clear hq hz1;go_wp2_with fail;refine(clone_any _ _ _ _ (by omega) f (HA.out.below hb1)).mono ?_;rintro e w2 ⟨rfl,hh,hb2,hs2⟩;have HH:=Lib.hid hh;clear hh;have hb02:Below w.heap.size w w2:=hb1.trans (hb2.mono (by have:=HZ1.out;omega));go_wp2;go_ret2;refine⟨_,_,rfl,?_,HR.out _ _ hb02 HH.out HZ.out.2,hb02⟩;rw[HZ.out.1];exact(RMag.nil _).more (by omega)
    · have hc01:cmpn X Y=0∨cmpn X Y=1:=by
        rcases Nat.lt_or_eq_of_le hge with h|h;·exact .inr (cmpn_of_gt h)
        ·rw[h];exact .inl (cmpn_self _)
      obtain⟨cc,hcc⟩:∃cc,cmpn X Y=cc:=⟨_,rfl⟩;rw[hcc] at hcmp hc01;have hcc0:¬(cc<0):=by omega
      have HC:=Lib.hid hcmp;clear hcmp hcc hc01;by_cases hm1:m=1
      · subst hm1;obtain⟨bb,bof,rfl,hbc,hbB⟩:=HB.out 0 (by omega);rw[Nat.add_zero] at hbc;have hY1:Y=g 0:=by rw[←HY.out,V_one]
        have hg0:0<g 0:=by have:=RG.out 0 rfl;omega
        have HY1:=Lib.hid hY1;have HBB:=Lib.hid hbB;clear hY1 hbB;go_enter Tryz.func116,Tryz.ntmps116;go_wp2_with fail;refine T1.out.mono ?_;rintro e w1 ⟨rfl,rfl⟩;go_wp2_with fail;refine T2.out.mono ?_;rintro e w1 ⟨rfl,rfl⟩;go_wp2_with fail;refine HC.out.mono ?_;rintro e w1 ⟨q,rfl,hq⟩;obtain⟨hb1,hz1⟩:=drewN_size hq;have hbc1:w1.cell? ⟨bb,bof,none⟩=some (.int .u64 ((g 0:Nat):Int)):=by rw[hq];exact hbc
        have HZ1:=Lib.hid hz1;clear hq hz1 hbc;go_wp2_with fail;refine(divWord_any _ _ _ _ _ (by omega) f hg0 HBB.out (HA.out.below hb1)).mono ?_;rintro e w2 ⟨vq,rfl,hrq,hb2⟩;have HRQ:=Lib.hid hrq;clear hrq;have hb02:Below w.heap.size w w2:=hb1.trans (hb2.mono (by have:=HZ1.out;omega));have hrB:V f n%g 0<B:=Nat.lt_trans (Nat.mod_lt _ hg0) HBB.out;obtain⟨rr,hrr⟩:∃rr,V f n%g 0=rr:=⟨_,rfl⟩;rw[hrr] at hrB;rw[hrr];have HRR:=Lib.hid hrr;clear hrr;go_wp2_with fail;refine(Of_any rr w2 hrB).mono ?_;rintro e w3 ⟨vr,rfl,hrv,hb3⟩;have HRV:=Lib.hid hrv;clear hrv;have hb03:Below w.heap.size w w3:=hb02.trans (hb3.mono (by have:=hb02.size;omega));go_wp2;go_ret2;refine⟨_,_,rfl,?_,?_,hb03⟩;·have:=HRQ.out;rw[HX.out,←HY1.out] at this;exact(this.below hb3).more (by omega)
        · have e1:rr=X%Y:=by rw[←HRR.out,HX.out,HY1.out]
          rw[←e1];exact HRV.out.short (by rw[e1];exact HML.out)
      · obtain⟨d,rfl⟩:∃d,m=d+2:=⟨m-2,by omega⟩;have hm1':(((d:Int)+2)==1)=false:=by simp only[beq_eq_false_iff_ne];omega
        have hm0':(((d:Int)+2)==0)=false:=by simp only[beq_eq_false_iff_ne];omega
        have hdn:d+2≤n:=by
          rcases Nat.lt_or_ge n (d+2) with a|a
          · exfalso;have:=V_lt_of_len HA.out.lt RG.out a;have h1:=HX.out;have h2:=HY.out;omega
          ·exact a
        have hright:g (d+1)≠0:=RG.out (d+1) (by omega);go_enter Tryz.func116,Tryz.ntmps116;go_wp2_with fail;refine T1.out.mono ?_;rintro e w1 ⟨rfl,rfl⟩;go_wp2_with fail;refine T2.out.mono ?_;rintro e w1 ⟨rfl,rfl⟩;go_wp2_with fail;refine HC.out.mono ?_;rintro e w1 ⟨q,rfl,hq⟩;obtain⟨hb1,hz1⟩:=drewN_size hq;have HZ1:=Lib.hid hz1;clear hq hz1;go_wp2_with fail;refine(divLong_any _ _ _ _ _ _ _ (by omega) f g hdn (HA.out.below hb1) (HB.out.below hb1) hright).mono ?_;rintro e w2 ⟨vq,vr,rfl,hrq,hrr,hb2⟩;have hb02:Below w.heap.size w w2:=hb1.trans (hb2.mono (by have:=HZ1.out;omega));have HRQ:=Lib.hid hrq;have HRR:=Lib.hid hrr;clear hrq hrr;go_wp2;go_ret2;refine⟨_,_,rfl,?_,?_,hb02⟩;·have:=HRQ.out;rw[HX.out,HY.out] at this;exact this.more hnL'
        ·have:=HRR.out;rw[HX.out,HY.out] at this;exact this.short HML.out
end Go.Proofs.YtammmemfkpcpcaaGreat
namespace Go.RowKit
theorem Below.drewN'{M:Nat}{w w':World}(h:Below M w w')(n:Nat):Below M w (w'.drewN n):=⟨h.os,h.tape,h.output,h.size,h.block⟩
theorem Below.drew'{M:Nat}{w w':World}(h:Below M w w'):Below M w w'.drew:=⟨h.os,h.tape,h.output,h.size,h.block⟩
end Go.RowKit
namespace Go.MagM
open Go.RowKit
def sgn(m:Bool)(N:Nat):Int:=if m then-(N:Int) else(N:Int)
def Num(w:World)(v:Value)(L:Nat)(X:Int):Prop:=∃m vm N,v= .agg #[.bool m,vm]∧Mag w vm L N∧X=sgn m N
def RNum(w:World)(v:Value)(L:Nat)(X:Int):Prop:=∃m vm N,v= .agg #[.bool m,vm]∧RMag w vm L N∧X=sgn m N∧(m=true→N≠0)
theorem Num.below{w w':World}{v:Value}{L:Nat}{X:Int}(h:Num w v L X)(hb:Below w.heap.size w w'):Num w' v L X:=by obtain⟨m,vm,N,h1,h2,h3⟩:=h;exact⟨m,vm,N,h1,h2.below hb,h3⟩
theorem RNum.below{w w':World}{v:Value}{L:Nat}{X:Int}(h:RNum w v L X)(hb:Below w.heap.size w w'):RNum w' v L X:=by obtain⟨m,vm,N,h1,h2,h3,h4⟩:=h;exact⟨m,vm,N,h1,h2.below hb,h3,h4⟩
theorem RNum.num{w:World}{v:Value}{L:Nat}{X:Int}(h:RNum w v L X):Num w v L X:=by obtain⟨m,vm,N,h1,h2,h3,h4⟩:=h;exact⟨m,vm,N,h1,h2.mag,h3⟩
theorem RNum.more{w:World}{v:Value}{L L':Nat}{X:Int}(h:RNum w v L X)(hL:L≤L'):RNum w v L' X:=by obtain⟨m,vm,N,h1,h2,h3,h4⟩:=h;exact⟨m,vm,N,h1,h2.more hL,h3,h4⟩
theorem RNum.of{w:World}{v:Value}{L:Nat}{X Y:Int}(h:RNum w v L X)(e:X=Y):RNum w v L Y:=e▸h
structure Box2(w:World)(g:Nat)(u v:Value):Prop where
  c0:w.cell? ⟨g,0,none⟩=some u
  c1:w.cell? ⟨g,1,none⟩=some v
  f0:w.frozen? ⟨g,0,none⟩=false
  f1:w.frozen? ⟨g,1,none⟩=false
theorem Box2.below{w w':World}{g:Nat}{u v:Value}(h:Box2 w g u v)(hb:Below w.heap.size w w'):Box2 w' g u v:=by have h0:=World.block_lt_of_cell? w _ h.c0;exact⟨(hb.cell (p:=⟨g,0,none⟩) h0).trans h.c0,(hb.cell (p:=⟨g,1,none⟩) h0).trans h.c1,(hb.frozen (p:=⟨g,0,none⟩) h0).trans h.f0,(hb.frozen (p:=⟨g,1,none⟩) h0).trans h.f1⟩
theorem Box2.set0{w:World}{g:Nat}{u v:Value}(h:Box2 w g u v)(x:Value):Box2 (w.setCell ⟨g,0,none⟩ x) g x v:=⟨World.cell?_setCell_same _ _ _ h.c0,(World.cell?_setCell_other _ _ _ _ (by simp)).trans h.c1,(World.frozen?_setCell _ _ _ _).trans h.f0,(World.frozen?_setCell _ _ _ _).trans h.f1⟩
theorem Box2.set1{w:World}{g:Nat}{u v:Value}(h:Box2 w g u v)(x:Value):Box2 (w.setCell ⟨g,1,none⟩ x) g u x:=⟨(World.cell?_setCell_other _ _ _ _ (by simp)).trans h.c0,World.cell?_setCell_same _ _ _ h.c1,(World.frozen?_setCell _ _ _ _).trans h.f0,(World.frozen?_setCell _ _ _ _).trans h.f1⟩
theorem Box2.far{w:World}{g g':Nat}{u v:Value}(h:Box2 w g u v)(hne:g≠g')(o:Nat)(x:Value):Box2 (w.setCell ⟨g',o,none⟩ x) g u v:=by
  have ne:∀i j,(⟨g',i,none⟩:Addr)≠⟨g,j,none⟩:=by intro i j e;injection e with e1;exact hne e1.symm
  have ne':∀i j,(⟨g,i,none⟩:Addr)≠⟨g',j,none⟩:=by intro i j e;injection e with e1;exact hne e1
  refine⟨?_,?_,(World.frozen?_setCell _ _ _ _).trans h.f0,(World.frozen?_setCell _ _ _ _).trans h.f1⟩;·rw[World.cell?_setCell_other _ _ _ _ (by first|exact ne _ _|exact ne' _ _)];exact h.c0
  ·rw[World.cell?_setCell_other _ _ _ _ (by first|exact ne _ _|exact ne' _ _)];exact h.c1
theorem Box2.drewN{w:World}{g:Nat}{u v:Value}(h:Box2 w g u v)(n:Nat):Box2 (w.drewN n) g u v:=⟨h.c0,h.c1,h.f0,h.f1⟩
theorem Box2.drew{w:World}{g:Nat}{u v:Value}(h:Box2 w g u v):Box2 w.drew g u v:=⟨h.c0,h.c1,h.f0,h.f1⟩
theorem Mag.drew{w:World}{v:Value}{L N:Nat}(h:Mag w v L N):Mag w.drew v L N:=h
theorem alloc_box(w:World)(u v:Value)(T:TypeId):Box2 (w.alloc (.cells #[u,v] T)) w.heap.size u v:=by constructor<;>simp[go_sem]
theorem Box2.alloc{w:World}{g:Nat}{u v:Value}(h:Box2 w g u v)(o:Obj):Box2 (w.alloc o) g u v:=h.below ((Below.refl _ _).alloc (Nat.le_refl _) _)
theorem alloc_size(w:World)(o:Obj):(w.alloc o).heap.size=w.heap.size+1:=by simp
theorem boxed1(w:World)(u0 u1:Value)(T:TypeId):Box2 (w.alloc (.cells #[u0,u1] T)) w.heap.size u0 u1∧Below w.heap.size w (w.alloc (.cells #[u0,u1] T)):=⟨alloc_box _ _ _ _,(Below.refl _ _).alloc (Nat.le_refl _) _⟩
theorem boxed2(w:World)(u0 u1 v0 v1:Value)(T:TypeId):Box2 ((w.alloc (.cells #[u0,u1] T)).alloc (.cells #[v0,v1] T)) w.heap.size u0 u1∧Box2 ((w.alloc (.cells #[u0,u1] T)).alloc (.cells #[v0,v1] T)) (w.heap.size+1) v0 v1∧Below w.heap.size w ((w.alloc (.cells #[u0,u1] T)).alloc (.cells #[v0,v1] T)):=by have h:=alloc_box (w.alloc (.cells #[u0,u1] T)) v0 v1 T;rw[alloc_size] at h;exact⟨(alloc_box _ _ _ _).alloc _,h,((Below.refl _ _).alloc (Nat.le_refl _) _).alloc (by simp) _⟩
theorem boxed3(w:World)(u0 u1 v0 v1 x0 x1:Value)(T:TypeId):Box2 (((w.alloc (.cells #[u0,u1] T)).alloc (.cells #[v0,v1] T)).alloc (.cells #[x0,x1] T)) w.heap.size u0 u1∧Box2 (((w.alloc (.cells #[u0,u1] T)).alloc (.cells #[v0,v1] T)).alloc (.cells #[x0,x1] T)) (w.heap.size+1) v0 v1∧Box2 (((w.alloc (.cells #[u0,u1] T)).alloc (.cells #[v0,v1] T)).alloc (.cells #[x0,x1] T)) (w.heap.size+1+1) x0 x1∧Below w.heap.size w (((w.alloc (.cells #[u0,u1] T)).alloc (.cells #[v0,v1] T)).alloc (.cells #[x0,x1] T)):=by obtain⟨h1,h2,h3⟩:=boxed2 w u0 u1 v0 v1 T;have h:=alloc_box ((w.alloc (.cells #[u0,u1] T)).alloc (.cells #[v0,v1] T)) x0 x1 T;rw[alloc_size,alloc_size] at h;exact⟨h1.alloc _,h2.alloc _,h,h3.alloc (by simp;omega) _⟩
theorem Num.drew{w:World}{v:Value}{L:Nat}{X:Int}(h:Num w v L X):Num w.drew v L X:=h
theorem RNum.drew{w:World}{v:Value}{L:Nat}{X:Int}(h:RNum w v L X):RNum w.drew v L X:=h
theorem RMag.drew{w:World}{v:Value}{L N:Nat}(h:RMag w v L N):RMag w.drew v L N:=h
def NoInt(u:Value):Prop:=∀k x,u≠ .int k x
theorem NoInt.bool(b:Bool):NoInt (.bool b):=fun _ _ h=>by cases h
theorem NoInt.slice(a:Option Addr)(n c:Nat):NoInt (.slice a n c):=fun _ _ h=>by cases h
theorem Reads.setCell{w:World}{ao:Option Addr}{n:Nat}{f:Nat→Nat}(hr:Reads w ao n f){a:Addr}{u:Value}(hc:w.cell? a=some u)(hu:NoInt u)(v:Value):Reads (w.setCell a v) ao n f:=by
  intro i hi;obtain⟨b,o,e,h1,h2⟩:=hr i hi;refine⟨b,o,e,?_,h2⟩;have ne:a≠⟨b,o+i,none⟩:=by
    intro h;rw[h,h1] at hc;exact hu _ _ (Option.some.inj hc).symm
  rw[World.cell?_setCell_other _ _ _ _ (by first|exact ne|exact ne.symm)];exact h1
theorem Mag.setCell{w:World}{v:Value}{L N:Nat}(h:Mag w v L N){a:Addr}{u:Value}(hc:w.cell? a=some u)(hu:NoInt u)(x:Value):Mag (w.setCell a x) v L N:=by obtain⟨ao,n,c,f,h1,h2,h3,h4,h5⟩:=h;exact⟨ao,n,c,f,h1,h2,h3,h4.setCell hc hu x,h5⟩
theorem RMag.setCell{w:World}{v:Value}{L N:Nat}(h:RMag w v L N){a:Addr}{u:Value}(hc:w.cell? a=some u)(hu:NoInt u)(x:Value):RMag (w.setCell a x) v L N:=by obtain⟨ao,n,c,f,h1,h2,h3,h4,h5⟩:=h;exact⟨ao,n,c,f,h1,h2,h3,h4.setCell hc hu x,h5⟩
theorem RNum.setCell{w:World}{v:Value}{L:Nat}{N:Int}(h:RNum w v L N){a:Addr}{u:Value}(hc:w.cell? a=some u)(hu:NoInt u)(x:Value):RNum (w.setCell a x) v L N:=by obtain⟨m,vm,M,h1,h2,h3⟩:=h;exact⟨m,vm,M,h1,h2.setCell hc hu x,h3⟩
theorem RNum.set2{w:World}{v:Value}{L:Nat}{N:Int}(h:RNum w v L N){g:Nat}{b:Bool}{ao:Option Addr}{n c:Nat}(hb:Box2 w g (.bool b) (.slice ao n c))(x y:Value):RNum ((w.setCell ⟨g,0,none⟩ x).setCell ⟨g,1,none⟩ y) v L N:=(h.setCell hb.c0 (NoInt.bool _) x).setCell (hb.set0 x).c1 (NoInt.slice _ _ _) y
theorem Mag.set2{w:World}{v:Value}{L N:Nat}(h:Mag w v L N){g:Nat}{b:Bool}{ao:Option Addr}{n c:Nat}(hb:Box2 w g (.bool b) (.slice ao n c))(x y:Value):Mag ((w.setCell ⟨g,0,none⟩ x).setCell ⟨g,1,none⟩ y) v L N:=(h.setCell hb.c0 (NoInt.bool _) x).setCell (hb.set0 x).c1 (NoInt.slice _ _ _) y
theorem Mag.slice{w:World}{v:Value}{L N:Nat}(h:Mag w v L N):∃ao n c,v= .slice ao n c:=by obtain⟨ao,n,c,f,h1,_⟩:=h;exact⟨ao,n,c,h1⟩
theorem RMag.slice{w:World}{v:Value}{L N:Nat}(h:RMag w v L N):∃ao n c,v= .slice ao n c:=h.mag.slice
theorem Box2.set2{w:World}{g:Nat}{u v:Value}(h:Box2 w g u v)(x y:Value):Box2 ((w.setCell ⟨g,0,none⟩ x).setCell ⟨g,1,none⟩ y) g x y:=(h.set0 x).set1 y
theorem Box2.far2{w:World}{g g':Nat}{u v:Value}(h:Box2 w g u v)(hne:g≠g')(x y:Value):Box2 ((w.setCell ⟨g',0,none⟩ x).setCell ⟨g',1,none⟩ y) g u v:=(h.far hne 0 x).far hne 1 y
theorem below_set2{M:Nat}{w w':World}(h:Below M w w'){g:Nat}(hg:M≤g)(x y:Value):Below M w ((w'.setCell ⟨g,0,none⟩ x).setCell ⟨g,1,none⟩ y):=(h.setCell (p:=⟨g,0,none⟩) hg x).setCell (p:=⟨g,1,none⟩) hg y
theorem sgn_neg(m:Bool)(N:Nat):sgn (!m) N=-sgn m N:=by cases m<;>simp[sgn]
theorem sgn_mul(m k:Bool)(N M:Nat):sgn (m !=k) (N*M)=sgn m N*sgn k M:=by cases m<;>cases k<;>simp[sgn,Int.natCast_mul,Int.neg_mul,Int.mul_neg]
theorem sgn_add(m:Bool)(N M:Nat):sgn m (N+M)=sgn m N+sgn m M:=by cases m<;>simp only[sgn,if_true,if_false,Bool.false_eq_true]<;>omega
theorem sgn_sub(m:Bool)(N M:Nat)(h:M≤N):sgn m (N-M)=sgn m N+sgn (!m) M:=by cases m<;>simp only[sgn,if_true,if_false,Bool.false_eq_true,Bool.not_true,Bool.not_false]<;>omega
theorem sgn_flip(m:Bool)(N M:Nat)(h:N≤M):sgn (!m) (M-N)=sgn m N+sgn (!m) M:=by cases m<;>simp only[sgn,if_true,if_false,Bool.false_eq_true,Bool.not_true,Bool.not_false]<;>omega
theorem sgn_false(N:Nat):sgn false N=(N:Int):=rfl
theorem sgn_true(N:Nat):sgn true N=-(N:Int):=rfl
end Go.MagM
