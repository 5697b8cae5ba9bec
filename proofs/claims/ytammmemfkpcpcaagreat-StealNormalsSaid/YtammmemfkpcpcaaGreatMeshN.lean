import Derived.RangeFuncBox
import Derived.RangeFuncCalls
import Derived.RangeFuncLeaves
import Derived.Shelf.Abstract
import Derived.Shelf.RegionOpen
import Derived.WalkKit
import Derived.OwnWalkIn
import Derived.TacticsInMore
import Derived.LoopNIn
import Derived.LoopIn
import Derived.Test.YtammmemfkpcpcaaGreatPartn
set_option linter.unusedSimpArgs false
set_option linter.unusedVariables false
namespace Go.MagM
open Go.RowKit
def KeepB(Pb:Nat→Prop)(W W':World):Prop:=∀b,Pb b→W'.heap[b]?=W.heap[b]?
theorem KeepB.refl(Pb:Nat→Prop)(W:World):KeepB Pb W W:=fun _ _=>rfl
theorem KeepB.trans{Pb:Nat→Prop}{A B C:World}(h:KeepB Pb A B)(k:KeepB Pb B C):KeepB Pb A C:=fun b hb=>(k b hb).trans (h b hb)
theorem KeepB.cell{Pb:Nat→Prop}{A B:World}(h:KeepB Pb A B){b o:Nat}(hb:Pb b):B.cell? ⟨b,o,none⟩=A.cell? ⟨b,o,none⟩:=World.cell?_of_block (a:=⟨b,o,none⟩) (h b hb)
theorem KeepB.drew{Pb:Nat→Prop}{A B:World}(h:KeepB Pb A B)(q:Nat):KeepB Pb A (B.drewN q):=fun b hb=>h b hb
structure MeshIn(Pb:Nat→Prop)(mb pb:Nat)(ta:Option Addr):Prop where
  m:Pb mb
  p:Pb pb
  t:∀b,ta=some ⟨b,0,none⟩→Pb b
theorem MeshR.keep{w w':World}{mb pb pc:Nat}{ta:Option Addr}{tc:Nat}{P:List (Int×Int)}{S:List TriM}{Pb:Nat→Prop}(h:MeshR w mb pb pc ta tc P S)(hi:MeshIn Pb mb pb ta)(hk:KeepB Pb w w'):MeshR w' mb pb pc ta tc P S:=by
  refine⟨⟨fun i v hv=>(hk.cell hi.m).trans (h.box.c i v hv),fun i v hv=>?_⟩,fun i x y hi'=>?_,fun i T hT=>?_,h.short⟩;· have e:=hk mb hi.m;exact(World.frozen?_of_block (a:=⟨mb,i,none⟩) e).trans (h.box.f i v hv)
  · obtain⟨h1,h2⟩:=h.pts i x y hi';exact⟨(hk.cell hi.p).trans h1,(hk.cell hi.p).trans h2⟩
  · obtain⟨b,h0,h1⟩:=h.tris i T hT;exact⟨b,h0,fun j v hj=>(hk.cell (hi.t b h0)).trans (h1 j v hj)⟩
abbrev RB(S:List TriM):={x:Nat×Nat//x.1<S.length∧x.2<3}
def encR{S:List TriM}(x:RB S):Array Value:=#[.int .i64 (x.1.1:Int),.int .i64 (x.1.2:Int)]
def stepM(S:List TriM)(v t:Int):Int:=match getT S t with|none=>-1|some T=>T.n (((placeT T v).toNat+1)%3)
def walkM(S:List TriM)(v first:Int):Nat→Int→List (Nat×Nat)|0,_=>[]|n+1,t=>if placeM S t v=-1 then[] else(t.toNat,(placeM S t v).toNat)::(if stepM S v t=first then[] else walkM S v first n (stepM S v t))
theorem placeM_some{S:List TriM}{t v:Int}(h:placeM S t v≠-1):∃(m k:Nat) (T:TriM),t=(m:Int)∧placeM S t v=(k:Int)∧k<3∧S[m]?=some T∧goneB T=false∧placeT T v=(k:Int)∧T.v k=v:=by unfold placeM at h⊢;cases hg:getT S t with|none=>rw[hg] at h;exact absurd rfl h|some T=>rw[hg] at h;simp only[] at h⊢;cases hgo:goneB T with|true=>rw[hgo] at h;simp at h|false=>
      rw[hgo] at h;simp only[Bool.false_eq_true,if_false] at h⊢;obtain⟨h0,h1,h2⟩:=getT_some hg;have hv:∀k:Nat,placeT T v=(k:Int)→T.v k=v:=by
        intro k hk;unfold placeT at hk;split at hk
        · have:k=0:=by omega
          subst this;simp only[TriM.v];omega
        · split at hk
          · have:k=1:=by omega
            subst this;simp only[TriM.v];omega
          · split at hk
            · have:k=2:=by omega
              subst this;simp only[TriM.v];omega
            ·omega
      rcases placeT_cases T v with hc|hc|hc|hc;·exact absurd hc h
      ·exact⟨t.toNat,0,T,by omega,hc,by omega,h2,hgo,hc,hv 0 hc⟩
      ·exact⟨t.toNat,1,T,by omega,hc,by omega,h2,hgo,hc,hv 1 hc⟩
      ·exact⟨t.toNat,2,T,by omega,hc,by omega,h2,hgo,hc,hv 2 hc⟩
end Go.MagM
namespace Go.Proofs.YtammmemfkpcpcaaGreat
open Go.RowKit Go.MagM Go.Shelf
attribute [local go_sem] Oper.semAt_some
set_option maxRecDepth 100000 in set_option maxHeartbeats 8000000 in theorem round1_at(n:Nat)(hn:1≤n)(l Bb Bv Bm:Nat)(Pb:Nat→Prop){mb pb pc:Nat}{ta:Option Addr}{tc:Nat}{P:List (Int×Int)}{S:List TriM}(v:Int)(J Jx:List (RB S)→World→Prop)(hY:∀pre x W,J pre W→pre.length<S.length→YieldAt Fence.wide (n-1) Tryz.prog l (encR x) W fun e W'=>(e= .returned (.bool true)∧J (pre++[x]) W'∧KeepB Pb W W')∨(e= .returned (.bool false)∧Jx (pre++[x]) W'))(W:World)(hm:MeshR W mb pb pc ta tc P S)(hin:MeshIn Pb mb pb ta)(hBb:W.cell? ⟨Bb,0,none⟩=some (.func (.func 12) #[.pointer (some ⟨mb,0,none⟩)] #[]))(hBv:W.cell? ⟨Bv,0,none⟩=some (.int .i64 v))(hBm:W.cell? ⟨Bm,0,none⟩=some (.pointer (some ⟨mb,0,none⟩)))(hPv:Pb Bv)(hPm:Pb Bm)(h0:J [] W):CallsIn Fence.wide n Tryz.prog 92 #[.func (.yield l) #[] #[],.pointer (some ⟨Bb,0,none⟩),.pointer (some ⟨Bv,0,none⟩),.pointer (some ⟨Bm,0,none⟩)] W fun e W'=>(∃v,e= .returned v)∧((∃ys:List (RB S),ys.map (·.1)=walkM S v (atM S v) S.length (atM S v)∧J ys W')∨(∃pre:List (RB S),pre.map (·.1)<+:walkM S v (atM S v) S.length (atM S v)∧Jx pre W')):=by
  have hF:∀k,Fence.wide.fn k:=fun _=>trivial;have hsh:=hm.short.2;have hfirst:=At_any v W hm;obtain⟨first,hfi⟩:∃first,atM S v=first:=⟨_,rfl⟩;rw[hfi] at hfirst⊢;obtain⟨len,hlen⟩:∃len,S.length=len:=⟨_,rfl⟩;have b0:=hm.box.c0;have b1:=hm.box.c1;rw[hlen] at b1 hsh;have hfin:walkM S v first len first=walkM S v first S.length first:=by rw[hlen]
  have HFIN:=Lib.hid hfin;clear hfin;have HM:=Lib.hid hm;have HF:=Lib.hid hfirst;have HLEN:=Lib.hid hlen;clear hm hfirst hfi hlen;refine callsIn_of_wp Tryz.func92 rfl trivial ?_ rfl;simp only[Tryz.ntmps92,List.size_toArray,List.length_cons,List.length_nil,Nat.reduceAdd,Nat.reduceSub,Array.replicate_succ,Array.replicate_zero,List.push_toArray,List.append_toArray,List.nil_append,List.cons_append];gi_wp2_with fail;refine(callsIn_wide.2 HF.out).mono ?_;rintro e w' ⟨rfl,rfl⟩;gi_wp2;clear b0 b1;gi_loopw [6,7,8,18] (fun tv _ _ iv wr=>∃(i:Nat) (t:Int) (pre:List (RB S)),i≤len∧iv= .int .i64 i∧tv= .int .i64 t∧pre.length=i∧pre.map (·.1)++walkM S v first (len-i) t=walkM S v first len first∧J pre wr∧KeepB Pb W wr) (fun _ _ _ iv _=>len-(intOf iv).toNat);case atStart=>exact⟨0,first,[],Nat.zero_le _,rfl,rfl,rfl,by simp,h0,KeepB.refl _ _⟩
  case round=>
    obtain⟨i,t,pre,hi,rfl,rfl,hpl,hrest,hJs,hnx⟩:=hrel;have HR:=Lib.hid hrest;have HPL:=Lib.hid hpl;clear hrest hpl;by_cases hlt:i<len
    · have hcm:wr.cell? ⟨Bm,0,none⟩=some (.pointer (some ⟨mb,0,none⟩)):=(hnx.cell hPm).trans hBm;have hcv:wr.cell? ⟨Bv,0,none⟩=some (.int .i64 v):=(hnx.cell hPv).trans hBv;have hm_0:=HM.out.keep hin hnx;have hpl:=place_any t v wr hm_0;obtain⟨p,hp⟩:∃p,placeM S t v=p:=⟨_,rfl⟩;rw[hp] at hpl;have HP:=Lib.hid hp;have HPC:=Lib.hid hpl;clear hp hpl;by_cases hpm:p=-1
      · have hw:walkM S v first (len-i) t=[]:=by rw[show len-i=(len-i-1)+1 by omega,walkM,if_pos (by rw[HP.out];exact hpm)]
        subst hpm;gi_wp2_with fail;refine(callsIn_wide.2 HPC.out).mono ?_;rintro e w' ⟨rfl,rfl⟩;gi_wp2;refine bodyPost_ret (results_none rfl _ _ _) rfl ?_;refine⟨⟨_,rfl⟩,.inl ⟨pre,?_,hJs⟩⟩;rw[←HFIN.out,←HR.out,hw,List.append_nil]
      · obtain⟨m,k,T,rfl,hk,hk3,hT,hgo,hpt,hvk⟩:=placeM_some (S:=S) (t:=t) (v:=v) (by rw[HP.out];exact hpm);obtain rfl:p=(k:Int):=by rw[←HP.out];exact hk
        have hml:=(List.getElem?_eq_some_iff.1 hT).1;rw[HLEN.out] at hml;obtain⟨tb,hta,-,ht9⟩:=hm_0.tris.get hT;subst hta;obtain⟨k1,hk1⟩:∃k1,(k+1)%3=k1:=⟨_,rfl⟩;have hk13:k1<3:=by omega
        obtain⟨nx,hnxt⟩:∃nx,stepM S v (m:Int)=nx:=⟨_,rfl⟩;have hnn:T.n k1=nx:=by rw[←hnxt];unfold stepM;rw[getT_nat,hT];simp only[];rw[hpt,Int.toNat_natCast,hk1]
        have hcn:=ht9.n hk13;rw[hnn] at hcn;have hmod:((k:Int)+1).tmod 3=(k1:Int):=by have:=mod_one k 3;rw[hk1] at this;exact this
        have hwk:IntKind.i64.wrap ((k:Int)+1)=(k:Int)+1:=by rw[IntKind.wrap_i64];omega
        have hp0:((k:Int)==-1)=false:=by simp
        have hb1:(0:Int)≤(m:Int):=by omega
        have hb2:(m:Int)<(len:Int):=by omega
        have hb3:(0:Int)≤(k1:Int):=by omega
        have hb4:(k1:Int)<3:=by omega
        have hwalk:walkM S v first (len-i) (m:Int)=(m,k)::(if nx=first then[] else walkM S v first (len-(i+1)) nx):=by rw[show len-i=(len-(i+1))+1 by omega,walkM,if_neg (by rw[hk];omega),hnxt,hk,Int.toNat_natCast,Int.toNat_natCast]
        obtain⟨x,hx⟩:∃x:RB S,x.1=(m,k):=⟨⟨(m,k),by rw[HLEN.out];exact hml,hk3⟩,rfl⟩;have c0:=hm_0.box.c0;have c1:=hm_0.box.c1;rw[HLEN.out] at c1;obtain⟨fn,tmps,assign,body,hy,hR⟩:=hY pre x wr hJs (by rw[HPL.out,HLEN.out];exact hlt);unfold encR at hy;rw[hx] at hy;dsimp only at hy;have HW:=Lib.hid hwalk;have HX:=Lib.hid hx;have HN:=Lib.hid hnxt;clear hwalk hx hnxt hk hT hgo hpt hvk ht9 hnn hpm hk1 hm_0;gi_wp2_with fail;refine(callsIn_wide.2 HPC.out).mono ?_;rintro e w' ⟨rfl,rfl⟩;gi_wp2;refine hR.mono ?_;rintro e W3 (⟨rfl,hJ3,hk3'⟩|⟨rfl,hJx3⟩)
        · by_cases hnf:nx=first
          · have hnd:(nx==first)=true:=by simp[hnf]
            have HNF:=Lib.hid hnf;clear hnf;gi_wp2;refine bodyPost_ret (results_none rfl _ _ _) rfl ?_;refine⟨⟨_,rfl⟩,.inl ⟨pre++[x],?_,hJ3⟩⟩;rw[←HFIN.out,←HR.out,HW.out,if_pos HNF.out,List.map_append,List.map_cons,List.map_nil,HX.out]
          · have hnd:(nx==first)=false:=by simp[hnf]
            have HNF:=Lib.hid hnf;clear hnf;gi_wp2;go_roundw;case rel=>exact⟨i+1,nx,pre++[x],by omega,by go_num,rfl,by rw[List.length_append,HPL.out];rfl,by rw[←HR.out,HW.out,if_neg HNF.out,List.map_append,List.map_cons,List.map_nil,HX.out,List.append_assoc];rfl,hJ3,hnx.trans hk3'⟩
            case measure=>simp[intOf];omega
        · gi_wp2;refine bodyPost_ret (results_none rfl _ _ _) rfl ?_;refine⟨⟨_,rfl⟩,.inr ⟨pre++[x],?_,hJx3⟩⟩;rw[←HFIN.out,←HR.out,HW.out,List.map_append,List.map_cons,List.map_nil,HX.out];exact⟨_,by rw[List.append_assoc];rfl⟩
    · have hw:walkM S v first (len-i) t=[]:=by rw[show len-i=0 by omega];rfl
      gi_wp2;go_end0;refine⟨⟨_,rfl⟩,.inl ⟨pre,?_,hJs⟩⟩;rw[←HFIN.out,←HR.out,hw,List.append_nil]
end Go.Proofs.YtammmemfkpcpcaaGreat
