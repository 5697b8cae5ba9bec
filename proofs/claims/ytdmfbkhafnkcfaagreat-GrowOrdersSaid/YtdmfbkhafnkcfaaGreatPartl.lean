import Derived.Test.YtdmfbkhafnkcfaaGreatPartk
import Derived.Laws.Cover1
import Derived.Test.YtdmfbkhafnkcfaaGreatPartg
import Derived.Test.YtdmfbkhafnkcfaaGreatParth
import Derived.Test.YtdmfbkhafnkcfaaGreatPartj
import Derived.Test.YtdmfbkhafnkcfaaGreatParti
set_option linter.unusedSimpArgs false
set_option linter.unusedVariables false
namespace Go.MagM
open Go.RowKit
def realT(T:TriM):Bool:=decide (0≤T.v0∧0≤T.v1∧0≤T.v2)
def realM(S:List TriM)(t:Int):Bool:=match getT S t with|none=>false|some T=>realT T
theorem realT_gone{T:TriM}(h:goneB T=true):realT T=false:=by unfold goneB at h;unfold realT;have:=of_decide_eq_true h;exact decide_eq_false (by omega)
end Go.MagM
namespace Go.Proofs.YtdmfbkhafnkcfaaGreat
open Go.RowKit Go.MagM
theorem there_quiet{mb pb pc:Nat}{ta:Option Addr}{tc:Nat}{P:List (Int×Int)}{S:List TriM}(t:Int)(w:World)(h:MeshR w mb pb pc ta tc P S):Calls Tryz.prog 169 #[.pointer (some ⟨mb,0,none⟩),.int .i64 t] w fun e w'=>e= .returned (.bool (thereB S t))∧w'=w:=(there_any t w h).mono fun _ _ ⟨a,b⟩=>⟨a,b.symm⟩
set_option maxRecDepth 100000 in set_option maxHeartbeats 4000000 in theorem Real_any{mb pb pc:Nat}{ta:Option Addr}{tc:Nat}{P:List (Int×Int)}{S:List TriM}(t:Int)(w:World)(h:MeshR w mb pb pc ta tc P S):Calls Tryz.prog 92 #[.pointer (some ⟨mb,0,none⟩),.int .i64 t] w fun e w'=>e= .returned (.bool (realM S t))∧Drew w w':=by
  obtain⟨b0,b1,-,-⟩:=h.box.open2;have hsh:=h.short.2;have hc:=fun n=>there_quiet t _ (h.drewN n);obtain⟨r,hr⟩:∃r,realM S t=r:=⟨_,rfl⟩;rw[hr];unfold realM at hr;unfold thereB at hc;cases hg:getT S t with
  |none=>
    rw[hg] at hr hc;simp only[] at hr hc;subst hr;have HC:=Lib.hid hc;clear hc h hsh hg;go_enter Tryz.func92,Tryz.ntmps92;go_wp2;go_quiet ((go_at_call 169;exact Calls.quiet_of_same (HC.out _)));go_wp2;go_ret;exact⟨rfl,_,rfl⟩|some T=>
    rw[hg] at hr hc;simp only[] at hr hc;cases hgo:goneB T with
    |true=>
      rw[realT_gone hgo] at hr;rw[hgo,Bool.not_true] at hc;subst hr;have HC:=Lib.hid hc;clear hc h hsh hg hgo;go_enter Tryz.func92,Tryz.ntmps92;go_wp2;go_quiet ((go_at_call 169;exact Calls.quiet_of_same (HC.out _)));go_wp2;go_ret;exact⟨rfl,_,rfl⟩|false=>
      rw[hgo,Bool.not_false] at hc;obtain⟨h0,h1,h2⟩:=getT_some hg;obtain⟨k,rfl⟩:∃k:Nat,t=k:=⟨t.toNat,by omega⟩;obtain⟨tb,rfl,hbl,ht⟩:=h.tris.get h2;simp only[Int.toNat_natCast] at ht;have hkl:k<S.length:=by omega
      have HC:=Lib.hid hc;have c0:=ht.c0;have c1:=ht.c1;have c2:=ht.c2;obtain⟨m,hm⟩:∃m:Int,(if T.v2<(if T.v1<T.v0 then T.v1 else T.v0) then T.v2 else(if T.v1<T.v0 then T.v1 else T.v0))=m:=⟨_,rfl⟩;have hmin:∀w:World,Sem.run Tryz.prog (Builtin.min_ #[3,3,3] 3 #[.int .i64 T.v0,.int .i64 T.v1,.int .i64 T.v2]) w=Result.ok (Value.int .i64 m) w:=fun w=>by rw[run_min_int3,hm]
      have hd:decide (0≤m)=r:=by rw[←hr,←hm];unfold realT;rw[decide_eq_decide];split<;>split at*<;>omega
      clear hc hr hg hgo h h2 ht hsh hm;go_enter Tryz.func92,Tryz.ntmps92;go_wp2;go_quiet ((go_at_call 169;exact Calls.quiet_of_same (HC.out _)));go_wp2;go_ret;exact⟨rfl,_,rfl⟩
end Go.Proofs.YtdmfbkhafnkcfaaGreat
namespace Go.MagM
open Go.RowKit
def getP(P:List (Int×Int))(v:Int):Option (Int×Int):=if 0≤v then P[v.toNat]? else none
theorem getP_some{P:List (Int×Int)}{v:Int}{p:Int×Int}(h:getP P v=some p):0≤v∧v<(P.length:Int)∧P[v.toNat]?=some p:=by
  unfold getP at h;by_cases h0:0≤v
  · rw[if_pos h0] at h;have:=(List.getElem?_eq_some_iff.1 h).1;exact⟨h0,by omega,h⟩
  ·rw[if_neg h0] at h;cases h
theorem getP_none{P:List (Int×Int)}{v:Int}(h:getP P v=none):¬(0≤v∧v<(P.length:Int)):=by
  unfold getP at h;by_cases h0:0≤v
  · rw[if_pos h0] at h;have:=List.getElem?_eq_none_iff.1 h;omega
  ·omega
def turnM(P:List (Int×Int))(a b c:Int):Int:=match getP P a,getP P b,getP P c with|some p,some q,some r=>(crs p.1 p.2 q.1 q.2 r.1 r.2).sign|_,_,_=>0
def InPs(P:List (Int×Int)):Prop:=∀p,p∈P→InP p.1∧InP p.2
end Go.MagM
namespace Go.Proofs.YtdmfbkhafnkcfaaGreat
open Go.RowKit Go.MagM
set_option maxRecDepth 100000 in set_option maxHeartbeats 4000000 in theorem turn_no{mb pb pc:Nat}{ta:Option Addr}{tc:Nat}{P:List (Int×Int)}{S:List TriM}(a b c:Int)(qa qb qc:Bool)(w:World)(h:MeshR w mb pb pc ta tc P S)(ha:decide (0≤a∧a<(P.length:Int))=qa)(hb:decide (0≤b∧b<(P.length:Int))=qb)(hc:decide (0≤c∧c<(P.length:Int))=qc)(hno:(qa&&qb&&qc)=false):Calls Tryz.prog 165 #[.pointer (some ⟨mb,0,none⟩),.int .i64 a,.int .i64 b,.int .i64 c] w fun e w'=>e= .returned (.int .i64 0)∧w=w':=by
  have ca:=isPoint_any a w h;have cb:=isPoint_any b w h;have cc:=isPoint_any c w h;rw[ha] at ca;rw[hb] at cb;rw[hc] at cc;have CA:=Lib.hid ca;have CB:=Lib.hid cb;have CC:=Lib.hid cc;clear ca cb cc ha hb hc h;cases qa
  · clear hno;go_enter Tryz.func165,Tryz.ntmps165;go_wp2_with fail;refine CA.out.mono ?_;rintro e w' ⟨rfl,rfl⟩;go_wp2;go_ret;exact⟨rfl,rfl⟩
  · cases qb
    · clear hno;go_enter Tryz.func165,Tryz.ntmps165;go_wp2_with fail;refine CA.out.mono ?_;rintro e w' ⟨rfl,rfl⟩;go_wp2_with fail;refine CB.out.mono ?_;rintro e w' ⟨rfl,rfl⟩;go_wp2;go_ret;exact⟨rfl,rfl⟩
    · cases qc
      · clear hno;go_enter Tryz.func165,Tryz.ntmps165;go_wp2_with fail;refine CA.out.mono ?_;rintro e w' ⟨rfl,rfl⟩;go_wp2_with fail;refine CB.out.mono ?_;rintro e w' ⟨rfl,rfl⟩;go_wp2_with fail;refine CC.out.mono ?_;rintro e w' ⟨rfl,rfl⟩;go_wp2;go_ret;exact⟨rfl,rfl⟩
      ·simp at hno
set_option maxRecDepth 100000 in set_option maxHeartbeats 4000000 in theorem turn_yes{mb pb pc:Nat}{ta:Option Addr}{tc:Nat}{P:List (Int×Int)}{S:List TriM}(a b c:Nat)(a0 a1 b0 b1 c0 c1 s:Int)(w:World)(h:MeshR w mb pb pc ta tc P S)(hP:InPs P)(ha:P[a]?=some (a0,a1))(hb:P[b]?=some (b0,b1))(hc:P[c]?=some (c0,c1))(hs:(crs a0 a1 b0 b1 c0 c1).sign=s):Calls Tryz.prog 165 #[.pointer (some ⟨mb,0,none⟩),.int .i64 (a:Int),.int .i64 (b:Int),.int .i64 (c:Int)] w fun e w'=>e= .returned (.int .i64 s)∧Below w.heap.size w w':=by have ca:=isPoint_any (a:Int) w h;have cb:=isPoint_any (b:Int) w h;have cc:=isPoint_any (c:Int) w h;have la:=(List.getElem?_eq_some_iff.1 ha).1;have lb:=(List.getElem?_eq_some_iff.1 hb).1;have lc:=(List.getElem?_eq_some_iff.1 hc).1;rw[decide_eq_true (by omega)] at ca cb cc;have ia:=hP _ (List.mem_of_getElem? ha);have ib:=hP _ (List.mem_of_getElem? hb);have ic:=hP _ (List.mem_of_getElem? hc);have co:=fun w=>Orient_is a0 a1 b0 b1 c0 c1 ia.1 ia.2 ib.1 ib.2 ic.1 ic.2 hs w;have hsh:=h.short.1;have H:=Lib.hid h;have HA:=Lib.hid ha;have HB:=Lib.hid hb;have HC:=Lib.hid hc;have CA:=Lib.hid ca;have CB:=Lib.hid cb;have CC:=Lib.hid cc;have CO:=Lib.hid co;clear ca cb cc h hP ha hb hc ia ib ic co hs;go_enter Tryz.func165,Tryz.ntmps165;go_wp2_with fail;refine CA.out.mono ?_;rintro e w' ⟨rfl,rfl⟩;go_wp2_with fail;refine CB.out.mono ?_;rintro e w' ⟨rfl,rfl⟩;go_wp2_with fail;refine CC.out.mono ?_;rintro e w' ⟨rfl,rfl⟩;go_wp2;have hB_0:=(Below.refl w.heap.size w).drew';have hm_0:=H.out.drew;go_region_held3 (fun w'=>w'.cell? ⟨mb,0,none⟩=some (.slice (some ⟨pb,0,none⟩) P.length pc)∧w'.cell? ⟨pb,a*2,none⟩=some (.int .i64 a0)∧w'.cell? ⟨pb,a*2+1,none⟩=some (.int .i64 a1)∧w'.cell? ⟨pb,b*2,none⟩=some (.int .i64 b0)∧w'.cell? ⟨pb,b*2+1,none⟩=some (.int .i64 b1)∧w'.cell? ⟨pb,c*2,none⟩=some (.int .i64 c0)∧w'.cell? ⟨pb,c*2+1,none⟩=some (.int .i64 c1)) (first|with_reducible exact⟨hm_0.box.c0,(hm_0.pt HA.out).1,(hm_0.pt HA.out).2,(hm_0.pt HB.out).1,(hm_0.pt HB.out).2,(hm_0.pt HC.out).1,(hm_0.pt HC.out).2⟩|with_reducible exact⟨hm_1.box.c0,(hm_1.pt HA.out).1,(hm_1.pt HA.out).2,(hm_1.pt HB.out).1,(hm_1.pt HB.out).2,(hm_1.pt HC.out).1,(hm_1.pt HC.out).2⟩|fail) (first|(go_at_call 41;(with_reducible refine(CO.out _).mono ?_);rintro e w4 ⟨rfl,hb4⟩;have hB_1:=hB_0.trans (hb4.mono hB_0.size);have hm_1:=hm_0.below hb4));go_wp2;go_ret;exact⟨rfl,hB_1⟩
theorem mturn_any{mb pb pc:Nat}{ta:Option Addr}{tc:Nat}{P:List (Int×Int)}{S:List TriM}(a b c:Int)(w:World)(h:MeshR w mb pb pc ta tc P S)(hP:InPs P):Calls Tryz.prog 165 #[.pointer (some ⟨mb,0,none⟩),.int .i64 a,.int .i64 b,.int .i64 c] w fun e w'=>e= .returned (.int .i64 (turnM P a b c))∧Below w.heap.size w w':=by
  have no:turnM P a b c=0→¬((0≤a∧a<(P.length:Int))∧(0≤b∧b<(P.length:Int))∧(0≤c∧c<(P.length:Int)))→Calls Tryz.prog 165 #[.pointer (some ⟨mb,0,none⟩),.int .i64 a,.int .i64 b,.int .i64 c] w fun e w'=>e= .returned (.int .i64 (turnM P a b c))∧Below w.heap.size w w':=by
    intro e hn;rw[e];refine(turn_no a b c _ _ _ w h rfl rfl rfl ?_).mono fun e w' ⟨h1,h2⟩=>⟨h1,by subst h2;exact Below.refl _ _⟩;rw[←Bool.decide_and,←Bool.decide_and];exact decide_eq_false (fun k=>hn ⟨k.1.1,k.1.2,k.2⟩)
  unfold turnM at no⊢;cases ha:getP P a with|none=>rw[ha] at no;exact no rfl (fun k=>getP_none ha k.1)|some p=>rw[ha] at no;cases hb:getP P b with|none=>rw[hb] at no;exact no rfl (fun k=>getP_none hb k.2.1)|some q=>rw[hb] at no;cases hc:getP P c with|none=>rw[hc] at no;exact no rfl (fun k=>getP_none hc k.2.2)|some r=>obtain⟨a0,a1,a2⟩:=getP_some ha;obtain⟨b0,b1,b2⟩:=getP_some hb;obtain⟨c0,c1,c2⟩:=getP_some hc;obtain⟨a',rfl⟩:∃k:Nat,a=k:=⟨a.toNat,by omega⟩;obtain⟨b',rfl⟩:∃k:Nat,b=k:=⟨b.toNat,by omega⟩;obtain⟨c',rfl⟩:∃k:Nat,c=k:=⟨c.toNat,by omega⟩;exact turn_yes a' b' c' _ _ _ _ _ _ _ w h hP a2 b2 c2 rfl
end Go.Proofs.YtdmfbkhafnkcfaaGreat
namespace Go.MagM
open Go.RowKit
def formedT(P:List (Int×Int))(S:List TriM)(T:TriM):Bool:=if placeT T (-1)=-1 then decide (0<turnM P T.v0 T.v1 T.v2) else if placeT T (-1)=0 then realM S T.n0&&!T.f1&&!T.f2 else if placeT T (-1)=1 then realM S T.n1&&!T.f2&&!T.f0 else realM S T.n2&&!T.f0&&!T.f1
theorem placeT_cases(T:TriM)(v:Int):placeT T v=-1∨placeT T v=0∨placeT T v=1∨placeT T v=2:=by
  unfold placeT;split;·simp
  · split;·simp
    ·split<;>simp
end Go.MagM
namespace Go.Proofs.YtdmfbkhafnkcfaaGreat
open Go.RowKit Go.MagM
set_option maxRecDepth 100000 in set_option maxHeartbeats 8000000 in theorem formed_any{mb pb pc:Nat}{ta:Option Addr}{tc:Nat}{P:List (Int×Int)}{S:List TriM}(k:Nat)(T:TriM)(w:World)(h:MeshR w mb pb pc ta tc P S)(hP:InPs P)(hT:S[k]?=some T):Calls Tryz.prog 85 #[.pointer (some ⟨mb,0,none⟩),.int .i64 (k:Int)] w fun e w'=>e= .returned (.bool (formedT P S T))∧Below w.heap.size w w':=by
  obtain⟨b0,b1,-,-⟩:=h.box.open2;have hsh:=h.short.2;have hkl:=(List.getElem?_eq_some_iff.1 hT).1;obtain⟨r,hr⟩:∃r,formedT P S T=r:=⟨_,rfl⟩;rw[hr];obtain⟨tb,rfl,hbl,ht⟩:=h.tris.get hT;have hi:=index_any tb (k*9) 3 3 [T.v0,T.v1,T.v2] (-1) w rfl (by omega) (fun j u hj=>by have h0:=ht.c0;have h1:=ht.c1;have h2:=ht.c2;match j,hj with
    |0,hj=>simp at hj;subst hj;exact h0|1,hj=>simp at hj;subst hj;exact h1|2,hj=>simp at hj;subst hj;exact h2|_+3,hj=>simp at hj);rw[place_idx] at hi;unfold formedT at hr;have H:=Lib.hid h;have HB:=Lib.hid h.box;have HPS:=Lib.hid hP;clear h hP hT;rcases placeT_cases T (-1) with hgv|hgv
  · rw[if_pos hgv] at hr;rw[hgv] at hi;obtain⟨z,hz⟩:∃z,turnM P T.v0 T.v1 T.v2=z:=⟨_,rfl⟩;have hturn:=fun w hw=>mturn_any (mb:=mb) (pb:=pb) (pc:=pc) (ta:=some ⟨tb,0,none⟩) (tc:=tc) (S:=S) T.v0 T.v1 T.v2 w hw HPS.out;rw[hz] at hr hturn;have HI:=Lib.hid hi;have HTU:=Lib.hid hturn;have HT:=Lib.hid ht;clear hi hturn hz hgv ht;go_enter Tryz.func85,Tryz.ntmps85;go_wp2_with fail;refine HI.out.mono ?_;rintro e w' ⟨rfl,rfl⟩;go_wp2;have hB_0:=(Below.refl w.heap.size w).drew';have hm_0:=H.out.drew;have ht_0:=HT.out.drew;have HZ:=Lib.hid hr;clear hr;go_region_held3 (fun w'=>w'.cell? ⟨tb,k*9,none⟩=some (.int .i64 T.v0)∧w'.cell? ⟨tb,k*9+1,none⟩=some (.int .i64 T.v1)∧w'.cell? ⟨tb,k*9+2,none⟩=some (.int .i64 T.v2)) (first|with_reducible exact⟨ht_0.c0,ht_0.c1,ht_0.c2⟩|with_reducible exact⟨ht_1.c0,ht_1.c1,ht_1.c2⟩|fail) (first|(go_at_call 165;(with_reducible refine(HTU.out _ hm_0).mono ?_);rintro e w4 ⟨rfl,hb4⟩;have hB_1:=hB_0.trans (hb4.mono hB_0.size);have ht_1:=ht_0.below hb4));go_wp2;go_ret;exact⟨by rw[←HZ.out];rfl,hB_1⟩
  · have hne:¬placeT T (-1)=-1:=by omega
    rw[if_neg hne] at hr;clear hne;have HR:=Lib.hid hr;clear hr;obtain⟨gv,hgv'⟩:∃gv,placeT T (-1)=gv:=⟨_,rfl⟩;rw[hgv'] at hi hgv;have HI':=Lib.hid hi;clear hi;have HR':=HR.out;rw[hgv'] at HR';clear HR hgv';have HR:=Lib.hid HR';clear HR';have HI:=HI';clear HI';rcases hgv with hgv|hgv|hgv;·
      subst hgv;have c3:=ht.c3;have hreal:=Real_any (T.n0) _ H.out;obtain⟨rl,hrl⟩:∃rl,realM S T.n0=rl:=⟨_,rfl⟩;rw[hrl] at hreal;have HRL:=Lib.hid hreal;have HT:=Lib.hid ht;have hrr:r=(rl&&!T.f1&&!T.f2):=by rw[←HR.out,←hrl];rfl
      clear hreal hrl ht;cases rl
      · have hr':r=false:=by rw[hrr];rfl
        subst hr';clear hrr;go_enter Tryz.func85,Tryz.ntmps85;go_wp2_with fail;refine HI.out.mono ?_;rintro e w' ⟨rfl,rfl⟩;go_wp2_with fail;refine HRL.out.mono ?_;rintro e w' ⟨rfl,q,rfl⟩;go_wp2;go_ret;exact⟨rfl,Drew.below ⟨_,rfl⟩⟩
      · cases hf1:T.f1
        · have hr':r=!T.f2:=by rw[hrr,hf1];rfl
          subst hr';clear hrr;go_enter Tryz.func85,Tryz.ntmps85;go_wp2_with fail;refine HI.out.mono ?_;rintro e w' ⟨rfl,rfl⟩;go_wp2_with fail;refine HRL.out.mono ?_;rintro e w' ⟨rfl,q,rfl⟩;have htq:=HT.out.drewN q;have d1:=htq.c7;have d2:=htq.c8;rw[hf1] at d1;have hbq:=HB.out.drewN q;obtain⟨m0,m1,-,-⟩:=hbq.open2;clear hf1;go_wp2;go_ret;exact⟨rfl,Drew.below ⟨_,rfl⟩⟩
        · have hr':r=false:=by rw[hrr,hf1];rfl
          subst hr';clear hrr;go_enter Tryz.func85,Tryz.ntmps85;go_wp2_with fail;refine HI.out.mono ?_;rintro e w' ⟨rfl,rfl⟩;go_wp2_with fail;refine HRL.out.mono ?_;rintro e w' ⟨rfl,q,rfl⟩;have htq:=HT.out.drewN q;have d1:=htq.c7;rw[hf1] at d1;have hbq:=HB.out.drewN q;obtain⟨m0,m1,-,-⟩:=hbq.open2;clear hf1;go_wp2;go_ret;exact⟨rfl,Drew.below ⟨_,rfl⟩⟩
    ·
      subst hgv;have c3:=ht.c4;have hreal:=Real_any (T.n1) _ H.out;obtain⟨rl,hrl⟩:∃rl,realM S T.n1=rl:=⟨_,rfl⟩;rw[hrl] at hreal;have HRL:=Lib.hid hreal;have HT:=Lib.hid ht;have hrr:r=(rl&&!T.f2&&!T.f0):=by rw[←HR.out,←hrl];rfl
      clear hreal hrl ht;cases rl
      · have hr':r=false:=by rw[hrr];rfl
        subst hr';clear hrr;go_enter Tryz.func85,Tryz.ntmps85;go_wp2_with fail;refine HI.out.mono ?_;rintro e w' ⟨rfl,rfl⟩;go_wp2_with fail;refine HRL.out.mono ?_;rintro e w' ⟨rfl,q,rfl⟩;go_wp2;go_ret;exact⟨rfl,Drew.below ⟨_,rfl⟩⟩
      · cases hf1:T.f2
        · have hr':r=!T.f0:=by rw[hrr,hf1];rfl
          subst hr';clear hrr;go_enter Tryz.func85,Tryz.ntmps85;go_wp2_with fail;refine HI.out.mono ?_;rintro e w' ⟨rfl,rfl⟩;go_wp2_with fail;refine HRL.out.mono ?_;rintro e w' ⟨rfl,q,rfl⟩;have htq:=HT.out.drewN q;have d1:=htq.c8;have d2:=htq.c6;rw[hf1] at d1;have hbq:=HB.out.drewN q;obtain⟨m0,m1,-,-⟩:=hbq.open2;clear hf1;go_wp2;go_ret;exact⟨rfl,Drew.below ⟨_,rfl⟩⟩
        · have hr':r=false:=by rw[hrr,hf1];rfl
          subst hr';clear hrr;go_enter Tryz.func85,Tryz.ntmps85;go_wp2_with fail;refine HI.out.mono ?_;rintro e w' ⟨rfl,rfl⟩;go_wp2_with fail;refine HRL.out.mono ?_;rintro e w' ⟨rfl,q,rfl⟩;have htq:=HT.out.drewN q;have d1:=htq.c8;rw[hf1] at d1;have hbq:=HB.out.drewN q;obtain⟨m0,m1,-,-⟩:=hbq.open2;clear hf1;go_wp2;go_ret;exact⟨rfl,Drew.below ⟨_,rfl⟩⟩
    ·
      subst hgv;have c3:=ht.c5;have hreal:=Real_any (T.n2) _ H.out;obtain⟨rl,hrl⟩:∃rl,realM S T.n2=rl:=⟨_,rfl⟩;rw[hrl] at hreal;have HRL:=Lib.hid hreal;have HT:=Lib.hid ht;have hrr:r=(rl&&!T.f0&&!T.f1):=by rw[←HR.out,←hrl];rfl
      clear hreal hrl ht;cases rl
      · have hr':r=false:=by rw[hrr];rfl
        subst hr';clear hrr;go_enter Tryz.func85,Tryz.ntmps85;go_wp2_with fail;refine HI.out.mono ?_;rintro e w' ⟨rfl,rfl⟩;go_wp2_with fail;refine HRL.out.mono ?_;rintro e w' ⟨rfl,q,rfl⟩;go_wp2;go_ret;exact⟨rfl,Drew.below ⟨_,rfl⟩⟩
      · cases hf1:T.f0
        · have hr':r=!T.f1:=by rw[hrr,hf1];rfl
          subst hr';clear hrr;go_enter Tryz.func85,Tryz.ntmps85;go_wp2_with fail;refine HI.out.mono ?_;rintro e w' ⟨rfl,rfl⟩;go_wp2_with fail;refine HRL.out.mono ?_;rintro e w' ⟨rfl,q,rfl⟩;have htq:=HT.out.drewN q;have d1:=htq.c6;have d2:=htq.c7;rw[hf1] at d1;have hbq:=HB.out.drewN q;obtain⟨m0,m1,-,-⟩:=hbq.open2;clear hf1;go_wp2;go_ret;exact⟨rfl,Drew.below ⟨_,rfl⟩⟩
        · have hr':r=false:=by rw[hrr,hf1];rfl
          subst hr';clear hrr;go_enter Tryz.func85,Tryz.ntmps85;go_wp2_with fail;refine HI.out.mono ?_;rintro e w' ⟨rfl,rfl⟩;go_wp2_with fail;refine HRL.out.mono ?_;rintro e w' ⟨rfl,q,rfl⟩;have htq:=HT.out.drewN q;have d1:=htq.c6;rw[hf1] at d1;have hbq:=HB.out.drewN q;obtain⟨m0,m1,-,-⟩:=hbq.open2;clear hf1;go_wp2;go_ret;exact⟨rfl,Drew.below ⟨_,rfl⟩⟩
end Go.Proofs.YtdmfbkhafnkcfaaGreat
namespace Go.MagM
open Go.RowKit
theorem At9i.n{w:World}{b o:Nat}{T:TriM}(h:At9i w b o T){j:Nat}(hj:j<3):w.cell? ⟨b,o+3+j,none⟩=some (.int .i64 (T.n j)):=by
  obtain rfl|rfl|rfl:j=0∨j=1∨j=2:=by omega
  ·exact h.c3
  ·exact h.c4
  ·exact h.c5
theorem At9i.f{w:World}{b o:Nat}{T:TriM}(h:At9i w b o T){j:Nat}(hj:j<3):w.cell? ⟨b,o+6+j,none⟩=some (.bool (T.f j)):=by
  obtain rfl|rfl|rfl:j=0∨j=1∨j=2:=by omega
  ·exact h.c6
  ·exact h.c7
  ·exact h.c8
theorem At9i.v{w:World}{b o:Nat}{T:TriM}(h:At9i w b o T){j:Nat}(hj:j<3):w.cell? ⟨b,o+j,none⟩=some (.int .i64 (T.v j)):=by
  obtain rfl|rfl|rfl:j=0∨j=1∨j=2:=by omega
  ·exact h.c0
  ·exact h.c1
  ·exact h.c2
def linkI(S:List TriM)(t:Nat)(T:TriM)(i:Nat):Bool:=match getT S (T.n i) with|none=>false|some U=>!goneB U&&(edgeT U (edgeV T i).2 (edgeV T i).1 !=-1)&&(U.n (edgeT U (edgeV T i).2 (edgeV T i).1).toNat==(t:Int))&&(U.f (edgeT U (edgeV T i).2 (edgeV T i).1).toNat==T.f i)
def linkedT(S:List TriM)(t:Nat)(T:TriM):Bool:=linkI S t T 0&&linkI S t T 1&&linkI S t T 2
theorem linkedT_yes{S:List TriM}{t:Nat}{T:TriM}(h:∀i:Nat,i<3→linkI S t T i=true):linkedT S t T=true:=by unfold linkedT;rw[h 0 (by omega),h 1 (by omega),h 2 (by omega)];rfl
theorem linkedT_no{S:List TriM}{t:Nat}{T:TriM}{i:Nat}(hi:i<3)(h:linkI S t T i=false):linkedT S t T=false:=by
  unfold linkedT;obtain rfl|rfl|rfl:i=0∨i=1∨i=2:=by omega
  ·rw[h];rfl
  ·rw[h,Bool.and_false];rfl
  ·rw[h,Bool.and_false]
theorem edgeT_cases(T:TriM)(a b:Int):edgeT T a b=-1∨∃j:Nat,j<3∧edgeT T a b=(j:Int)∧edgeV T j=(a,b):=by
  unfold edgeT;split;·exact .inr ⟨0,by omega,rfl,by assumption⟩
  · split;·exact .inr ⟨1,by omega,rfl,by assumption⟩
    · split;·exact .inr ⟨2,by omega,rfl,by assumption⟩
      ·exact .inl rfl
end Go.MagM
namespace Go.Proofs.YtdmfbkhafnkcfaaGreat
open Go.RowKit Go.MagM
theorem index3_run(T:TriM)(i:Nat)(hi:i<3)(w:World):(Instr.index 38 (.agg #[.int .i64 T.n0,.int .i64 T.n1,.int .i64 T.n2]) (.int .i64 (i:Int))).run Tryz.prog w= .ok (.int .i64 (T.n i)) w:=by
  obtain rfl|rfl|rfl:i=0∨i=1∨i=2:=by omega
  all_goals kernel_rfl
set_option maxRecDepth 100000 in set_option maxHeartbeats 8000000 in theorem linked_any{mb pb pc:Nat}{ta:Option Addr}{tc:Nat}{P:List (Int×Int)}{S:List TriM}(k:Nat)(T:TriM)(w:World)(h:MeshR w mb pb pc ta tc P S)(hT:S[k]?=some T):Calls Tryz.prog 86 #[.pointer (some ⟨mb,0,none⟩),.int .i64 (k:Int)] w fun e w'=>e= .returned (.bool (linkedT S k T))∧Drew w w':=by
  obtain⟨b0,b1,-,-⟩:=h.box.open2;have hsh:=h.short.2;have hkl:=(List.getElem?_eq_some_iff.1 hT).1;obtain⟨r,hr⟩:∃r,linkedT S k T=r:=⟨_,rfl⟩;rw[hr];obtain⟨tb,rfl,hbl,ht⟩:=h.tris.get hT;have H:=Lib.hid h;have HR:=Lib.hid hr;have HT:=Lib.hid ht;have c3:=ht.c3;have c4:=ht.c4;have c5:=ht.c5;clear h hr hT ht;go_enter Tryz.func86,Tryz.ntmps86;go_wp2;clear b0 b1 c3 c4 c5;go_loopw [6,7,8,9,10,21] (fun _ _ _ _ _ iv wr=>∃i:Nat,i≤3∧iv= .int .i64 i∧(∀j:Nat,j<i→linkI S k T j=true)∧Drew w wr) (fun _ _ _ _ _ iv _=>3-(intOf iv).toNat);case atStart=>exact⟨0,by omega,rfl,fun j hj=>by omega,Drew.refl _⟩
  case round=>
    obtain⟨i,hi,rfl,hne,q,rfl⟩:=hrel;have HNE:=Lib.hid hne;clear hne;by_cases hlt:i<3
    · have hix:=fun w=>index3_run T i hlt w;have htq:=(HT.out).drewN q;have hends:=ends_any tb (k*9) i hlt T _ htq.c0 htq.c1 htq.c2;obtain⟨x,y,hxy⟩:∃x y,edgeV T i=(x,y):=⟨_,_,rfl⟩;rw[hxy] at hends;simp only[] at hends;obtain⟨u,hu⟩:∃u,T.n i=u:=⟨_,rfl⟩;rw[hu] at hix;obtain⟨jv,hjv⟩:∃jv,edgeM S u y x=jv:=⟨_,rfl⟩;obtain⟨li,hli⟩:∃li,linkI S k T i=li:=⟨_,rfl⟩;have hedge:=fun q'=>edge_any u y x _ ((H.out).drewN q');rw[hjv] at hedge;have HXY:=Lib.hid hxy;have HE:=Lib.hid hends;have HU:=Lib.hid hu;have HG:=Lib.hid hedge;have HJV:=Lib.hid hjv;have HLI:=Lib.hid hli;clear htq hends hxy hu hedge hjv hli;go_wp2_with fail;refine HE.out.mono ?_;rintro e w' ⟨rfl,q1,rfl⟩;go_wp2_with fail;refine(HG.out _).mono ?_;rintro e w' ⟨rfl,q2,rfl⟩;have hcase:(jv=-1∧li=false)∨∃(U:TriM) (m:Nat) (j:Nat),u=(m:Int)∧jv=(j:Int)∧j<3∧S[m]?=some U∧li=(U.n j==(k:Int)&&U.f j==T.f i):=by have h1:=HJV.out;have h2:=HLI.out;unfold linkI at h2;unfold edgeM at h1;rw[HU.out] at h2;rw[HXY.out] at h2;simp only[] at h2;cases hg:getT S u with|none=>rw[hg] at h1 h2;exact .inl ⟨h1.symm,h2.symm⟩|some U=>
          rw[hg] at h1 h2;simp only[] at h1 h2;cases hgo:goneB U with
          |true=>rw[hgo] at h1 h2;simp at h1 h2;exact .inl ⟨h1.symm,h2⟩|false=>
            rw[hgo] at h1 h2;simp only[Bool.false_eq_true,if_false,Bool.not_false,Bool.true_and] at h1 h2;rcases edgeT_cases U y x with hc|⟨j,hj3,hc,-⟩;·rw[hc] at h1 h2;simp at h2;exact .inl ⟨h1.symm,h2⟩
            · rw[hc] at h1 h2;obtain⟨g0,g1,g2⟩:=getT_some hg;have:((j:Int) !=-1)=true:=by simp
              rw[this,Bool.true_and,Int.toNat_natCast] at h2;exact .inr ⟨U,u.toNat,j,by omega,h1.symm,hj3,g2,h2.symm⟩
      rcases hcase with⟨rfl,rfl⟩|⟨U,m,j,rfl,rfl,hj3,hU,hl2⟩
      · have hr':r=false:=by rw[←HR.out];exact linkedT_no hlt HLI.out
        subst hr';go_wp2;go_quiet (fail);go_wp2;go_ret;exact⟨rfl,_,World.drewN_drewN _ _ _⟩
      · have hjm:((j:Int)==-1)=false:=by simp
        have hml:=(List.getElem?_eq_some_iff.1 hU).1;obtain⟨tb',e,-,hu9⟩:=(H.out).tris.get hU;obtain rfl:tb=tb':=by simpa using e
        clear e hU;have HU9:=Lib.hid hu9;clear hu9;have b0:=(H.out).box.c0;have b1:=(H.out).box.c1;have un:=(HU9.out).n hj3;have uf:=(HU9.out).f hj3;have tf:=(HT.out).f hlt;obtain⟨nn,hnn⟩:∃nn,U.n j=nn:=⟨_,rfl⟩;obtain⟨ff,hff⟩:∃ff,U.f j=ff:=⟨_,rfl⟩;obtain⟨gf,hgf⟩:∃gf,T.f i=gf:=⟨_,rfl⟩;rw[hnn] at un hl2;rw[hff] at uf hl2;rw[hgf] at tf hl2;clear hnn hff hgf;by_cases hn:nn=(k:Int)
        · have hd:(nn==(k:Int))=true:=by simp[hn]
          have hd':(nn !=(k:Int))=false:=by simp[hn]
          by_cases hf:ff=gf
          · have hli':li=true:=by rw[hl2,hd,hf];simp
            have hbd:(ff==gf)=true:=by simp[hf]
            have HLT:Hid (linkI S k T i=true):=by rw[←hli'];exact Lib.hid HLI.out
            clear hl2 hn hf;go_wp2;go_quiet (fail);go_wp2;go_roundw;case rel=>exact⟨i+1,by omega,by go_num,fun j hj=>by
              rcases Nat.lt_or_ge j i with g|g;·exact HNE.out j g
              · obtain rfl:j=i:=by omega
                exact HLT.out,_,rfl⟩
            case measure=>simp[intOf];omega
          · have hli':li=false:=by rw[hl2];simp[hf]
            have hbd:(ff==gf)=false:=by simpa using hf
            have hr':r=false:=by rw[←HR.out];exact linkedT_no hlt (by rw[HLI.out,hli'])
            clear hl2 hn hf hli';subst hr';go_wp2;go_quiet (fail);go_wp2;go_ret;exact⟨rfl,_,World.drewN_drewN _ _ _⟩
        · have hd:(nn==(k:Int))=false:=by simp[hn]
          have hd':(nn !=(k:Int))=true:=by simp[hn]
          have hli':li=false:=by rw[hl2,hd];rfl
          have hr':r=false:=by rw[←HR.out];exact linkedT_no hlt (by rw[HLI.out,hli'])
          clear hl2 hn hli';subst hr';go_wp2;go_quiet (fail);go_wp2;go_ret;exact⟨rfl,_,World.drewN_drewN _ _ _⟩
    · have hr':r=true:=by rw[←HR.out];exact linkedT_yes (fun j hj=>HNE.out j (by omega))
      subst hr';go_wp2;go_ret;exact⟨rfl,_,rfl⟩
end Go.Proofs.YtdmfbkhafnkcfaaGreat
namespace Go.MagM
open Go.RowKit
structure At2(w:World)(b o:Nat)(u v:Value):Prop where
  c0:w.cell? ⟨b,o,none⟩=some u
  c1:w.cell? ⟨b,o+1,none⟩=some v
theorem At2.below{w w':World}{b o:Nat}{u v:Value}(h:At2 w b o u v)(hb:Below w.heap.size w w'):At2 w' b o u v:=by have hl:=World.block_lt_of_cell? w _ h.c0;exact⟨(hb.cell (p:=⟨b,o,none⟩) hl).trans h.c0,(hb.cell (p:=⟨b,o+1,none⟩) hl).trans h.c1⟩
theorem At2.drew{w:World}{b o:Nat}{u v:Value}(h:At2 w b o u v):At2 w.drew b o u v:=⟨h.c0,h.c1⟩
structure At1(w:World)(b o:Nat)(u:Value):Prop where c0:w.cell? ⟨b,o,none⟩=some u
theorem At1.below{w w':World}{b o:Nat}{u:Value}(h:At1 w b o u)(hb:Below w.heap.size w w'):At1 w' b o u:=⟨(hb.cell (p:=⟨b,o,none⟩) (World.block_lt_of_cell? w _ h.c0)).trans h.c0⟩
theorem At1.drew{w:World}{b o:Nat}{u:Value}(h:At1 w b o u):At1 w.drew b o u:=⟨h.c0⟩
theorem At2.far{w:World}{b o g:Nat}{u v:Value}(h:At2 w b o u v)(hne:b≠g)(i:Nat)(x:Value):At2 (w.setCell ⟨g,i,none⟩ x) b o u v:=by
  have ne:∀j,(⟨g,i,none⟩:Addr)≠⟨b,j,none⟩:=by intro j k;injection k with k1;exact hne k1.symm
  refine⟨?_,?_⟩;·rw[World.cell?_setCell_other _ _ _ _ (by first|exact ne _|exact(ne _).symm)];exact h.c0
  ·rw[World.cell?_setCell_other _ _ _ _ (by first|exact ne _|exact(ne _).symm)];exact h.c1
theorem At1.far{w:World}{b o g:Nat}{u:Value}(h:At1 w b o u)(hne:b≠g)(i:Nat)(x:Value):At1 (w.setCell ⟨g,i,none⟩ x) b o u:=by
  have ne:∀j,(⟨g,i,none⟩:Addr)≠⟨b,j,none⟩:=by intro j k;injection k with k1;exact hne k1.symm
  refine⟨?_⟩;rw[World.cell?_setCell_other _ _ _ _ (by first|exact ne _|exact(ne _).symm)];exact h.c0
theorem At2.farFrom{b o g:Nat}{u v:Value}(hne:b≠g):∀(xs:List Value)(i:Nat){w:World},At2 w b o u v→At2 (setAll w g i xs) b o u v|[],_,_,h=>h|x::xs,i,_,h=>At2.farFrom hne xs (i+1) (h.far hne i x)
theorem At2.farAll{w:World}{b o g':Nat}{u v:Value}(h:At2 w b o u v)(hne:b≠g')(xs:List Value):At2 (setAll w g' 0 xs) b o u v:=At2.farFrom hne xs 0 h
theorem At1.farFrom{b o g:Nat}{u:Value}(hne:b≠g):∀(xs:List Value)(i:Nat){w:World},At1 w b o u→At1 (setAll w g i xs) b o u|[],_,_,h=>h|x::xs,i,_,h=>At1.farFrom hne xs (i+1) (h.far hne i x)
theorem At1.farAll{w:World}{b o g':Nat}{u:Value}(h:At1 w b o u)(hne:b≠g')(xs:List Value):At1 (setAll w g' 0 xs) b o u:=At1.farFrom hne xs 0 h
def NatsIn(w:World)(b:Nat)(l:List Nat):Prop:=∀(i v:Nat),l[i]?=some v→w.cell? ⟨b,i,none⟩=some (.int .i64 (v:Int))
theorem mod_one(k n:Nat):((k:Int)+1).tmod (n:Int)=(((k+1)%n:Nat):Int):=by rw[show(k:Int)+1=((k+1:Nat):Int) by omega];exact(Int.ofNat_tmod _ _).symm
theorem mod_two(k n:Nat):((k:Int)+2).tmod (n:Int)=(((k+2)%n:Nat):Int):=by rw[show(k:Int)+2=((k+2:Nat):Int) by omega];exact(Int.ofNat_tmod _ _).symm
def ptA(P:List (Int×Int))(v:Nat):Int×Int:=P[v]?.getD (0,0)
theorem ptA_at{P:List (Int×Int)}{v:Nat}(h:v<P.length):P[v]?=some ((ptA P v).1,(ptA P v).2):=by unfold ptA;rw[List.getElem?_eq_getElem h];rfl
def natA(l:List Nat)(i:Nat):Nat:=l[i]?.getD 0
theorem natA_at{l:List Nat}{i:Nat}(h:i<l.length):l[i]?=some (natA l i):=by unfold natA;rw[List.getElem?_eq_getElem h];rfl
end Go.MagM
namespace Go.Proofs.YtdmfbkhafnkcfaaGreat
open Go.RowKit Go.MagM
def betP(a b v:Int×Int):Bool:=decide (¬(a.1=b.1∧a.2=b.2)∧¬(a.1=v.1∧a.2=v.2))&&onP a.1 a.2 b.1 b.2 v.1 v.2
def okC(a b c:Int×Int):Bool:=decide (0<crs a.1 a.2 b.1 b.2 c.1 c.2)||betP b a c
def riseC(a b c:Int×Int):Bool:=decide (b.2≤a.2∧b.2<c.2)
def corC(P:List (Int×Int))(hs:List Nat)(i:Nat):Int×Int:=ptA P (natA hs (i%hs.length))
def cntC(P:List (Int×Int))(hs:List Nat):Nat→Nat|0=>0|k+1=>cntC P hs k+if riseC (corC P hs k) (corC P hs (k+1)) (corC P hs (k+2))=true then 1 else 0
def okAll(P:List (Int×Int))(hs:List Nat):Bool:=(List.range hs.length).all fun k=>okC (corC P hs k) (corC P hs (k+1)) (corC P hs (k+2))
def convexM(P:List (Int×Int))(hs:List Nat):Bool:=okAll P hs&&cntC P hs hs.length==1
theorem cntC_le(P:List (Int×Int))(hs:List Nat):∀k,cntC P hs k≤k|0=>Nat.le_refl _|k+1=>by have:=cntC_le P hs k;unfold cntC;split<;>omega
set_option maxRecDepth 100000 in set_option maxHeartbeats 16000000 in theorem convex_any{mb pb pc:Nat}{ta:Option Addr}{tc:Nat}{P:List (Int×Int)}{S:List TriM}(hb hc n:Nat)(hs:List Nat)(w:World)(h:MeshR w mb pb pc ta tc P S)(hP:InPs P)(hl:hs.length=n)(hn:n≤1000000)(hnat:NatsIn w hb hs)(hv:∀v,v∈hs→v<P.length):Calls Tryz.prog 89 #[.pointer (some ⟨mb,0,none⟩),.slice (some ⟨hb,0,none⟩) n hc] w fun e w'=>e= .returned (.bool (convexM P hs))∧Below w.heap.size w w':=by
  have hB_0:=Below.refl w.heap.size w;have H:=Lib.hid h;have HN:=Lib.hid hnat;have HV:=Lib.hid hv;have HPS:=Lib.hid hP;have hsh:=h.short.1;have HL:=Lib.hid hl;obtain⟨r,hr⟩:∃r,convexM P hs=r:=⟨_,rfl⟩;rw[hr];have HR:=Lib.hid hr;clear h hnat hv hP hr hl;go_enter Tryz.func89,Tryz.ntmps89;go_wp2;go_loopw [5,6,12] (fun rv _ iv wr=>∃k:Nat,k≤n∧iv= .int .i64 k∧rv= .int .i64 (cntC P hs k:Nat)∧(∀i,i<k→okC (corC P hs i) (corC P hs (i+1)) (corC P hs (i+2))=true)∧Below w.heap.size w wr) (fun _ _ iv _=>n-(intOf iv).toNat);case atStart=>exact⟨0,Nat.zero_le _,rfl,rfl,fun i hi=>by omega,hB_0⟩
  case round=>
    obtain⟨k,hk,rfl,rfl,hall,hB_0⟩:=hrel;have hcl:=cntC_le P hs k;have HALL:=Lib.hid hall;clear hall;by_cases hlt:k<n
    · have hlen:=HL.out;obtain⟨j,hj⟩:∃j,(k+1)%n=j:=⟨_,rfl⟩;have hjn:j<n:=by rw[←hj];exact Nat.mod_lt _ (by omega)
      obtain⟨i,hi⟩:∃i,(k+2)%n=i:=⟨_,rfl⟩;have hin:i<n:=by rw[←hi];exact Nat.mod_lt _ (by omega)
      have lk:=natA_at (l:=hs) (i:=k) (by omega);have lj:=natA_at (l:=hs) (i:=j) (by omega);have li:=natA_at (l:=hs) (i:=i) (by omega);have vk:=HV.out _ (List.mem_of_getElem? lk);have vj:=HV.out _ (List.mem_of_getElem? lj);have vi:=HV.out _ (List.mem_of_getElem? li);have pk:=ptA_at vk;have pj:=ptA_at vj;have pi:=ptA_at vi;have ek:corC P hs k=ptA P (natA hs k):=by unfold corC;rw[hlen,Nat.mod_eq_of_lt hlt]
      have ej:corC P hs (k+1)=ptA P (natA hs j):=by unfold corC;rw[hlen,hj]
      have ei:corC P hs (k+2)=ptA P (natA hs i):=by unfold corC;rw[hlen,hi]
      obtain⟨A',hA⟩:∃A',natA hs k=A':=⟨_,rfl⟩;obtain⟨B',hB'⟩:∃B',natA hs j=B':=⟨_,rfl⟩;obtain⟨C',hC⟩:∃C',natA hs i=C':=⟨_,rfl⟩;rw[hA] at lk vk pk ek;rw[hB'] at lj vj pj ej;rw[hC] at li vi pi ei;clear hA hB' hC;obtain⟨a0,a1,ha⟩:∃x y,ptA P A'=(x,y):=⟨_,_,rfl⟩;obtain⟨b0,b1,hb⟩:∃x y,ptA P B'=(x,y):=⟨_,_,rfl⟩;obtain⟨c0,c1,hc⟩:∃x y,ptA P C'=(x,y):=⟨_,_,rfl⟩;rw[ha] at pk ek;rw[hb] at pj ej;rw[hc] at pi ei;simp only[] at pk pj pi;clear ha hb hc;have ia:=HPS.out _ (List.mem_of_getElem? pk);have ib:=HPS.out _ (List.mem_of_getElem? pj);have ic:=HPS.out _ (List.mem_of_getElem? pi);have IA:=Lib.hid ia;have IB:=Lib.hid ib;have IC:=Lib.hid ic;have hmod:((k:Int)+1).tmod (n:Int)=(j:Int):=by rw[mod_one,hj]
      have hmod2:((k:Int)+2).tmod (n:Int)=(i:Int):=by rw[mod_two,hi]
      have hk0:((n:Int)==0)=false:=by simp;omega
      have hkn:¬n=0:=by omega
      have hwj:IntKind.i64.wrap ((k:Int)+1)=(k:Int)+1:=by rw[IntKind.wrap_i64];omega
      have hwi:IntKind.i64.wrap ((k:Int)+2)=(k:Int)+2:=by rw[IntKind.wrap_i64];omega
      have hwc:IntKind.i64.wrap ((cntC P hs k:Int)+1)=(cntC P hs k:Int)+1:=by rw[IntKind.wrap_i64];omega
      have hb1:(0:Int)≤(k:Int):=by omega
      have hb2:(k:Int)<(n:Int):=by omega
      have hb3:(0:Int)≤(j:Int):=by omega
      have hb4:(j:Int)<(n:Int):=by omega
      have hb5:(0:Int)≤(i:Int):=by omega
      have hb6:(i:Int)<(n:Int):=by omega
      have hv1:(0:Int)≤(A':Int):=by omega
      have hv2:(A':Int)<(P.length:Int):=by omega
      have hv3:(0:Int)≤(B':Int):=by omega
      have hv4:(B':Int)<(P.length:Int):=by omega
      have hv5:(0:Int)≤(C':Int):=by omega
      have hv6:(C':Int)<(P.length:Int):=by omega
      have nk:At1 w hb k (.int .i64 (A':Int)):=⟨HN.out _ _ lk⟩;have nj:At1 w hb j (.int .i64 (B':Int)):=⟨HN.out _ _ lj⟩;have ni:At1 w hb i (.int .i64 (C':Int)):=⟨HN.out _ _ li⟩;have qa:At2 w pb (A'*2) (.int .i64 a0) (.int .i64 a1):=⟨(H.out.pt pk).1,(H.out.pt pk).2⟩;have qb:At2 w pb (B'*2) (.int .i64 b0) (.int .i64 b1):=⟨(H.out.pt pj).1,(H.out.pt pj).2⟩;have qc:At2 w pb (C'*2) (.int .i64 c0) (.int .i64 c1):=⟨(H.out.pt pi).1,(H.out.pt pi).2⟩;obtain⟨s,hs'⟩:∃s,(crs a0 a1 b0 b1 c0 c1).sign=s:=⟨_,rfl⟩;obtain⟨bt,hbt⟩:∃bt,betP (b0,b1) (a0,a1) (c0,c1)=bt:=⟨_,rfl⟩;obtain⟨ok,hok⟩:∃ok,okC (corC P hs k) (corC P hs (k+1)) (corC P hs (k+2))=ok:=⟨_,rfl⟩;obtain⟨ri,hri⟩:∃ri,riseC (corC P hs k) (corC P hs (k+1)) (corC P hs (k+2))=ri:=⟨_,rfl⟩;have hcn:cntC P hs (k+1)=cntC P hs k+if ri=true then 1 else 0:=by rw[←hri];rfl
      have hok2:ok=(decide (0<s)||bt):=by
        rw[←hok,ek,ej,ei,←hbt];unfold okC;have:(0<crs a0 a1 b0 b1 c0 c1)↔0<s:=by rw[←hs'];exact Int.sign_pos_iff.symm
        simp only[this]
      have hri2:ri=decide (b1≤a1∧b1<c1):=by rw[←hri,ek,ej,ei];rfl
      have HS:=Lib.hid hs';have HBT:=Lib.hid hbt;have HOK:=Lib.hid hok;have HOK2:=Lib.hid hok2;have HCN:=Lib.hid hcn;have HRI2:=Lib.hid hri2;clear lk lj li vk vj vi pk pj pi ek ej ei ia ib ic hj hi hs' hbt hok hri hcn hok2 hri2 hlen;have pm_0:Box wr mb [.slice (some ⟨pb,0,none⟩) P.length pc,.slice ta S.length tc]:=(H.out.below hB_0).box;have nk_0:=nk.below hB_0;have nj_0:=nj.below hB_0;have ni_0:=ni.below hB_0;have qa_0:=qa.below hB_0;have qb_0:=qb.below hB_0;have qc_0:=qc.below hB_0;clear nk nj ni qa qb qc;have hgb1:=World.block_lt_of_cell? wr _ qa_0.c0;have hgh1:=World.block_lt_of_cell? wr _ nk_0.c0;simp only at hgb1 hgh1;go_wp2;have hWq_0:=Below.refl wr.heap.size wr;have hsq:w.heap.size≤wr.heap.size:=hB_0.size;have hlqpm:=pm_0.lt;have hB_1:=hB_0.drew';have pm_1:=pm_0.drew;have nk_1:=nk_0.drew;have nj_1:=nj_0.drew;have ni_1:=ni_0.drew;have qa_1:=qa_0.drew;have qb_1:=qb_0.drew;have qc_1:=qc_0.drew;have hWq_1:=hWq_0.drew';clear hB_0 pm_0 nk_0 nj_0 ni_0 qa_0 qb_0 qc_0 hWq_0;obtain⟨FFq,hFFq⟩:∃F:World→Prop,∀w',F w'↔(Below w.heap.size w w'∧Box w' (mb) [.slice (some ⟨pb,0,none⟩) P.length pc,.slice ta S.length tc]∧At1 w' hb k (.int .i64 (A':Int))∧At1 w' hb j (.int .i64 (B':Int))∧At1 w' hb i (.int .i64 (C':Int))∧At2 w' pb (A'*2) (.int .i64 a0) (.int .i64 a1)∧At2 w' pb (B'*2) (.int .i64 b0) (.int .i64 b1)∧At2 w' pb (C'*2) (.int .i64 c0) (.int .i64 c1)∧Below wr.heap.size wr w'):=⟨_,fun _=>Iff.rfl⟩;have cFq:∀{w' w'':World},FFq w'→Below w'.heap.size w' w''→FFq w'':=by
        intro w' w'' h hb;obtain⟨y0,y1,y2,y3,y4,y5,y6,y7,y8⟩:=(hFFq _).1 h;exact(hFFq _).2 ⟨y0.trans (hb.mono y0.size),y1.below hb,y2.below hb,y3.below hb,y4.below hb,y5.below hb,y6.below hb,y7.below hb,y8.trans (hb.mono y8.size)⟩
      have mFq:∀{w':World},FFq w'→wr.heap.size≤w'.heap.size:=by
        intro w' h;obtain⟨y0,y1,y2,y3,y4,y5,y6,y7,y8⟩:=(hFFq _).1 h;exact y8.size
      have sFq:∀{w':World},FFq w'→(w'.cell? ⟨mb,0,none⟩=some (.slice (some ⟨pb,0,none⟩) P.length pc)∧w'.cell? ⟨mb,1,none⟩=some (.slice ta S.length tc)∧w'.cell? ⟨hb,k,none⟩=some (.int .i64 (A':Int))∧w'.cell? ⟨hb,j,none⟩=some (.int .i64 (B':Int))∧w'.cell? ⟨hb,i,none⟩=some (.int .i64 (C':Int))∧w'.cell? ⟨pb,A'*2,none⟩=some (.int .i64 a0)∧w'.cell? ⟨pb,A'*2+1,none⟩=some (.int .i64 a1)∧w'.cell? ⟨pb,B'*2,none⟩=some (.int .i64 b0)∧w'.cell? ⟨pb,B'*2+1,none⟩=some (.int .i64 b1)∧w'.cell? ⟨pb,C'*2,none⟩=some (.int .i64 c0)∧w'.cell? ⟨pb,C'*2+1,none⟩=some (.int .i64 c1)):=by
        intro w' h;obtain⟨y0,y1,y2,y3,y4,y5,y6,y7,y8⟩:=(hFFq _).1 h;exact⟨y1.c0,y1.c1,y2.c0,y3.c0,y4.c0,y5.c0,y5.c1,y6.c0,y6.c1,y7.c0,y7.c1⟩
      have zF:FFq wr.drew:=(hFFq _).2 ⟨hB_1,pm_1,nk_1,nj_1,ni_1,qa_1,qb_1,qc_1,hWq_1⟩;clear hB_1 pm_1 nk_1 nj_1 ni_1 qa_1 qb_1 qc_1 hWq_1;refine wp_region_noPanic ?_;refine wp_region_held_drew (S:=fun w'=>w'.cell? ⟨mb,0,none⟩=some (.slice (some ⟨pb,0,none⟩) P.length pc)∧w'.cell? ⟨mb,1,none⟩=some (.slice ta S.length tc)∧w'.cell? ⟨hb,k,none⟩=some (.int .i64 (A':Int))∧w'.cell? ⟨hb,j,none⟩=some (.int .i64 (B':Int))∧w'.cell? ⟨hb,i,none⟩=some (.int .i64 (C':Int))∧w'.cell? ⟨pb,A'*2,none⟩=some (.int .i64 a0)∧w'.cell? ⟨pb,A'*2+1,none⟩=some (.int .i64 a1)∧w'.cell? ⟨pb,B'*2,none⟩=some (.int .i64 b0)∧w'.cell? ⟨pb,B'*2+1,none⟩=some (.int .i64 b1)∧w'.cell? ⟨pb,C'*2,none⟩=some (.int .i64 c0)∧w'.cell? ⟨pb,C'*2+1,none⟩=some (.int .i64 c1)) (by kernel_rfl) (sFq zF) (fun hHeld=>?_);refine rU 0 _ _ ?_;refine rU 1 _ _ ?_;refine rU 2 _ _ ?_;refine rU 3 _ _ ?_;refine rU 4 _ _ ?_;refine rU 5 _ _ ?_;refine rU 6 _ _ ?_;refine rU 7 _ _ ?_;refine rU 8 _ _ ?_;refine rU 9 _ _ ?_;refine rU 10 _ _ ?_;refine rU 11 _ _ ?_;refine rU 12 _ _ ?_;refine rU 13 _ _ ?_;refine rU 14 _ _ ?_;refine rU 15 _ _ ?_;refine rU 16 _ _ ?_;refine rU 17 _ _ ?_;refine rU 18 _ _ ?_;refine rU 19 _ _ ?_;refine rU 20 _ _ ?_;refine rU 21 _ _ ?_;refine rU 22 _ _ ?_;refine rU 23 _ _ ?_;refine rU 24 _ _ ?_;refine rU 25 _ _ ?_;refine rU 26 _ _ ?_;refine rU 27 _ _ ?_;refine rU 28 _ _ ?_;refine rU 29 _ _ ?_;refine rU 30 _ _ ?_;refine rU 31 _ _ ?_;refine rU 32 _ _ ?_;refine rU 33 _ _ ?_;refine rU 34 _ _ ?_;refine rU 35 _ _ ?_;refine rU 36 _ _ ?_;refine rU 37 _ _ ?_;refine reg_grab (fun WWq aq hWW hAA=>?_);rw[hWW];have HAq:=Lib.hid hAA;clear hWW hAA hHeld;obtain⟨IVq,hIVq⟩:∃IV:Array Bool→Act→World→Prop,∀l a w',IV l a w'↔∀CC:Prop,(∀(lb38 lb39 lb40:Bool)(lv38 lv39 lv40:Value)(gxa gxb gxc:Nat),(l=#[true,true,true,true,true,true,true,true,true,true,true,true,true,true,true,true,true,true,true,true,true,true,true,true,true,true,true,true,true,true,true,true,true,true,true,true,true,true,lb38,lb39,lb40,false,false,false])→(a=(((aq.put (some 7) lv38).put (some 8) lv39).put (some 9) lv40))→(FFq w')→((lb38=true→lv38= .pointer (some ⟨gxa,0,none⟩)∧Box w' gxa [.int .i64 0,.int .i64 0]∧wr.heap.size≤gxa))→((lb39=true→lv39= .pointer (some ⟨gxb,0,none⟩)∧Box w' gxb [.int .i64 0,.int .i64 0]∧wr.heap.size≤gxb))→((lb40=true→lv40= .pointer (some ⟨gxc,0,none⟩)∧Box w' gxc [.int .i64 0,.int .i64 0]∧wr.heap.size≤gxc))→((lb38=true→lb39=true→gxa≠gxb))→((lb38=true→lb40=true→gxa≠gxc))→((lb39=true→lb40=true→gxb≠gxc))→CC)→CC:=⟨_,fun _ _ _=>Iff.rfl⟩;refine wpAnyH_until IVq ?_ _ _ _ _ ((hIVq _ _ _).2 (fun CC kk=>kk false false false (aq.tmps.getD 7 undef) (aq.tmps.getD 8 undef) (aq.tmps.getD 9 undef) 0 0 0 rfl (by simp only[put_same]) zF (fun h=>by cases h) (fun h=>by cases h) (fun h=>by cases h) (fun h=>by cases h) (fun h=>by cases h) (fun h=>by cases h))) (by kernel_rfl);clear zF;intro ll aa w1 hI;refine(hIVq _ _ _).1 hI _ ?_;clear hI;intro lb38 lb39 lb40 lv38 lv39 lv40 gxa gxb gxc hll haa zF F38 F39 F40 nq38_39 nq38_40 nq39_40;subst hll haa;by_cases hL:lb38=true∧lb39=true∧lb40=true
      · left;obtain⟨rfl,rfl,rfl⟩:=hL;obtain⟨rfl,xa_0,hgxa⟩:=F38 rfl;clear F38;obtain⟨rfl,xb_0,hgxb⟩:=F39 rfl;clear F39;obtain⟨rfl,xc_0,hgxc⟩:=F40 rfl;clear F40;have hnxaxb:=nq38_39 rfl rfl;have hnxaxc:=nq38_40 rfl rfl;have hnxbxc:=nq39_40 rfl rfl;clear nq38_39 nq38_40 nq39_40;show wpAnyH _ _ _ _ _ 3 _ _ _;rw[HAq.out];try simp only[Act.put,sA,sZ,sS]
        obtain⟨hB_0,pm_0,nk_0,nj_0,ni_0,qa_0,qb_0,qc_0,hWq_0⟩:=(hFFq _).1 zF;clear zF;clear hWq_0;obtain⟨sf1a,sf1b,sf1c,sf1d⟩:=xa_0.open2;obtain⟨sg1a,sg1b⟩:=Box.put2 xa_0 (.int .i64 a0);refine rC 41 _ (fun K hK=>?_);go_simp;have hB_1:=below_setAll hB_0 (g:=gxa) (by omega) [.int .i64 a0,.int .i64 a1];have pm_1:=pm_0.farAll (g':=gxa) (by omega) [.int .i64 a0,.int .i64 a1];have nk_1:=nk_0.farAll (g':=gxa) (by omega) [.int .i64 a0,.int .i64 a1];have nj_1:=nj_0.farAll (g':=gxa) (by omega) [.int .i64 a0,.int .i64 a1];have ni_1:=ni_0.farAll (g':=gxa) (by omega) [.int .i64 a0,.int .i64 a1];have qa_1:=qa_0.farAll (g':=gxa) (by omega) [.int .i64 a0,.int .i64 a1];have qb_1:=qb_0.farAll (g':=gxa) (by omega) [.int .i64 a0,.int .i64 a1];have qc_1:=qc_0.farAll (g':=gxa) (by omega) [.int .i64 a0,.int .i64 a1];have xb_1:=xb_0.farAll (g':=gxa) (by omega) [.int .i64 a0,.int .i64 a1];have xc_1:=xc_0.farAll (g':=gxa) (by omega) [.int .i64 a0,.int .i64 a1];have xa_1:=xa_0.setAll [.int .i64 a0,.int .i64 a1] rfl;simp only[setAll,Nat.zero_add] at hB_1 pm_1 nk_1 nj_1 ni_1 qa_1 qb_1 qc_1 xa_1 xb_1 xc_1;clear sf1a sf1b sf1c sf1d sg1a sg1b;clear hB_0 pm_0 nk_0 nj_0 ni_0 qa_0 qb_0 qc_0 xb_0 xc_0 xa_0;refine hK.out _ _ ⟨pm_1.c0,pm_1.c1,nk_1.c0,nj_1.c0,ni_1.c0,qa_1.c0,qa_1.c1,qb_1.c0,qb_1.c1,qc_1.c0,qc_1.c1⟩ (fun hHeld=>?_);clear hK K;try simp only[Act.put,sA,sZ,sS]
        generalize (World.setCell (World.setCell w1 ⟨gxa,0,none⟩ (.int .i64 a0)) ⟨gxa,1,none⟩ (.int .i64 a1))=w2 at*;obtain⟨sf2a,sf2b,sf2c,sf2d⟩:=xb_1.open2;obtain⟨sg2a,sg2b⟩:=Box.put2 xb_1 (.int .i64 b0);refine rC 42 _ (fun K hK=>?_);go_simp;have hB_2:=below_setAll hB_1 (g:=gxb) (by omega) [.int .i64 b0,.int .i64 b1];have pm_2:=pm_1.farAll (g':=gxb) (by omega) [.int .i64 b0,.int .i64 b1];have nk_2:=nk_1.farAll (g':=gxb) (by omega) [.int .i64 b0,.int .i64 b1];have nj_2:=nj_1.farAll (g':=gxb) (by omega) [.int .i64 b0,.int .i64 b1];have ni_2:=ni_1.farAll (g':=gxb) (by omega) [.int .i64 b0,.int .i64 b1];have qa_2:=qa_1.farAll (g':=gxb) (by omega) [.int .i64 b0,.int .i64 b1];have qb_2:=qb_1.farAll (g':=gxb) (by omega) [.int .i64 b0,.int .i64 b1];have qc_2:=qc_1.farAll (g':=gxb) (by omega) [.int .i64 b0,.int .i64 b1];have xa_2:=xa_1.farAll (g':=gxb) (by omega) [.int .i64 b0,.int .i64 b1];have xc_2:=xc_1.farAll (g':=gxb) (by omega) [.int .i64 b0,.int .i64 b1];have xb_2:=xb_1.setAll [.int .i64 b0,.int .i64 b1] rfl;simp only[setAll,Nat.zero_add] at hB_2 pm_2 nk_2 nj_2 ni_2 qa_2 qb_2 qc_2 xa_2 xb_2 xc_2;clear sf2a sf2b sf2c sf2d sg2a sg2b;clear hB_1 pm_1 nk_1 nj_1 ni_1 qa_1 qb_1 qc_1 xa_1 xc_1 xb_1;refine hK.out _ _ ⟨pm_2.c0,pm_2.c1,nk_2.c0,nj_2.c0,ni_2.c0,qa_2.c0,qa_2.c1,qb_2.c0,qb_2.c1,qc_2.c0,qc_2.c1⟩ (fun hHeld=>?_);clear hK K;try simp only[Act.put,sA,sZ,sS]
        generalize (World.setCell (World.setCell w2 ⟨gxb,0,none⟩ (.int .i64 b0)) ⟨gxb,1,none⟩ (.int .i64 b1))=w3 at*;obtain⟨sf3a,sf3b,sf3c,sf3d⟩:=xc_2.open2;obtain⟨sg3a,sg3b⟩:=Box.put2 xc_2 (.int .i64 c0);refine rC 43 _ (fun K hK=>?_);go_simp;have hB_3:=below_setAll hB_2 (g:=gxc) (by omega) [.int .i64 c0,.int .i64 c1];have pm_3:=pm_2.farAll (g':=gxc) (by omega) [.int .i64 c0,.int .i64 c1];have nk_3:=nk_2.farAll (g':=gxc) (by omega) [.int .i64 c0,.int .i64 c1];have nj_3:=nj_2.farAll (g':=gxc) (by omega) [.int .i64 c0,.int .i64 c1];have ni_3:=ni_2.farAll (g':=gxc) (by omega) [.int .i64 c0,.int .i64 c1];have qa_3:=qa_2.farAll (g':=gxc) (by omega) [.int .i64 c0,.int .i64 c1];have qb_3:=qb_2.farAll (g':=gxc) (by omega) [.int .i64 c0,.int .i64 c1];have qc_3:=qc_2.farAll (g':=gxc) (by omega) [.int .i64 c0,.int .i64 c1];have xa_3:=xa_2.farAll (g':=gxc) (by omega) [.int .i64 c0,.int .i64 c1];have xb_3:=xb_2.farAll (g':=gxc) (by omega) [.int .i64 c0,.int .i64 c1];have xc_3:=xc_2.setAll [.int .i64 c0,.int .i64 c1] rfl;simp only[setAll,Nat.zero_add] at hB_3 pm_3 nk_3 nj_3 ni_3 qa_3 qb_3 qc_3 xa_3 xb_3 xc_3;clear sf3a sf3b sf3c sf3d sg3a sg3b;clear hB_2 pm_2 nk_2 nj_2 ni_2 qa_2 qb_2 qc_2 xa_2 xb_2 xc_2;refine hK.out _ _ ⟨pm_3.c0,pm_3.c1,nk_3.c0,nj_3.c0,ni_3.c0,qa_3.c0,qa_3.c1,qb_3.c0,qb_3.c1,qc_3.c0,qc_3.c1⟩ (fun hHeld=>?_);clear hK K;try simp only[Act.put,sA,sZ,sS]
        generalize (World.setCell (World.setCell w3 ⟨gxc,0,none⟩ (.int .i64 c0)) ⟨gxc,1,none⟩ (.int .i64 c1))=w4 at*;refine wpAnyH_done (by kernel_rfl) ?_ _;refine NoPanic.normal ?_;clear nk_3 nj_3 ni_3 qa_3 qb_3 qc_3;obtain⟨xae0,xae1,xae2,xae3⟩:=xa_3.open2;obtain⟨xbe0,xbe1,xbe2,xbe3⟩:=xb_3.open2;obtain⟨xce0,xce1,xce2,xce3⟩:=xc_3.open2;go_wp2_with fail;refine(Orient_is a0 a1 b0 b1 c0 c1 IA.out.1 IA.out.2 IB.out.1 IB.out.2 IC.out.1 IC.out.2 HS.out _).mono ?_;rintro e w5 ⟨rfl,hb5⟩;clear xae0 xae1 xae2 xae3 xbe0 xbe1 xbe2 xbe3 xce0 xce1 xce2 xce3;have hB_4:=hB_3.trans (hb5.mono hB_3.size);have pm_4:=pm_3.below hb5;have xa_4:=xa_3.below hb5;have xb_4:=xb_3.below hb5;have xc_4:=xc_3.below hb5;clear hb5 hB_3 pm_3 xa_3 xb_3 xc_3;obtain⟨xae0,xae1,xae2,xae3⟩:=xa_4.open2;obtain⟨xbe0,xbe1,xbe2,xbe3⟩:=xb_4.open2;obtain⟨xce0,xce1,xce2,xce3⟩:=xc_4.open2;by_cases hs0:s≤0
        · have e0:decide (s≤0)=true:=by simp;omega
          have hok3:ok=bt:=by rw[HOK2.out,decide_eq_false (by omega),Bool.false_or]
          have HOK3:=Lib.hid hok3;clear hok3 hs0;go_wp2_with fail;refine(Between_is b0 b1 a0 a1 c0 c1 IB.out.1 IB.out.2 IA.out.1 IA.out.2 IC.out.1 IC.out.2 bt HBT.out _).mono ?_;rintro e w6 ⟨rfl,hb6⟩;clear xae0 xae1 xae2 xae3 xbe0 xbe1 xbe2 xbe3 xce0 xce1 xce2 xce3;have hB_5:=hB_4.trans (hb6.mono hB_4.size);have pm_5:=pm_4.below hb6;have xa_5:=xa_4.below hb6;have xb_5:=xb_4.below hb6;have xc_5:=xc_4.below hb6;clear hb6 hB_4 pm_4 xa_4 xb_4 xc_4;obtain⟨xae0,xae1,xae2,xae3⟩:=xa_5.open2;obtain⟨xbe0,xbe1,xbe2,xbe3⟩:=xb_5.open2;obtain⟨xce0,xce1,xce2,xce3⟩:=xc_5.open2;cases bt
          · have hr':r=false:=by
              rw[←HR.out];unfold convexM;have:okAll P hs=false:=by
                unfold okAll;rw[List.all_eq_false];exact⟨k,List.mem_range.2 (by rw[HL.out];exact hlt),by rw[HOK.out,HOK3.out];simp⟩
              rw[this];rfl
            subst hr';go_wp2;go_ret;exact⟨rfl,hB_5⟩
          · have HOKT:Hid (okC (corC P hs k) (corC P hs (k+1)) (corC P hs (k+2))=true):=by rw[HOK.out,HOK3.out];exact Lib.hid rfl
            by_cases h1:b1≤a1
            · have HD1:=Lib.hid h1;have e1:decide (b1≤a1)=true:=by simp;omega
              clear h1;by_cases h2:b1<c1
              · have HD2:=Lib.hid h2;have e2:decide (b1<c1)=true:=by simp;omega
                clear h2;have hr':ri=true:=by rw[HRI2.out];simp;have:=HD1.out;have:=HD2.out;omega
                have HRN:=Lib.hid hr';clear hr';go_wp2;refine⟨⟨k+1,by omega,by go_num,by rw[HCN.out,HRN.out];go_num,fun i' hi'=>?_,hB_5⟩,by simp[intOf];omega⟩;rcases Nat.lt_or_ge i' k with g|g;·exact HALL.out i' g
                · obtain rfl:i'=k:=by omega
                  exact HOKT.out
              · have HD2:=Lib.hid h2;have e2:decide (b1<c1)=false:=by simp;omega
                clear h2;have hr':ri=false:=by rw[HRI2.out];simp;have:=HD1.out;have:=HD2.out;omega
                have HRN:=Lib.hid hr';clear hr';go_wp2;refine⟨⟨k+1,by omega,by go_num,by rw[HCN.out,HRN.out];rfl,fun i' hi'=>?_,hB_5⟩,by simp[intOf];omega⟩;rcases Nat.lt_or_ge i' k with g|g;·exact HALL.out i' g
                · obtain rfl:i'=k:=by omega
                  exact HOKT.out
            · have HD1:=Lib.hid h1;have e1:decide (b1≤a1)=false:=by simp;omega
              clear h1;have hr':ri=false:=by rw[HRI2.out];simp;have:=HD1.out;omega
              have HRN:=Lib.hid hr';clear hr';go_wp2;refine⟨⟨k+1,by omega,by go_num,by rw[HCN.out,HRN.out];rfl,fun i' hi'=>?_,hB_5⟩,by simp[intOf];omega⟩;rcases Nat.lt_or_ge i' k with g|g;·exact HALL.out i' g
              · obtain rfl:i'=k:=by omega
                exact HOKT.out
        · have e0:decide (s≤0)=false:=by simp;omega
          have HOKT:Hid (okC (corC P hs k) (corC P hs (k+1)) (corC P hs (k+2))=true):=by rw[HOK.out,HOK2.out,decide_eq_true (by omega),Bool.true_or];exact Lib.hid rfl
          clear hs0;by_cases h1:b1≤a1
          · have HD1:=Lib.hid h1;have e1:decide (b1≤a1)=true:=by simp;omega
            clear h1;by_cases h2:b1<c1
            · have HD2:=Lib.hid h2;have e2:decide (b1<c1)=true:=by simp;omega
              clear h2;have hr':ri=true:=by rw[HRI2.out];simp;have:=HD1.out;have:=HD2.out;omega
              have HRN:=Lib.hid hr';clear hr';go_wp2;refine⟨⟨k+1,by omega,by go_num,by rw[HCN.out,HRN.out];go_num,fun i' hi'=>?_,hB_4⟩,by simp[intOf];omega⟩;rcases Nat.lt_or_ge i' k with g|g;·exact HALL.out i' g
              · obtain rfl:i'=k:=by omega
                exact HOKT.out
            · have HD2:=Lib.hid h2;have e2:decide (b1<c1)=false:=by simp;omega
              clear h2;have hr':ri=false:=by rw[HRI2.out];simp;have:=HD1.out;have:=HD2.out;omega
              have HRN:=Lib.hid hr';clear hr';go_wp2;refine⟨⟨k+1,by omega,by go_num,by rw[HCN.out,HRN.out];rfl,fun i' hi'=>?_,hB_4⟩,by simp[intOf];omega⟩;rcases Nat.lt_or_ge i' k with g|g;·exact HALL.out i' g
              · obtain rfl:i'=k:=by omega
                exact HOKT.out
          · have HD1:=Lib.hid h1;have e1:decide (b1≤a1)=false:=by simp;omega
            clear h1;have hr':ri=false:=by rw[HRI2.out];simp;have:=HD1.out;omega
            have HRN:=Lib.hid hr';clear hr';go_wp2;refine⟨⟨k+1,by omega,by go_num,by rw[HCN.out,HRN.out];rfl,fun i' hi'=>?_,hB_4⟩,by simp[intOf];omega⟩;rcases Nat.lt_or_ge i' k with g|g;·exact HALL.out i' g
            · obtain rfl:i'=k:=by omega
              exact HOKT.out
      · right;refine⟨?_,fun i hi=>?_⟩
        · clear zF F38 F39 F40 nq38_39 nq38_40 nq39_40;cases lb38;·exact ready_of 38 _ rfl rfl (by kernel_rfl)
          cases lb39;·exact ready_of 39 _ rfl rfl (by kernel_rfl)
          cases lb40;·exact ready_of 40 _ rfl rfl (by kernel_rfl)
          exact absurd ⟨rfl,rfl,rfl⟩ hL
        have hd:(lb38=false∧i=38)∨(lb39=false∧i=39)∨(lb40=false∧i=40):=by
          have hin:=ready_lt hi;obtain rfl|rfl|rfl|rfl|rfl|rfl|rfl|rfl|rfl|rfl|rfl|rfl|rfl|rfl|rfl|rfl|rfl|rfl|rfl|rfl|rfl|rfl|rfl|rfl|rfl|rfl|rfl|rfl|rfl|rfl|rfl|rfl|rfl|rfl|rfl|rfl|rfl|rfl|rfl|rfl|rfl|rfl|rfl|rfl:i=0∨i=1∨i=2∨i=3∨i=4∨i=5∨i=6∨i=7∨i=8∨i=9∨i=10∨i=11∨i=12∨i=13∨i=14∨i=15∨i=16∨i=17∨i=18∨i=19∨i=20∨i=21∨i=22∨i=23∨i=24∨i=25∨i=26∨i=27∨i=28∨i=29∨i=30∨i=31∨i=32∨i=33∨i=34∨i=35∨i=36∨i=37∨i=38∨i=39∨i=40∨i=41∨i=42∨i=43:=by have hin':i<44:=hin;omega
          ·exact absurd (ready_off hi) (fun h=>Bool.noConfusion (show true=false from h))
          ·exact absurd (ready_off hi) (fun h=>Bool.noConfusion (show true=false from h))
          ·exact absurd (ready_off hi) (fun h=>Bool.noConfusion (show true=false from h))
          ·exact absurd (ready_off hi) (fun h=>Bool.noConfusion (show true=false from h))
          ·exact absurd (ready_off hi) (fun h=>Bool.noConfusion (show true=false from h))
          ·exact absurd (ready_off hi) (fun h=>Bool.noConfusion (show true=false from h))
          ·exact absurd (ready_off hi) (fun h=>Bool.noConfusion (show true=false from h))
          ·exact absurd (ready_off hi) (fun h=>Bool.noConfusion (show true=false from h))
          ·exact absurd (ready_off hi) (fun h=>Bool.noConfusion (show true=false from h))
          ·exact absurd (ready_off hi) (fun h=>Bool.noConfusion (show true=false from h))
          ·exact absurd (ready_off hi) (fun h=>Bool.noConfusion (show true=false from h))
          ·exact absurd (ready_off hi) (fun h=>Bool.noConfusion (show true=false from h))
          ·exact absurd (ready_off hi) (fun h=>Bool.noConfusion (show true=false from h))
          ·exact absurd (ready_off hi) (fun h=>Bool.noConfusion (show true=false from h))
          ·exact absurd (ready_off hi) (fun h=>Bool.noConfusion (show true=false from h))
          ·exact absurd (ready_off hi) (fun h=>Bool.noConfusion (show true=false from h))
          ·exact absurd (ready_off hi) (fun h=>Bool.noConfusion (show true=false from h))
          ·exact absurd (ready_off hi) (fun h=>Bool.noConfusion (show true=false from h))
          ·exact absurd (ready_off hi) (fun h=>Bool.noConfusion (show true=false from h))
          ·exact absurd (ready_off hi) (fun h=>Bool.noConfusion (show true=false from h))
          ·exact absurd (ready_off hi) (fun h=>Bool.noConfusion (show true=false from h))
          ·exact absurd (ready_off hi) (fun h=>Bool.noConfusion (show true=false from h))
          ·exact absurd (ready_off hi) (fun h=>Bool.noConfusion (show true=false from h))
          ·exact absurd (ready_off hi) (fun h=>Bool.noConfusion (show true=false from h))
          ·exact absurd (ready_off hi) (fun h=>Bool.noConfusion (show true=false from h))
          ·exact absurd (ready_off hi) (fun h=>Bool.noConfusion (show true=false from h))
          ·exact absurd (ready_off hi) (fun h=>Bool.noConfusion (show true=false from h))
          ·exact absurd (ready_off hi) (fun h=>Bool.noConfusion (show true=false from h))
          ·exact absurd (ready_off hi) (fun h=>Bool.noConfusion (show true=false from h))
          ·exact absurd (ready_off hi) (fun h=>Bool.noConfusion (show true=false from h))
          ·exact absurd (ready_off hi) (fun h=>Bool.noConfusion (show true=false from h))
          ·exact absurd (ready_off hi) (fun h=>Bool.noConfusion (show true=false from h))
          ·exact absurd (ready_off hi) (fun h=>Bool.noConfusion (show true=false from h))
          ·exact absurd (ready_off hi) (fun h=>Bool.noConfusion (show true=false from h))
          ·exact absurd (ready_off hi) (fun h=>Bool.noConfusion (show true=false from h))
          ·exact absurd (ready_off hi) (fun h=>Bool.noConfusion (show true=false from h))
          ·exact absurd (ready_off hi) (fun h=>Bool.noConfusion (show true=false from h))
          ·exact absurd (ready_off hi) (fun h=>Bool.noConfusion (show true=false from h))
          ·exact .inl ⟨ready_off hi,rfl⟩
          ·exact .inr (.inl ⟨ready_off hi,rfl⟩)
          ·exact .inr (.inr (⟨ready_off hi,rfl⟩))
          · have k38:lb38=true:=ready_dep (d:=38) hi (by kernel_rfl);have k39:lb39=true:=ready_dep (d:=39) hi (by kernel_rfl);have k40:lb40=true:=ready_dep (d:=40) hi (by kernel_rfl);exact absurd ⟨k38,k39,k40⟩ hL
          ·exact absurd (ready_dep (d:=41) hi (by kernel_rfl)) (fun h=>Bool.noConfusion (show false=true from h))
          ·exact absurd (ready_dep (d:=42) hi (by kernel_rfl)) (fun h=>Bool.noConfusion (show false=true from h))
        clear hi hL;rcases hd with⟨rfl,rfl⟩|⟨rfl,rfl⟩|⟨rfl,rfl⟩
        · refine step_of 38 ?_ ?_ (fun K hK=>?_);rotate_left 1;·simp only[gA,gS,gZ];exact rfl
          rw[HAq.out];try simp only[Act.put,sA,sZ,sS]
          go_simp;have hgn:=mFq zF;have hq39:lb39=true→gxb<w1.heap.size:=fun h=>(F39 h).2.1.lt;have hq40:lb40=true→gxc<w1.heap.size:=fun h=>(F40 h).2.1.lt;obtain⟨wn,hwn,xa_0,hb,-⟩:=new_box w1 _ rfl [.int .i64 0,.int .i64 0] 33;rw[hwn];refine hK.out _ _ (sFq (cFq zF hb)) ?_;exact(hIVq _ _ _).2 (fun CC kk=>kk true lb39 lb40 (.pointer (some ⟨w1.heap.size,0,none⟩)) lv39 lv40 w1.heap.size gxb gxc rfl (by simp only[HAq.out,Act.put,sA,sZ,sS]) (cFq zF hb) (fun _=>⟨rfl,xa_0,hgn⟩) (fun h=>⟨(F39 h).1,(F39 h).2.1.below hb,(F39 h).2.2⟩) (fun h=>⟨(F40 h).1,(F40 h).2.1.below hb,(F40 h).2.2⟩) (fun _ h=>by have:=hq39 h;omega) (fun _ h=>by have:=hq40 h;omega) nq39_40)
        · refine step_of 39 ?_ ?_ (fun K hK=>?_);rotate_left 1;·simp only[gA,gS,gZ];exact rfl
          rw[HAq.out];try simp only[Act.put,sA,sZ,sS]
          go_simp;have hgn:=mFq zF;have hq38:lb38=true→gxa<w1.heap.size:=fun h=>(F38 h).2.1.lt;have hq40:lb40=true→gxc<w1.heap.size:=fun h=>(F40 h).2.1.lt;obtain⟨wn,hwn,xb_0,hb,-⟩:=new_box w1 _ rfl [.int .i64 0,.int .i64 0] 33;rw[hwn];refine hK.out _ _ (sFq (cFq zF hb)) ?_;exact(hIVq _ _ _).2 (fun CC kk=>kk lb38 true lb40 lv38 (.pointer (some ⟨w1.heap.size,0,none⟩)) lv40 gxa w1.heap.size gxc rfl (by simp only[HAq.out,Act.put,sA,sZ,sS]) (cFq zF hb) (fun h=>⟨(F38 h).1,(F38 h).2.1.below hb,(F38 h).2.2⟩) (fun _=>⟨rfl,xb_0,hgn⟩) (fun h=>⟨(F40 h).1,(F40 h).2.1.below hb,(F40 h).2.2⟩) (fun h _=>by have:=hq38 h;omega) nq38_40 (fun _ h=>by have:=hq40 h;omega))
        · refine step_of 40 ?_ ?_ (fun K hK=>?_);rotate_left 1;·simp only[gA,gS,gZ];exact rfl
          rw[HAq.out];try simp only[Act.put,sA,sZ,sS]
          go_simp;have hgn:=mFq zF;have hq38:lb38=true→gxa<w1.heap.size:=fun h=>(F38 h).2.1.lt;have hq39:lb39=true→gxb<w1.heap.size:=fun h=>(F39 h).2.1.lt;obtain⟨wn,hwn,xc_0,hb,-⟩:=new_box w1 _ rfl [.int .i64 0,.int .i64 0] 33;rw[hwn];refine hK.out _ _ (sFq (cFq zF hb)) ?_;exact(hIVq _ _ _).2 (fun CC kk=>kk lb38 lb39 true lv38 lv39 (.pointer (some ⟨w1.heap.size,0,none⟩)) gxa gxb w1.heap.size rfl (by simp only[HAq.out,Act.put,sA,sZ,sS]) (cFq zF hb) (fun h=>⟨(F38 h).1,(F38 h).2.1.below hb,(F38 h).2.2⟩) (fun h=>⟨(F39 h).1,(F39 h).2.1.below hb,(F39 h).2.2⟩) (fun _=>⟨rfl,xc_0,hgn⟩) nq38_39 (fun h _=>by have:=hq38 h;omega) (fun h _=>by have:=hq39 h;omega))
    · obtain rfl:k=n:=by omega
      have hall:okAll P hs=true:=by unfold okAll;rw[List.all_eq_true];intro x hx;exact HALL.out x (by have:=List.mem_range.1 hx;rw[HL.out] at this;exact this)
      have hr':r=(((cntC P hs k:Nat):Int)==1):=by
        rw[←HR.out];unfold convexM;rw[hall,HL.out,Bool.true_and];rw[Bool.eq_iff_iff];simp;omega
      clear hall;subst hr';go_wp2;go_ret;exact⟨rfl,hB_0⟩
end Go.Proofs.YtdmfbkhafnkcfaaGreat
namespace Go.MagM
def vA(S:List TriM)(t i:Nat):Int:=match S[t]? with|some T=>T.v (i%3)|none=>-2
def nA(S:List TriM)(t i:Nat):Nat:=match S[t]? with|some T=>(T.n (i%3)).toNat|none=>0
def fA(S:List TriM)(t i:Nat):Bool:=match S[t]? with|some T=>T.f (i%3)|none=>false
def qA(P:List (Int×Int))(S:List TriM)(t i:Nat):Int×Int:=ptA P (vA S t i).toNat
theorem vA_mod(S:List TriM)(t i:Nat):vA S t (i%3)=vA S t i:=by unfold vA;rw[Nat.mod_mod]
theorem nA_mod(S:List TriM)(t i:Nat):nA S t (i%3)=nA S t i:=by unfold nA;rw[Nat.mod_mod]
theorem fA_mod(S:List TriM)(t i:Nat):fA S t (i%3)=fA S t i:=by unfold fA;rw[Nat.mod_mod]
theorem vA_eq(S:List TriM)(t:Nat){i j:Nat}(h:i%3=j%3):vA S t i=vA S t j:=by rw[←vA_mod S t i,h,vA_mod]
theorem nA_eq(S:List TriM)(t:Nat){i j:Nat}(h:i%3=j%3):nA S t i=nA S t j:=by rw[←nA_mod S t i,h,nA_mod]
theorem fA_eq(S:List TriM)(t:Nat){i j:Nat}(h:i%3=j%3):fA S t i=fA S t j:=by rw[←fA_mod S t i,h,fA_mod]
theorem qA_eq(P:List (Int×Int))(S:List TriM)(t:Nat){i j:Nat}(h:i%3=j%3):qA P S t i=qA P S t j:=by unfold qA;rw[vA_eq S t h]
structure Net(n:Nat)(S:List TriM):Prop where
  rng:∀t,t<S.length→∀i,vA S t i=-1∨(0≤vA S t i∧vA S t i<n)
  apart:∀t,t<S.length→∀i,vA S t i≠vA S t (i+1)
  once:∀t u i j,t<S.length→u<S.length→vA S t i=vA S u j→vA S t (i+1)=vA S u (j+1)→t=u∧i%3=j%3
  mate:∀t,t<S.length→∀i,∃j,nA S t i<S.length∧vA S (nA S t i) (j+1)=vA S t (i+2)∧vA S (nA S t i) (j+2)=vA S t (i+1)∧nA S (nA S t i) j=t∧fA S (nA S t i) j=fA S t i
  nn:∀(t:Nat)(T:TriM),S[t]?=some T→∀i,i<3→0≤T.n i
  gf:∀t,t<S.length→∀i,vA S t i=-1→fA S t (i+1)=false∧fA S t (i+2)=false
  gr:∀t,t<S.length→∀i,vA S t i=-1→∀k,vA S (nA S t i) k≠-1
section
variable{n:Nat}{S:List TriM}
theorem Net.apart2(h:Net n S){t:Nat}(ht:t<S.length)(i:Nat):vA S t i≠vA S t (i+2):=by have:=h.apart t ht (i+2);rw[vA_eq S t (show(i+2+1)%3=i%3 by omega)] at this;exact this.symm
theorem Net.corner(h:Net n S){t:Nat}(ht:t<S.length){i j:Nat}(e:vA S t i=vA S t j):i%3=j%3:=by
  refine Classical.byContradiction fun hc=>?_;have h1:=h.apart t ht i;have h2:=h.apart2 ht i;have:j%3=(i+1)%3∨j%3=(i+2)%3:=by omega
  rcases this with k|k;·exact h1 (e.trans (vA_eq S t k))
  ·exact h2 (e.trans (vA_eq S t k))
theorem Net.not_own(h:Net n S){t:Nat}(ht:t<S.length)(i:Nat):nA S t i≠t:=by intro e;obtain⟨j,-,h1,h2,-,-⟩:=h.mate t ht i;rw[e] at h1 h2;have a:=h.corner ht h1;have b:=h.corner ht h2;omega
theorem Net.mate_uniq(h:Net n S){t u:Nat}(ht:t<S.length)(hu:u<S.length){i j:Nat}(h1:vA S u (j+1)=vA S t (i+2))(h2:vA S u (j+2)=vA S t (i+1)):nA S t i=u∧nA S u j=t∧fA S u j=fA S t i:=by
  obtain⟨k,k0,k1,k2,k3,k4⟩:=h.mate t ht i;obtain⟨e1,e2⟩:=h.once (nA S t i) u (k+1) (j+1) k0 hu (k1.trans h1.symm) (k2.trans h2.symm);rw[←e1];have e3:k%3=j%3:=by omega
  exact⟨rfl,by rw[←nA_eq S _ e3];exact k3,by rw[←fA_eq S _ e3];exact k4⟩
end
def dotP(a b p:Int×Int):Int:=(p.1-a.1)*(b.1-p.1)+(p.2-a.2)*(b.2-p.2)
def Betw(a b p:Int×Int):Prop:=crP a b p=0∧0<dotP a b p
def Cf(P:List (Int×Int))(S:List TriM)(p:Int×Int)(t:Nat):Prop:=((∀k,vA S t k≠-1)∧0<incP (qA P S t 0) (qA P S t 1) (qA P S t 2) p)∨∃i,vA S t i=-1∧(0<crP (qA P S t (i+1)) (qA P S t (i+2)) p∨Betw (qA P S t (i+1)) (qA P S t (i+2)) p)
theorem rot_three(F:Nat→Int×Int)(G:Int×Int→Int×Int→Int×Int→Prop)(hF:∀i j,i%3=j%3→F i=F j)(hG:∀a b c,G a b c→G b c a)(h:G (F 0) (F 1) (F 2))(i:Nat):G (F i) (F (i+1)) (F (i+2)):=by
  have h1:=hG _ _ _ h;have h2:=hG _ _ _ h1;obtain e|e|e:i%3=0∨i%3=1∨i%3=2:=by omega
  ·rw[hF i 0 (by omega),hF (i+1) 1 (by omega),hF (i+2) 2 (by omega)];exact h
  ·rw[hF i 1 (by omega),hF (i+1) 2 (by omega),hF (i+2) 0 (by omega)];exact h1
  ·rw[hF i 2 (by omega),hF (i+1) 0 (by omega),hF (i+2) 1 (by omega)];exact h2
theorem Cf.real{P:List (Int×Int)}{S:List TriM}{p:Int×Int}{t:Nat}(h:Cf P S p t)(hr:∀k,vA S t k≠-1)(i:Nat):0<incP (qA P S t i) (qA P S t (i+1)) (qA P S t (i+2)) p:=by
  rcases h with⟨-,h⟩|⟨i,h,-⟩;·exact rot_three (qA P S t) (fun a b c=>0<incP a b c p) (fun i j e=>qA_eq P S t e) (fun a b c h=>by rw[incP_cyc];exact h) h i
  ·exact absurd h (hr i)
theorem Cf.ghost{n:Nat}{P:List (Int×Int)}{S:List TriM}{p:Int×Int}{t:Nat}(h:Cf P S p t)(hN:Net n S)(ht:t<S.length){i:Nat}(hi:vA S t i=-1):0<crP (qA P S t (i+1)) (qA P S t (i+2)) p∨Betw (qA P S t (i+1)) (qA P S t (i+2)) p:=by
  rcases h with⟨h,-⟩|⟨j,h,h2⟩;·exact absurd hi (h i)
  · have e:=hN.corner ht (hi.trans h.symm);rw[qA_eq P S t (show(i+1)%3=(j+1)%3 by omega),qA_eq P S t (show(i+2)%3=(j+2)%3 by omega)];exact h2
def PosT(P:List (Int×Int))(S:List TriM):Prop:=∀t,t<S.length→(∀k,vA S t k≠-1)→0<crP (qA P S t 0) (qA P S t 1) (qA P S t 2)
theorem PosT.at_{P:List (Int×Int)}{S:List TriM}(h:PosT P S){t:Nat}(ht:t<S.length)(hr:∀k,vA S t k≠-1)(i:Nat):0<crP (qA P S t i) (qA P S t (i+1)) (qA P S t (i+2)):=rot_three (qA P S t) (fun a b c=>0<crP a b c) (fun i j e=>qA_eq P S t e) (fun a b c h=>by rw[crP_cyc];exact h) (h t ht hr) i
def edA(S:List TriM)(s:Nat×Nat):Int:=vA S s.1 (s.2+1)
def edB(S:List TriM)(s:Nat×Nat):Int:=vA S s.1 (s.2+2)
def Chn(S:List TriM):List (Nat×Nat)→Int→Int→Prop|[],a,b=>a=b|s::r,a,b=>edA S s=a∧Chn S r (edB S s) b
theorem chn_app{S:List TriM}:∀{l r:List (Nat×Nat)}{a b:Int},Chn S (l++r) a b↔∃c,Chn S l a c∧Chn S r c b|[],r,a,b=>⟨fun h=>⟨a,rfl,h⟩,fun⟨c,e,h⟩=>by cases e;exact h⟩|s::l,r,a,b=>by show(edA S s=a∧Chn S (l++r) (edB S s) b)↔∃c,(edA S s=a∧Chn S l (edB S s) c)∧Chn S r c b;rw[chn_app];exact⟨fun⟨e,c,h1,h2⟩=>⟨c,⟨e,h1⟩,h2⟩,fun⟨c,⟨e,h1⟩,h2⟩=>⟨e,c,h1,h2⟩⟩
def ltV(P:List (Int×Int))(d p:Int×Int)(v w:Int):Prop:=(v=-1∧0≤w)∨(0≤v∧0≤w∧ltA d p (ptA P v.toNat) (ptA P w.toNat))
theorem ltV_trans{P:List (Int×Int)}{d p:Int×Int}(hd:d≠(0,0)){u v w:Int}(h1:ltV P d p u v)(h2:ltV P d p v w):ltV P d p u w:=by
  rcases h1 with⟨a,b⟩|⟨a,b,c⟩;·rcases h2 with⟨e,f⟩|⟨-,f,-⟩<;>exact .inl ⟨a,f⟩
  · rcases h2 with⟨e,f⟩|⟨-,f,g⟩;·omega
    ·exact .inr ⟨a,f,ltA_trans hd c g⟩
theorem ltV_irr{P:List (Int×Int)}{d p:Int×Int}{v:Int}(h:ltV P d p v v):False:=by
  rcases h with⟨a,b⟩|⟨-,-,h⟩;·omega
  ·exact ltA_irr _ _ _ h
theorem ltV_nonneg{P:List (Int×Int)}{d p:Int×Int}{v w:Int}(h:ltV P d p v w):0≤w:=by rcases h with⟨-,b⟩|⟨-,b,-⟩<;>exact b
theorem sorted_ins{α:Type}{r:α→α→Prop}(htr:∀a b c,r a b→r b c→r a c){L R:List α}{x z:α}(h:(L++x::R).Pairwise r)(h1:r x z)(h2:∀y R',R=y::R'→r z y):(L++x::z::R).Pairwise r:=by
  rw[List.pairwise_append,List.pairwise_cons] at h;obtain⟨hL,⟨hx,hR⟩,hLR⟩:=h;have hz:∀y∈R,r z y:=by intro y hy;cases R with
    |nil=>cases hy|cons a R'=>
      have ha:=h2 a R' rfl;rcases List.mem_cons.1 hy with rfl|hy;·exact ha
      ·exact htr _ _ _ ha ((List.pairwise_cons.1 hR).1 y hy)
  rw[List.pairwise_append,List.pairwise_cons,List.pairwise_cons];refine⟨hL,⟨fun y hy=>?_,hz,hR⟩,fun a ha b hb=>?_⟩
  · rcases List.mem_cons.1 hy with rfl|hy;·exact h1
    ·exact hx y hy
  · have hax:=hLR a ha x (by simp);rcases List.mem_cons.1 hb with rfl|hb;·exact hax
    · rcases List.mem_cons.1 hb with rfl|hb;·exact htr _ _ _ hax h1
      ·exact hLR a ha b (by simp[hb])
end Go.MagM
namespace Go.MagM
def ptV(P:List (Int×Int))(v:Int):Int×Int:=ptA P v.toNat
theorem qA_is(P:List (Int×Int))(S:List TriM)(t i:Nat):qA P S t i=ptV P (vA S t i):=rfl
structure Hole(P:List (Int×Int))(S:List TriM)(d p:Int×Int)(st us:List Nat)(rim:List (Nat×Nat)):Prop where
  lt:∀t∈us,t<S.length
  sub:∀t∈st,t∈us
  once:us.Nodup
  rl:∀s∈rim,s.1∈us∧s.2<3∧nA S s.1 s.2∉us
  all:∀t∈us,∀i,i<3→nA S t i∉us→(t,i)∈rim
  chn:∃a,Chn S rim a a
  sorted:(rim.map (edA S)).Pairwise (ltV P d p)
  first:∀s r,rim=s::r→edA S s≠-1→crD d p (ptV P (edA S s))=0∧0<doD d p (ptV P (edA S s))
  vis:∀s∈rim,edA S s≠-1→edB S s≠-1→0<crP (ptV P (edA S s)) (ptV P (edB S s)) p
  cov:∀t∈us,∀i,∃s∈rim,edA S s=vA S t i
  inn:∀t∈us,∀i,nA S t i∈us→fA S t i=false∨(t∈st∧nA S t i∈st)
  cnt:rim.length=us.length+2
theorem betw_half{d a b p:Int×Int}(h:Betw a b p)(ha:0<crD d p a)(hb:0<crD d p b):False:=by
  obtain⟨h0,h1⟩:=h;have e:((b.1-p.1)*(b.1-p.1)+(b.2-p.2)*(b.2-p.2))*crD d p a=-(dotP a b p*crD d p b)-(d.1*(b.1-p.1)+d.2*(b.2-p.2))*crP a b p:=by unfold crD dotP crP crs;grind
  rw[h0,Int.mul_zero] at e;have a1:=Int.mul_pos h1 hb;have a2:=Int.mul_nonneg (show 0≤(b.1-p.1)*(b.1-p.1)+(b.2-p.2)*(b.2-p.2) by have:=sq_nonneg (b.1-p.1);have:=sq_nonneg (b.2-p.2);omega) (Int.le_of_lt ha);omega
theorem crP_rot1(a b c:Int×Int):crP c a b=crP a b c:=by unfold crP crs;grind
theorem crP_flip(a b c:Int×Int):crP b a c=-crP a b c:=by unfold crP crs;grind
theorem crP_flip2(a b c:Int×Int):crP a c b=-crP a b c:=by unfold crP crs;grind
structure Site(n:Nat)(P:List (Int×Int))(S:List TriM)(d p:Int×Int)(st:List Nat):Prop where
  net:Net n S
  pos:PosT P S
  dir:d≠(0,0)
  gh:(∀u,u<S.length→∀i,vA S u i=-1→Cf P S p u→u∈st)∨(∀t,t<S.length→∀i,vA S t i≠-1→0<crD d p (qA P S t i))
section
variable{n:Nat}{P:List (Int×Int)}{S:List TriM}{d p:Int×Int}{st us:List Nat}{l r:List (Nat×Nat)}{t i j u:Nat}
theorem Net.nonneg(h:Net n S){t:Nat}(ht:t<S.length){i:Nat}(hi:vA S t i≠-1):0≤vA S t i:=by
  rcases h.rng t ht i with e|e;·exact absurd e hi
  ·exact e.1
theorem ltV_of{v w:Int}(hv:0≤v)(hw:0≤w)(h:ltA d p (ptV P v) (ptV P w)):ltV P d p v w:= .inr ⟨hv,hw,h⟩
theorem ltV_to{v w:Int}(hv:v≠-1)(h:ltV P d p v w):ltA d p (ptV P v) (ptV P w):=by
  rcases h with⟨e,-⟩|⟨-,-,h⟩;·exact absurd e hv
  ·exact h
structure Apex(P:List (Int×Int))(d p:Int×Int)(r:List (Nat×Nat))(x y z:Int):Prop where
  z0:0≤z
  k1:x≠-1→0<crP (ptV P x) (ptV P z) p
  k2:y≠-1→0<crP (ptV P z) (ptV P y) p
  xz:ltV P d p x z
  zy:r≠[]→ltV P d p z y
  up:x=-1∨y=-1→upA d p (ptV P z)∧(x≠-1→upA d p (ptV P x))∧(y≠-1→upA d p (ptV P y))
theorem Hole.sorted_l{s s':Nat×Nat}(h:Hole P S d p st us (l++s::r))(hm:s'∈l):ltV P d p (edA S s') (edA S s):=by have:=h.sorted;rw[List.map_append,List.map_cons,List.pairwise_append] at this;exact this.2.2 _ (List.mem_map_of_mem hm) _ (by simp)
theorem Hole.sorted_r{s s':Nat×Nat}(h:Hole P S d p st us (l++s::r))(hm:s'∈r):ltV P d p (edA S s) (edA S s'):=by have:=h.sorted;rw[List.map_append,List.map_cons,List.pairwise_append,List.pairwise_cons] at this;exact this.2.1.1 _ (List.mem_map_of_mem hm)
theorem Hole.inj{rim:List (Nat×Nat)}(h:Hole P S d p st us rim){s s':Nat×Nat}(hs:s∈rim)(hs':s'∈rim)(e:edA S s'=edA S s):s'=s:=by
  obtain⟨l,r,rfl⟩:=List.append_of_mem hs;simp only[List.mem_append,List.mem_cons] at hs';rcases hs' with hs'|hs'|hs'
  · have:=h.sorted_l hs';rw[e] at this;exact(ltV_irr this).elim
  ·exact hs'
  · have:=h.sorted_r hs';rw[e] at this;exact(ltV_irr this).elim
theorem Hole.apex(hS:Site n P S d p st)(h:Hole P S d p st us (l++(t,i)::r))(hu:nA S t i=u)(hc:Cf P S p u)(h1:vA S u (j+1)=vA S t (i+2))(h2:vA S u (j+2)=vA S t (i+1)):Apex P d p r (vA S t (i+1)) (vA S t (i+2)) (vA S u j):=by
  obtain⟨htu,hi3,hnu⟩:=h.rl (t,i) (by simp);have ht:=h.lt t htu;have hul:u<S.length:=by obtain⟨k,k0,-⟩:=hS.net.mate t ht i;rw[←hu];exact k0
  simp only[] at hnu;rw[hu] at hnu;have hvis:=h.vis (t,i) (by simp);unfold edA edB at hvis;simp only[] at hvis;obtain⟨a,hch⟩:=h.chn;obtain⟨c,-,hch2⟩:=chn_app.1 hch;obtain⟨-,hch3⟩:=hch2;unfold edB at hch3;simp only[] at hch3;have e3:vA S u (j+3)=vA S u j:=vA_eq S u (by omega);generalize hx:vA S t (i+1)=x at*;generalize hy:vA S t (i+2)=y at*;have hxy:x≠y:=by rw[←hx,←hy];exact hS.net.apart t ht (i+1)
  have az1:vA S u j≠y:=by rw[←h1];exact hS.net.apart u hul j
  have az2:vA S u j≠x:=by rw[←h2];exact hS.net.apart2 hul j
  by_cases hx1:x=-1
  · have hy1:y≠-1:=fun e=>hxy (hx1.trans e.symm);have hz1:vA S u j≠-1:=fun e=>az2 (e.trans hx1.symm);have hz0:=hS.net.nonneg hul hz1;have hy0:0≤y:=by have:=hS.net.nonneg ht (i:=i+2) (by rw[hy];exact hy1);rwa [hy] at this
    rcases hS.gh with hg|hg;·exact absurd (h.sub u (hg u hul (j+2) (h2.trans hx1) hc)) hnu
    have hzu:=hg u hul j hz1;have hyu:=hg u hul (j+1) (by rw[h1];exact hy1);have hk:0<crP (ptV P (vA S u j)) (ptV P y) p:=by
      have hgc:=hc.ghost hS.net hul (h2.trans hx1);rw[qA_eq P S u (show(j+2+1)%3=j%3 by omega),qA_eq P S u (show(j+2+2)%3=(j+1)%3 by omega)] at hgc;rcases hgc with hgc|hgc;·rw[qA_is,qA_is,h1] at hgc;exact hgc
      ·exact(betw_half hgc hzu hyu).elim
    rw[qA_is,h1] at hyu;exact⟨hz0,fun e=>absurd hx1 e,fun _=>hk,.inl ⟨hx1,hz0⟩,fun _=>ltV_of hz0 hy0 (.inr ⟨iff_of_true (.inl hzu) (.inl hyu),by rw[crP_rot1];exact hk⟩),fun _=>⟨.inl hzu,fun e=>absurd hx1 e,fun _=> .inl hyu⟩⟩
  · have hx0:0≤x:=by have:=hS.net.nonneg ht (i:=i+1) (by rw[hx];exact hx1);rwa [hx] at this
    by_cases hy1:y=-1
    · have hz1:vA S u j≠-1:=fun e=>az1 (e.trans hy1.symm);have hz0:=hS.net.nonneg hul hz1;rcases hS.gh with hg|hg;·exact absurd (h.sub u (hg u hul (j+1) (h1.trans hy1) hc)) hnu
      have hzu:=hg u hul j hz1;have hxu:=hg u hul (j+2) (by rw[h2];exact hx1);have hk:0<crP (ptV P x) (ptV P (vA S u j)) p:=by
        have hgc:=hc.ghost hS.net hul (h1.trans hy1);rw[qA_eq P S u (show(j+1+2)%3=j%3 by omega),qA_eq P S u (show(j+1+1)%3=(j+2)%3 by omega)] at hgc;rcases hgc with hgc|hgc;·rw[qA_is,qA_is,h2] at hgc;exact hgc
        ·exact(betw_half hgc hxu hzu).elim
      rw[qA_is,h2] at hxu;refine⟨hz0,fun _=>hk,fun e=>absurd hy1 e,ltV_of hx0 hz0 (.inr ⟨iff_of_true (.inl hxu) (.inl hzu),by rw[crP_rot1];exact hk⟩),fun hr=>?_,fun _=>⟨.inl hzu,fun _=> .inl hxu,fun e=>absurd hy1 e⟩⟩;exfalso;cases r with|nil=>exact hr rfl|cons s' r'=>have e:=hch3.1;have:=ltV_nonneg (h.sorted_r (s':=s') (by simp));omega
    · have hy0:0≤y:=by have:=hS.net.nonneg ht (i:=i+2) (by rw[hy];exact hy1);rwa [hy] at this
      have hv:=hvis hx1 hy1;have hreal:∀k,vA S u k≠-1:=by
        intro k hk;have hkj:k%3=j%3:=by
          refine Classical.byContradiction fun hc=>?_;have:k%3=(j+1)%3∨k%3=(j+2)%3:=by omega
          rcases this with e|e;·rw[vA_eq S u e,h1] at hk;exact hy1 hk
          ·rw[vA_eq S u e,h2] at hk;exact hx1 hk
        rw[vA_eq S u hkj] at hk;have hgc:=hc.ghost hS.net hul hk;rw[qA_is,qA_is,h1,h2] at hgc;have hf:=crP_flip (ptV P x) (ptV P y) p;rcases hgc with hgc|⟨hgc,-⟩<;>omega
      have hz0:=hS.net.nonneg hul (hreal j);have hin:=hc.real hreal (j+1);have hD:=hS.pos.at_ hul hreal (j+1);rw[qA_eq P S u (show(j+1+2)%3=j%3 by omega)] at hin hD;rw[qA_is,qA_is,qA_is,show j+1+1=j+2 from rfl,h1,h2] at hin hD;obtain⟨k1,k2⟩:=cap_in hD hin (by rw[crP_flip];omega);have k1':0<crP p (ptV P x) (ptV P (vA S u j)):=by rw[crP_rot1];exact k1
      have k2':0<crP p (ptV P (vA S u j)) (ptV P y):=by rw[crP_rot1];exact k2
      have hv':0<crP p (ptV P x) (ptV P y):=by rw[crP_rot1];exact hv
      refine⟨hz0,fun _=>k1,fun _=>k2,ltV_of hx0 hz0 ?_,fun hr=>ltV_of hz0 hy0 ?_,fun e=>?_⟩;·cases hr:r with
        |nil=>
          subst hr;have hay:y=a:=hch3;obtain⟨s0,r0,he⟩:∃s0 r0,l++[(t,i)]=s0::r0:=by cases l with|nil=>exact⟨_,_,rfl⟩|cons s0 l0=>exact⟨s0,_,rfl⟩
          have hfi:=h.first s0 r0 he;rw[he] at hch;rw[hch.1,←hay] at hfi;obtain⟨f1,f2⟩:=hfi hy1;exact ltA_last hS.dir f1 f2 hv' k1' k2'|cons s' r'=>
          subst hr;have e:=hch3.1;have:=ltV_to (by unfold edA;simp only[];rw[hx];exact hx1) (h.sorted_r (s':=s') (by simp));rw[e] at this;unfold edA at this;simp only[] at this;rw[hx] at this;exact(ltA_ins hS.dir this hv' k1' k2').1
      ·cases hr':r with
        |nil=>exact absurd hr' hr|cons s' r'=>
          subst hr';have e:=hch3.1;have:=ltV_to (by unfold edA;simp only[];rw[hx];exact hx1) (h.sorted_r (s':=s') (by simp));rw[e] at this;unfold edA at this;simp only[] at this;rw[hx] at this;exact(ltA_ins hS.dir this hv' k1' k2').2
      · rcases e with e|e;·exact absurd e hx1
        ·exact absurd e hy1
end
end Go.MagM
namespace Go.MagM
section
variable{n:Nat}{P:List (Int×Int)}{S:List TriM}{d p:Int×Int}{st us:List Nat}{l r:List (Nat×Nat)}{t i j u:Nat}
theorem upA_lt{a b:Int×Int}(_ha:upA d p a)(hb:upA d p b)(h:ltA d p a b):0<crP p a b:=by
  rcases h with⟨-,h⟩|⟨-,h⟩;·exact absurd hb h
  ·exact h
theorem Hole.far(hS:Site n P S d p st)(h:Hole P S d p st us (l++(t,i)::r))(hu:nA S t i=u)(h1:vA S u (j+1)=vA S t (i+2))(h2:vA S u (j+2)=vA S t (i+1))(ha:Apex P d p r (vA S t (i+1)) (vA S t (i+2)) (vA S u j)):nA S u (j+1)∉u::us∧nA S u (j+2)∉u::us:=by
  obtain⟨htu,hi3,hnu⟩:=h.rl (t,i) (by simp);have ht:=h.lt t htu;have hul:u<S.length:=by obtain⟨k,k0,-⟩:=hS.net.mate t ht i;rw[←hu];exact k0
  simp only[] at hnu;rw[hu] at hnu;obtain⟨a,hch⟩:=h.chn;obtain⟨c,hch1,hch2⟩:=chn_app.1 hch;obtain⟨hch0,hch3⟩:=hch2;have hxy:vA S t (i+1)≠vA S t (i+2):=hS.net.apart t ht (i+1);have az1:vA S u j≠vA S t (i+2):=by rw[←h1];exact hS.net.apart u hul j
  have az2:vA S u j≠vA S t (i+1):=by rw[←h2];exact hS.net.apart2 hul j
  have hz1:vA S u j≠-1:=by have:=ha.z0;omega
  have up:=ha.up;have k1:=ha.k1;have k2:=ha.k2;generalize hx:vA S t (i+1)=x at*;generalize hy:vA S t (i+2)=y at*;generalize hz:vA S u j=z at*;constructor
  · intro hm;rcases List.mem_cons.1 hm with hm|hm;·exact hS.net.not_own hul _ hm
    obtain⟨k,hwl,b1,b2,b3,-⟩:=hS.net.mate u hul (j+1);rw[vA_eq S u (show(j+1+2)%3=j%3 by omega),hz] at b1;rw[show j+1+1=j+2 from rfl,h2] at b2;have hw:=h.all _ hm (k%3) (by omega) (by rw[nA_mod,b3];exact hnu);have sa:edA S (nA S u (j+1),k%3)=z:=by unfold edA;simp only[];rw[vA_eq S _ (show(k%3+1)%3=(k+1)%3 by omega),b1]
    have sb:edB S (nA S u (j+1),k%3)=x:=by unfold edB;simp only[];rw[vA_eq S _ (show(k%3+2)%3=(k+2)%3 by omega),b2]
    by_cases hx1:x=-1
    · obtain⟨u1,-,u3⟩:=up (.inl hx1);have hy1:y≠-1:=fun e=>hxy (hx1.trans e.symm);rcases List.mem_append.1 hw with hw|hw;· have:=ltV_nonneg (h.sorted_l hw);unfold edA at this;simp only[] at this;rw[hx] at this;omega
      · rcases List.mem_cons.1 hw with hw|hw;·rw[hw] at sa;unfold edA at sa;simp only[] at sa;exact az2 (sa.symm.trans hx)
        ·cases r with
          |nil=>cases hw|cons s' r'=>
            have e:=hch3.1;unfold edB at e;simp only[] at e;rw[hy] at e;rcases List.mem_cons.1 hw with hw|hw;·rw[hw,e] at sa;exact az1 sa.symm
            · have h':Hole P S d p st us ((l++[(t,i)])++s'::r'):=by simpa using h
              have:=h'.sorted_r hw;rw[sa,e] at this;have:=upA_lt (u3 hy1) u1 (ltV_to hy1 this);have k:=k2 hy1;rw[←crP_rot1] at k;rw[crP_flip2] at this;omega
    · have hv:=h.vis _ hw (by rw[sa];exact hz1) (by rw[sb];exact hx1);rw[sa,sb,crP_flip] at hv;have:=k1 hx1;omega
  · intro hm;rcases List.mem_cons.1 hm with hm|hm;·exact hS.net.not_own hul _ hm
    obtain⟨k,hwl,b1,b2,b3,-⟩:=hS.net.mate u hul (j+2);rw[vA_eq S u (show(j+2+2)%3=(j+1)%3 by omega),h1] at b1;rw[vA_eq S u (show(j+2+1)%3=j%3 by omega),hz] at b2;have hw:=h.all _ hm (k%3) (by omega) (by rw[nA_mod,b3];exact hnu);have sa:edA S (nA S u (j+2),k%3)=y:=by unfold edA;simp only[];rw[vA_eq S _ (show(k%3+1)%3=(k+1)%3 by omega),b1]
    have sb:edB S (nA S u (j+2),k%3)=z:=by unfold edB;simp only[];rw[vA_eq S _ (show(k%3+2)%3=(k+2)%3 by omega),b2]
    by_cases hy1:y=-1
    · obtain⟨u1,u2,-⟩:=up (.inr hy1);have hx1:x≠-1:=fun e=>hxy (e.trans hy1.symm);rcases List.mem_append.1 hw with hw|hw
      · obtain⟨l1,l2,rfl⟩:=List.append_of_mem hw;cases l2 with
        |nil=>obtain⟨c',-,-,e⟩:=chn_app.1 hch1;have e':edB S (nA S u (j+2),k%3)=c:=e;rw[sb,←hch0] at e';unfold edA at e';simp only[] at e';exact az2 (e'.trans hx)|cons s' l2=>
          obtain⟨c',-,-,e,-⟩:=chn_app.1 hch1;rw[sb] at e;have:=h.sorted_l (s':=s') (by simp);rw[e] at this;unfold edA at this;simp only[] at this;rw[hx] at this;have:=upA_lt u1 (u2 hx1) (ltV_to hz1 this);have k:=k1 hx1;rw[←crP_rot1] at k;rw[crP_flip2] at this;omega
      · rcases List.mem_cons.1 hw with hw|hw;·rw[hw] at sa;unfold edA at sa;simp only[] at sa;exact hx1 (hx.symm.trans (sa.trans hy1))
        · have:=ltV_nonneg (h.sorted_r hw);rw[sa] at this;omega
    · have hv:=h.vis _ hw (by rw[sa];exact hy1) (by rw[sb];exact hz1);rw[sa,sb,crP_flip] at hv;have:=k2 hy1;omega
theorem Hole.step(hS:Site n P S d p st)(h:Hole P S d p st us (l++(t,i)::r))(hu:nA S t i=u)(hf:fA S t i=false)(hc:Cf P S p u)(h1:vA S u (j+1)=vA S t (i+2))(h2:vA S u (j+2)=vA S t (i+1)):Hole P S d p st (u::us) (l++(u,(j+1)%3)::(u,(j+2)%3)::r):=by
  have ha:=h.apex hS hu hc h1 h2;obtain⟨n1,n2⟩:=h.far hS hu h1 h2 ha;obtain⟨htu,hi3,hnu⟩:=h.rl (t,i) (by simp);have ht:=h.lt t htu;have hul:u<S.length:=by obtain⟨k,k0,-⟩:=hS.net.mate t ht i;rw[←hu];exact k0
  simp only[] at hnu hi3 htu;rw[hu] at hnu;obtain⟨m1,m2,m3⟩:=hS.net.mate_uniq ht hul h1 h2;have a1:edA S (u,(j+1)%3)=edA S (t,i):=by unfold edA;simp only[];rw[vA_eq S u (show((j+1)%3+1)%3=(j+2)%3 by omega),h2]
  have b1:edB S (u,(j+1)%3)=vA S u j:=by unfold edB;simp only[];rw[vA_eq S u (show((j+1)%3+2)%3=j%3 by omega)]
  have a2:edA S (u,(j+2)%3)=vA S u j:=by unfold edA;simp only[];rw[vA_eq S u (show((j+2)%3+1)%3=j%3 by omega)]
  have b2:edB S (u,(j+2)%3)=edB S (t,i):=by unfold edB;simp only[];rw[vA_eq S u (show((j+2)%3+2)%3=(j+1)%3 by omega),h1]
  have back:∀k,nA S u k∈us→k%3=j%3:=fun k hk=>by
    refine Classical.byContradiction fun hc=>?_;have:k%3=(j+1)%3∨k%3=(j+2)%3:=by omega
    rcases this with e|e;·rw[nA_eq S u e] at hk;exact n1 (List.mem_cons_of_mem _ hk)
    ·rw[nA_eq S u e] at hk;exact n2 (List.mem_cons_of_mem _ hk)
  have toU:∀t' i',t'∈us→nA S t' i'=u→t'=t∧i'%3=i%3:=fun t' i' ht' e=>by
    obtain⟨k,-,c1,c2,c3,-⟩:=hS.net.mate t' (h.lt t' ht') i';rw[e] at c1 c2 c3;have hk:=back k (by rw[c3];exact ht');rw[vA_eq S u (show(k+1)%3=(j+1)%3 by omega),h1] at c1;rw[vA_eq S u (show(k+2)%3=(j+2)%3 by omega),h2] at c2;obtain⟨e1,e2⟩:=hS.net.once t' t (i'+1) (i+1) (h.lt t' ht') ht c2.symm c1.symm;exact⟨e1,by omega⟩
  have old:∀s,s∈l∨s∈r→nA S s.1 s.2≠u:=fun s hs e=>by
    obtain⟨q1,q2,-⟩:=h.rl s (by rcases hs with hs|hs<;>simp[hs]);obtain⟨e1,e2⟩:=toU s.1 s.2 q1 e;have es:s=(t,i):=Prod.ext e1 (by simp only[];omega);subst es;rcases hs with hs|hs;·exact ltV_irr (h.sorted_l hs)
    ·exact ltV_irr (h.sorted_r hs)
  refine⟨fun x hx=>?_,fun x hx=>List.mem_cons_of_mem _ (h.sub x hx),List.nodup_cons.2 ⟨hnu,h.once⟩,fun s hs=>?_,fun x hx k hk hn=>?_,?_,?_,fun s0 r0 he=>?_,fun s hs g1 g2=>?_,fun x hx k=>?_,fun x hx k hk=>?_,?_⟩
  · rcases List.mem_cons.1 hx with rfl|hx;·exact hul
    ·exact h.lt x hx
  · have hs':s=(u,(j+1)%3)∨s=(u,(j+2)%3)∨(s∈l∨s∈r):=by
      simp only[List.mem_append,List.mem_cons] at hs;rcases hs with hs|hs|hs|hs;·exact .inr (.inr (.inl hs))
      ·exact .inl hs
      ·exact .inr (.inl hs)
      ·exact .inr (.inr (.inr hs))
    rcases hs' with rfl|rfl|hs';·exact⟨by simp,by simp only[];omega,by simp only[];rw[nA_mod];exact n1⟩
    ·exact⟨by simp,by simp only[];omega,by simp only[];rw[nA_mod];exact n2⟩
    · obtain⟨q1,q2,q3⟩:=h.rl s (by rcases hs' with hs|hs<;>simp[hs]);refine⟨List.mem_cons_of_mem _ q1,q2,fun hm=>?_⟩;rcases List.mem_cons.1 hm with hm|hm;·exact old s hs' hm
      ·exact q3 hm
  · rcases List.mem_cons.1 hx with rfl|hx
    · have hkj:k≠j%3:=fun e=>by
        subst e;rw[nA_mod,m2] at hn;exact hn (List.mem_cons_of_mem _ htu)
      have:k=(j+1)%3∨k=(j+2)%3:=by omega
      rcases this with rfl|rfl<;>simp
    · have:=h.all x hx k hk (fun hm=>hn (List.mem_cons_of_mem _ hm));simp only[List.mem_append,List.mem_cons] at this⊢;rcases this with hm|hm|hm;·exact .inl hm
      · rw[Prod.mk.injEq] at hm;obtain⟨rfl,rfl⟩:=hm;rw[hu] at hn;exact absurd (by simp) hn
      ·exact .inr (.inr (.inr hm))
  · obtain⟨a,hch⟩:=h.chn;obtain⟨c,hch1,hch0,hch3⟩:=chn_app.1 hch;exact⟨a,chn_app.2 ⟨c,hch1,a1.trans hch0,a2.trans b1.symm,by rw[b2];exact hch3⟩⟩
  · have hs:=h.sorted;rw[List.map_append,List.map_cons] at hs⊢;rw[List.map_cons,a1,a2];refine sorted_ins (r:=ltV P d p) (x:=edA S (t,i)) (z:=vA S u j) (fun _ _ _=>ltV_trans hS.dir) hs ha.xz fun y R' hR=>?_;cases r with|nil=>cases hR|cons s' r'=>
      rw[List.map_cons] at hR;injection hR with e1 e2;obtain⟨a,hch⟩:=h.chn;obtain⟨c,-,-,e,-⟩:=chn_app.1 hch;rw[←e1,e];exact ha.zy (by simp)
  ·cases l with
    |nil=>
      simp only[List.nil_append,List.cons.injEq] at he;have hfi:=h.first (t,i) r rfl;rw[←he.1,a1];exact hfi|cons s1 l1=>simp only[List.cons_append,List.cons.injEq] at he;have hfi:=h.first s1 (l1++(t,i)::r) rfl;rw[←he.1];exact hfi
  · simp only[List.mem_append,List.mem_cons] at hs;rcases hs with hs|rfl|rfl|hs;·exact h.vis s (by simp[hs]) g1 g2
    ·rw[a1,b1];rw[a1] at g1;exact ha.k1 g1
    ·rw[a2,b2];rw[b2] at g2;exact ha.k2 g2
    ·exact h.vis s (by simp[hs]) g1 g2
  ·
    have keep:∀s,s∈l++(t,i)::r→∃s'∈l++(u,(j+1)%3)::(u,(j+2)%3)::r,edA S s'=edA S s:=fun s hs=>by
      simp only[List.mem_append,List.mem_cons] at hs;rcases hs with hs|rfl|hs;·exact⟨s,by simp[hs],rfl⟩
      ·exact⟨(u,(j+1)%3),by simp,a1⟩
      ·exact⟨s,by simp[hs],rfl⟩
    rcases List.mem_cons.1 hx with rfl|hx
    · obtain e|e|e:k%3=j%3∨k%3=(j+1)%3∨k%3=(j+2)%3:=by omega
      ·exact⟨(x,(j+2)%3),by simp,by rw[a2,vA_eq S x e]⟩
      · rw[vA_eq S x e,h1];obtain⟨s,hs,es⟩:=h.cov t htu (i+2);obtain⟨s',hs',es'⟩:=keep s hs;exact⟨s',hs',es'.trans es⟩
      · rw[vA_eq S x e,h2];obtain⟨s,hs,es⟩:=h.cov t htu (i+1);obtain⟨s',hs',es'⟩:=keep s hs;exact⟨s',hs',es'.trans es⟩
    · obtain⟨s,hs,es⟩:=h.cov x hx k;obtain⟨s',hs',es'⟩:=keep s hs;exact⟨s',hs',es'.trans es⟩
  · rcases List.mem_cons.1 hx with rfl|hx
    · left;rcases List.mem_cons.1 hk with hk|hk;·exact absurd hk (hS.net.not_own hul _)
      ·rw[fA_eq S x (back k hk),m3];exact hf
    · rcases List.mem_cons.1 hk with hk|hk
      · obtain⟨rfl,e2⟩:=toU x k hx hk;left;rw[fA_eq S x e2];exact hf
      ·exact h.inn x hx k hk
  · have:=h.cnt;simp only[List.length_append,List.length_cons] at this⊢;omega
end
end Go.MagM
namespace Go.MagM
inductive RchA(P:List (Int×Int))(S:List TriM)(p:Int×Int)(st:List Nat):Nat→Prop|base{t:Nat}:t∈st→RchA P S p st t|step{t i:Nat}:RchA P S p st t→fA S t i=false→Cf P S p (nA S t i)→RchA P S p st (nA S t i)
section
variable{n:Nat}{P:List (Int×Int)}{S:List TriM}{d p:Int×Int}{st:List Nat}
theorem nodup_le{us:List Nat}{m:Nat}(h1:us.Nodup)(h2:∀t∈us,t<m):us.length≤m:=by have:=List.Nodup.length_le_of_subset h1 (l₂:=List.range m) (fun x hx=>by simpa using h2 x hx);simpa using this
theorem hole_all(hS:Site n P S d p st)(Q:List Nat→List (Nat×Nat)→Prop)(hQ:∀us l r t i j,Hole P S d p st us (l++(t,i)::r)→Q us (l++(t,i)::r)→fA S t i=false→Cf P S p (nA S t i)→vA S (nA S t i) (j+1)=vA S t (i+2)→vA S (nA S t i) (j+2)=vA S t (i+1)→Q (nA S t i::us) (l++(nA S t i,(j+1)%3)::(nA S t i,(j+2)%3)::r)):∀(fuel:Nat)(us:List Nat)(rim:List (Nat×Nat)),S.length≤us.length+fuel→Hole P S d p st us rim→Q us rim→(∀x∈us,RchA P S p st x)→∃us' rim',Hole P S d p st us' rim'∧Q us' rim'∧(∀x,x∈us'↔RchA P S p st x)∧(∀s∈rim',fA S s.1 s.2=false→¬Cf P S p (nA S s.1 s.2)):=by intro fuel;induction fuel with
  |zero=>
    intro us rim hf hH hq hr;have done:∀s∈rim,False:=fun s hs=>by
      obtain⟨h1,h2,h3⟩:=hH.rl s hs;obtain⟨k,k0,-⟩:=hS.net.mate s.1 (hH.lt _ h1) s.2;have:=nodup_le (us:=nA S s.1 s.2::us) (m:=S.length) (List.nodup_cons.2 ⟨h3,hH.once⟩) (fun t ht=>by
        rcases List.mem_cons.1 ht with rfl|ht;·exact k0
        ·exact hH.lt t ht);simp at this;omega
    refine⟨us,rim,hH,hq,fun x=>⟨hr x,fun hx=>?_⟩,fun s hs=>(done s hs).elim⟩;induction hx with
    |base h=>exact hH.sub _ h|step h1 h2 h3 ih=>
      rename_i t i;refine Classical.byContradiction fun hn=>?_;exact done _ (hH.all t ih (i%3) (by omega) (by rw[nA_mod];exact hn))
  |succ fuel ih=>
    intro us rim hf hH hq hr;by_cases hex:∃s,s∈rim∧fA S s.1 s.2=false∧Cf P S p (nA S s.1 s.2)
    · obtain⟨⟨t,i⟩,hs,hfa,hc⟩:=hex;obtain⟨l,r,rfl⟩:=List.append_of_mem hs;obtain⟨h1,h2,h3⟩:=hH.rl (t,i) (by simp);obtain⟨j,-,m1,m2,-⟩:=hS.net.mate t (hH.lt t h1) i;refine ih _ _ ?_ (hH.step hS rfl hfa hc m1 m2) (hQ us l r t i j hH hq hfa hc m1 m2) fun x hx=>?_;·simp only[List.length_cons];omega
      · rcases List.mem_cons.1 hx with rfl|hx;·exact .step (hr t h1) hfa hc
        ·exact hr x hx
    · refine⟨us,rim,hH,hq,fun x=>⟨hr x,fun hx=>?_⟩,fun s hs h1 h2=>hex ⟨s,hs,h1,h2⟩⟩;induction hx with
      |base h=>exact hH.sub _ h|step h1 h2 h3 ih2=>
        rename_i t i;refine Classical.byContradiction fun hn=>hex ⟨(t,i%3),hH.all t ih2 (i%3) (by omega) (by rw[nA_mod];exact hn),?_,?_⟩;·simp only[];rw[fA_mod];exact h2
        ·simp only[];rw[nA_mod];exact h3
end
end Go.MagM
namespace Go.MagM
def InC(P:List (Int×Int))(S:List TriM)(t:Nat)(q:Int×Int):Prop:=∀i,0≤crP (qA P S t (i+1)) (qA P S t (i+2)) q
def InO(P:List (Int×Int))(S:List TriM)(t:Nat)(q:Int×Int):Prop:=∀i,0<crP (qA P S t (i+1)) (qA P S t (i+2)) q
def OnE(P:List (Int×Int))(S:List TriM)(t i:Nat)(q:Int×Int):Prop:=crP (qA P S t (i+1)) (qA P S t (i+2)) q=0∧0<crP (qA P S t (i+2)) (qA P S t i) q∧0<crP (qA P S t i) (qA P S t (i+1)) q
def RealA(S:List TriM)(t:Nat):Prop:=t<S.length∧∀k,vA S t k≠-1
structure Geo(P:List (Int×Int))(S:List TriM):Prop where
  net:Net P.length S
  pos:PosT P S
  conv:∀g i,g<S.length→vA S g i=-1→∀t k,t<S.length→vA S t k≠-1→crP (qA P S g (i+1)) (qA P S g (i+2)) (qA P S t k)≤0∧¬Betw (qA P S g (i+1)) (qA P S g (i+2)) (qA P S t k)
  corn:∀t u k,RealA S t→u<S.length→vA S u k≠-1→InC P S t (qA P S u k)→∃i,vA S t i=vA S u k
  sole:∀t u q,RealA S t→RealA S u→InO P S t q→InC P S u q→t=u
  sole2:∀t i u q,RealA S t→RealA S u→OnE P S t i q→InC P S u q→u=t∨u=nA S t i
section
variable{P:List (Int×Int)}{S:List TriM}{t u i j k:Nat}{p q:Int×Int}
theorem crP_tri(F:Nat→Int×Int)(hF:∀i j,i%3=j%3→F i=F j)(i:Nat)(a b q:Int×Int):crP (F i) (F (i+1)) (F (i+2))*crP a b q=crP (F (i+1)) (F (i+2)) q*crP a b (F i)+crP (F (i+2)) (F i) q*crP a b (F (i+1))+crP (F i) (F (i+1)) q*crP a b (F (i+2)):=by have e:F (i+3)=F i:=hF _ _ (by omega);exact crP_lin _ _ _ _ _ _
theorem crP_sum3(a b c q:Int×Int):crP a b q+crP b c q+crP c a q=crP a b c:=by unfold crP crs;grind
theorem InO.inC(h:InO P S t q):InC P S t q:=fun i=>Int.le_of_lt (h i)
theorem three_cases(F:Nat→Prop)(hF:∀i j,i%3=j%3→F i→F j)(i:Nat)(h0:F i)(h1:F (i+1))(h2:F (i+2)):∀j,F j:=fun j=>by
  obtain e|e|e:j%3=i%3∨j%3=(i+1)%3∨j%3=(i+2)%3:=by omega
  ·exact hF i j e.symm h0
  ·exact hF _ j e.symm h1
  ·exact hF _ j e.symm h2
theorem OnE.inC(h:OnE P S t i q):InC P S t q:=by
  refine three_cases (fun i=>0≤crP (qA P S t (i+1)) (qA P S t (i+2)) q) (fun a b e k=>?_) i (by rw[h.1];omega) ?_ ?_;·rw[qA_eq P S t (show(b+1)%3=(a+1)%3 by omega),qA_eq P S t (show(b+2)%3=(a+2)%3 by omega)];exact k
  · have:=h.2.1;rw[qA_eq P S t (show(i+1+2)%3=i%3 by omega)];exact Int.le_of_lt this
  · have:=h.2.2;rw[qA_eq P S t (show(i+2+1)%3=i%3 by omega),qA_eq P S t (show(i+2+2)%3=(i+1)%3 by omega)];exact Int.le_of_lt this
theorem cornP_of{a b c q:Int×Int}(hD:0<crP a b c)(h1:crP a b q=0)(h2:crP b c q=0):q=b:=by
  have e1:crP a b c*(q.1-b.1)=crP a b q*(c.1-b.1)+crP b c q*(a.1-b.1):=by unfold crP crs;grind
  have e2:crP a b c*(q.2-b.2)=crP a b q*(c.2-b.2)+crP b c q*(a.2-b.2):=by unfold crP crs;grind
  rw[h1,h2] at e1 e2;simp only[Int.zero_mul,Int.add_zero] at e1 e2;have f1:=(Int.mul_eq_zero.1 e1).resolve_left (by omega);have f2:=(Int.mul_eq_zero.1 e2).resolve_left (by omega);exact Prod.ext (by omega) (by omega)
theorem InC.cases(hp:PosT P S)(ht:RealA S t)(h:InC P S t q):InO P S t q∨(∃i,i<3∧OnE P S t i q)∨∃i,i<3∧q=qA P S t i:=by
  by_cases hz:∃i,i<3∧crP (qA P S t (i+1)) (qA P S t (i+2)) q=0
  · right;obtain⟨i,hi,h0⟩:=hz;have hD:=hp.at_ ht.1 ht.2 i;have g1:=h (i+1);have g2:=h (i+2);rw[qA_eq P S t (show(i+1+2)%3=i%3 by omega)] at g1;rw[qA_eq P S t (show(i+2+1)%3=i%3 by omega),qA_eq P S t (show(i+2+2)%3=(i+1)%3 by omega)] at g2;by_cases e1:crP (qA P S t (i+2)) (qA P S t i) q=0
    · right;refine⟨(i+2)%3,by omega,?_⟩;rw[qA_eq P S t (Nat.mod_mod _ 3)];exact cornP_of (c:=qA P S t i) (by rw[crP_cyc];exact hD) h0 e1
    · by_cases e2:crP (qA P S t i) (qA P S t (i+1)) q=0
      · right;refine⟨(i+1)%3,by omega,?_⟩;rw[qA_eq P S t (Nat.mod_mod _ 3)];exact cornP_of (c:=qA P S t (i+2)) hD e2 h0
      · left;refine⟨i,hi,h0,?_,?_⟩;· have:(i+1+1)=i+2:=rfl;rw[this] at g1;omega
        ·omega
  · left;have key:∀i,i<3→0<crP (qA P S t (i+1)) (qA P S t (i+2)) q:=fun i hi=>by have:=h i;have:crP (qA P S t (i+1)) (qA P S t (i+2)) q≠0:=fun e=>hz ⟨i,hi,e⟩;omega
    intro i;have:=key (i%3) (by omega);rw[qA_eq P S t (show(i%3+1)%3=(i+1)%3 by omega),qA_eq P S t (show(i%3+2)%3=(i+2)%3 by omega)] at this;exact this
theorem cornA_in(hp:PosT P S)(ht:RealA S t)(i:Nat):InC P S t (qA P S t i):=by
  refine three_cases (fun j=>0≤crP (qA P S t (j+1)) (qA P S t (j+2)) (qA P S t i)) (fun a b e k=>?_) i ?_ ?_ ?_;·rw[qA_eq P S t (show(b+1)%3=(a+1)%3 by omega),qA_eq P S t (show(b+2)%3=(a+2)%3 by omega)];exact k
  · have:=hp.at_ ht.1 ht.2 i;rw[crP_cyc];exact Int.le_of_lt this
  · rw[qA_eq P S t (show(i+1+2)%3=i%3 by omega)];rw[show crP (qA P S t (i+1+1)) (qA P S t i) (qA P S t i)=0 by unfold crP crs;grind];omega
  · rw[qA_eq P S t (show(i+2+1)%3=i%3 by omega)];rw[show∀a b:Int×Int,crP a b a=0 from fun a b=>by unfold crP crs;grind];omega
theorem cornA_apart(hp:PosT P S)(ht:RealA S t){i j:Nat}(e:qA P S t i=qA P S t j):i%3=j%3:=by
  refine Classical.byContradiction fun hc=>?_;have hD:=hp.at_ ht.1 ht.2 i;have:j%3=(i+1)%3∨j%3=(i+2)%3:=by omega
  rcases this with k|k;· rw[qA_eq P S t k] at e;rw[e] at hD;rw[show∀a b:Int×Int,crP a a b=0 from fun a b=>by unfold crP crs;grind] at hD;omega
  · rw[qA_eq P S t k] at e;rw[e] at hD;rw[show∀a b:Int×Int,crP a b a=0 from fun a b=>by unfold crP crs;grind] at hD;omega
theorem OnE.other(hp:PosT P S)(ht:RealA S t)(h:OnE P S t i q)(hu:RealA S u)(h1:vA S u (j+1)=vA S t (i+2))(h2:vA S u (j+2)=vA S t (i+1)):OnE P S u j q:=by
  have hD:=hp.at_ ht.1 ht.2 i;have hD2:=hp.at_ hu.1 hu.2 j;have q1:qA P S u (j+1)=qA P S t (i+2):=by rw[qA_is,qA_is,h1]
  have q2:qA P S u (j+2)=qA P S t (i+1):=by rw[qA_is,qA_is,h2]
  obtain⟨g0,g1,g2⟩:=h;unfold OnE;rw[q1,q2] at hD2⊢;generalize qA P S t i=c at*;generalize qA P S t (i+1)=a at*;generalize qA P S t (i+2)=b at*;generalize qA P S u j=e at*;refine⟨by rw[crP_flip,g0];rfl,?_,?_⟩;· refine Int.not_le.1 fun hc=>?_;have l1:=crP_lin c a b a e q;rw[g0,show crP a e a=0 by unfold crP crs;grind,show crP a e b=crP e b a by unfold crP crs;grind] at l1;have a1:=Int.mul_nonpos_of_nonneg_of_nonpos (Int.le_of_lt hD) hc;have a2:=Int.mul_pos g2 hD2;omega
  · refine Int.not_le.1 fun hc=>?_;have l1:=crP_lin c a b e b q;rw[g0,show crP e b b=0 by unfold crP crs;grind] at l1;have a1:=Int.mul_nonpos_of_nonneg_of_nonpos (Int.le_of_lt hD) hc;have a2:=Int.mul_pos g1 hD2;omega
end
end Go.MagM
namespace Go.MagM
section
variable{P:List (Int×Int)}{S:List TriM}{t u i j k:Nat}{p q:Int×Int}
theorem Betw.symm{a b p:Int×Int}(h:Betw a b p):Betw b a p:=by
  refine⟨by rw[crP_flip,h.1];rfl,?_⟩;have:=h.2;have e:dotP b a p=dotP a b p:=by unfold dotP;grind
  rw[e];exact this
theorem Betw.ne{a b p:Int×Int}(h:Betw a b p):a≠b:=by
  rintro rfl;have:=h.2;have h1:=sq_nonneg (p.1-a.1);have h2:=sq_nonneg (p.2-a.2);have e:dotP a a p=-((p.1-a.1)*(p.1-a.1)+(p.2-a.2)*(p.2-a.2)):=by unfold dotP;grind
  omega
theorem Betw.ext{x y p u v:Int×Int}(h:Betw x y p)(hl:crP u v x<crP u v p):crP u v p<crP u v y:=by
  have e:dotP x y p*(crP u v p-crP u v x)=((p.1-x.1)*(p.1-x.1)+(p.2-x.2)*(p.2-x.2))*(crP u v y-crP u v p)+((v.1-u.1)*(p.1-x.1)+(v.2-u.2)*(p.2-x.2))*crP x y p:=by unfold dotP crP crs;grind
  rw[h.1,Int.mul_zero,Int.add_zero] at e;have a1:=Int.mul_pos h.2 (show 0<crP u v p-crP u v x by omega);refine Int.not_le.1 fun hc=>?_;have:=Int.mul_nonpos_of_nonneg_of_nonpos (show 0≤(p.1-x.1)*(p.1-x.1)+(p.2-x.2)*(p.2-x.2) by have:=sq_nonneg (p.1-x.1);have:=sq_nonneg (p.2-x.2);omega) (show crP u v y-crP u v p≤0 by omega);omega
theorem betw_of{x y b u v:Int×Int}(h0:crP x y b=0)(hx:crP u v x<crP u v b)(hy:crP u v b<crP u v y):Betw x y b:=by
  refine⟨h0,?_⟩;have e1:(crP u v y-crP u v x)*(b.1-x.1)=(crP u v b-crP u v x)*(y.1-x.1)-(v.1-u.1)*crP x y b:=by unfold crP crs;grind
  have e2:(crP u v y-crP u v x)*(b.2-x.2)=(crP u v b-crP u v x)*(y.2-x.2)-(v.2-u.2)*crP x y b:=by unfold crP crs;grind
  rw[h0,Int.mul_zero,Int.sub_zero] at e1 e2;obtain⟨m,hm⟩:∃m,crP u v b-crP u v x=m:=⟨_,rfl⟩;obtain⟨n,hn⟩:∃n,crP u v y-crP u v b=n:=⟨_,rfl⟩;have hmn:crP u v y-crP u v x=m+n:=by omega
  rw[hm,hmn] at e1 e2;have hm0:0<m:=by omega
  have hn0:0<n:=by omega
  have hne:¬(y.1-x.1=0∧y.2-x.2=0):=fun⟨c1,c2⟩=>by have:x=y:=Prod.ext (by omega) (by omega);subst this;omega
  have e3:(m+n)*(y.1-b.1)=n*(y.1-x.1):=by
    have:(m+n)*(y.1-b.1)=(m+n)*(y.1-x.1)-(m+n)*(b.1-x.1):=by grind
    rw[this,e1];grind
  have e4:(m+n)*(y.2-b.2)=n*(y.2-x.2):=by
    have:(m+n)*(y.2-b.2)=(m+n)*(y.2-x.2)-(m+n)*(b.2-x.2):=by grind
    rw[this,e2];grind
  have e5:(m+n)*(m+n)*dotP x y b=m*n*((y.1-x.1)*(y.1-x.1)+(y.2-x.2)*(y.2-x.2)):=by
    have:(m+n)*(m+n)*dotP x y b=((m+n)*(b.1-x.1))*((m+n)*(y.1-b.1))+((m+n)*(b.2-x.2))*((m+n)*(y.2-b.2)):=by unfold dotP;grind
    rw[this,e1,e2,e3,e4];grind
  have hp:0<(y.1-x.1)*(y.1-x.1)+(y.2-x.2)*(y.2-x.2):=by
    have h1:=sq_nonneg (y.1-x.1);have h2:=sq_nonneg (y.2-x.2);by_cases hx:y.1-x.1=0;·have:=sq_pos (x:=y.2-x.2) (fun e=>hne ⟨hx,e⟩);omega
    ·have:=sq_pos hx;omega
  have a1:=Int.mul_pos (Int.mul_pos hm0 hn0) hp;refine Int.not_le.1 fun hc=>?_;have:=Int.mul_nonpos_of_nonneg_of_nonpos (Int.le_of_lt (Int.mul_pos (show 0<m+n by omega) (show 0<m+n by omega))) hc;omega
theorem col_three{x y a b c:Int×Int}(h:x≠y)(ha:crP x y a=0)(hb:crP x y b=0)(hc:crP x y c=0):crP a b c=0:=by
  have e:((y.1-x.1)*(y.1-x.1)+(y.2-x.2)*(y.2-x.2))*crP a b c=((y.1-x.1)*(b.1-a.1)+(y.2-x.2)*(b.2-a.2))*(crP x y c-crP x y a)-(crP x y b-crP x y a)*((y.1-x.1)*(c.1-a.1)+(y.2-x.2)*(c.2-a.2)):=by unfold crP crs;grind
  rw[ha,hb,hc] at e;simp only[Int.sub_self,Int.mul_zero,Int.zero_mul] at e;refine(Int.mul_eq_zero.1 e).resolve_left ?_;have h1:=sq_nonneg (y.1-x.1);have h2:=sq_nonneg (y.2-x.2);by_cases hx:y.1-x.1=0;·have:=sq_pos (x:=y.2-x.2) (fun e=>h (Prod.ext (by omega) (by omega)));omega
  ·have:=sq_pos hx;omega
theorem Geo.held_conv(h:Geo P S)(ht:RealA S t)(hq:InC P S t q){g i:Nat}(hg:g<S.length)(hi:vA S g i=-1):crP (qA P S g (i+1)) (qA P S g (i+2)) q≤0:=by have e:=crP_tri (qA P S t) (fun _ _ e=>qA_eq P S t e) 0 (qA P S g (i+1)) (qA P S g (i+2)) q;have hD:=h.pos.at_ ht.1 ht.2 0;have c:=fun k=>(h.conv g i hg hi t k ht.1 (ht.2 k)).1;have g0:=hq 0;have g1:=hq 1;have g2:=hq 2;rw[qA_eq P S t (show(1+2)%3=0%3 by omega)] at g1;rw[qA_eq P S t (show(2+1)%3=0%3 by omega),qA_eq P S t (show(2+2)%3=1%3 by omega)] at g2;have a0:=Int.mul_nonpos_of_nonneg_of_nonpos g0 (c 0);have a1:=Int.mul_nonpos_of_nonneg_of_nonpos g1 (c 1);have a2:=Int.mul_nonpos_of_nonneg_of_nonpos g2 (c 2);refine Int.not_lt.1 fun hc=>?_;have:=Int.mul_pos hD hc;simp only[Nat.zero_add,Nat.reduceAdd] at e a0 a1 a2 this;omega
theorem InO.ghost(h:Geo P S)(ht:RealA S t)(hp:InO P S t p){g i:Nat}(hg:g<S.length)(hi:vA S g i=-1)(hc:Cf P S p g):False:=by
  have h0:=h.held_conv ht hp.inC hg hi;rcases hc.ghost h.net hg hi with hc|hc;·omega
  have e:=crP_tri (qA P S t) (fun _ _ e=>qA_eq P S t e) 0 (qA P S g (i+1)) (qA P S g (i+2)) p;have hD:=h.pos.at_ ht.1 ht.2 0;have c:=fun k=>(h.conv g i hg hi t k ht.1 (ht.2 k)).1;have g0:=hp 0;have g1:=hp 1;have g2:=hp 2;rw[qA_eq P S t (show(1+2)%3=0%3 by omega)] at g1;rw[qA_eq P S t (show(2+1)%3=0%3 by omega),qA_eq P S t (show(2+2)%3=1%3 by omega)] at g2;have a0:=Int.mul_nonpos_of_nonneg_of_nonpos (Int.le_of_lt g0) (c 0);have a1:=Int.mul_nonpos_of_nonneg_of_nonpos (Int.le_of_lt g1) (c 1);have a2:=Int.mul_nonpos_of_nonneg_of_nonpos (Int.le_of_lt g2) (c 2);rw[hc.1,Int.mul_zero] at e;simp only[Nat.zero_add,Nat.reduceAdd] at e a0 a1 a2 g0 g1 g2 hD;have z0:=(Int.mul_eq_zero.1 (show crP (qA P S t 1) (qA P S t 2) p*crP (qA P S g (i+1)) (qA P S g (i+2)) (qA P S t 0)=0 by omega)).resolve_left (by omega);have z1:=(Int.mul_eq_zero.1 (show crP (qA P S t 2) (qA P S t 0) p*crP (qA P S g (i+1)) (qA P S g (i+2)) (qA P S t 1)=0 by omega)).resolve_left (by omega);have z2:=(Int.mul_eq_zero.1 (show crP (qA P S t 0) (qA P S t 1) p*crP (qA P S g (i+1)) (qA P S g (i+2)) (qA P S t 2)=0 by omega)).resolve_left (by omega);have:=col_three hc.ne z0 z1 z2;omega
theorem OnE.ghost(h:Geo P S)(ht:RealA S t)(hp:OnE P S t k p){g i:Nat}(hg:g<S.length)(hi:vA S g i=-1)(hc:Cf P S p g):nA S t k=g:=by
  have h0:=h.held_conv ht hp.inC hg hi;rcases hc.ghost h.net hg hi with hc|hc;·omega
  have e:=crP_tri (qA P S t) (fun _ _ e=>qA_eq P S t e) k (qA P S g (i+1)) (qA P S g (i+2)) p;have hD:=h.pos.at_ ht.1 ht.2 k;have c:=fun k=>(h.conv g i hg hi t k ht.1 (ht.2 k));obtain⟨g0,g1,g2⟩:=hp;rw[g0,hc.1,Int.mul_zero,Int.zero_mul] at e;have a1:=Int.mul_nonpos_of_nonneg_of_nonpos (Int.le_of_lt g1) (c (k+1)).1;have a2:=Int.mul_nonpos_of_nonneg_of_nonpos (Int.le_of_lt g2) (c (k+2)).1;have z1:=(Int.mul_eq_zero.1 (show crP (qA P S t (k+2)) (qA P S t k) p*crP (qA P S g (i+1)) (qA P S g (i+2)) (qA P S t (k+1))=0 by omega)).resolve_left (by omega);have z2:=(Int.mul_eq_zero.1 (show crP (qA P S t k) (qA P S t (k+1)) p*crP (qA P S g (i+1)) (qA P S g (i+2)) (qA P S t (k+2))=0 by omega)).resolve_left (by omega);have hgx:vA S g (i+1)≠-1:=fun e=>h.net.apart g hg i (hi.trans e.symm);have hgy:vA S g (i+2)≠-1:=fun e=>h.net.apart2 hg i (hi.trans e.symm);have inEnd:∀X Y:Int×Int,Betw X Y p→crP X Y (qA P S t (k+1))=0→crP X Y (qA P S t (k+2))=0→¬Betw X Y (qA P S t (k+1))→¬Betw X Y (qA P S t (k+2))→InC P S t X:=by
    intro X Y hb y1 y2 n1 n2;have hX:crP (qA P S t (k+1)) (qA P S t (k+2)) X=0:=col_three hb.ne y1 y2 (by unfold crP crs;grind);refine three_cases (fun i=>0≤crP (qA P S t (i+1)) (qA P S t (i+2)) X) (fun a b e k=>?_) k (by rw[hX];omega) ?_ ?_;·rw[qA_eq P S t (show(b+1)%3=(a+1)%3 by omega),qA_eq P S t (show(b+2)%3=(a+2)%3 by omega)];exact k
    · rw[qA_eq P S t (show(k+1+2)%3=k%3 by omega)];show 0≤crP (qA P S t (k+2)) (qA P S t k) X;refine Int.not_lt.1 fun hc=>n2 ?_;have hz:crP (qA P S t (k+2)) (qA P S t k) (qA P S t (k+2))=0:=by unfold crP crs;grind
      have:=hb.ext (u:=qA P S t (k+2)) (v:=qA P S t k) (by omega);exact betw_of (u:=qA P S t (k+2)) (v:=qA P S t k) y2 (by omega) (by omega)
    · rw[qA_eq P S t (show(k+2+1)%3=k%3 by omega),qA_eq P S t (show(k+2+2)%3=(k+1)%3 by omega)];refine Int.not_lt.1 fun hc=>n1 ?_;have hz:crP (qA P S t k) (qA P S t (k+1)) (qA P S t (k+1))=0:=by unfold crP crs;grind
      have:=hb.ext (u:=qA P S t k) (v:=qA P S t (k+1)) (by omega);exact betw_of (u:=qA P S t k) (v:=qA P S t (k+1)) y1 (by omega) (by omega)
  have flip:∀q,crP (qA P S g (i+2)) (qA P S g (i+1)) q=-crP (qA P S g (i+1)) (qA P S g (i+2)) q:=fun q=>crP_flip _ _ _;obtain⟨ix,hix⟩:=h.corn t g (i+1) ht hg hgx (inEnd _ _ hc z1 z2 (c (k+1)).2 (c (k+2)).2);obtain⟨iy,hiy⟩:=h.corn t g (i+2) ht hg hgy (inEnd _ _ hc.symm (by rw[flip,z1];rfl) (by rw[flip,z2];rfl) (fun b=>(c (k+1)).2 b.symm) (fun b=>(c (k+2)).2 b.symm));have pix:qA P S t ix=qA P S g (i+1):=by rw[qA_is,qA_is,hix]
  have piy:qA P S t iy=qA P S g (i+2):=by rw[qA_is,qA_is,hiy]
  have off:crP (qA P S g (i+1)) (qA P S g (i+2)) (qA P S t k)≠0:=fun e=>by have:=col_three hc.ne e z1 z2;omega
  have nk:∀m,m%3=k%3→qA P S t m≠qA P S g (i+1)∧qA P S t m≠qA P S g (i+2):=fun m hm=>by
    rw[qA_eq P S t hm];constructor;·intro e;rw[e] at off;exact off (by unfold crP crs;grind)
    ·intro e;rw[e] at off;exact off (by unfold crP crs;grind)
  have hxy:ix%3≠iy%3:=fun e=>hc.ne (by rw[←pix,←piy,qA_eq P S t e]);have hx0:ix%3≠k%3:=fun e=>(nk ix e).1 pix;have hy0:iy%3≠k%3:=fun e=>(nk iy e).2 piy;have:(ix%3=(k+1)%3∧iy%3=(k+2)%3)∨(ix%3=(k+2)%3∧iy%3=(k+1)%3):=by omega
  rcases this with⟨e1,e2⟩|⟨e1,e2⟩
  · exfalso;rw[qA_eq P S t e1] at pix;rw[qA_eq P S t e2] at piy;have:=(c k).1;rw[←pix,←piy,crP_cyc] at this;omega
  · rw[vA_eq S t e1] at hix;rw[vA_eq S t e2] at hiy;exact(h.net.mate_uniq ht.1 hg (i:=k) (j:=i) hix.symm hiy.symm).1
end
end Go.MagM
namespace Go.MagM
def dirP(a p:Int×Int):Int×Int:=(a.1-p.1,a.2-p.2)
theorem crD_dir(a p b:Int×Int):crD (dirP a p) p b=crP p a b:=by unfold crD dirP crP crs;grind
theorem doD_dir{a p:Int×Int}(h:a≠p):0<doD (dirP a p) p a:=by
  have h1:=sq_nonneg (a.1-p.1);have h2:=sq_nonneg (a.2-p.2);unfold doD dirP;simp only[];by_cases hx:a.1-p.1=0;·have:=sq_pos (x:=a.2-p.2) (fun e=>h (Prod.ext (by omega) (by omega)));omega
  ·have:=sq_pos hx;omega
theorem dirP_ne{a p:Int×Int}(h:a≠p):dirP a p≠(0,0):=fun e=>by unfold dirP at e;rw[Prod.mk.injEq] at e;exact h (Prod.ext (by omega) (by omega))
theorem upA_self{a p:Int×Int}(h:a≠p):upA (dirP a p) p a:= .inr ⟨by rw[crD_dir];unfold crP crs;grind,doD_dir h⟩
theorem upA_left{a p b:Int×Int}(h:0<crP p a b):upA (dirP a p) p b:= .inl (by rw[crD_dir];exact h)
theorem upA_right{a p b:Int×Int}(h:0<crP p b a):¬upA (dirP a p) p b:=by have e:crP p a b=-crP p b a:=crP_flip2 _ _ _;rintro(h'|⟨h',-⟩)<;>rw[crD_dir] at h'<;>omega
section
variable{P:List (Int×Int)}{S:List TriM}{t u i j k:Nat}{p q:Int×Int}
theorem ltV_pt{d:Int×Int}{t i u j:Nat}(hN:Net P.length S)(ht:t<S.length)(hu:u<S.length)(hi:vA S t i≠-1)(hj:vA S u j≠-1)(h:ltA d p (qA P S t i) (qA P S u j)):ltV P d p (vA S t i) (vA S u j):=ltV_of (hN.nonneg ht hi) (hN.nonneg hu hj) h
theorem InO.ne(h:InO P S t p)(i:Nat):qA P S t i≠p:=fun e=>by have:=h (i+2);rw[qA_eq P S t (show(i+2+1)%3=i%3 by omega),e,show∀a b:Int×Int,crP a b a=0 from fun a b=>by unfold crP crs;grind] at this;omega
theorem holeS_in(h:Geo P S)(ht:RealA S t)(hp:InO P S t p):Site P.length P S (dirP (qA P S t 0) p) p [t]∧Hole P S (dirP (qA P S t 0) p) p [t] [t] [(t,2),(t,0),(t,1)]:=by
  have hne:=hp.ne 0;have g0:=hp 0;have g1:=hp 1;have g2:=hp 2;simp only[Nat.zero_add,Nat.reduceAdd] at g0 g1 g2;rw[qA_eq P S t (show 3%3=0%3 by omega)] at g1 g2;rw[qA_eq P S t (show 4%3=1%3 by omega)] at g2;have w3:vA S t 3=vA S t 0:=vA_eq S t (by omega);have w4:vA S t 4=vA S t 1:=vA_eq S t (by omega);refine⟨⟨h.net,h.pos,dirP_ne hne,.inl fun u hu i hi hc=>(hp.ghost h ht hu hi hc).elim⟩,?_⟩;have no:∀k,nA S t k∉[t]:=fun k hk=>h.net.not_own ht.1 k (by simpa using hk);refine⟨fun x hx=>?_,fun x hx=>hx,by simp,fun s hs=>?_,fun x hx k hk _=>?_,⟨vA S t 0,?_⟩,?_,fun s r he _=>?_,fun s hs _ _=>?_,fun x hx k=>?_,fun x hx k hk=>?_,rfl⟩;·simp only[List.mem_singleton] at hx;subst hx;exact ht.1
  · simp only[List.mem_cons,List.not_mem_nil,or_false] at hs;rcases hs with rfl|rfl|rfl<;>exact⟨by simp,by simp,no _⟩
  · simp only[List.mem_singleton] at hx;subst hx;obtain rfl|rfl|rfl:k=0∨k=1∨k=2:=by omega
    all_goals simp
  ·exact⟨w3,w4.symm,rfl,w3⟩
  · simp only[List.map_cons,List.map_nil];have o01:ltV P (dirP (qA P S t 0) p) p (vA S t 0) (vA S t 1):=ltV_pt h.net ht.1 ht.1 (ht.2 _) (ht.2 _) (.inr ⟨iff_of_true (upA_self hne) (upA_left (by rw[crP_rot1];exact g2)),by rw[crP_rot1];exact g2⟩);have o12:ltV P (dirP (qA P S t 0) p) p (vA S t 1) (vA S t 2):=ltV_pt h.net ht.1 ht.1 (ht.2 _) (ht.2 _) (.inl ⟨upA_left (by rw[crP_rot1];exact g2),upA_right (by rw[crP_rot1];exact g1)⟩);have o02:=ltV_trans (dirP_ne hne) o01 o12;show List.Pairwise _ [vA S t 3,vA S t 1,vA S t 2];rw[w3];simp[o01,o12,o02]
  · simp only[List.cons.injEq] at he;rw[←he.1];show crD _ p (ptV P (vA S t 3))=0∧0<doD _ p (ptV P (vA S t 3));rw[w3];exact⟨by rw[crD_dir];show crP p (qA P S t 0) (qA P S t 0)=0;unfold crP crs;grind,doD_dir hne⟩
  · simp only[List.mem_cons,List.not_mem_nil,or_false] at hs;rcases hs with rfl|rfl|rfl
    · show 0<crP (ptV P (vA S t 3)) (ptV P (vA S t 4)) p;rw[w3,w4];exact g2
    ·exact g0
    · show 0<crP (ptV P (vA S t 2)) (ptV P (vA S t 3)) p;rw[w3];exact g1
  · simp only[List.mem_singleton] at hx;subst hx;obtain e|e|e:k%3=0%3∨k%3=1%3∨k%3=2%3:=by omega
    ·exact⟨(x,2),by simp,w3.trans (vA_eq S x e).symm⟩
    ·exact⟨(x,0),by simp,(vA_eq S x e).symm⟩
    ·exact⟨(x,1),by simp,(vA_eq S x e).symm⟩
  · simp only[List.mem_singleton] at hx;subst hx;exact absurd hk (no k)
theorem holeS_out(h:Geo P S)(ht:t<S.length)(hi:vA S t i=-1)(hp:0<crP (qA P S t (i+1)) (qA P S t (i+2)) p):Site P.length P S (dirP (qA P S t (i+1)) (qA P S t (i+2))) p [t]∧Hole P S (dirP (qA P S t (i+1)) (qA P S t (i+2))) p [t] [t] [(t,(i+2)%3),(t,i%3),(t,(i+1)%3)]:=by
  have hx1:vA S t (i+1)≠-1:=fun e=>h.net.apart t ht i (hi.trans e.symm);have hy1:vA S t (i+2)≠-1:=fun e=>h.net.apart2 ht i (hi.trans e.symm);have half:∀u,u<S.length→∀k,vA S u k≠-1→0<crD (dirP (qA P S t (i+1)) (qA P S t (i+2))) p (qA P S u k):=fun u hu k hk=>by
    have:=(h.conv t i ht hi u k hu hk).1;have e:crD (dirP (qA P S t (i+1)) (qA P S t (i+2))) p (qA P S u k)=crP (qA P S t (i+1)) (qA P S t (i+2)) p-crP (qA P S t (i+1)) (qA P S t (i+2)) (qA P S u k):=by unfold crD dirP crP crs;grind
    omega
  have hd:dirP (qA P S t (i+1)) (qA P S t (i+2))≠(0,0):=by
    refine dirP_ne fun e=>?_;rw[e,show∀a b:Int×Int,crP a a b=0 from fun a b=>by unfold crP crs;grind] at hp;omega
  refine⟨⟨h.net,h.pos,hd,.inr half⟩,?_⟩;have no:∀k,nA S t k∉[t]:=fun k hk=>h.net.not_own ht k (by simpa using hk);have s2a:edA S (t,(i+2)%3)=-1:=by unfold edA;simp only[];rw[vA_eq S t (show((i+2)%3+1)%3=i%3 by omega),hi]
  have s2b:edB S (t,(i+2)%3)=vA S t (i+1):=by unfold edB;simp only[];rw[vA_eq S t (show((i+2)%3+2)%3=(i+1)%3 by omega)]
  have s0a:edA S (t,i%3)=vA S t (i+1):=by unfold edA;simp only[];rw[vA_eq S t (show(i%3+1)%3=(i+1)%3 by omega)]
  have s0b:edB S (t,i%3)=vA S t (i+2):=by unfold edB;simp only[];rw[vA_eq S t (show(i%3+2)%3=(i+2)%3 by omega)]
  have s1a:edA S (t,(i+1)%3)=vA S t (i+2):=by unfold edA;simp only[];rw[vA_eq S t (show((i+1)%3+1)%3=(i+2)%3 by omega)]
  have s1b:edB S (t,(i+1)%3)=-1:=by unfold edB;simp only[];rw[vA_eq S t (show((i+1)%3+2)%3=i%3 by omega),hi]
  refine⟨fun x hx=>?_,fun x hx=>hx,by simp,fun s hs=>?_,fun x hx k hk _=>?_,⟨-1,s2a,s0a.trans s2b.symm,s1a.trans s0b.symm,s1b⟩,?_,fun s r he hs=>?_,fun s hs g1 g2=>?_,fun x hx k=>?_,fun x hx k hk=>?_,rfl⟩;·simp only[List.mem_singleton] at hx;subst hx;exact ht
  · simp only[List.mem_cons,List.not_mem_nil,or_false] at hs;rcases hs with rfl|rfl|rfl<;>exact⟨by simp,by simp only[];omega,no _⟩
  · simp only[List.mem_singleton] at hx;subst hx;have:k=i%3∨k=(i+1)%3∨k=(i+2)%3:=by omega
    rcases this with rfl|rfl|rfl<;>simp
  · simp only[List.map_cons,List.map_nil];rw[s2a,s0a,s1a];have hx0:=h.net.nonneg ht hx1;have hy0:=h.net.nonneg ht hy1;have o:ltV P (dirP (qA P S t (i+1)) (qA P S t (i+2))) p (vA S t (i+1)) (vA S t (i+2)):=ltV_of hx0 hy0 (.inr ⟨iff_of_true (.inl (half t ht (i+1) hx1)) (.inl (half t ht (i+2) hy1)),by rw[crP_rot1];exact hp⟩);have o1:ltV P (dirP (qA P S t (i+1)) (qA P S t (i+2))) p (-1) (vA S t (i+1)):= .inl ⟨rfl,hx0⟩;have o2:ltV P (dirP (qA P S t (i+1)) (qA P S t (i+2))) p (-1) (vA S t (i+2)):= .inl ⟨rfl,hy0⟩;simp[o,o1,o2]
  · simp only[List.cons.injEq] at he;rw[←he.1] at hs;exact absurd s2a hs
  · simp only[List.mem_cons,List.not_mem_nil,or_false] at hs;rcases hs with rfl|rfl|rfl;·exact absurd s2a g1
    ·rw[s0a,s0b];exact hp
    ·exact absurd s1b g2
  · simp only[List.mem_singleton] at hx;subst hx;obtain e|e|e:k%3=i%3∨k%3=(i+1)%3∨k%3=(i+2)%3:=by omega
    ·exact⟨(x,(i+2)%3),by simp,s2a.trans (hi.symm.trans (vA_eq S x e).symm)⟩
    ·exact⟨(x,i%3),by simp,s0a.trans (vA_eq S x e).symm⟩
    ·exact⟨(x,(i+1)%3),by simp,s1a.trans (vA_eq S x e).symm⟩
  · simp only[List.mem_singleton] at hx;subst hx;exact absurd hk (no k)
end
end Go.MagM
namespace Go.MagM
section
variable{P:List (Int×Int)}{S:List TriM}{t u i j k:Nat}{p q:Int×Int}
theorem OnE.ne(h:OnE P S t i p):qA P S t (i+1)≠p∧qA P S t (i+2)≠p:=by
  constructor
  · intro e;have:=h.2.2;rw[e,show∀a b:Int×Int,crP a b b=0 from fun a b=>by unfold crP crs;grind] at this;omega
  · intro e;have:=h.2.1;rw[e,show∀a b:Int×Int,crP a b a=0 from fun a b=>by unfold crP crs;grind] at this;omega
theorem holeS_edge(h:Geo P S)(ht:RealA S t)(hp:OnE P S t i p)(hu:nA S t i=u)(h1:vA S u (j+1)=vA S t (i+2))(h2:vA S u (j+2)=vA S t (i+1)):∃d r0,Site P.length P S d p [t,u]∧Hole P S d p [t,u] [t,u] r0∧(∀s,s∈r0↔s=(t,(i+1)%3)∨s=(t,(i+2)%3)∨s=(u,(j+1)%3)∨s=(u,(j+2)%3))∧∀v,v<S.length→∀k,vA S v k=-1→Cf P S p v→v∈[t,u]:=by
  have hul:u<S.length:=by
    obtain⟨k,k0,-⟩:=h.net.mate t ht.1 i;rw[←hu];exact k0
  obtain⟨-,h3,h4⟩:=h.net.mate_uniq ht.1 hul h1 h2;have hne:=hp.ne;obtain⟨g0,g1,g2⟩:=hp;have hD:=h.pos.at_ ht.1 ht.2 i;have hut:u≠t:=fun e=>h.net.not_own ht.1 i (hu.trans e);have hgh:∀v,v<S.length→∀k,vA S v k=-1→Cf P S p v→v∈[t,u]:=fun v hv k hk hc=>by have:=OnE.ghost h ht ⟨g0,g1,g2⟩ hv hk hc;rw[hu] at this;simp[this]
  have hd:=dirP_ne hne.2;have hS:Site P.length P S (dirP (qA P S t (i+2)) p) p [t,u]:=⟨h.net,h.pos,hd,.inl hgh⟩;have q1:qA P S u (j+1)=qA P S t (i+2):=by rw[qA_is,qA_is,h1]
  have q2:qA P S u (j+2)=qA P S t (i+1):=by rw[qA_is,qA_is,h2]
  have a1:edA S (t,(i+1)%3)=vA S t (i+2):=by unfold edA;simp only[];rw[vA_eq S t (show((i+1)%3+1)%3=(i+2)%3 by omega)]
  have b1:edB S (t,(i+1)%3)=vA S t i:=by unfold edB;simp only[];rw[vA_eq S t (show((i+1)%3+2)%3=i%3 by omega)]
  have a2:edA S (t,(i+2)%3)=vA S t i:=by unfold edA;simp only[];rw[vA_eq S t (show((i+2)%3+1)%3=i%3 by omega)]
  have b2:edB S (t,(i+2)%3)=vA S t (i+1):=by unfold edB;simp only[];rw[vA_eq S t (show((i+2)%3+2)%3=(i+1)%3 by omega)]
  have a3:edA S (u,(j+1)%3)=vA S t (i+1):=by unfold edA;simp only[];rw[vA_eq S u (show((j+1)%3+1)%3=(j+2)%3 by omega),h2]
  have b3:edB S (u,(j+1)%3)=vA S u j:=by unfold edB;simp only[];rw[vA_eq S u (show((j+1)%3+2)%3=j%3 by omega)]
  have a4:edA S (u,(j+2)%3)=vA S u j:=by unfold edA;simp only[];rw[vA_eq S u (show((j+2)%3+1)%3=j%3 by omega)]
  have b4:edB S (u,(j+2)%3)=vA S t (i+2):=by unfold edB;simp only[];rw[vA_eq S u (show((j+2)%3+2)%3=(j+1)%3 by omega),h1]
  have one:∀k,nA S t k=u→k%3=i%3:=fun k hk=>by
    refine Classical.byContradiction fun hc=>?_;obtain⟨m,-,m1,m2,-,-⟩:=h.net.mate t ht.1 k;rw[hk] at m1 m2;have e:k%3=(i+1)%3∨k%3=(i+2)%3:=by omega
    have hc':vA S u j=vA S t i:=by
      rcases e with e|e
      · rw[vA_eq S t (show(k+2)%3=i%3 by omega)] at m1;rw[vA_eq S t (show(k+1)%3=(i+2)%3 by omega)] at m2;have:=h.net.corner hul (m2.trans h1.symm);rw[←m1,vA_eq S u (show(m+1)%3=j%3 by omega)]
      · rw[vA_eq S t (show(k+1)%3=i%3 by omega)] at m2;rw[vA_eq S t (show(k+2)%3=(i+1)%3 by omega)] at m1;have:=h.net.corner hul (m1.trans h2.symm);rw[←m2,vA_eq S u (show(m+2)%3=j%3 by omega)]
    have hur:RealA S u:=⟨hul,three_cases (fun k=>vA S u k≠-1) (fun a b e k=>by rw[←vA_eq S u e];exact k) j (by rw[hc'];exact ht.2 i) (by rw[h1];exact ht.2 _) (by rw[h2];exact ht.2 _)⟩;have:=h.pos.at_ hur.1 hur.2 j;rw[q1,q2,qA_is P S u,hc',←qA_is P S t,crP_flip2] at this;omega
  have no_t:∀k,k%3≠i%3→nA S t k∉[t,u]:=fun k hk hm=>by
    simp only[List.mem_cons,List.not_mem_nil,or_false] at hm;rcases hm with hm|hm;·exact h.net.not_own ht.1 k hm
    ·exact hk (one k hm)
  have no_u:∀k,k%3≠j%3→nA S u k∉[t,u]:=fun k hk hm=>by
    simp only[List.mem_cons,List.not_mem_nil,or_false] at hm;rcases hm with hm|hm
    · obtain⟨m,-,m1,m2,m3,-⟩:=h.net.mate u hul k;rw[hm] at m1 m2 m3;have hmi:=one m m3;rw[vA_eq S t (show(m+1)%3=(i+1)%3 by omega),←h2] at m1;have:=h.net.corner hul m1;omega
    ·exact h.net.not_own hul k hm
  have rl:∀s,s∈[(t,(i+1)%3),(t,(i+2)%3),(u,(j+1)%3),(u,(j+2)%3)]→s.1∈[t,u]∧s.2<3∧nA S s.1 s.2∉[t,u]:=fun s hs=>by
    simp only[List.mem_cons,List.not_mem_nil,or_false] at hs;rcases hs with rfl|rfl|rfl|rfl;·exact⟨by simp,by simp only[];omega,no_t _ (by omega)⟩
    ·exact⟨by simp,by simp only[];omega,no_t _ (by omega)⟩
    ·exact⟨by simp,by simp only[];omega,no_u _ (by omega)⟩
    ·exact⟨by simp,by simp only[];omega,no_u _ (by omega)⟩
  have all:∀x∈[t,u],∀k,k<3→nA S x k∉[t,u]→(x,k)∈[(t,(i+1)%3),(t,(i+2)%3),(u,(j+1)%3),(u,(j+2)%3)]:=fun x hx k hk hn=>by
    simp only[List.mem_cons,List.not_mem_nil,or_false] at hx;rcases hx with rfl|rfl
    · have:k≠i%3:=fun e=>by subst e;rw[nA_mod,hu] at hn;exact hn (by simp)
      have:k=(i+1)%3∨k=(i+2)%3:=by omega
      rcases this with rfl|rfl<;>simp
    · have:k≠j%3:=fun e=>by subst e;rw[nA_mod,h3] at hn;exact hn (by simp)
      have:k=(j+1)%3∨k=(j+2)%3:=by omega
      rcases this with rfl|rfl<;>simp
  have cov:∀x∈[t,u],∀k,∃s∈[(t,(i+1)%3),(t,(i+2)%3),(u,(j+1)%3),(u,(j+2)%3)],edA S s=vA S x k:=fun x hx k=>by
    simp only[List.mem_cons,List.not_mem_nil,or_false] at hx;rcases hx with rfl|rfl
    · obtain e|e|e:k%3=i%3∨k%3=(i+1)%3∨k%3=(i+2)%3:=by omega
      ·exact⟨(x,(i+2)%3),by simp,a2.trans (vA_eq S x e).symm⟩
      ·exact⟨(u,(j+1)%3),by simp,a3.trans (vA_eq S x e).symm⟩
      ·exact⟨(x,(i+1)%3),by simp,a1.trans (vA_eq S x e).symm⟩
    · obtain e|e|e:k%3=j%3∨k%3=(j+1)%3∨k%3=(j+2)%3:=by omega
      ·exact⟨(x,(j+2)%3),by simp,a4.trans (vA_eq S x e).symm⟩
      ·exact⟨(t,(i+1)%3),by simp,(a1.trans h1.symm).trans (vA_eq S x e).symm⟩
      ·exact⟨(x,(j+1)%3),by simp,(a3.trans h2.symm).trans (vA_eq S x e).symm⟩
  have lt:∀x∈[t,u],x<S.length:=fun x hx=>by
    simp only[List.mem_cons,List.not_mem_nil,or_false] at hx;rcases hx with rfl|rfl;·exact ht.1
    ·exact hul
  have inn:∀x∈[t,u],∀k,nA S x k∈[t,u]→fA S x k=false∨(x∈[t,u]∧nA S x k∈[t,u]):=fun x hx k hk=> .inr ⟨hx,hk⟩;have nd:[t,u].Nodup:=by simp[Ne.symm hut]
  have ne0:∀a b:Int×Int,crP a b b=0:=fun a b=>by unfold crP crs;grind
  have n0:=fun k=>h.net.nonneg ht.1 (ht.2 k);have obc:ltV P (dirP (qA P S t (i+2)) p) p (vA S t (i+2)) (vA S t i):=ltV_of (n0 _) (n0 _) (.inr ⟨iff_of_true (upA_self hne.2) (upA_left (by rw[crP_rot1];exact g1)),by rw[crP_rot1];exact g1⟩);have downa:¬upA (dirP (qA P S t (i+2)) p) p (qA P S t (i+1)):=by
    rintro(k|⟨-,k⟩)
    · rw[crD_dir,show crP p (qA P S t (i+2)) (qA P S t (i+1))=-crP (qA P S t (i+1)) (qA P S t (i+2)) p by unfold crP crs;grind,g0] at k;omega
    · have hb:Betw (qA P S t (i+1)) (qA P S t (i+2)) p:=by
        refine betw_of (u:=qA P S t i) (v:=qA P S t (i+1)) g0 ?_ ?_;·rw[ne0];exact g2
        · have:=crP_sum3 (qA P S t i) (qA P S t (i+1)) (qA P S t (i+2)) p;omega
      have e:doD (dirP (qA P S t (i+2)) p) p (qA P S t (i+1))=-dotP (qA P S t (i+1)) (qA P S t (i+2)) p:=by unfold doD dirP dotP;grind
      have:=hb.2;omega
  have oca:ltV P (dirP (qA P S t (i+2)) p) p (vA S t i) (vA S t (i+1)):=ltV_of (n0 _) (n0 _) (.inl ⟨upA_left (by rw[crP_rot1];exact g1),downa⟩);have oba:=ltV_trans hd obc oca;have fst0:crD (dirP (qA P S t (i+2)) p) p (qA P S t (i+2))=0∧0<doD (dirP (qA P S t (i+2)) p) p (qA P S t (i+2)):=⟨by rw[crD_dir];exact ne0 _ _,doD_dir hne.2⟩;by_cases he:vA S u j=-1
  · refine⟨_,[(u,(j+2)%3),(t,(i+1)%3),(t,(i+2)%3),(u,(j+1)%3)],hS,?_,fun s=>?_,hgh⟩;rotate_left 1;· simp only[List.mem_cons,List.not_mem_nil,or_false];constructor<;>rintro(h|h|h|h)<;>simp[h]
    refine⟨lt,fun x hx=>hx,nd,fun s hs=>rl s ?_,fun x hx k hk hn=>?_,⟨-1,a4.trans he,a1.trans b4.symm,a2.trans b1.symm,a3.trans b2.symm,b3.trans he⟩,?_,fun s r e hs=>?_,fun s hs k1 k2=>?_,fun x hx k=>?_,inn,rfl⟩;· simp only[List.mem_cons,List.not_mem_nil,or_false] at hs⊢;rcases hs with hs|hs|hs|hs<;>simp[hs]
    · have:=all x hx k hk hn;simp only[List.mem_cons,List.not_mem_nil,or_false] at this⊢;rcases this with hs|hs|hs|hs<;>simp[hs]
    · simp only[List.map_cons,List.map_nil];rw[a1,a2,a3,a4,he];have o:∀k,ltV P (dirP (qA P S t (i+2)) p) p (-1) (vA S t k):=fun k=> .inl ⟨rfl,n0 k⟩;simp[o,obc,oca,oba]
    · simp only[List.cons.injEq] at e;rw[←e.1] at hs;exact absurd (a4.trans he) hs
    · simp only[List.mem_cons,List.not_mem_nil,or_false] at hs;rcases hs with rfl|rfl|rfl|rfl;·exact absurd (a4.trans he) k1
      ·rw[a1,b1];exact g1
      ·rw[a2,b2];exact g2
      ·exact absurd (b3.trans he) k2
    · obtain⟨s,hs,e⟩:=cov x hx k;refine⟨s,?_,e⟩;simp only[List.mem_cons,List.not_mem_nil,or_false] at hs⊢;rcases hs with hs|hs|hs|hs<;>simp[hs]
  · have hur:RealA S u:=⟨hul,three_cases (fun k=>vA S u k≠-1) (fun a b e k=>by rw[←vA_eq S u e];exact k) j he (by rw[h1];exact ht.2 _) (by rw[h2];exact ht.2 _)⟩;obtain⟨-,f1,f2⟩:=OnE.other h.pos ht ⟨g0,g1,g2⟩ hur h1 h2;rw[q2] at f1;rw[q1] at f2;have e0:=h.net.nonneg hul he;have oae:ltV P (dirP (qA P S t (i+2)) p) p (vA S t (i+1)) (vA S u j):=ltV_of (n0 _) e0 (.inr ⟨iff_of_false downa (upA_right (by rw[crP_rot1];exact f2)),by rw[crP_rot1];exact f1⟩);have obe:=ltV_trans hd oba oae;have oce:=ltV_trans hd oca oae;refine⟨_,[(t,(i+1)%3),(t,(i+2)%3),(u,(j+1)%3),(u,(j+2)%3)],hS,?_,fun s=>by simp only[List.mem_cons,List.not_mem_nil,or_false],hgh⟩;refine⟨lt,fun x hx=>hx,nd,rl,all,⟨vA S t (i+2),a1,a2.trans b1.symm,a3.trans b2.symm,a4.trans b3.symm,b4⟩,?_,fun s r e hs=>?_,fun s hs k1 k2=>?_,cov,inn,rfl⟩
    · simp only[List.map_cons,List.map_nil];rw[a1,a2,a3,a4];simp[obc,oca,oba,oae,obe,oce]
    · simp only[List.cons.injEq] at e;rw[←e.1,a1];exact fst0
    · simp only[List.mem_cons,List.not_mem_nil,or_false] at hs;rcases hs with rfl|rfl|rfl|rfl;·rw[a1,b1];exact g1
      ·rw[a2,b2];exact g2
      ·rw[a3,b3];exact f1
      ·rw[a4,b4];exact f2
end
end Go.MagM
