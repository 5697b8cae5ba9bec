import Derived.Test.YtammmemfkpcpcaaGreatPartm
import Derived.Laws.Cover1
import Derived.Test.YtammmemfkpcpcaaGreatParth
import Derived.Test.YtammmemfkpcpcaaGreatPartk
import Derived.Test.YtammmemfkpcpcaaGreatParti
set_option linter.unusedSimpArgs false
set_option linter.unusedVariables false
namespace Go.MagM
open Go.RowKit
def realT(T:TriM):Bool:=decide (0≤T.v0∧0≤T.v1∧0≤T.v2)
def realM(S:List TriM)(t:Int):Bool:=match getT S t with|none=>false|some T=>realT T
theorem realT_gone{T:TriM}(h:goneB T=true):realT T=false:=by unfold goneB at h;unfold realT;have:=of_decide_eq_true h;exact decide_eq_false (by omega)
end Go.MagM
namespace Go.Proofs.YtammmemfkpcpcaaGreat
open Go.RowKit Go.MagM
theorem there_quiet{mb pb pc:Nat}{ta:Option Addr}{tc:Nat}{P:List (Int×Int)}{S:List TriM}(t:Int)(w:World)(h:MeshR w mb pb pc ta tc P S):Calls Tryz.prog 93 #[.pointer (some ⟨mb,0,none⟩),.int .i64 t] w fun e w'=>e= .returned (.bool (thereB S t))∧w'=w:=(there_any t w h).mono fun _ _ ⟨a,b⟩=>⟨a,b.symm⟩
set_option maxRecDepth 100000 in set_option maxHeartbeats 4000000 in theorem Real_any{mb pb pc:Nat}{ta:Option Addr}{tc:Nat}{P:List (Int×Int)}{S:List TriM}(t:Int)(w:World)(h:MeshR w mb pb pc ta tc P S):Calls Tryz.prog 86 #[.pointer (some ⟨mb,0,none⟩),.int .i64 t] w fun e w'=>e= .returned (.bool (realM S t))∧Drew w w':=by
  obtain⟨b0,b1,-,-⟩:=h.box.open2;have hsh:=h.short.2;have hc:=fun n=>there_quiet t _ (h.drewN n);obtain⟨r,hr⟩:∃r,realM S t=r:=⟨_,rfl⟩;rw[hr];unfold realM at hr;unfold thereB at hc;cases hg:getT S t with
  |none=>
    rw[hg] at hr hc;simp only[] at hr hc;subst hr;have HC:=Lib.hid hc;clear hc h hsh hg;go_enter Tryz.func86,Tryz.ntmps86;go_wp2;go_quiet ((go_at_call 93;exact Calls.quiet_of_same (HC.out _)));go_wp2;go_ret;exact⟨rfl,_,rfl⟩|some T=>
    rw[hg] at hr hc;simp only[] at hr hc;cases hgo:goneB T with
    |true=>
      rw[realT_gone hgo] at hr;rw[hgo,Bool.not_true] at hc;subst hr;have HC:=Lib.hid hc;clear hc h hsh hg hgo;go_enter Tryz.func86,Tryz.ntmps86;go_wp2;go_quiet ((go_at_call 93;exact Calls.quiet_of_same (HC.out _)));go_wp2;go_ret;exact⟨rfl,_,rfl⟩|false=>
      rw[hgo,Bool.not_false] at hc;obtain⟨h0,h1,h2⟩:=getT_some hg;obtain⟨k,rfl⟩:∃k:Nat,t=k:=⟨t.toNat,by omega⟩;obtain⟨tb,rfl,hbl,ht⟩:=h.tris.get h2;simp only[Int.toNat_natCast] at ht;have hkl:k<S.length:=by omega
      have HC:=Lib.hid hc;have c0:=ht.c0;have c1:=ht.c1;have c2:=ht.c2;obtain⟨m,hm⟩:∃m:Int,(if T.v2<(if T.v1<T.v0 then T.v1 else T.v0) then T.v2 else(if T.v1<T.v0 then T.v1 else T.v0))=m:=⟨_,rfl⟩;have hmin:∀w:World,Sem.run Tryz.prog (Builtin.min_ #[3,3,3] 3 #[.int .i64 T.v0,.int .i64 T.v1,.int .i64 T.v2]) w=Result.ok (Value.int .i64 m) w:=fun w=>by rw[run_min_int3,hm]
      have hd:decide (0≤m)=r:=by rw[←hr,←hm];unfold realT;rw[decide_eq_decide];split<;>split at*<;>omega
      clear hc hr hg hgo h h2 ht hsh hm;go_enter Tryz.func86,Tryz.ntmps86;go_wp2;go_quiet ((go_at_call 93;exact Calls.quiet_of_same (HC.out _)));go_wp2;go_ret;exact⟨rfl,_,rfl⟩
end Go.Proofs.YtammmemfkpcpcaaGreat
namespace Go.MagM
open Go.RowKit
def getP(P:List (Int×Int))(v:Int):Option (Int×Int):=if 0≤v then P[v.toNat]? else none
theorem getP_some{P:List (Int×Int)}{v:Int}{p:Int×Int}(h:getP P v=some p):0≤v∧v<(P.length:Int)∧P[v.toNat]?=some p:=by
  unfold getP at h;by_cases h0:0≤v
  · rw[if_pos h0] at h;have:=(List.getElem?_eq_some_iff.1 h).1;exact⟨h0,by omega,h⟩
  ·rw[if_neg h0] at h;cases h
theorem getP_none{P:List (Int×Int)}{v:Int}(h:getP P v=none):¬(0≤v∧v<(P.length:Int)):=by
  unfold getP at h;by_cases h0:0≤v
  · rw[if_pos h0] at h;have:=List.getElem?_eq_none_iff.1 h;omega
  ·omega
def turnM(P:List (Int×Int))(a b c:Int):Int:=match getP P a,getP P b,getP P c with|some p,some q,some r=>(crs p.1 p.2 q.1 q.2 r.1 r.2).sign|_,_,_=>0
def InPs(P:List (Int×Int)):Prop:=∀p,p∈P→InP p.1∧InP p.2
end Go.MagM
namespace Go.Proofs.YtammmemfkpcpcaaGreat
open Go.RowKit Go.MagM
set_option maxRecDepth 100000 in set_option maxHeartbeats 4000000 in theorem turn_no{mb pb pc:Nat}{ta:Option Addr}{tc:Nat}{P:List (Int×Int)}{S:List TriM}(a b c:Int)(qa qb qc:Bool)(w:World)(h:MeshR w mb pb pc ta tc P S)(ha:decide (0≤a∧a<(P.length:Int))=qa)(hb:decide (0≤b∧b<(P.length:Int))=qb)(hc:decide (0≤c∧c<(P.length:Int))=qc)(hno:(qa&&qb&&qc)=false):Calls Tryz.prog 128 #[.pointer (some ⟨mb,0,none⟩),.int .i64 a,.int .i64 b,.int .i64 c] w fun e w'=>e= .returned (.int .i64 0)∧w=w':=by
  have ca:=isPoint_any a w h;have cb:=isPoint_any b w h;have cc:=isPoint_any c w h;rw[ha] at ca;rw[hb] at cb;rw[hc] at cc;have CA:=Lib.hid ca;have CB:=Lib.hid cb;have CC:=Lib.hid cc;clear ca cb cc ha hb hc h;cases qa
  · clear hno;go_enter Tryz.func128,Tryz.ntmps128;go_wp2_with fail;refine CA.out.mono ?_;rintro e w' ⟨rfl,rfl⟩;go_wp2;go_ret;exact⟨rfl,rfl⟩
  · cases qb
    · clear hno;go_enter Tryz.func128,Tryz.ntmps128;go_wp2_with fail;refine CA.out.mono ?_;rintro e w' ⟨rfl,rfl⟩;go_wp2_with fail;refine CB.out.mono ?_;rintro e w' ⟨rfl,rfl⟩;go_wp2;go_ret;exact⟨rfl,rfl⟩
    · cases qc
      · clear hno;go_enter Tryz.func128,Tryz.ntmps128;go_wp2_with fail;refine CA.out.mono ?_;rintro e w' ⟨rfl,rfl⟩;go_wp2_with fail;refine CB.out.mono ?_;rintro e w' ⟨rfl,rfl⟩;go_wp2_with fail;refine CC.out.mono ?_;rintro e w' ⟨rfl,rfl⟩;go_wp2;go_ret;exact⟨rfl,rfl⟩
      ·simp at hno
set_option maxRecDepth 100000 in set_option maxHeartbeats 4000000 in theorem turn_yes{mb pb pc:Nat}{ta:Option Addr}{tc:Nat}{P:List (Int×Int)}{S:List TriM}(a b c:Nat)(a0 a1 b0 b1 c0 c1 s:Int)(w:World)(h:MeshR w mb pb pc ta tc P S)(hP:InPs P)(ha:P[a]?=some (a0,a1))(hb:P[b]?=some (b0,b1))(hc:P[c]?=some (c0,c1))(hs:(crs a0 a1 b0 b1 c0 c1).sign=s):Calls Tryz.prog 128 #[.pointer (some ⟨mb,0,none⟩),.int .i64 (a:Int),.int .i64 (b:Int),.int .i64 (c:Int)] w fun e w'=>e= .returned (.int .i64 s)∧Below w.heap.size w w':=by have ca:=isPoint_any (a:Int) w h;have cb:=isPoint_any (b:Int) w h;have cc:=isPoint_any (c:Int) w h;have la:=(List.getElem?_eq_some_iff.1 ha).1;have lb:=(List.getElem?_eq_some_iff.1 hb).1;have lc:=(List.getElem?_eq_some_iff.1 hc).1;rw[decide_eq_true (by omega)] at ca cb cc;have ia:=hP _ (List.mem_of_getElem? ha);have ib:=hP _ (List.mem_of_getElem? hb);have ic:=hP _ (List.mem_of_getElem? hc);have co:=fun w=>Orient_is a0 a1 b0 b1 c0 c1 ia.1 ia.2 ib.1 ib.2 ic.1 ic.2 hs w;have hsh:=h.short.1;have H:=Lib.hid h;have HA:=Lib.hid ha;have HB:=Lib.hid hb;have HC:=Lib.hid hc;have CA:=Lib.hid ca;have CB:=Lib.hid cb;have CC:=Lib.hid cc;have CO:=Lib.hid co;clear ca cb cc h hP ha hb hc ia ib ic co hs;go_enter Tryz.func128,Tryz.ntmps128;go_wp2_with fail;refine CA.out.mono ?_;rintro e w' ⟨rfl,rfl⟩;go_wp2_with fail;refine CB.out.mono ?_;rintro e w' ⟨rfl,rfl⟩;go_wp2_with fail;refine CC.out.mono ?_;rintro e w' ⟨rfl,rfl⟩;go_wp2;have hB_0:=(Below.refl w.heap.size w).drew';have hm_0:=H.out.drew;go_region_held3 (fun w'=>w'.cell? ⟨mb,0,none⟩=some (.slice (some ⟨pb,0,none⟩) P.length pc)∧w'.cell? ⟨pb,a*2,none⟩=some (.int .i64 a0)∧w'.cell? ⟨pb,a*2+1,none⟩=some (.int .i64 a1)∧w'.cell? ⟨pb,b*2,none⟩=some (.int .i64 b0)∧w'.cell? ⟨pb,b*2+1,none⟩=some (.int .i64 b1)∧w'.cell? ⟨pb,c*2,none⟩=some (.int .i64 c0)∧w'.cell? ⟨pb,c*2+1,none⟩=some (.int .i64 c1)) (first|with_reducible exact⟨hm_0.box.c0,(hm_0.pt HA.out).1,(hm_0.pt HA.out).2,(hm_0.pt HB.out).1,(hm_0.pt HB.out).2,(hm_0.pt HC.out).1,(hm_0.pt HC.out).2⟩|with_reducible exact⟨hm_1.box.c0,(hm_1.pt HA.out).1,(hm_1.pt HA.out).2,(hm_1.pt HB.out).1,(hm_1.pt HB.out).2,(hm_1.pt HC.out).1,(hm_1.pt HC.out).2⟩|fail) (first|(go_at_call 16;(with_reducible refine(CO.out _).mono ?_);rintro e w4 ⟨rfl,hb4⟩;have hB_1:=hB_0.trans (hb4.mono hB_0.size);have hm_1:=hm_0.below hb4));go_wp2;go_ret;exact⟨rfl,hB_1⟩
theorem mturn_any{mb pb pc:Nat}{ta:Option Addr}{tc:Nat}{P:List (Int×Int)}{S:List TriM}(a b c:Int)(w:World)(h:MeshR w mb pb pc ta tc P S)(hP:InPs P):Calls Tryz.prog 128 #[.pointer (some ⟨mb,0,none⟩),.int .i64 a,.int .i64 b,.int .i64 c] w fun e w'=>e= .returned (.int .i64 (turnM P a b c))∧Below w.heap.size w w':=by
  have no:turnM P a b c=0→¬((0≤a∧a<(P.length:Int))∧(0≤b∧b<(P.length:Int))∧(0≤c∧c<(P.length:Int)))→Calls Tryz.prog 128 #[.pointer (some ⟨mb,0,none⟩),.int .i64 a,.int .i64 b,.int .i64 c] w fun e w'=>e= .returned (.int .i64 (turnM P a b c))∧Below w.heap.size w w':=by
    intro e hn;rw[e];refine(turn_no a b c _ _ _ w h rfl rfl rfl ?_).mono fun e w' ⟨h1,h2⟩=>⟨h1,by subst h2;exact Below.refl _ _⟩;rw[←Bool.decide_and,←Bool.decide_and];exact decide_eq_false (fun k=>hn ⟨k.1.1,k.1.2,k.2⟩)
  unfold turnM at no⊢;cases ha:getP P a with|none=>rw[ha] at no;exact no rfl (fun k=>getP_none ha k.1)|some p=>rw[ha] at no;cases hb:getP P b with|none=>rw[hb] at no;exact no rfl (fun k=>getP_none hb k.2.1)|some q=>rw[hb] at no;cases hc:getP P c with|none=>rw[hc] at no;exact no rfl (fun k=>getP_none hc k.2.2)|some r=>obtain⟨a0,a1,a2⟩:=getP_some ha;obtain⟨b0,b1,b2⟩:=getP_some hb;obtain⟨c0,c1,c2⟩:=getP_some hc;obtain⟨a',rfl⟩:∃k:Nat,a=k:=⟨a.toNat,by omega⟩;obtain⟨b',rfl⟩:∃k:Nat,b=k:=⟨b.toNat,by omega⟩;obtain⟨c',rfl⟩:∃k:Nat,c=k:=⟨c.toNat,by omega⟩;exact turn_yes a' b' c' _ _ _ _ _ _ _ w h hP a2 b2 c2 rfl
end Go.Proofs.YtammmemfkpcpcaaGreat
namespace Go.MagM
open Go.RowKit
theorem placeT_cases(T:TriM)(v:Int):placeT T v=-1∨placeT T v=0∨placeT T v=1∨placeT T v=2:=by
  unfold placeT;split;·simp
  · split;·simp
    ·split<;>simp
end Go.MagM
namespace Go.Proofs.YtammmemfkpcpcaaGreat
open Go.RowKit Go.MagM
end Go.Proofs.YtammmemfkpcpcaaGreat
namespace Go.MagM
open Go.RowKit
theorem At9i.n{w:World}{b o:Nat}{T:TriM}(h:At9i w b o T){j:Nat}(hj:j<3):w.cell? ⟨b,o+3+j,none⟩=some (.int .i64 (T.n j)):=by
  obtain rfl|rfl|rfl:j=0∨j=1∨j=2:=by omega
  ·exact h.c3
  ·exact h.c4
  ·exact h.c5
end Go.MagM
namespace Go.Proofs.YtammmemfkpcpcaaGreat
open Go.RowKit Go.MagM
theorem index3_run(T:TriM)(i:Nat)(hi:i<3)(w:World):(Instr.index 39 (.agg #[.int .i64 T.n0,.int .i64 T.n1,.int .i64 T.n2]) (.int .i64 (i:Int))).run Tryz.prog w= .ok (.int .i64 (T.n i)) w:=by
  obtain rfl|rfl|rfl:i=0∨i=1∨i=2:=by omega
  all_goals kernel_rfl
end Go.Proofs.YtammmemfkpcpcaaGreat
namespace Go.MagM
open Go.RowKit
theorem mod_one(k n:Nat):((k:Int)+1).tmod (n:Int)=(((k+1)%n:Nat):Int):=by rw[show(k:Int)+1=((k+1:Nat):Int) by omega];exact(Int.ofNat_tmod _ _).symm
theorem mod_two(k n:Nat):((k:Int)+2).tmod (n:Int)=(((k+2)%n:Nat):Int):=by rw[show(k:Int)+2=((k+2:Nat):Int) by omega];exact(Int.ofNat_tmod _ _).symm
def ptA(P:List (Int×Int))(v:Nat):Int×Int:=P[v]?.getD (0,0)
theorem ptA_at{P:List (Int×Int)}{v:Nat}(h:v<P.length):P[v]?=some ((ptA P v).1,(ptA P v).2):=by unfold ptA;rw[List.getElem?_eq_getElem h];rfl
def natA(l:List Nat)(i:Nat):Nat:=l[i]?.getD 0
theorem natA_at{l:List Nat}{i:Nat}(h:i<l.length):l[i]?=some (natA l i):=by unfold natA;rw[List.getElem?_eq_getElem h];rfl
end Go.MagM
namespace Go.Proofs.YtammmemfkpcpcaaGreat
open Go.RowKit Go.MagM
end Go.Proofs.YtammmemfkpcpcaaGreat
namespace Go.MagM
open Go.RowKit
def sideT(P:List (Int×Int))(T:TriM)(i:Nat)(p:Int×Int):Int:=(crs (ptA P (T.v ((i+1)%3)).toNat).1 (ptA P (T.v ((i+1)%3)).toNat).2 (ptA P (T.v ((i+2)%3)).toNat).1 (ptA P (T.v ((i+2)%3)).toNat).2 p.1 p.2).sign
def InV(P:List (Int×Int))(v:Int):Prop:=0≤v∧v<(P.length:Int)
def holdsT(P:List (Int×Int))(T:TriM)(p:Int×Int):Bool:=decide (0≤sideT P T 0 p)&&decide (0≤sideT P T 1 p)&&decide (0≤sideT P T 2 p)
theorem box3_at{w:World}{g:Nat}{T:TriM}(h:Box w g [.int .i64 T.v0,.int .i64 T.v1,.int .i64 T.v2]){k:Nat}(hk:k<3):w.cell? ⟨g,k,none⟩=some (.int .i64 (T.v k)):=by
  obtain rfl|rfl|rfl:k=0∨k=1∨k=2:=by omega
  ·exact h.c 0 _ rfl
  ·exact h.c 1 _ rfl
  ·exact h.c 2 _ rfl
theorem InV.nat{P:List (Int×Int)}{v:Int}(h:InV P v):∃a:Nat,v=(a:Int)∧a<P.length∧P[a]?=some ((ptA P v.toNat).1,(ptA P v.toNat).2):=by obtain⟨h0,h1⟩:=h;refine⟨v.toNat,by omega,by omega,ptA_at (by omega)⟩
theorem mod3_one{i:Nat}(hi:i<3):(IntKind.i64.wrap ((i:Int)+1)).tmod 3=(((i+1)%3:Nat):Int):=by
  obtain rfl|rfl|rfl:i=0∨i=1∨i=2:=by omega
  all_goals decide
theorem mod3_two{i:Nat}(hi:i<3):(IntKind.i64.wrap ((i:Int)+2)).tmod 3=(((i+2)%3:Nat):Int):=by
  obtain rfl|rfl|rfl:i=0∨i=1∨i=2:=by omega
  all_goals decide
end Go.MagM
namespace Go.Proofs.YtammmemfkpcpcaaGreat
open Go.RowKit Go.MagM
set_option maxRecDepth 100000 in set_option maxHeartbeats 4000000 in theorem wside_any{mb pb pc:Nat}{ta:Option Addr}{tc:Nat}{P:List (Int×Int)}{S:List TriM}(t i:Nat)(T:TriM)(p:Int×Int)(s:Int)(w:World)(h:MeshR w mb pb pc ta tc P S)(hP:InPs P)(hp:InP p.1∧InP p.2)(hT:S[t]?=some T)(hi:i<3)(h1:InV P (T.v ((i+1)%3)))(h2:InV P (T.v ((i+2)%3)))(hs:sideT P T i p=s):Calls Tryz.prog 87 #[.pointer (some ⟨mb,0,none⟩),.int .i64 (t:Int),.int .i64 (i:Int),.agg #[.int .i64 p.1,.int .i64 p.2]] w fun e w'=>e= .returned (.int .i64 s)∧Below w.heap.size w w':=by
  obtain⟨a,ea,la,ga⟩:=h1.nat;obtain⟨b,eb,lb,gb⟩:=h2.nat;obtain⟨tb,hta,-,h9⟩:=h.tris.get hT;subst hta;have hlt:=(List.getElem?_eq_some_iff.1 hT).1;have hsh:=h.short;obtain⟨len,hlen⟩:∃len,S.length=len:=⟨_,rfl⟩;obtain⟨pn,hpn⟩:∃pn,P.length=pn:=⟨_,rfl⟩;have m1:=mod3_one hi;have m2:=mod3_two hi;have hpa:InP (ptA P (T.v ((i+1)%3)).toNat).1∧InP (ptA P (T.v ((i+1)%3)).toNat).2:=hP _ (List.mem_of_getElem? ga);have hpb:InP (ptA P (T.v ((i+2)%3)).toNat).1∧InP (ptA P (T.v ((i+2)%3)).toNat).2:=hP _ (List.mem_of_getElem? gb);obtain⟨k1,hk1⟩:∃k1,(i+1)%3=k1:=⟨_,rfl⟩;obtain⟨k2,hk2⟩:∃k2,(i+2)%3=k2:=⟨_,rfl⟩;unfold sideT at hs;rw[hk1] at m1 ea ga hpa hs;rw[hk2] at m2 eb gb hpb hs;have hk13:k1<3:=by omega
  have hk23:k2<3:=by omega
  obtain⟨⟨a0,a1⟩,hpta⟩:∃q,ptA P (T.v k1).toNat=q:=⟨_,rfl⟩;obtain⟨⟨b0,b1⟩,hptb⟩:∃q,ptA P (T.v k2).toNat=q:=⟨_,rfl⟩;rw[hpta] at ga hpa hs;rw[hptb] at gb hpb hs;simp only[] at ga gb hpa hpb hs;obtain⟨p0,p1⟩:=p;simp only[] at hp hs;have co:=fun w=>Orient_is a0 a1 b0 b1 p0 p1 hpa.1 hpa.2 hpb.1 hpb.2 hp.1 hp.2 hs w;obtain⟨w1,hw1,pp,hb1,hs1⟩:=new_box w _ rfl [.int .i64 p0,.int .i64 p1] 24;obtain⟨vb,hvb⟩:∃vb,w1.heap.size=vb:=⟨_,rfl⟩;obtain⟨w2,hw2,pv,hb2,hs2⟩:=new_box w1 _ rfl [.int .i64 T.v0,.int .i64 T.v1,.int .i64 T.v2] 39;rw[hvb] at pv;have hB2:Below w.heap.size w w2:=hb1.trans (hb2.mono hb1.size);have hb12:Below w.heap.size w w1:=hb1;have e1:=(h.below hb12).box.c 1 _ rfl;rw[hlen] at e1;have h9':=h9.below hb12;obtain⟨c0,c1,c2,-,-,-,-,-,-⟩:=h9';have H:=Lib.hid h;have CO:=Lib.hid co;have HB2:=Lib.hid hB2;have PP:=Lib.hid (pp.below hb2);have PV:=Lib.hid pv;have GA:=Lib.hid ga;have GB:=Lib.hid gb;have HPN:=Lib.hid hpn;have EA:=Lib.hid ea;have EB:=Lib.hid eb;have i1:(0:Int)≤(t:Int):=by omega
  have i2:(t:Int)<(len:Int):=by omega
  have i3:(0:Int)≤(a:Int):=by omega
  have i4:(a:Int)<(pn:Int):=by omega
  have i5:(0:Int)≤(b:Int):=by omega
  have i6:(b:Int)<(pn:Int):=by omega
  have i7:(0:Int)≤(k1:Int):=by omega
  have i8:(k1:Int)<3:=by omega
  have i9:(0:Int)≤(k2:Int):=by omega
  have i10:(k2:Int)<3:=by omega
  obtain⟨v0,v1,v2,n0,n1,n2,f0,f1,f2⟩:=T;simp only[] at c0 c1 c2;clear h hP hp hT h1 h2 hs ea la ga eb lb gb h9 hlt hpa hpb hpta hptb co pp hb1 hs1 hb2 hs2 pv hB2 hb12 hsh hk1 hk2 hlen hpn;go_enter Tryz.func87,Tryz.ntmps87;go_wp2;clear c0 c1 c2 e1;have hB_0:Below w.heap.size w w2.drew:=HB2.out.drew';have cc:∀w',Below w2.drew.heap.size w2.drew w'→w'.cell? ⟨mb,0,none⟩=some (.slice (some ⟨pb,0,none⟩) pn pc)∧w'.cell? ⟨vb,k1,none⟩=some (.int .i64 (a:Int))∧w'.cell? ⟨vb,k2,none⟩=some (.int .i64 (b:Int))∧w'.cell? ⟨pb,a*2,none⟩=some (.int .i64 a0)∧w'.cell? ⟨pb,a*2+1,none⟩=some (.int .i64 a1)∧w'.cell? ⟨pb,b*2,none⟩=some (.int .i64 b0)∧w'.cell? ⟨pb,b*2+1,none⟩=some (.int .i64 b1)∧w'.cell? ⟨w.heap.size,0,none⟩=some (.int .i64 p0)∧w'.cell? ⟨w.heap.size,1,none⟩=some (.int .i64 p1):=by
    intro w' hb;have hm:=((H.out.below HB2.out).drew).below hb;have hv:=PV.out.drew.below hb;have hp:=PP.out.drew.below hb;have e0:=hm.box.c 0 _ rfl;rw[HPN.out] at e0;have bv1:=box3_at (T:=⟨v0,v1,v2,n0,n1,n2,f0,f1,f2⟩) hv hk13;have bv2:=box3_at (T:=⟨v0,v1,v2,n0,n1,n2,f0,f1,f2⟩) hv hk23;rw[EA.out] at bv1;rw[EB.out] at bv2;exact⟨e0,bv1,bv2,(hm.pt GA.out).1,(hm.pt GA.out).2,(hm.pt GB.out).1,(hm.pt GB.out).2,hp.c 0 _ rfl,hp.c 1 _ rfl⟩
  have CC:=Lib.hid cc;clear cc;have hD_0:=Below.refl w2.drew.heap.size w2.drew;go_region_held3 (fun w'=>w'.cell? ⟨mb,0,none⟩=some (.slice (some ⟨pb,0,none⟩) pn pc)∧w'.cell? ⟨vb,k1,none⟩=some (.int .i64 (a:Int))∧w'.cell? ⟨vb,k2,none⟩=some (.int .i64 (b:Int))∧w'.cell? ⟨pb,a*2,none⟩=some (.int .i64 a0)∧w'.cell? ⟨pb,a*2+1,none⟩=some (.int .i64 a1)∧w'.cell? ⟨pb,b*2,none⟩=some (.int .i64 b0)∧w'.cell? ⟨pb,b*2+1,none⟩=some (.int .i64 b1)∧w'.cell? ⟨w.heap.size,0,none⟩=some (.int .i64 p0)∧w'.cell? ⟨w.heap.size,1,none⟩=some (.int .i64 p1)) (first|with_reducible exact CC.out _ hD_0|with_reducible exact CC.out _ hD_1|fail) (first|(go_at_call 16;(with_reducible refine(CO.out _).mono ?_);rintro e w4 ⟨rfl,hb4⟩;have hB_1:=hB_0.trans (hb4.mono hB_0.size);have hD_1:=hD_0.trans (hb4.mono hD_0.size)));go_wp2;go_ret;exact⟨rfl,hB_1⟩
end Go.Proofs.YtammmemfkpcpcaaGreat
namespace Go.MagM
open Go.RowKit
theorem holdsT_all{P:List (Int×Int)}{T:TriM}{p:Int×Int}(h:∀j,j<3→0≤sideT P T j p):holdsT P T p=true:=by unfold holdsT;rw[decide_eq_true (h 0 (by omega)),decide_eq_true (h 1 (by omega)),decide_eq_true (h 2 (by omega))];rfl
theorem holdsT_not{P:List (Int×Int)}{T:TriM}{p:Int×Int}{j:Nat}(hj:j<3)(h:sideT P T j p<0):holdsT P T p=false:=by
  unfold holdsT;have h':decide (0≤sideT P T j p)=false:=decide_eq_false (by omega);obtain rfl|rfl|rfl:j=0∨j=1∨j=2:=by omega
  all_goals rw[h'];simp
def RealIn(P:List (Int×Int))(T:TriM):Prop:=realT T=true→∀i,i<3→InV P (T.v i)
end Go.MagM
namespace Go.Proofs.YtammmemfkpcpcaaGreat
open Go.RowKit Go.MagM
set_option maxRecDepth 100000 in set_option maxHeartbeats 4000000 in theorem Holds_any{mb pb pc:Nat}{ta:Option Addr}{tc:Nat}{P:List (Int×Int)}{S:List TriM}(t:Nat)(T:TriM)(p:Int×Int)(w:World)(h:MeshR w mb pb pc ta tc P S)(hP:InPs P)(hp:InP p.1∧InP p.2)(hT:S[t]?=some T)(hre:RealIn P T):Calls Tryz.prog 107 #[.pointer (some ⟨mb,0,none⟩),.int .i64 (t:Int),.agg #[.int .i64 p.1,.int .i64 p.2]] w fun e w'=>e= .returned (.bool (realT T&&holdsT P T p))∧Below w.heap.size w w':=by
  obtain⟨w1,hw1,pp,hb1,hs1⟩:=new_box w _ rfl [.int .i64 p.1,.int .i64 p.2] 24;have hr:=Real_any (t:Int) w1 (h.below hb1);have hrm:realM S (t:Int)=realT T:=by unfold realM;rw[getT_nat,hT]
  rw[hrm] at hr;unfold RealIn at hre;obtain⟨r,hrr⟩:∃r,realT T=r:=⟨_,rfl⟩;rw[hrr] at hr hre⊢;have HR:=Lib.hid hr;have HB1:=Lib.hid hb1;have PP:=Lib.hid pp;cases r with
  |false=>
    clear h hP hp hT hre hrm hrr hr hb1 pp hs1;go_enter Tryz.func107,Tryz.ntmps107;go_wp2_with fail;refine HR.out.mono ?_;rintro e w2 ⟨rfl,hd⟩;have HB2:=Lib.hid (HB1.out.trans (hd.below.mono HB1.out.size));clear hd;go_wp2;go_ret;exact⟨rfl,HB2.out⟩|true=>
    have hv:=hre rfl;have hso:∀(i:Nat)(wr:World),i<3→Below w.heap.size w wr→Calls Tryz.prog 87 #[.pointer (some ⟨mb,0,none⟩),.int .i64 (t:Int),.int .i64 (i:Int),.agg #[.int .i64 p.1,.int .i64 p.2]] wr fun e w'=>e= .returned (.int .i64 (sideT P T i p))∧Below wr.heap.size wr w':=fun i wr hi hb=>wside_any t i T p _ wr (h.below hb) hP hp hT hi (hv _ (Nat.mod_lt _ (by omega))) (hv _ (Nat.mod_lt _ (by omega))) rfl;obtain⟨b,hb⟩:∃b,holdsT P T p=b:=⟨_,rfl⟩;rw[Bool.true_and,hb];have HB:=Lib.hid hb;have HSO:=Lib.hid hso;clear h hP hp hT hre hrm hrr hr hb1 pp hs1 hb hv hso;go_enter Tryz.func107,Tryz.ntmps107;go_wp2_with fail;refine HR.out.mono ?_;rintro e w2 ⟨rfl,hd⟩;have HB2:=Lib.hid (HB1.out.trans (hd.below.mono HB1.out.size));have PP2:=Lib.hid (PP.out.below hd.below);clear hd;go_wp2;go_loopw [7,12] (fun _ iv wr=>∃i:Nat,i≤3∧iv= .int .i64 (i:Int)∧Below w2.heap.size w2 wr∧∀j,j<i→0≤sideT P T j p) (fun _ iv _=>3-(intOf iv).toNat);case atStart=>exact⟨0,by omega,rfl,Below.refl _ _,fun j hj=>absurd hj (by omega)⟩
    case round=>
      obtain⟨i,hi,rfl,hbw,hall⟩:=hrel;have pw:=PP2.out.below hbw;have c0:=pw.c 0 _ rfl;have c1:=pw.c 1 _ rfl;have HBW:=Lib.hid (HB2.out.trans (hbw.mono HB2.out.size));have HBW2:=Lib.hid hbw;have HALL:=Lib.hid hall;clear pw hbw hall;by_cases hlt:i<3
      · have hyd:decide ((i:Int)<3)=true:=decide_eq_true (by omega);have hs:=HSO.out i wr hlt HBW.out;obtain⟨s,hse⟩:∃s,sideT P T i p=s:=⟨_,rfl⟩;rw[hse] at hs;have HS:=Lib.hid hs;have HSE:=Lib.hid hse;clear hs hse;by_cases hneg:s<0
        · have hyn:decide (s<0)=true:=decide_eq_true hneg;go_wp2_with fail;refine HS.out.mono ?_;rintro e w3 ⟨rfl,hb3⟩;have HB3:=Lib.hid (HBW.out.trans (hb3.mono HBW.out.size));clear hb3 c0 c1;go_wp2;go_ret;exact⟨by rw[←HB.out,holdsT_not hlt (by rw[HSE.out];exact hneg)];rfl,HB3.out⟩
        · have hyn:decide (s<0)=false:=decide_eq_false hneg;go_wp2_with fail;refine HS.out.mono ?_;rintro e w3 ⟨rfl,hb3⟩;have HB3:=Lib.hid (HBW2.out.trans (hb3.mono HBW2.out.size));clear hb3 c0 c1;go_wp2;go_roundw;case rel=>
            refine⟨i+1,by omega,by go_num,HB3.out,fun j hj=>?_⟩;rcases Nat.lt_or_ge j i with g|g;·exact HALL.out j g
            · obtain rfl:j=i:=by omega
              rw[HSE.out];omega
          case measure=>simp[intOf];omega
      · obtain rfl:i=3:=by omega
        clear c0 c1;go_wp2;go_ret;exact⟨by rw[←HB.out,holdsT_all HALL.out];rfl,HBW.out⟩
end Go.Proofs.YtammmemfkpcpcaaGreat
namespace Go.MagM
open Go.RowKit
def facesT(P:List (Int×Int))(T:TriM)(p:Int×Int):Bool:=decide (0≤placeT T (-1))&&decide (0<sideT P T (placeT T (-1)).toNat p)
def FaceIn(P:List (Int×Int))(T:TriM):Prop:=∀k:Nat,placeT T (-1)=(k:Int)→InV P (T.v ((k+1)%3))∧InV P (T.v ((k+2)%3))
end Go.MagM
namespace Go.Proofs.YtammmemfkpcpcaaGreat
open Go.RowKit Go.MagM
set_option maxRecDepth 100000 in set_option maxHeartbeats 4000000 in theorem faces_any{mb pb pc:Nat}{ta:Option Addr}{tc:Nat}{P:List (Int×Int)}{S:List TriM}(t:Nat)(T:TriM)(p:Int×Int)(w:World)(h:MeshR w mb pb pc ta tc P S)(hP:InPs P)(hp:InP p.1∧InP p.2)(hT:S[t]?=some T)(hfa:FaceIn P T):Calls Tryz.prog 108 #[.pointer (some ⟨mb,0,none⟩),.int .i64 (t:Int),.agg #[.int .i64 p.1,.int .i64 p.2]] w fun e w'=>e= .returned (.bool (facesT P T p))∧Below w.heap.size w w':=by
  obtain⟨w1,hw1,pp,hb1,hs1⟩:=new_box w _ rfl [.int .i64 p.1,.int .i64 p.2] 24;have h1:=h.below hb1;obtain⟨b0,b1,-,-⟩:=h1.box.open2;have hsh:=h.short.2;obtain⟨len,hlen⟩:∃len,S.length=len:=⟨_,rfl⟩;have hkl:=(List.getElem?_eq_some_iff.1 hT).1;rw[hlen] at b1 hsh hkl;have i1:(0:Int)≤(t:Int):=by omega
  have i2:(t:Int)<(len:Int):=by omega
  obtain⟨tb,rfl,hbl,ht⟩:=h1.tris.get hT;have hi:=index_any tb (t*9) 3 3 [T.v0,T.v1,T.v2] (-1) w1 rfl (by omega) (fun j u hj=>by have h0:=ht.c0;have h1:=ht.c1;have h2:=ht.c2;match j,hj with|0,hj=>simp at hj;subst hj;exact h0|1,hj=>simp at hj;subst hj;exact h1|2,hj=>simp at hj;subst hj;exact h2|_+3,hj=>simp at hj);rw[place_idx] at hi;have hcs:=placeT_cases T (-1);unfold FaceIn at hfa;obtain⟨f,hf⟩:∃f,facesT P T p=f:=⟨_,rfl⟩;rw[hf];unfold facesT at hf;obtain⟨g,hg⟩:∃g,placeT T (-1)=g:=⟨_,rfl⟩;rw[hg] at hi hcs hfa hf;have c0:=pp.c 0 _ rfl;have c1:=pp.c 1 _ rfl;have HI:=Lib.hid hi;have HB1:=Lib.hid hb1;by_cases hneg:g<0
  · have hy:decide (0≤g)=false:=decide_eq_false (by omega);rw[hy,Bool.false_and] at hf;clear h h1 hP hp hT hfa hi hcs hb1 pp hs1 ht hlen hg hsh hkl hbl;subst hf;go_enter Tryz.func108,Tryz.ntmps108;go_wp2_with fail;refine HI.out.mono ?_;rintro e w2 ⟨rfl,rfl⟩;go_wp2;go_ret;exact⟨rfl,HB1.out⟩
  · obtain⟨k,rfl⟩:∃k:Nat,g=(k:Int):=⟨g.toNat,by omega⟩;have hk:k<3:=by omega
    have hy:decide ((0:Int)≤(k:Int))=true:=decide_eq_true (by omega);rw[hy,Bool.true_and,Int.toNat_natCast] at hf;obtain⟨v1,v2⟩:=hfa k rfl;have hs:=wside_any t k T p _ w1 h1 hP hp hT hk v1 v2 rfl;obtain⟨s,hse⟩:∃s,sideT P T k p=s:=⟨_,rfl⟩;rw[hse] at hs hf;have HS:=Lib.hid hs;clear h h1 hP hp hT hfa hi hcs hb1 pp hs1 ht hlen hg hsh hkl hbl hs hse v1 v2;subst hf;go_enter Tryz.func108,Tryz.ntmps108;go_wp2_with fail;refine HI.out.mono ?_;rintro e w2 ⟨rfl,rfl⟩;go_wp2_with fail;refine HS.out.mono ?_;rintro e w3 ⟨rfl,hb3⟩;have HB3:=Lib.hid (HB1.out.trans (hb3.mono HB1.out.size));clear hb3 c0 c1 b0 b1;go_wp2;go_ret;exact⟨rfl,HB3.out⟩
end Go.Proofs.YtammmemfkpcpcaaGreat
namespace Go.MagM
open Go.RowKit
def firstK(f:Nat→Bool):Option Nat:=if f 0=true then some 0 else if f 1=true then some 1 else if f 2=true then some 2 else none
theorem firstK_at{f:Nat→Bool}{k:Nat}(hk:k<3)(hf:f k=true)(hn:∀j,j<k→f j=false):firstK f=some k:=by
  unfold firstK;obtain rfl|rfl|rfl:k=0∨k=1∨k=2:=by omega
  ·rw[if_pos hf]
  ·rw[hn 0 (by omega),if_neg (by decide),if_pos hf]
  ·rw[hn 0 (by omega),hn 1 (by omega),if_neg (by decide),if_neg (by decide),if_pos hf]
theorem firstK_none{f:Nat→Bool}(hn:∀j,j<3→f j=false):firstK f=none:=by unfold firstK;rw[hn 0 (by omega),hn 1 (by omega),hn 2 (by omega)];rfl
def withinT(P:List (Int×Int))(T:TriM)(t:Nat)(p:Int×Int):Int×Int×Int×Int:=match firstK (fun k=>decide (ptA P (T.v k).toNat=p)) with|some k=>(2,(t:Int),T.v k,0)|none=>match firstK (fun k=>decide (sideT P T k p=0)) with|some k=>(1,(t:Int),min (T.v ((k+1)%3)) (T.v ((k+2)%3)),max (T.v ((k+1)%3)) (T.v ((k+2)%3)))|none=>(0,(t:Int),0,0)
def placeV(x:Int×Int×Int×Int):Value:= .agg #[.int .i64 x.1,.int .i64 x.2.1,.int .i64 x.2.2.1,.int .i64 x.2.2.2]
theorem withinT_pt{P:List (Int×Int)}{T:TriM}{t:Nat}{p:Int×Int}{k:Nat}(hk:k<3)(he:ptA P (T.v k).toNat=p)(hn:∀j,j<k→ptA P (T.v j).toNat≠p):withinT P T t p=(2,(t:Int),T.v k,0):=by unfold withinT;rw[firstK_at hk (decide_eq_true he) (fun j hj=>decide_eq_false (hn j hj))]
theorem withinT_edge{P:List (Int×Int)}{T:TriM}{t:Nat}{p:Int×Int}{k:Nat}(hk:k<3)(h0:∀j,j<3→ptA P (T.v j).toNat≠p)(he:sideT P T k p=0)(hn:∀j,j<k→sideT P T j p≠0):withinT P T t p=(1,(t:Int),min (T.v ((k+1)%3)) (T.v ((k+2)%3)),max (T.v ((k+1)%3)) (T.v ((k+2)%3))):=by unfold withinT;rw[firstK_none (fun j hj=>decide_eq_false (h0 j hj)),firstK_at hk (decide_eq_true he) (fun j hj=>decide_eq_false (hn j hj))]
theorem withinT_in{P:List (Int×Int)}{T:TriM}{t:Nat}{p:Int×Int}(h0:∀j,j<3→ptA P (T.v j).toNat≠p)(hn:∀j,j<3→sideT P T j p≠0):withinT P T t p=(0,(t:Int),0,0):=by unfold withinT;rw[firstK_none (fun j hj=>decide_eq_false (h0 j hj)),firstK_none (fun j hj=>decide_eq_false (hn j hj))]
theorem run_equalIn_pair{P:Program}(w:World)(d:Nat)(t e:TypeId)(k:IntKind)(f0 f1:Field)(ht:P.underlying t=some (.struct #[f0,f1]))(hp:P.stoodInHeld t=false)(he:P.underlying e=some (.int k))(ha:∀w,(isAgg e).run P w= .ok false w)(n0:f0.name≠ "_")(n1:f1.name≠ "_")(t0:f0.type=e)(t1:f1.type=e)(o0:f0.offset=0)(o1:f1.offset=1)(a b x y:Int):(Op.equalIn (d+2) t (.agg #[.int k a,.int k b]) (.agg #[.int k x,.int k y])).run P w= .ok (decide (a=x∧b=y)) w:=by
  have hi:∀(a b:Int)(w:World),(Op.equalIn (d+1) e (.int k a) (.int k b)).run P w= .ok (a==b) w:=fun a b w=>run_equalIn_int w d e k k a b he;have hp0:∀(u v:Value)(w:World),(part e #[u,v] 0).run P w= .ok u w:=fun u v w=>by simp[part,ha,Sem.run_bind,Result.andThen]
  have hp1:∀(u v:Value)(w:World),(part e #[u,v] 1).run P w= .ok v w:=fun u v w=>by simp[part,ha,Sem.run_bind,Result.andThen]
  have hf:P.fieldsOf t=#[f0,f1]:=by unfold Program.fieldsOf;rw[ht]
  rw[run_equalIn_struct w (d+1) t _ _ (by rw[hf];exact ht) hp,hf];simp only[Op.eqFields,t0,t1,o0,o1];rw[if_pos n0,if_pos n1];by_cases h1:a=x<;>by_cases h2:b=y<;>simp[h1,h2,hp0,hp1,hi,Sem.run_bind,Result.andThen,Sem.run_pure]
end Go.MagM
namespace Go.Proofs.YtammmemfkpcpcaaGreat
open Go.RowKit Go.MagM
theorem eqPt_run(w:World)(a b x y:Int):Sem.run Tryz.prog (binOp BinOp.eql 24 (Value.agg #[.int .i64 a,.int .i64 b]) (Value.agg #[.int .i64 x,.int .i64 y])) w=Result.ok (Value.bool (decide (a=x∧b=y))) w:=by rw[run_eql_struct,show(10000:Nat)=9998+2 from rfl,run_equalIn_pair w 9998 24 3 .i64 _ _ Tryz.underlying24 (by kernel_rfl) Tryz.underlying3 (fun w=>by kernel_rfl) (by decide) (by decide) rfl rfl rfl rfl];rfl
theorem index3v_run(T:TriM)(i:Nat)(hi:i<3)(w:World):(Instr.index 39 (.agg #[.int .i64 T.v0,.int .i64 T.v1,.int .i64 T.v2]) (.int .i64 (i:Int))).run Tryz.prog w= .ok (.int .i64 (T.v i)) w:=
  index3_run ⟨0, 0, 0, T.v0, T.v1, T.v2, false, false, false⟩ i hi w |>.trans (by obtain rfl|rfl|rfl:i=0∨i=1∨i=2:=by omega
                                                                                  all_goals rfl)
set_option maxRecDepth 100000 in set_option maxHeartbeats 4000000 in theorem wwithin_any{mb pb pc:Nat}{ta:Option Addr}{tc:Nat}{P:List (Int×Int)}{S:List TriM}(t:Nat)(T:TriM)(p:Int×Int)(w:World)(h:MeshR w mb pb pc ta tc P S)(hP:InPs P)(hp:InP p.1∧InP p.2)(hT:S[t]?=some T)(hv:∀i,i<3→InV P (T.v i)):Calls Tryz.prog 89 #[.pointer (some ⟨mb,0,none⟩),.int .i64 (t:Int),.agg #[.int .i64 p.1,.int .i64 p.2]] w fun e w'=>e= .returned (placeV (withinT P T t p))∧Below w.heap.size w w':=by
  obtain⟨w1,hw1,pp,hb1,hs1⟩:=new_box w _ rfl [.int .i64 p.1,.int .i64 p.2] 24;obtain⟨lb,hlb⟩:∃lb,w1.heap.size=lb:=⟨_,rfl⟩;obtain⟨w2,hw2,pl,hb2,hs2⟩:=new_box w1 _ rfl [.int .i64 0,.int .i64 0,.int .i64 0,.int .i64 0] 83;rw[hlb] at pl;obtain⟨vb,hvb⟩:∃vb,w2.heap.size=vb:=⟨_,rfl⟩;obtain⟨w3,hw3,pv,hb3,hs3⟩:=new_box w2 _ rfl [.int .i64 T.v0,.int .i64 T.v1,.int .i64 T.v2] 39;rw[hvb] at pv;have hB2:Below w.heap.size w w2:=hb1.trans (hb2.mono hb1.size);have hB3:Below w.heap.size w w3:=hB2.trans (hb3.mono hB2.size);have pp3:=(pp.below hb2).below hb3;have pl3:=pl.below hb3;have hlw:w.heap.size≤lb:=by rw[←hlb];exact hb1.size
  have hm2:=h.below hB2;have hm3:=h.below hB3;obtain⟨len,hlen⟩:∃len,S.length=len:=⟨_,rfl⟩;have hkl:=(List.getElem?_eq_some_iff.1 hT).1;have e1:=hm2.box.c 1 _ rfl;have hsh:=h.short;rw[hlen] at e1 hkl hsh;obtain⟨tb,rfl,hbl,ht⟩:=hm2.tris.get hT;obtain⟨c0,c1,c2,-,-,-,-,-,-⟩:=ht;have i1:(0:Int)≤(t:Int):=by omega
  have i2:(t:Int)<(len:Int):=by omega
  have hso:∀(i:Nat)(wr:World),i<3→Below w.heap.size w wr→Calls Tryz.prog 87 #[.pointer (some ⟨mb,0,none⟩),.int .i64 (t:Int),.int .i64 (i:Int),.agg #[.int .i64 p.1,.int .i64 p.2]] wr fun e w'=>e= .returned (.int .i64 (sideT P T i p))∧Below wr.heap.size wr w':=fun i wr hi hb=>wside_any t i T p _ wr (h.below hb) hP hp hT hi (hv _ (Nat.mod_lt _ (by omega))) (hv _ (Nat.mod_lt _ (by omega))) rfl;have hpts:∀(i:Nat)(wr:World),i<3→Below w3.heap.size w3 wr→∃a:Nat,T.v i=(a:Int)∧a<P.length∧wr.cell? ⟨mb,0,none⟩=some (.slice (some ⟨pb,0,none⟩) P.length pc)∧wr.cell? ⟨pb,a*2,none⟩=some (.int .i64 (ptA P a).1)∧wr.cell? ⟨pb,a*2+1,none⟩=some (.int .i64 (ptA P a).2)∧wr.cell? ⟨w.heap.size,0,none⟩=some (.int .i64 p.1)∧wr.cell? ⟨w.heap.size,1,none⟩=some (.int .i64 p.2):=by
    intro i wr hi hb;obtain⟨a,ea,la,ga⟩:=(hv i hi).nat;rw[ea,Int.toNat_natCast] at ga;have hm:=hm3.below hb;exact⟨a,ea,la,hm.box.c 0 _ rfl,(hm.pt ga).1,(hm.pt ga).2,(pp3.below hb).c 0 _ rfl,(pp3.below hb).c 1 _ rfl⟩
  obtain⟨q,hq⟩:∃q,withinT P T t p=q:=⟨_,rfl⟩;rw[hq];have HQ:=Lib.hid hq;have HSO:=Lib.hid hso;have HPTS:=Lib.hid hpts;have HB3:=Lib.hid hB3;have PL:=Lib.hid pl3;have PV:=Lib.hid pv;have PP:=Lib.hid pp3;have HLW:=Lib.hid hlw;have HVV:=Lib.hid hv;have q0:=pv.c 0 _ rfl;have q1:=pv.c 1 _ rfl;have q2:=pv.c 2 _ rfl;clear h hP hp hT hq hso hpts hB3 pl3 pv pp3 hlw hb1 hb2 hb3 hs1 hs2 hs3 pp pl hB2 hm2 hm3 hlen hkl hbl hv;go_enter Tryz.func89,Tryz.ntmps89;go_wp2;clear c0 c1 c2 e1 q0 q1 q2;go_loopw [9,22] (fun _ iv wr=>∃i:Nat,i≤3∧iv= .int .i64 (i:Int)∧Below w3.heap.size w3 wr∧∀j,j<i→ptA P (T.v j).toNat≠p) (fun _ iv _=>3-(intOf iv).toNat);case atStart=>exact⟨0,by omega,rfl,Below.refl _ _,fun j hj=>absurd hj (by omega)⟩
  case round=>
    obtain⟨i,hi,rfl,hbw,hall⟩:=hrel;have HBW:=Lib.hid hbw;have HALL:=Lib.hid hall;clear hbw hall;by_cases hlt:i<3
    · have hyd:decide ((i:Int)<3)=true:=decide_eq_true (by omega);obtain⟨a,ea,la,d0,d1,d2,d3,d4⟩:=HPTS.out i wr hlt HBW.out;have ir:=fun w=>index3v_run T i hlt w;rw[ea] at ir;obtain⟨pn,hpn⟩:∃pn,P.length=pn:=⟨_,rfl⟩;rw[hpn] at d0 la;have i3:(0:Int)≤(a:Int):=by omega
      have i4:(a:Int)<(pn:Int):=by omega
      obtain⟨⟨a0,a1⟩,hpa⟩:∃q,ptA P a=q:=⟨_,rfl⟩;rw[hpa] at d1 d2;have HEA:=Lib.hid ea;have HPA:=Lib.hid hpa;clear ea hpa hpn;by_cases hqq:a0=p.1∧a1=p.2
      · have heq:∀w:World,Sem.run Tryz.prog (binOp BinOp.eql 24 (Value.agg #[.int .i64 a0,.int .i64 a1]) (Value.agg #[.int .i64 p.1,.int .i64 p.2])) w=Result.ok (Value.bool true) w:=fun w=>by rw[eqPt_run,decide_eq_true hqq]
        have HQQ:=Lib.hid hqq;clear hqq;go_wp2;go_quiet (fail);clear d0 d1 d2 d3 d4 ir heq;have hbq:=HBW.out.trans ((Drew.below ⟨nq,rfl⟩:Below wr.heap.size wr (wr.drewN nq)).mono HBW.out.size);have plq:=PL.out.below hbq;obtain⟨wz,hwz⟩:∃wz,setAll (wr.drewN nq) lb 0 [.int .i64 2,.int .i64 (t:Int),.int .i64 (a:Int),.int .i64 0]=wz:=⟨_,rfl⟩;have pz:Box wz lb [.int .i64 2,.int .i64 (t:Int),.int .i64 (a:Int),.int .i64 0]:=by rw[←hwz];exact plq.setAll [.int .i64 2,.int .i64 (t:Int),.int .i64 (a:Int),.int .i64 0] rfl
        have hbz:Below w.heap.size w wz:=by rw[←hwz];exact below_setAll (HB3.out.trans (hbq.mono HB3.out.size)) HLW.out _
        have z0:=pz.c 0 _ rfl;have z1:=pz.c 1 _ rfl;have z2:=pz.c 2 _ rfl;have z3:=pz.c 3 _ rfl;have o0:=plq.c 0 _ rfl;have o1:=plq.c 1 _ rfl;have o2:=plq.c 2 _ rfl;have o3:=plq.c 3 _ rfl;have g0:=plq.f 0 _ rfl;have g1:=plq.f 1 _ rfl;have g2:=plq.f 2 _ rfl;have g3:=plq.f 3 _ rfl;have HWZ:=Lib.hid hwz;have HBZ:=Lib.hid hbz;have HZ0:=Lib.hid z0;have HZ1:=Lib.hid z1;have HZ2:=Lib.hid z2;have HZ3:=Lib.hid z3;clear hbq plq hwz pz hbz z0 z1 z2 z3;go_wp2;clear o0 o1 o2 o3 g0 g1 g2 g3;have z0:=HZ0.out;have z1:=HZ1.out;have z2:=HZ2.out;have z3:=HZ3.out;have hwz:=HWZ.out;simp only[setAll] at hwz;rw[hwz];(try simp only[Exit.inBlock,Exit.then]);refine bodyPost_ret (v:= .agg #[.int .i64 2,.int .i64 (t:Int),.int .i64 (a:Int),.int .i64 0]) ?_ rfl ?_;·simp[results,Tryz.results89,go_sem,z0,z1,z2,z3]
        ·exact⟨by rw[←HQ.out,withinT_pt hlt (by rw[HEA.out,Int.toNat_natCast,HPA.out,HQQ.out.1,HQQ.out.2]) HALL.out,HEA.out];rfl,HBZ.out⟩
      · have heq:∀w:World,Sem.run Tryz.prog (binOp BinOp.eql 24 (Value.agg #[.int .i64 a0,.int .i64 a1]) (Value.agg #[.int .i64 p.1,.int .i64 p.2])) w=Result.ok (Value.bool false) w:=fun w=>by rw[eqPt_run,decide_eq_false hqq]
        have HQQ:=Lib.hid hqq;clear hqq;go_wp2;go_quiet (fail);go_wp2;go_roundw;case rel=>
          refine⟨i+1,by omega,by go_num,HBW.out.trans ((Drew.below ⟨nq,rfl⟩:Below wr.heap.size wr (wr.drewN nq)).mono HBW.out.size),fun j hj=>?_⟩;rcases Nat.lt_or_ge j i with g|g;·exact HALL.out j g
          · obtain rfl:j=i:=by omega
            rw[HEA.out,Int.toNat_natCast,HPA.out];exact fun e=>HQQ.out ⟨congrArg Prod.fst e,congrArg Prod.snd e⟩
        case measure=>simp[intOf];omega
    · have hi3:i=3:=by omega
      have hall3:∀j,j<3→ptA P (T.v j).toNat≠p:=fun j hj=>HALL.out j (by omega);have HALL3:=Lib.hid hall3;clear hall3;have hyo:decide ((i:Int)<3)=false:=decide_eq_false (by omega);clear hi3 HALL;obtain⟨io,rfl⟩:∃io,io=i:=⟨_,rfl⟩;obtain⟨wo,rfl⟩:∃wo,wo=wr:=⟨_,rfl⟩;go_wp2;go_loopw [10,11,12,38] (fun _ _ _ iv wr=>∃i:Nat,i≤3∧iv= .int .i64 (i:Int)∧Below w3.heap.size w3 wr∧∀j,j<i→sideT P T j p≠0) (fun _ _ _ iv _=>3-(intOf iv).toNat);case atStart=>exact⟨0,by omega,rfl,HBW.out,fun j hj=>absurd hj (by omega)⟩
      case round=>
        obtain⟨i,hi,rfl,hbw,hsd⟩:=hrel;have HBR:=Lib.hid hbw;have HSD:=Lib.hid hsd;have hbr:=HB3.out.trans (hbw.mono HB3.out.size);have HBR0:=Lib.hid hbr;clear hbw hsd hbr;by_cases hlt:i<3
        · have hyd:decide ((i:Int)<3)=true:=decide_eq_true (by omega);have c0:=(PP.out.below HBR.out).c 0 _ rfl;have c1:=(PP.out.below HBR.out).c 1 _ rfl;have hs:=HSO.out i wr hlt HBR0.out;obtain⟨s,hse⟩:∃s,sideT P T i p=s:=⟨_,rfl⟩;rw[hse] at hs;have HS:=Lib.hid hs;have HSE:=Lib.hid hse;clear hs hse;by_cases hz:s=0
          · have hyz:(s==0)=true:=by simpa using hz
            have HZ:=Lib.hid hz;have m1:=mod3_one hlt;have m2:=mod3_two hlt;obtain⟨k1,hk1⟩:∃k1,(i+1)%3=k1:=⟨_,rfl⟩;obtain⟨k2,hk2⟩:∃k2,(i+2)%3=k2:=⟨_,rfl⟩;have hk13:k1<3:=by omega
            have hk23:k2<3:=by omega
            rw[hk1] at m1;rw[hk2] at m2;have i7:(0:Int)≤(k1:Int):=by omega
            have i8:(k1:Int)<3:=by omega
            have i9:(0:Int)≤(k2:Int):=by omega
            have i10:(k2:Int)<3:=by omega
            have HK1:=Lib.hid hk1;have HK2:=Lib.hid hk2;clear hz hk1 hk2;go_wp2_with fail;refine HS.out.mono ?_;rintro e w4 ⟨rfl,hb4⟩;have hbq4:=HBR.out.trans (hb4.mono HBR.out.size);have pv4:=PV.out.below hbq4;have y1:=box3_at pv4 hk13;have y2:=box3_at pv4 hk23;have HB4:=Lib.hid hbq4;obtain⟨x1,hx1⟩:∃x1,T.v k1=x1:=⟨_,rfl⟩;obtain⟨x2,hx2⟩:∃x2,T.v k2=x2:=⟨_,rfl⟩;rw[hx1] at y1;rw[hx2] at y2;have HX1:=Lib.hid hx1;have HX2:=Lib.hid hx2;clear hb4 hbq4 pv4 c0 c1 hx1 hx2;go_wp2;go_quiet (fail);clear y1 y2 m1 m2;rcases Int.lt_trichotomy x2 x1 with hle|hle|hle
            · have hbq:=HB4.out.trans ((Drew.below ⟨nq,rfl⟩:Below w4.heap.size w4 (w4.drewN nq)).mono HB4.out.size);have plq:=PL.out.below hbq;obtain⟨wz,hwz⟩:∃wz,setAll (w4.drewN nq) lb 0 [.int .i64 1,.int .i64 (t:Int),.int .i64 x2,.int .i64 x1]=wz:=⟨_,rfl⟩;have pz:Box wz lb [.int .i64 1,.int .i64 (t:Int),.int .i64 x2,.int .i64 x1]:=by rw[←hwz];exact plq.setAll [.int .i64 1,.int .i64 (t:Int),.int .i64 x2,.int .i64 x1] rfl
              have hbz:Below w.heap.size w wz:=by rw[←hwz];exact below_setAll (HB3.out.trans (hbq.mono HB3.out.size)) HLW.out _
              have z0:=pz.c 0 _ rfl;have z1:=pz.c 1 _ rfl;have z2:=pz.c 2 _ rfl;have z3:=pz.c 3 _ rfl;have o0:=plq.c 0 _ rfl;have o1:=plq.c 1 _ rfl;have o2:=plq.c 2 _ rfl;have o3:=plq.c 3 _ rfl;have g0:=plq.f 0 _ rfl;have g1:=plq.f 1 _ rfl;have g2:=plq.f 2 _ rfl;have g3:=plq.f 3 _ rfl;have HWZ:=Lib.hid hwz;have HBZ:=Lib.hid hbz;have HZ0:=Lib.hid z0;have HZ1:=Lib.hid z1;have HZ2:=Lib.hid z2;have HZ3:=Lib.hid z3;clear hbq plq hwz pz hbz z0 z1 z2 z3;go_wp2;clear o0 o1 o2 o3 g0 g1 g2 g3;have z0:=HZ0.out;have z1:=HZ1.out;have z2:=HZ2.out;have z3:=HZ3.out;have hwz:=HWZ.out;simp only[setAll] at hwz;rw[hwz];(try simp only[Exit.inBlock,Exit.then]);refine bodyPost_ret (v:= .agg #[.int .i64 1,.int .i64 (t:Int),.int .i64 x2,.int .i64 x1]) ?_ rfl ?_;·simp[results,Tryz.results89,go_sem,z0,z1,z2,z3]
              ·exact⟨by rw[←HQ.out,withinT_edge hlt HALL3.out (by rw[HSE.out,HZ.out]) HSD.out,HK1.out,HK2.out,HX1.out,HX2.out,Int.min_eq_right (by omega),Int.max_eq_left (by omega)];rfl,HBZ.out⟩
            · subst hle;have hbq:=HB4.out.trans ((Drew.below ⟨nq,rfl⟩:Below w4.heap.size w4 (w4.drewN nq)).mono HB4.out.size);have plq:=PL.out.below hbq;obtain⟨wz,hwz⟩:∃wz,setAll (w4.drewN nq) lb 0 [.int .i64 1,.int .i64 (t:Int),.int .i64 x2,.int .i64 x2]=wz:=⟨_,rfl⟩;have pz:Box wz lb [.int .i64 1,.int .i64 (t:Int),.int .i64 x2,.int .i64 x2]:=by rw[←hwz];exact plq.setAll [.int .i64 1,.int .i64 (t:Int),.int .i64 x2,.int .i64 x2] rfl
              have hbz:Below w.heap.size w wz:=by rw[←hwz];exact below_setAll (HB3.out.trans (hbq.mono HB3.out.size)) HLW.out _
              have z0:=pz.c 0 _ rfl;have z1:=pz.c 1 _ rfl;have z2:=pz.c 2 _ rfl;have z3:=pz.c 3 _ rfl;have o0:=plq.c 0 _ rfl;have o1:=plq.c 1 _ rfl;have o2:=plq.c 2 _ rfl;have o3:=plq.c 3 _ rfl;have g0:=plq.f 0 _ rfl;have g1:=plq.f 1 _ rfl;have g2:=plq.f 2 _ rfl;have g3:=plq.f 3 _ rfl;have HWZ:=Lib.hid hwz;have HBZ:=Lib.hid hbz;have HZ0:=Lib.hid z0;have HZ1:=Lib.hid z1;have HZ2:=Lib.hid z2;have HZ3:=Lib.hid z3;clear hbq plq hwz pz hbz z0 z1 z2 z3;go_wp2;clear o0 o1 o2 o3 g0 g1 g2 g3;have z0:=HZ0.out;have z1:=HZ1.out;have z2:=HZ2.out;have z3:=HZ3.out;have hwz:=HWZ.out;simp only[setAll] at hwz;rw[hwz];(try simp only[Exit.inBlock,Exit.then]);refine bodyPost_ret (v:= .agg #[.int .i64 1,.int .i64 (t:Int),.int .i64 x2,.int .i64 x2]) ?_ rfl ?_;·simp[results,Tryz.results89,go_sem,z0,z1,z2,z3]
              ·exact⟨by rw[←HQ.out,withinT_edge hlt HALL3.out (by rw[HSE.out,HZ.out]) HSD.out,HK1.out,HK2.out,HX1.out,HX2.out,Int.min_eq_left (by omega),Int.max_eq_right (by omega)];rfl,HBZ.out⟩
            · have hnl:¬x2<x1:=by omega
              have hbq:=HB4.out.trans ((Drew.below ⟨nq,rfl⟩:Below w4.heap.size w4 (w4.drewN nq)).mono HB4.out.size);have plq:=PL.out.below hbq;obtain⟨wz,hwz⟩:∃wz,setAll (w4.drewN nq) lb 0 [.int .i64 1,.int .i64 (t:Int),.int .i64 x1,.int .i64 x2]=wz:=⟨_,rfl⟩;have pz:Box wz lb [.int .i64 1,.int .i64 (t:Int),.int .i64 x1,.int .i64 x2]:=by rw[←hwz];exact plq.setAll [.int .i64 1,.int .i64 (t:Int),.int .i64 x1,.int .i64 x2] rfl
              have hbz:Below w.heap.size w wz:=by rw[←hwz];exact below_setAll (HB3.out.trans (hbq.mono HB3.out.size)) HLW.out _
              have z0:=pz.c 0 _ rfl;have z1:=pz.c 1 _ rfl;have z2:=pz.c 2 _ rfl;have z3:=pz.c 3 _ rfl;have o0:=plq.c 0 _ rfl;have o1:=plq.c 1 _ rfl;have o2:=plq.c 2 _ rfl;have o3:=plq.c 3 _ rfl;have g0:=plq.f 0 _ rfl;have g1:=plq.f 1 _ rfl;have g2:=plq.f 2 _ rfl;have g3:=plq.f 3 _ rfl;have HWZ:=Lib.hid hwz;have HBZ:=Lib.hid hbz;have HZ0:=Lib.hid z0;have HZ1:=Lib.hid z1;have HZ2:=Lib.hid z2;have HZ3:=Lib.hid z3;clear hbq plq hwz pz hbz z0 z1 z2 z3;go_wp2;clear o0 o1 o2 o3 g0 g1 g2 g3;have z0:=HZ0.out;have z1:=HZ1.out;have z2:=HZ2.out;have z3:=HZ3.out;have hwz:=HWZ.out;simp only[setAll] at hwz;rw[hwz];(try simp only[Exit.inBlock,Exit.then]);refine bodyPost_ret (v:= .agg #[.int .i64 1,.int .i64 (t:Int),.int .i64 x1,.int .i64 x2]) ?_ rfl ?_;·simp[results,Tryz.results89,go_sem,z0,z1,z2,z3]
              ·exact⟨by rw[←HQ.out,withinT_edge hlt HALL3.out (by rw[HSE.out,HZ.out]) HSD.out,HK1.out,HK2.out,HX1.out,HX2.out,Int.min_eq_left (by omega),Int.max_eq_right (by omega)];rfl,HBZ.out⟩
          · have hyz:(s==0)=false:=by simpa using hz
            have HZ:=Lib.hid hz;clear hz;go_wp2_with fail;refine HS.out.mono ?_;rintro e w4 ⟨rfl,hb4⟩;have HB4:=Lib.hid (HBR.out.trans (hb4.mono HBR.out.size));clear hb4 c0 c1;go_wp2;go_roundw;case rel=>
              refine⟨i+1,by omega,by go_num,HB4.out,fun j hj=>?_⟩;rcases Nat.lt_or_ge j i with g|g;·exact HSD.out j g
              · obtain rfl:j=i:=by omega
                rw[HSE.out];exact HZ.out
            case measure=>simp[intOf];omega
        · obtain rfl:i=3:=by omega
          have hbq:=HBR.out;have plq:=PL.out.below hbq;obtain⟨wz,hwz⟩:∃wz,setAll wr lb 0 [.int .i64 0,.int .i64 (t:Int),.int .i64 0,.int .i64 0]=wz:=⟨_,rfl⟩;have pz:Box wz lb [.int .i64 0,.int .i64 (t:Int),.int .i64 0,.int .i64 0]:=by rw[←hwz];exact plq.setAll [.int .i64 0,.int .i64 (t:Int),.int .i64 0,.int .i64 0] rfl
          have hbz:Below w.heap.size w wz:=by rw[←hwz];exact below_setAll (HB3.out.trans (hbq.mono HB3.out.size)) HLW.out _
          have z0:=pz.c 0 _ rfl;have z1:=pz.c 1 _ rfl;have z2:=pz.c 2 _ rfl;have z3:=pz.c 3 _ rfl;have o0:=plq.c 0 _ rfl;have o1:=plq.c 1 _ rfl;have o2:=plq.c 2 _ rfl;have o3:=plq.c 3 _ rfl;have g0:=plq.f 0 _ rfl;have g1:=plq.f 1 _ rfl;have g2:=plq.f 2 _ rfl;have g3:=plq.f 3 _ rfl;have HWZ:=Lib.hid hwz;have HBZ:=Lib.hid hbz;have HZ0:=Lib.hid z0;have HZ1:=Lib.hid z1;have HZ2:=Lib.hid z2;have HZ3:=Lib.hid z3;clear hbq plq hwz pz hbz z0 z1 z2 z3;go_wp2;clear o0 o1 o2 o3 g0 g1 g2 g3;have z0:=HZ0.out;have z1:=HZ1.out;have z2:=HZ2.out;have z3:=HZ3.out;have hwz:=HWZ.out;simp only[setAll] at hwz;rw[hwz];(try simp only[Exit.inBlock,Exit.then]);refine bodyPost_ret (v:= .agg #[.int .i64 0,.int .i64 (t:Int),.int .i64 0,.int .i64 0]) ?_ rfl ?_;·simp[results,Tryz.results89,go_sem,z0,z1,z2,z3]
          ·exact⟨by rw[←HQ.out,withinT_in HALL3.out HSD.out];rfl,HBZ.out⟩
end Go.Proofs.YtammmemfkpcpcaaGreat
