import Derived.Test.YtdmfbkhafnkcfaaGreatParts
import Derived.Test.YtdmfbkhafnkcfaaGreatParto
import Derived.Test.YtdmfbkhafnkcfaaGreatParth
import Derived.Test.YtdmfbkhafnkcfaaGreatPartl
import Derived.Test.YtdmfbkhafnkcfaaGreatPartr
import Derived.Test.YtdmfbkhafnkcfaaGreatPartg
import Derived.BigQuiet
import Derived.Deep.QuietTactic
import Derived.Test.YtdmfbkhafnkcfaaGreatPartj
import Derived.RangeFuncNested
import Derived.RangeFuncBound
import Derived.RangeFuncCalls
import Derived.RangeFuncLeaves
import Derived.Test.YtdmfbkhafnkcfaaGreatPartk
import Derived.Test.YtdmfbkhafnkcfaaGreatPartp
import Derived.Test.YtdmfbkhafnkcfaaGreatWalkSk
import Derived.Test.YtdmfbkhafnkcfaaGreatParti
import Derived.Test.YtdmfbkhafnkcfaaGreatPartd
import Derived.Test.YtdmfbkhafnkcfaaGreatPartf
import Derived.Deep.DeepCutAuto
import Derived.Deep.CutBlock
import Derived.Deep.LoopGhost
set_option linter.unusedSimpArgs false
set_option linter.unusedVariables false
namespace Go.MagM
open Go.Proofs.YtdmfbkhafnkcfaaGreat
section
variable{P:List (Int×Int)}{S:List TriM}{t u i j k:Nat}
theorem slot_at(ht:t<S.length):∃T,S[t]?=some T∧(∀k,k<3→T.v k=vA S t k)∧(∀k,k<3→T.f k=fA S t k):=by
  have hT:S[t]?=some S[t]:=List.getElem?_eq_getElem ht;refine⟨S[t],hT,fun k hk=>?_,fun k hk=>?_⟩;·unfold vA;rw[hT];simp only[];rw[Nat.mod_eq_of_lt hk]
  ·unfold fA;rw[hT];simp only[];rw[Nat.mod_eq_of_lt hk]
theorem slot_n{n:Nat}(hN:Net n S){T:TriM}(hT:S[t]?=some T)(hk:k<3):T.n k=((nA S t k:Nat):Int):=by have h0:=hN.nn t T hT k hk;unfold nA;rw[hT];simp only[];rw[Nat.mod_eq_of_lt hk];omega
theorem not_gone{T:TriM}(h:∀t,¬GoneAt S t)(hT:S[t]?=some T):goneB T=false:=by rw[←Bool.not_eq_true];intro hg;refine h t ?_;unfold GoneAt rdV;rw[hT];simp only[Option.map_some,Option.some.injEq];exact gone_iff.1 hg
theorem placeT_real{T:TriM}(h:∀k,k<3→T.v k≠-1):placeT T (-1)=-1:=by have h0:=h 0 (by omega);have h1:=h 1 (by omega);have h2:=h 2 (by omega);unfold placeT;rw[if_neg (fun e=>h0 e.symm),if_neg (fun e=>h1 e.symm),if_neg (fun e=>h2 e.symm)]
theorem placeT_ghost{T:TriM}(hk:k<3)(h:T.v k=-1)(hn:∀j,j<3→T.v j=-1→j=k):placeT T (-1)=(k:Int):=by
  unfold placeT;obtain rfl|rfl|rfl:k=0∨k=1∨k=2:=by omega
  ·rw[if_pos (show-1=T.v0 from h.symm)];rfl
  ·rw[if_neg (fun e=>by have:=hn 0 (by omega) (show T.v 0=-1 from e.symm);omega),if_pos (show-1=T.v1 from h.symm)];rfl
  ·rw[if_neg (fun e=>by have:=hn 0 (by omega) (show T.v 0=-1 from e.symm);omega),if_neg (fun e=>by have:=hn 1 (by omega) (show T.v 1=-1 from e.symm);omega),if_pos (show-1=T.v2 from h.symm)];rfl
theorem place_gh{n:Nat}(hN:Net n S)(hal:∀t,¬GoneAt S t)(ht:t<S.length)(hk:k<3)(h:vA S t k=-1):placeM S (t:Int) (-1)=(k:Int):=by obtain⟨T,hT,hv,-⟩:=slot_at ht;unfold placeM;rw[getT_nat,hT];simp only[];rw[not_gone hal hT,if_neg (by decide)];refine placeT_ghost hk (by rw[hv k hk];exact h) fun j hj e=>?_;rw[hv j hj,←h] at e;have:=hN.corner ht e;omega
theorem place_re(hal:∀t,¬GoneAt S t)(ht:t<S.length)(h:∀k,vA S t k≠-1):placeM S (t:Int) (-1)=-1:=by obtain⟨T,hT,hv,-⟩:=slot_at ht;unfold placeM;rw[getT_nat,hT];simp only[];rw[not_gone hal hT,if_neg (by decide)];exact placeT_real fun k hk=>by rw[hv k hk];exact h k
theorem getP_of{v:Int}(h:0≤v∧v<P.length):getP P v=some (ptV P v):=by unfold getP;rw[if_pos h.1];unfold ptV ptA;rw[List.getElem?_eq_getElem (by omega)];rfl
theorem Tidy.okAllT(h:Tidy P S){T:TriM}(hT:S[t]?=some T):okT P S t T=true:=by
  have hN:=h.geo.net;have ht:=(List.getElem?_eq_some_iff.1 hT).1;obtain⟨T',hT',hv,hf⟩:=slot_at ht;rw[hT] at hT';cases hT';unfold okT;rw[Bool.or_eq_true,Bool.and_eq_true];right;constructor
  · unfold formedT;by_cases hr:∀k,vA S t k≠-1
    · rw[if_pos (placeT_real fun k hk=>by rw[hv k hk];exact hr k),decide_eq_true_eq];have inv:∀k,k<3→0≤T.v k∧T.v k<P.length:=fun k hk=>by
        rw[hv k hk];rcases hN.rng t ht k with e|e;·exact absurd e (hr k)
        ·exact e
      unfold turnM;rw[getP_of (show 0≤T.v0∧T.v0<P.length from inv 0 (by omega)),getP_of (show 0≤T.v1∧T.v1<P.length from inv 1 (by omega)),getP_of (show 0≤T.v2∧T.v2<P.length from inv 2 (by omega))];simp only[];rw[sign_gt];have:=h.geo.pos t ht hr;rw[qA_is,qA_is,qA_is,←hv 0 (by omega),←hv 1 (by omega),←hv 2 (by omega)] at this;exact this
    · obtain⟨g,hg⟩:∃g,vA S t g=-1:=Classical.byContradiction fun hn=>hr fun m hm=>hn ⟨m,hm⟩;have hg3:g%3<3:=Nat.mod_lt _ (by omega);have hg':vA S t (g%3)=-1:=by rw[vA_mod];exact hg
      have hpl:=placeT_ghost (T:=T) hg3 (by rw[hv _ hg3];exact hg') fun j hj e=>by
        rw[hv j hj,←hg'] at e;have:=hN.corner ht e;omega
      have hreal:realM S ((nA S t (g%3):Nat):Int)=true:=by
        obtain⟨j,j0,-⟩:=hN.mate t ht (g%3);obtain⟨U,hU,hvu,-⟩:=slot_at j0;unfold realM;rw[getT_nat,hU];simp only[];unfold realT;rw[decide_eq_true_eq];have:=fun k (hk:k<3)=>hN.nonneg j0 (hN.gr t ht (g%3) hg' k);have e:=fun k (hk:k<3)=>hvu k hk;refine⟨?_,?_,?_⟩;·have:=this 0 (by omega);rw[←e 0 (by omega)] at this;exact this
        ·have:=this 1 (by omega);rw[←e 1 (by omega)] at this;exact this
        ·have:=this 2 (by omega);rw[←e 2 (by omega)] at this;exact this
      obtain⟨q1,q2⟩:=hN.gf t ht (g%3) hg';rw[hpl];have e3:g%3=0∨g%3=1∨g%3=2:=by omega
      have n0:=slot_n hN hT (show 0<3 by omega);have n1:=slot_n hN hT (show 1<3 by omega);have n2:=slot_n hN hT (show 2<3 by omega);have f0:=hf 0 (by omega);have f1:=hf 1 (by omega);have f2:=hf 2 (by omega);simp only[TriM.n] at n0 n1 n2;simp only[TriM.f] at f0 f1 f2;rcases e3 with e|e|e
      · rw[e] at hreal q1 q2⊢;rw[if_neg (by decide),if_pos (by decide),n0,hreal,f1,f2,q1,q2];rfl
      · rw[e] at hreal q1 q2⊢;rw[fA_eq S t (show(1+2)%3=0%3 by omega)] at q2;rw[if_neg (by decide),if_neg (by decide),if_pos (by decide),n1,hreal,f2,f0,q1,q2];rfl
      · rw[e] at hreal q1 q2⊢;rw[fA_eq S t (show(2+1)%3=0%3 by omega)] at q1;rw[fA_eq S t (show(2+2)%3=1%3 by omega)] at q2;rw[if_neg (by decide),if_neg (by decide),if_neg (by decide),n2,hreal,f0,f1,q1,q2];rfl
  · refine linkedT_yes fun i hi=>?_;obtain⟨j,j0,m1,m2,m3,m4⟩:=hN.mate t ht i;obtain⟨U,hU,hvu,hfu⟩:=slot_at j0;have hj3:j%3<3:=Nat.mod_lt _ (by omega);unfold linkI;rw[slot_n hN hT hi,getT_nat,hU];simp only[];have hev:∀k,k<3→edgeV U k=(vA S (nA S t i) (k+1),vA S (nA S t i) (k+2)):=fun k hk=>by rw[edgeV_is _ hk,hvu _ (Nat.mod_lt _ (by omega)),hvu _ (Nat.mod_lt _ (by omega)),vA_mod,vA_mod]
    have heT:edgeV T i=(vA S t (i+1),vA S t (i+2)):=by rw[edgeV_is _ hi,hv _ (Nat.mod_lt _ (by omega)),hv _ (Nat.mod_lt _ (by omega)),vA_mod,vA_mod]
    have hed:edgeT U (edgeV T i).2 (edgeV T i).1=((j%3:Nat):Int):=by
      rw[heT];refine edgeT_hit hj3 ?_ fun k hk e=>?_;·rw[hev _ hj3,vA_eq S _ (show(j%3+1)%3=(j+1)%3 by omega),vA_eq S _ (show(j%3+2)%3=(j+2)%3 by omega),m1,m2]
      · rw[hev _ (by omega),Prod.mk.injEq] at e;have:=hN.corner j0 (e.1.trans m1.symm);omega
    rw[hed,not_gone h.alive hU,Int.toNat_natCast,slot_n hN hU hj3,nA_mod,m3,hfu _ hj3,fA_mod,m4,hf i hi];have:¬(j:Int)%3=-1:=by omega
    simp[this]
end
end Go.MagM
namespace Go.MagM
open Go.Proofs.YtdmfbkhafnkcfaaGreat
def GhA(S:List TriM)(t:Nat):Prop:=t<S.length∧∃i,vA S t i=-1
def gI(S:List TriM)(t:Nat):Nat:=(placeM S (t:Int) (-1)).toNat
def nxG(S:List TriM)(t:Nat):Nat:=nA S t (gI S t+1)
def itG(S:List TriM)(t:Nat):Nat→Nat|0=>t|k+1=>nxG S (itG S t k)
theorem exists_min{p:Nat→Prop}:∀(n:Nat),p n→∃m,p m∧∀k,k<m→¬p k:=by intro n;induction n using Nat.strongRecOn with|_ n ih=>
    intro hn;by_cases h:∃k,k<n∧p k;·obtain⟨k,hk,hp⟩:=h;exact ih k hk hp
    ·exact⟨n,hn,fun k hk hp=>h ⟨k,hk,hp⟩⟩
section
variable{P:List (Int×Int)}{S:List TriM}{t u i j k:Nat}
theorem gI_of(h:Tidy P S)(ht:t<S.length)(hi:vA S t i=-1):gI S t=i%3:=by unfold gI;rw[place_gh h.geo.net h.alive ht (Nat.mod_lt _ (by omega)) (by rw[vA_mod];exact hi),Int.toNat_natCast]
theorem GhA.gi(h:Tidy P S)(hg:GhA S t):gI S t<3∧vA S t (gI S t)=-1∧vA S t (gI S t+1)≠-1∧vA S t (gI S t+2)≠-1:=by
  obtain⟨ht,i,hi⟩:=hg;have e:=gI_of h ht hi;have hv:vA S t (gI S t)=-1:=by rw[e,vA_mod];exact hi
  exact⟨by rw[e];exact Nat.mod_lt _ (by omega),hv,fun x=>h.geo.net.apart t ht _ (hv.trans x.symm),fun x=>h.geo.net.apart2 ht _ (hv.trans x.symm)⟩
theorem nxG_ok(h:Tidy P S)(hg:GhA S t):GhA S (nxG S t)∧vA S (nxG S t) (gI S (nxG S t)+1)=vA S t (gI S t+2):=by obtain⟨g1,g2,g3,g4⟩:=hg.gi h;obtain⟨m,m0,m1,m2,-,-⟩:=h.geo.net.mate t hg.1 (gI S t+1);rw[vA_eq S t (show(gI S t+1+2)%3=gI S t%3 by omega),g2] at m1;have e:=gI_of h m0 m1;refine⟨⟨m0,_,m1⟩,?_⟩;unfold nxG;rw[e,vA_eq S _ (show((m+1)%3+1)%3=(m+2)%3 by omega),m2]
theorem nxG_inj(h:Tidy P S)(ht:GhA S t)(hu:GhA S u)(e:nxG S t=nxG S u):t=u:=by obtain⟨-,a⟩:=nxG_ok h ht;obtain⟨-,b⟩:=nxG_ok h hu;rw[e] at a;obtain⟨-,g2,-⟩:=ht.gi h;obtain⟨-,k2,-⟩:=hu.gi h;refine(h.geo.net.once t u (gI S t+2) (gI S u+2) ht.1 hu.1 (a.symm.trans b) ?_).1;rw[vA_eq S t (show(gI S t+2+1)%3=gI S t%3 by omega),vA_eq S u (show(gI S u+2+1)%3=gI S u%3 by omega),g2,k2]
theorem itG_gh(h:Tidy P S)(hg:GhA S t):∀k,GhA S (itG S t k)|0=>hg|k+1=>(nxG_ok h (itG_gh h hg k)).1
theorem itG_add(t a:Nat):∀b,itG S t (a+b)=itG S (itG S t a) b|0=>rfl|b+1=>by rw[←Nat.add_assoc];show nxG S (itG S t (a+b))=nxG S (itG S (itG S t a) b);rw[itG_add t a b]
theorem itG_cancel(h:Tidy P S)(hg:GhA S t):∀a b,itG S t a=itG S t (a+b)→itG S t b=t|0,b,e=>by rw[Nat.zero_add] at e;exact e.symm|a+1,b,e=>by refine itG_cancel h hg a b (nxG_inj h (itG_gh h hg a) (itG_gh h hg (a+b)) ?_);rw[show a+1+b=(a+b)+1 by omega] at e;exact e
theorem itG_ring(h:Tidy P S)(hg:GhA S t):∃m,1≤m∧m≤S.length∧itG S t m=t∧(∀k,1≤k→k<m→itG S t k≠t)∧((List.range m).map (itG S t)).Nodup:=by
  have hex:∃n,1≤n∧n≤S.length∧itG S t n=t:=by
    refine Classical.byContradiction fun hno=>?_;have hnd:((List.range (S.length+1)).map (itG S t)).Nodup:=by
      rw[List.nodup_iff_pairwise_ne,List.pairwise_map];refine(List.pairwise_lt_range (n:=S.length+1)).imp_of_mem ?_;intro a b ha hb hab e;rw[List.mem_range] at ha hb;have:=itG_cancel h hg a (b-a) (by rw[show a+(b-a)=b by omega];exact e);exact hno ⟨b-a,by omega,by omega,this⟩
    have:=nodup_le (m:=S.length) hnd (fun x hx=>by
      obtain⟨k,-,rfl⟩:=List.mem_map.1 hx;exact(itG_gh h hg k).1);simp at this;omega
  obtain⟨n,hn⟩:=hex;obtain⟨m,⟨m1,m2,m3⟩,hmin⟩:=exists_min (p:=fun n=>1≤n∧n≤S.length∧itG S t n=t) n hn;refine⟨m,m1,m2,m3,fun k k1 k2 e=>hmin k k2 ⟨k1,by omega,e⟩,?_⟩;rw[List.nodup_iff_pairwise_ne,List.pairwise_map];refine(List.pairwise_lt_range (n:=m)).imp_of_mem ?_;intro a b ha hb hab e;rw[List.mem_range] at ha hb;have:=itG_cancel h hg a (b-a) (by rw[show a+(b-a)=b by omega];exact e);exact hmin (b-a) (by omega) ⟨by omega,by omega,this⟩
theorem itG_mod(m:Nat)(hm:itG S t m=t):∀a k,itG S t (a*m+k)=itG S t k|0,k=>by rw[Nat.zero_mul,Nat.zero_add]|a+1,k=>by rw[show(a+1)*m+k=m+(a*m+k) by rw[Nat.succ_mul];omega,itG_add,hm,itG_mod m hm a k]
theorem itG_back{m:Nat}(m1:1≤m)(hm:itG S t m=t)(k:Nat):∃b,itG S (itG S t k) b=t:=by
  have hk:k≤k*m:=by
    have:=Nat.mul_le_mul_left k m1;omega
  exact⟨k*m-k,by rw[←itG_add,show k+(k*m-k)=k*m+0 by omega,itG_mod m hm];rfl⟩
def lowP(a b:Int×Int):Prop:=a.2<b.2∨(a.2=b.2∧b.1<a.1)
theorem low_min(F:Nat→Int×Int):∀m,1≤m→∃k,k<m∧∀j,j<m→F j=F k∨lowP (F k) (F j)
  |0,h=>by omega
  | 1, _ => ⟨0, by omega, fun j hj => by obtain rfl:j=0:=by omega
                                         exact .inl rfl⟩|m+2,_=>by
    obtain⟨k,hk,h⟩:=low_min F (m+1) (by omega);by_cases hl:lowP (F (m+1)) (F k)
    · refine⟨m+1,by omega,fun j hj=>?_⟩;by_cases e:j=m+1;·exact .inl (by rw[e])
      · rcases h j (by omega) with g|g;·rw[g];exact .inr hl
        ·right;unfold lowP at*;omega
    · refine⟨k,by omega,fun j hj=>?_⟩;by_cases e:j=m+1
      · subst e;unfold lowP at hl⊢;by_cases g:(F (m+1)).2=(F k).2
        · by_cases g1:(F (m+1)).1=(F k).1;·exact .inl (Prod.ext g1 g)
          ·right;omega
        ·right;omega
      ·exact h j (by omega)
end
end Go.MagM
namespace Go.MagM
open Go.Proofs.YtdmfbkhafnkcfaaGreat
theorem half_cycle{x y u:Int×Int}(hx:0<x.2∨(x.2=0∧x.1<0))(hy:0<y.2∨(y.2=0∧y.1<0))(hu:0<u.2∨(u.2=0∧u.1<0))(h1:0≤x.1*y.2-x.2*y.1)(h2:0≤y.1*u.2-y.2*u.1)(h3:0≤u.1*x.2-u.2*x.1):x.1*y.2-x.2*y.1=0:=by
  have e:(x.1*y.2-x.2*y.1)*u.2+(y.1*u.2-y.2*u.1)*x.2+(u.1*x.2-u.2*x.1)*y.2=0:=by grind
  have hx2:0≤x.2:=by omega
  have hy2:0≤y.2:=by omega
  have hu2:0≤u.2:=by omega
  have a1:=Int.mul_nonneg h1 hu2;have a2:=Int.mul_nonneg h2 hx2;have a3:=Int.mul_nonneg h3 hy2;rcases hu with hu|⟨hu,hu1⟩;·exact(Int.mul_eq_zero.1 (show(x.1*y.2-x.2*y.1)*u.2=0 by omega)).resolve_right (by omega)
  · rw[hu,Int.zero_mul,Int.sub_zero] at h3;have x0:x.2=0:=by
      refine Classical.byContradiction fun hc=>?_;have:=Int.mul_neg_of_neg_of_pos hu1 (show 0<x.2 by omega);omega
    rw[x0,Int.zero_mul,Int.sub_zero] at h1⊢;have xn:x.1<0:=by omega
    have y0:y.2=0:=by
      refine Classical.byContradiction fun hc=>?_;have:=Int.mul_neg_of_neg_of_pos xn (show 0<y.2 by omega);omega
    rw[y0,Int.mul_zero]
theorem low_half{b w:Int×Int}(h:lowP b w):0<w.2-b.2∨(w.2-b.2=0∧w.1-b.1<0):=by unfold lowP at h;omega
theorem low_of{a b z w:Int×Int}(ha:lowP b a)(hz:lowP b z)(h1:crP b z w≤0)(h2:crP a b w≤0)(h3:crP a b z<0):w=b∨lowP b w:=by
  by_cases hw:lowP w b
  · exfalso;have:=half_cycle (x:=(a.1-b.1,a.2-b.2)) (y:=(z.1-b.1,z.2-b.2)) (u:=(b.1-w.1,b.2-w.2)) (low_half ha) (low_half hz) (low_half hw)
      (by have e:(a.1-b.1)*(z.2-b.2)-(a.2-b.2)*(z.1-b.1)=-crP a b z:=by unfold crP crs;grind
          simp only[];omega)
      (by have e:(z.1-b.1)*(b.2-w.2)-(z.2-b.2)*(b.1-w.1)=-crP b z w:=by unfold crP crs;grind
          simp only[];omega)
      (by have e:(b.1-w.1)*(a.2-b.2)-(b.2-w.2)*(a.1-b.1)=-crP a b w:=by unfold crP crs;grind
          simp only[];omega);have e:(a.1-b.1)*(z.2-b.2)-(a.2-b.2)*(z.1-b.1)=-crP a b z:=by unfold crP crs;grind
    simp only[] at this;omega
  · unfold lowP at*;by_cases e:w.2=b.2
    · by_cases e1:w.1=b.1;·exact .inl (Prod.ext e1 e)
      ·right;omega
    ·right;omega
theorem betw_low{A B Z:Int×Int}(g:Betw A Z B)(la:lowP B A)(lz:lowP B Z):False:=by
  have g0:=g.1;have g1:=g.2;unfold lowP at la lz;unfold dotP at g1;have q1:=la;have q2:=lz;have p2:(B.2-A.2)*(Z.2-B.2)≤0:=Int.mul_nonpos_of_nonpos_of_nonneg (by omega) (by omega);have hpx:0<(B.1-A.1)*(Z.1-B.1):=by omega
  unfold crP crs at g0;by_cases e1:B.2=A.2
  · by_cases e2:Z.2=B.2
    · have:0<B.1-A.1∧Z.1-B.1<0→False:=fun⟨x,y⟩=>by have:=Int.mul_neg_of_pos_of_neg x y;omega
      exact this ⟨by omega,by omega⟩
    · have hz2:0<Z.2-A.2:=by omega
      rw[show B.2-A.2=0 by omega,Int.mul_zero] at g0;have hx:B.1=A.1:=by have:=(Int.mul_eq_zero.1 (show(Z.2-A.2)*(B.1-A.1)=0 by omega)).resolve_left (by omega);omega
      rw[show B.1-A.1=0 by omega,Int.zero_mul] at hpx;omega
  · have ha2:B.2-A.2<0:=by omega
    have e:(Z.1-A.1)*(B.2-A.2)=(Z.2-A.2)*(B.1-A.1):=by omega
    have hs:(B.1-A.1)*(Z.1-B.1)*((B.2-A.2)*(B.2-A.2))=(B.1-A.1)*(B.1-A.1)*((B.2-A.2)*(Z.2-B.2)):=by
      have e':(Z.1-B.1)*(B.2-A.2)=(Z.2-B.2)*(B.1-A.1):=by grind
      have:(B.1-A.1)*(Z.1-B.1)*((B.2-A.2)*(B.2-A.2))=(B.1-A.1)*(B.2-A.2)*((Z.1-B.1)*(B.2-A.2)):=by grind
      rw[this,e'];grind
    have p3:=Int.mul_pos hpx (Int.mul_pos_of_neg_of_neg ha2 ha2);have p4:=Int.mul_nonpos_of_nonneg_of_nonpos (sq_nonneg (B.1-A.1)) p2;omega
section
variable{P:List (Int×Int)}{S:List TriM}{t u i j k:Nat}
def xG(P:List (Int×Int))(S:List TriM)(t:Nat):Int×Int:=qA P S t (gI S t+1)
def yG(P:List (Int×Int))(S:List TriM)(t:Nat):Int×Int:=qA P S t (gI S t+2)
theorem xG_nx(h:Tidy P S)(hg:GhA S t):xG P S (nxG S t)=yG P S t:=by unfold xG yG;rw[qA_is,qA_is,(nxG_ok h hg).2]
theorem conv_g(h:Tidy P S)(hg:GhA S t){w m:Nat}(hw:w<S.length)(hm:vA S w m≠-1):crP (xG P S t) (yG P S t) (qA P S w m)≤0∧¬Betw (xG P S t) (yG P S t) (qA P S w m):=h.geo.conv t (gI S t) hg.1 (hg.gi h).2.1 w m hw hm
theorem xy_ne(h:Tidy P S)(hg:GhA S t):xG P S t≠yG P S t:=fun e=>by obtain⟨-,-,g3,g4⟩:=hg.gi h;exact h.geo.net.apart t hg.1 (gI S t+1) (h.geo.dist hg.1 hg.1 g3 g4 e)
theorem turn_g(h:Tidy P S)(hg:GhA S t):crP (xG P S t) (yG P S t) (yG P S (nxG S t))<0∨Betw (xG P S t) (yG P S (nxG S t)) (yG P S t):=by
  obtain⟨hn,-⟩:=nxG_ok h hg;obtain⟨-,g2,g3,g4⟩:=hg.gi h;obtain⟨-,n2,n3,n4⟩:=hn.gi h;have c1:=conv_g h hg hn.1 n4;have c2:=conv_g h hn hg.1 g3;have hx:=xG_nx h hg;have hne:=xy_ne h hg;have hne2:=xy_ne h hn;rw[hx] at c2 hne2;by_cases hz:crP (xG P S t) (yG P S t) (yG P S (nxG S t))=0
  · right;obtain⟨m,m0,m1,m2,-,-⟩:=h.geo.net.mate t hg.1 (gI S t);have hT:RealA S (nA S t (gI S t)):=⟨m0,h.geo.net.gr t hg.1 _ g2⟩;have hD:=h.geo.pos.at_ hT.1 hT.2 m;have c5:=(conv_g h hn hT.1 (hT.2 m)).1;have r1:qA P S (nA S t (gI S t)) (m+1)=yG P S t:=by unfold yG;rw[qA_is,qA_is,m1]
    have r2:qA P S (nA S t (gI S t)) (m+2)=xG P S t:=by unfold xG;rw[qA_is,qA_is,m2]
    rw[r1,r2] at hD;rw[hx] at c5;have ez:qA P S (nxG S t) (gI S (nxG S t)+2)=yG P S (nxG S t):=rfl;have ex:qA P S t (gI S t+1)=xG P S t:=rfl;rw[ez] at c1;rw[ex] at c2;generalize xG P S t=X at*;generalize yG P S t=Y at*;generalize yG P S (nxG S t)=Z at*;generalize qA P S (nA S t (gI S t)) m=C at*;obtain⟨V,hV⟩:∃V:Int×Int,V=(Y.1-(X.2-Y.2),Y.2+(X.1-Y.1)):=⟨_,rfl⟩;have f0:crP Y V Y=0:=by unfold crP crs;grind
    have hXX:0<(X.1-Y.1)*(X.1-Y.1)+(X.2-Y.2)*(X.2-Y.2):=by
      have q1:=sq_nonneg (X.1-Y.1);have q2:=sq_nonneg (X.2-Y.2);by_cases e:X.1-Y.1=0;·have:=sq_pos (x:=X.2-Y.2) (fun e2=>hne (Prod.ext (by omega) (by omega)));omega
      ·have:=sq_pos e;omega
    have f1:crP Y V X=-((X.1-Y.1)*(X.1-Y.1)+(X.2-Y.2)*(X.2-Y.2)):=by rw[hV];unfold crP crs;grind
    by_cases hl:crP Y V Z≤0
    · exfalso;rcases fold_line (u:=Y) (v:=V) hz f0 (by omega) hl with e|e|e|e;·exact hne2 e.symm
      · subst e;rw[show crP C Y Z=crP Y Z C by unfold crP crs;grind] at hD;omega
      ·exact c1.2 e
      ·exact c2.2 e
    ·exact betw_of (u:=Y) (v:=V) (show crP X Z Y=0 by rw[show crP X Z Y=-crP X Y Z by unfold crP crs;grind,hz];rfl) (by omega) (by omega)
  · left;have:crP (xG P S t) (yG P S t) (yG P S (nxG S t))≤0:=c1.1;omega
theorem ring_low(h:Tidy P S)(hg:GhA S t):∃k,k<S.length∧lowP (xG P S (itG S t k)) (yG P S (itG S t k))∧∀w m,w<S.length→vA S w m≠-1→qA P S w m=xG P S (itG S t k)∨lowP (xG P S (itG S t k)) (qA P S w m):=by
  obtain⟨m,m1,m2,m3,m4,m5⟩:=itG_ring h hg;obtain⟨k,hk,hmin⟩:=low_min (fun k=>xG P S (itG S t k)) m m1;obtain⟨k0,hk0⟩:∃k0,itG S t (k0+1)=itG S t k:=by cases k with
    |zero=>exact⟨m-1,by rw[show m-1+1=m by omega,m3];rfl⟩|succ k=>exact⟨k,rfl⟩
  have any:∀j,∃j',j'<m∧itG S t j=itG S t j':=fun j=>⟨j%m,Nat.mod_lt _ (by omega),by have:=itG_mod m m3 (j/m) (j%m);rw[Nat.mul_comm,Nat.div_add_mod] at this;exact this⟩;have hgk:=itG_gh h hg k;have hg0:=itG_gh h hg k0;have hyk:yG P S (itG S t k)=xG P S (itG S t (k+1)):=(xG_nx h hgk).symm;have hy0:yG P S (itG S t k0)=xG P S (itG S t k):=by rw[←hk0];exact(xG_nx h hg0).symm
  have lz:lowP (xG P S (itG S t k)) (yG P S (itG S t k)):=by
    obtain⟨j',hj',e⟩:=any (k+1);rcases hmin j' hj' with g|g;· exfalso;refine xy_ne h hgk ?_;rw[hyk,e];exact g.symm
    ·rw[hyk,e];exact g
  have la:lowP (xG P S (itG S t k)) (xG P S (itG S t k0)):=by
    obtain⟨j',hj',e⟩:=any k0;rcases hmin j' hj' with g|g
    · exfalso;refine xy_ne h hg0 ?_;rw[hy0,e];exact g
    ·rw[e];exact g
  have ht:=turn_g h hg0;have hnx:nxG S (itG S t k0)=itG S t k:=hk0;rw[hnx,hy0] at ht;have hneg:crP (xG P S (itG S t k0)) (xG P S (itG S t k)) (yG P S (itG S t k))<0:=by
    rcases ht with g|g;·exact g
    · exfalso;exact betw_low g la lz
  refine⟨k,by omega,lz,fun w m' hw hm=>?_⟩;have c1:=(conv_g h hgk hw hm).1;have c2:=(conv_g h hg0 hw hm).1;rw[hy0] at c2;exact low_of la lz c1 c2 hneg
theorem ring_all(h:Tidy P S)(ht:GhA S t)(hu:GhA S u):∃k,itG S t k=u:=by
  obtain⟨k1,-,-,a⟩:=ring_low h ht;obtain⟨k2,-,-,b⟩:=ring_low h hu;have g1:=itG_gh h ht k1;have g2:=itG_gh h hu k2;obtain⟨-,x2,x3,-⟩:=g1.gi h;obtain⟨-,y2,y3,-⟩:=g2.gi h;have e:xG P S (itG S t k1)=xG P S (itG S u k2):=by
    rcases a _ _ g2.1 y3 with p|p;·exact p.symm
    · rcases b _ _ g1.1 x3 with q|q;·exact q
      · exfalso;have p':lowP (xG P S (itG S t k1)) (xG P S (itG S u k2)):=p;have q':lowP (xG P S (itG S u k2)) (xG P S (itG S t k1)):=q;unfold lowP at p' q';omega
  have hv:=h.geo.dist g1.1 g2.1 x3 y3 e;obtain⟨es,-⟩:=h.geo.net.once _ _ _ _ g1.1 g2.1 (x2.trans y2.symm) hv;obtain⟨m,m1,-,m3,-,-⟩:=itG_ring h hu;obtain⟨b',hb'⟩:=itG_back m1 m3 k2;exact⟨k1+b',by rw[itG_add,es,hb']⟩
end
end Go.MagM
namespace Go.MagM
open Go.Proofs.YtdmfbkhafnkcfaaGreat
section
variable{P:List (Int×Int)}{S:List TriM}{t t0 u i j k m:Nat}
theorem bound_x:∀P:List (Int×Int),∃B:Int,∀v∈P,v.1≤B
  |[]=>⟨0,fun v hv=>by cases hv⟩|q::r=>by
    obtain⟨B,h⟩:=bound_x r;refine⟨max B q.1,fun v hv=>?_⟩;rcases List.mem_cons.1 hv with rfl|hv;·omega
    ·have:=h v hv;omega
theorem has_ghost(h:Tidy P S)(hr:RealA S t):∃g,GhA S g:=by
  obtain⟨B,hB⟩:=bound_x P;rcases cover_all h.geo.net h.geo.pos hr (B+1,0) with⟨u,hu,hi⟩|⟨u,i,h1,h2,-⟩
  · exfalso;have hx:∀k,(qA P S u k).1≤B:=fun k=>by
      refine hB _ ?_;have:=h.geo.net.rng u hu.1 k;rcases this with e|⟨e1,e2⟩;·exact absurd e (hu.2 k)
      · unfold qA ptA;rw[List.getElem?_eq_getElem (by omega)];exact List.getElem_mem _
    have e:=crP_tri (qA P S u) (fun _ _ e=>qA_eq P S u e) 0 (B+1,0) (B+1,1) (B+1,0);have f:∀q:Int×Int,crP (B+1,0) (B+1,1) q=B+1-q.1:=fun q=>by unfold crP crs;grind
    rw[f,f,f,f] at e;simp only[Nat.zero_add] at e;have w0:=hi 0;have w1:=hi 1;have w2:=hi 2;simp only[Nat.zero_add,Nat.reduceAdd] at w0 w1 w2;rw[qA_eq P S u (show 3%3=0%3 by omega)] at w1 w2;rw[qA_eq P S u (show 4%3=1%3 by omega)] at w2;have hD:=h.geo.pos.at_ hu.1 hu.2 0;simp only[Nat.zero_add] at hD;have hs:=crP_sum3 (qA P S u 0) (qA P S u 1) (qA P S u 2) (B+1,0);have x0:=hx 0;have x1:=hx 1;have x2:=hx 2;have p0:crP (qA P S u 1) (qA P S u 2) (B+1,0)≤crP (qA P S u 1) (qA P S u 2) (B+1,0)*(B+1-(qA P S u 0).1):=by have:=Int.mul_le_mul_of_nonneg_left (show 1≤B+1-(qA P S u 0).1 by omega) w0;rwa [Int.mul_one] at this
    have p1:crP (qA P S u 2) (qA P S u 0) (B+1,0)≤crP (qA P S u 2) (qA P S u 0) (B+1,0)*(B+1-(qA P S u 1).1):=by
      have:=Int.mul_le_mul_of_nonneg_left (show 1≤B+1-(qA P S u 1).1 by omega) w1;rwa [Int.mul_one] at this
    have p2:crP (qA P S u 0) (qA P S u 1) (B+1,0)≤crP (qA P S u 0) (qA P S u 1) (B+1,0)*(B+1-(qA P S u 2).1):=by have:=Int.mul_le_mul_of_nonneg_left (show 1≤B+1-(qA P S u 2).1 by omega) w2;rwa [Int.mul_one] at this
    rw[show B+1-(B+1)=0 by omega,Int.mul_zero] at e;omega
  ·exact⟨u,h1,i,h2⟩
theorem gh_place(h:Tidy P S)(hg:GhA S t):placeM S (t:Int) (-1)=((gI S t:Nat):Int):=by obtain⟨g1,g2,-⟩:=hg.gi h;exact place_gh h.geo.net h.alive hg.1 g1 g2
theorem step_g(h:Tidy P S)(hg:GhA S t):stepM S (-1) (t:Int)=((nxG S t:Nat):Int):=by
  obtain⟨T,hT,-,-⟩:=slot_at hg.1;have hp:placeT T (-1)=((gI S t:Nat):Int):=by
    have:=gh_place h hg;unfold placeM at this;rw[getT_nat,hT] at this;simp only[] at this;rw[not_gone h.alive hT,if_neg (by decide)] at this;exact this
  unfold stepM;rw[getT_nat,hT];simp only[];rw[hp,Int.toNat_natCast,slot_n h.geo.net hT (Nat.mod_lt _ (by omega)),nA_mod];rfl
theorem walk_ring(h:Tidy P S)(hg:GhA S t0)(hm:itG S t0 m=t0)(hmin:∀k,1≤k→k<m→itG S t0 k≠t0):∀j k,k+j=m→1≤j→∀N,j≤N→walkM S (-1) (t0:Int) N ((itG S t0 k:Nat):Int)=(List.range' k j).map (fun k=>(itG S t0 k,gI S (itG S t0 k)))
  |0,_,_,h1,_,_=>by omega|j+1,k,hk,_,0,hN=>by omega|j+1,k,hk,_,N+1,hN=>by
    have hgk:=itG_gh h hg k;have hp:=gh_place h hgk;rw[walkM,if_neg (by rw[hp];omega),hp,step_g h hgk,Int.toNat_natCast,Int.toNat_natCast,List.range'_succ,List.map_cons];congr 1;cases j with
    |zero=>
      rw[if_pos];·rfl
      · show((itG S t0 (k+1):Nat):Int)=_;rw[show k+1=m by omega,hm]|succ j=>
      rw[if_neg];·exact walk_ring h hg hm hmin (j+1) (k+1) (by omega) (by omega) N (by omega)
      · intro e;have e':((itG S t0 (k+1):Nat):Int)=(t0:Int):=e;exact hmin (k+1) (by omega) (by omega) (by omega)
theorem gh_count(h:Tidy P S):∀n,n≤S.length→ghN S n=((List.range n).filter (fun t:Nat=>decide (placeM S (t:Int) (-1)≠-1))).length
  |0,_=>rfl|n+1,hn=>by
    rw[List.range_succ,List.filter_append,List.length_append,←gh_count h n (by omega)];by_cases e:placeM S (n:Int) (-1)=-1;·rw[ghN_none e];simp[e]
    ·rw[ghN_some e];simp[e]
theorem cntA_one{hs:List Nat}{i0 n:Nat}(hu:∀i,i<n→(riseC (corC P hs i) (corC P hs (i+1)) (corC P hs (i+2))=true↔i=i0)):∀k,k≤n→cntC P hs k=if i0<k then 1 else 0
  |0,_=>by rw[if_neg (by omega)];rfl|k+1,hk=>by
    rw[cntC,cntA_one hu k (by omega)];have:=hu k (by omega);by_cases e:k=i0;·rw[if_neg (by omega),if_pos (this.2 e),if_pos (by omega)]
    · rw[if_neg (show¬(riseC (corC P hs k) (corC P hs (k+1)) (corC P hs (k+2))=true) from fun x=>e (this.1 x)),Nat.add_zero];by_cases g:i0<k;·rw[if_pos g,if_pos (by omega)]
      ·rw[if_neg g,if_neg (by omega)]
theorem Tidy.border_is(h:Tidy P S)(hr:RealA S t):∃t0 m,GhA S t0∧1≤m∧2≤m∧m≤S.length∧itG S t0 m=t0∧(∀k,1≤k→k<m→itG S t0 k≠t0)∧((List.range m).map (itG S t0)).Nodup∧borderM S=(((List.range m).map (fun k=>(vA S (itG S t0 k) (gI S (itG S t0 k)+1)).toNat)).reverse).map (fun v:Nat=>(v:Int)):=by
  obtain⟨g,hgh⟩:=has_ghost h hr;obtain⟨t0,ht0,hmin0⟩:=exists_min (p:=fun g=>GhA S g) g hgh;obtain⟨m,m1,m2,m3,m4,m5⟩:=itG_ring h ht0;have hfirst:firstM S (-1)=(t0:Int):=by refine firstM_hit ht0.1 (by rw[gh_place h ht0];omega) fun j hj=>?_;refine place_re h.alive (by have:=ht0.1;omega) fun k hk=>hmin0 j hj ⟨by have:=ht0.1;omega,k,hk⟩
  have hm2:2≤m:=by
    refine Classical.byContradiction fun hc=>?_;have e1:m=1:=by omega
    subst e1;have e:nxG S t0=t0:=m3;have:=xG_nx (P:=P) h ht0;rw[e] at this;exact xy_ne h ht0 this
  have hbor:borderM S=(((List.range m).map (fun k=>(vA S (itG S t0 k) (gI S (itG S t0 k)+1)).toNat)).reverse).map (fun v:Nat=>(v:Int)):=by
    unfold borderM;rw[hfirst];have hw:=walk_ring h ht0 m3 m4 m 0 (by omega) m1 S.length m2;rw[show itG S t0 0=t0 from rfl] at hw;rw[hw,List.map_reverse];congr 1;unfold rimZ;rw[List.map_map,List.map_map,←List.range_eq_range'];refine List.map_congr_left fun k hk=>?_;have hgk:=itG_gh h ht0 k;obtain⟨T,hT,hv,-⟩:=slot_at hgk.1;have hn:=h.geo.net.nonneg hgk.1 (hgk.gi h).2.2.1;simp only[Function.comp_apply];unfold vAt;rw[hT];simp only[];rw[hv _ (Nat.mod_lt _ (by omega)),vA_mod];omega
  exact⟨t0,m,ht0,m1,hm2,m2,m3,m4,m5,hbor⟩
theorem Tidy.sound(h:Tidy P S)(hr:RealA S t):SoundIs P S true:=by
  obtain⟨t0,m,ht0,m1,hm2,m2,m3,m4,m5,hbor⟩:=h.border_is hr;obtain⟨hs,hhs⟩:∃hs,((List.range m).map (fun k=>(vA S (itG S t0 k) (gI S (itG S t0 k)+1)).toNat)).reverse=hs:=⟨_,rfl⟩;have hlen:hs.length=m:=by rw[←hhs];simp
  rw[hhs] at hbor;have inP:∀k,0≤vA S (itG S t0 k) (gI S (itG S t0 k)+1)∧vA S (itG S t0 k) (gI S (itG S t0 k)+1)<P.length:=fun k=>by
    have hgk:=itG_gh h ht0 k;rcases h.geo.net.rng _ hgk.1 (gI S (itG S t0 k)+1) with e|e;·exact absurd e (hgk.gi h).2.2.1
    ·exact e
  have per:∀k,itG S t0 (m+k)=itG S t0 k:=fun k=>by have:=itG_mod m m3 1 k;rwa [Nat.one_mul] at this
  have hnat:∀i,i<m→natA hs i=(vA S (itG S t0 (m-1-i)) (gI S (itG S t0 (m-1-i))+1)).toNat:=fun i hi=>by
    unfold natA;rw[←hhs,List.getElem?_reverse (by simp;exact hi)];simp only[List.length_map,List.length_range,List.getElem?_map];rw[List.getElem?_range (by omega)];rfl
  have hcor:∀i,i<2*m→corC P hs i=xG P S (itG S t0 (2*m-1-i)):=fun i hi=>by
    unfold corC;rw[hlen];rcases Nat.lt_or_ge i m with g|g;·rw[Nat.mod_eq_of_lt g,hnat i g,show 2*m-1-i=m+(m-1-i) by omega,per];rfl
    · have e:i%m=i-m:=by rw[Nat.mod_eq_sub_mod g,Nat.mod_eq_of_lt (by omega)]
      rw[e,hnat _ (by omega),show m-1-(i-m)=2*m-1-i by omega];rfl
  have three:∀i,i<m→∃j,2*m-3-i=j∧corC P hs i=yG P S (nxG S (itG S t0 j))∧corC P hs (i+1)=yG P S (itG S t0 j)∧corC P hs (i+2)=xG P S (itG S t0 j):=fun i hi=>by
    refine⟨_,rfl,?_,?_,?_⟩;· have hn:=nxG_ok h (itG_gh h ht0 (2*m-3-i));rw[hcor i (by omega),←xG_nx h hn.1,show 2*m-1-i=2*m-3-i+1+1 by omega];rfl
    ·rw[hcor (i+1) (by omega),←xG_nx h (itG_gh h ht0 _),show 2*m-1-(i+1)=2*m-3-i+1 by omega];rfl
    ·rw[hcor (i+2) (by omega),show 2*m-1-(i+2)=2*m-3-i by omega]
  refine .inr ⟨rfl,fun k T hT=>h.okAllT hT,?_,?_,hs,hbor,fun v hv=>?_,?_⟩
  · rw[hbor];intro e;have:=congrArg List.length e;rw[List.length_map,hlen,List.length_nil] at this;omega
  · rw[hbor,List.length_map,hlen,gh_count h _ (Nat.le_refl _)];have:((List.range m).map (itG S t0)).Perm ((List.range S.length).filter (fun t:Nat=>decide (placeM S (t:Int) (-1)≠-1))):=by
      rw[List.perm_ext_iff_of_nodup m5 (List.nodup_range.filter _)];intro x;rw[List.mem_filter,List.mem_range,decide_eq_true_eq];constructor
      · intro hx;obtain⟨k,-,rfl⟩:=List.mem_map.1 hx;have hgk:=itG_gh h ht0 k;exact⟨hgk.1,by rw[gh_place h hgk];omega⟩
      · rintro⟨h1,h2⟩;have hgx:GhA S x:=by refine Classical.byContradiction fun hn=>h2 (place_re h.alive h1 fun k hk=>hn ⟨h1,k,hk⟩)
        obtain⟨k,hk⟩:=ring_all h ht0 hgx;refine List.mem_map.2 ⟨k%m,List.mem_range.2 (Nat.mod_lt _ (by omega)),?_⟩;have:=itG_mod m m3 (k/m) (k%m);rw[Nat.mul_comm,Nat.div_add_mod,hk] at this;exact this.symm
    have:=this.length_eq;rw[List.length_map,List.length_range] at this;exact this
  · rw[←hhs,List.mem_reverse] at hv;obtain⟨k,-,rfl⟩:=List.mem_map.1 hv;have:=inP k;omega
  · unfold convexM;rw[Bool.and_eq_true];constructor
    · unfold okAll;rw[List.all_eq_true];intro i hi;rw[List.mem_range,hlen] at hi;obtain⟨j,-,e0,e1,e2⟩:=three i hi;rw[e0,e1,e2];unfold okC;rw[Bool.or_eq_true,decide_eq_true_eq];rcases turn_g h (itG_gh h ht0 j) with x|x
      · left;have:crP (yG P S (nxG S (itG S t0 j))) (yG P S (itG S t0 j)) (xG P S (itG S t0 j))=-crP (xG P S (itG S t0 j)) (yG P S (itG S t0 j)) (yG P S (nxG S (itG S t0 j))):=by unfold crP crs;grind
        have h':0<crP (yG P S (nxG S (itG S t0 j))) (yG P S (itG S t0 j)) (xG P S (itG S t0 j)):=by omega
        exact h'
      · right;unfold betP;exact betw_box.1 x.symm
    · rw[beq_iff_eq,hlen];obtain⟨k0,-,lowL,allL⟩:=ring_low h ht0;have used:∀k,∃w n,w<S.length∧vA S w n≠-1∧qA P S w n=xG P S (itG S t0 k):=fun k=>by
        have hgk:=itG_gh h ht0 k;exact⟨_,_,hgk.1,(hgk.gi h).2.2.1,rfl⟩
      have usedy:∀k,yG P S (itG S t0 k)=xG P S (itG S t0 (k+1)):=fun k=>(xG_nx h (itG_gh h ht0 k)).symm;have allx:∀k,xG P S (itG S t0 k)=xG P S (itG S t0 k0)∨lowP (xG P S (itG S t0 k0)) (xG P S (itG S t0 k)):=fun k=>by
        obtain⟨w,n,h1,h2,h3⟩:=used k;have:=allL w n h1 h2;rwa [h3] at this
      have rise:∀j,(riseC (yG P S (nxG S (itG S t0 j))) (yG P S (itG S t0 j)) (xG P S (itG S t0 j))=true↔yG P S (itG S t0 j)=xG P S (itG S t0 k0)):=fun j=>by
        have hgj:=itG_gh h ht0 j;have hgn:=(nxG_ok h hgj).1;have hyx:=xG_nx (P:=P) h hgj;have ne1:=xy_ne h hgj;have ne2:=xy_ne h hgn;rw[hyx] at ne2;unfold riseC;rw[decide_eq_true_eq];constructor
        · rintro⟨r1,r2⟩;have lc:lowP (yG P S (itG S t0 j)) (xG P S (itG S t0 j)):= .inl r2;have hcv:=(conv_g h hgn hgj.1 (hgj.gi h).2.2.1).1;rw[hyx] at hcv;have la:lowP (yG P S (itG S t0 j)) (yG P S (nxG S (itG S t0 j))):=by
            rcases Int.lt_or_eq_of_le r1 with g|g;·exact .inl g
            · right;refine⟨g,?_⟩;have hx:qA P S (itG S t0 j) (gI S (itG S t0 j)+1)=xG P S (itG S t0 j):=rfl;rw[hx] at hcv;unfold crP crs at hcv;rw[show(yG P S (nxG S (itG S t0 j))).2-(yG P S (itG S t0 j)).2=0 by omega,Int.zero_mul,Int.sub_zero] at hcv;refine Classical.byContradiction fun hc=>?_;have hne:(yG P S (nxG S (itG S t0 j))).1≠(yG P S (itG S t0 j)).1:=fun e=>ne2 (Prod.ext e.symm g);have:=Int.mul_pos (show 0<(yG P S (nxG S (itG S t0 j))).1-(yG P S (itG S t0 j)).1 by omega) (show 0<(xG P S (itG S t0 j)).2-(yG P S (itG S t0 j)).2 by omega);omega
          have hneg:crP (xG P S (itG S t0 j)) (yG P S (itG S t0 j)) (yG P S (nxG S (itG S t0 j)))<0:=by
            rcases turn_g h hgj with g|g;·exact g
            ·exact(betw_low g lc la).elim
          obtain⟨w,n,w1,w2,w3⟩:=used k0;have c1:=(conv_g h hgn w1 w2).1;have c2:=(conv_g h hgj w1 w2).1;rw[hyx] at c1;rw[w3] at c1 c2;rcases low_of lc la c1 c2 hneg with g|g;·exact g.symm
          · rcases allx (j+1) with g'|g';·rw[usedy];exact g'
            · exfalso;rw[←usedy] at g';unfold lowP at g g';omega
        · intro e;have a1:=allx (j+2);have ea:yG P S (nxG S (itG S t0 j))=xG P S (itG S t0 (j+2)):=(xG_nx h hgn).symm;rw[←ea] at a1;have c1:=allx j;rw[←e] at a1 c1;have ha:lowP (yG P S (itG S t0 j)) (yG P S (nxG S (itG S t0 j))):=a1.resolve_left fun x=>ne2 x.symm;have hc:lowP (yG P S (itG S t0 j)) (xG P S (itG S t0 j)):=c1.resolve_left ne1;refine⟨by unfold lowP at ha;omega,?_⟩;rcases hc with g|⟨g1,g2⟩;·exact g
          · exfalso;have lv:∀w n,w<S.length→vA S w n≠-1→(qA P S w n).2=(yG P S (itG S t0 j)).2:=fun w n hw hn=>by
              have cv:=(conv_g h hgj hw hn).1;have al:=allL w n hw hn;rw[←e] at al;unfold crP crs at cv;rw[show(yG P S (itG S t0 j)).2-(xG P S (itG S t0 j)).2=0 by omega,Int.zero_mul,Int.sub_zero] at cv;have:(qA P S w n).2≤(xG P S (itG S t0 j)).2:=by
                refine Classical.byContradiction fun hc=>?_;have:=Int.mul_pos (show 0<(yG P S (itG S t0 j)).1-(xG P S (itG S t0 j)).1 by omega) (show 0<(qA P S w n).2-(xG P S (itG S t0 j)).2 by omega);omega
              rcases al with x|x;·rw[x]
              ·unfold lowP at x;omega
            have hD:=h.geo.pos t hr.1 hr.2;have l0:=lv t 0 hr.1 (hr.2 0);have l1:=lv t 1 hr.1 (hr.2 1);have l2:=lv t 2 hr.1 (hr.2 2);unfold crP crs at hD;rw[show(qA P S t 2).2-(qA P S t 0).2=0 by omega,show(qA P S t 1).2-(qA P S t 0).2=0 by omega] at hD;simp at hD
      have hx_inj:∀a b,a<m→b<m→xG P S (itG S t0 a)=xG P S (itG S t0 b)→a=b:=fun a b ha hb e=>by
        have ga:=itG_gh h ht0 a;have gb:=itG_gh h ht0 b;obtain⟨-,x2,x3,-⟩:=ga.gi h;obtain⟨-,y2,y3,-⟩:=gb.gi h;have hv:=h.geo.dist ga.1 gb.1 x3 y3 e;obtain⟨es,-⟩:=h.geo.net.once _ _ _ _ ga.1 gb.1 (x2.trans y2.symm) hv;have la:((List.range m).map (itG S t0))[a]?=some (itG S t0 a):=by rw[List.getElem?_map,List.getElem?_range ha];rfl
        have lb:((List.range m).map (itG S t0))[b]?=some (itG S t0 b):=by rw[List.getElem?_map,List.getElem?_range hb];rfl
        exact(List.getElem?_inj (by simp;exact ha) m5).1 (by rw[la,lb,es])
      obtain⟨k1,hk1,ek1⟩:∃k1,k1<m∧itG S t0 k1=itG S t0 k0:=⟨k0%m,Nat.mod_lt _ (by omega),by
        have:=itG_mod m m3 (k0/m) (k0%m);rw[Nat.mul_comm,Nat.div_add_mod] at this;exact this.symm⟩;obtain⟨i0,hi0,hi0'⟩:∃i0,i0<m∧(2*m-2-i0=k1∨2*m-2-i0=m+k1):=by
        by_cases e:k1=m-1;·exact⟨m-1,by omega,.inl (by omega)⟩
        ·exact⟨m-2-k1,by omega,.inr (by omega)⟩
      have hone:=cntA_one (P:=P) (hs:=hs) (i0:=i0) (n:=m) (fun i hi=>by
        obtain⟨j,ej,e0,e1,e2⟩:=three i hi;rw[e0,e1,e2,rise,usedy,←ek1];have red:∃c,c<m∧itG S t0 (j+1)=itG S t0 c∧(2*m-2-i=c∨2*m-2-i=m+c):=by
          rcases Nat.lt_or_ge (2*m-2-i) m with g|g;·exact⟨2*m-2-i,g,by rw[show j+1=2*m-2-i by omega],.inl rfl⟩
          ·exact⟨2*m-2-i-m,by omega,by have:=per (2*m-2-i-m);rw[show m+(2*m-2-i-m)=j+1 by omega] at this;exact this,.inr (by omega)⟩
        obtain⟨c,hc,ec,hcc⟩:=red;rw[ec];constructor;· intro e;have:=hx_inj c k1 hc hk1 e;omega
        · intro e;have:c=k1:=by omega
          rw[this]) m (Nat.le_refl _);rw[hone,if_pos hi0]
end
end Go.MagM
namespace Go.MagM
open Go.Proofs.YtdmfbkhafnkcfaaGreat
section
variable{P:List (Int×Int)}{S:List TriM}{p:Int×Int}{t u i j k:Nat}{x:Int×Int×Int×Int}
theorem realT_iff(h:Tidy P S){T:TriM}(hT:S[t]?=some T):realT T=true↔RealA S t:=by
  have ht:=(List.getElem?_eq_some_iff.1 hT).1;obtain⟨T',hT',hv,-⟩:=slot_at ht;rw[hT] at hT';cases hT';unfold realT;rw[decide_eq_true_eq];constructor
  · rintro⟨h0,h1,h2⟩;refine⟨ht,fun k=>?_⟩;rw[←vA_mod];have hk:k%3<3:=Nat.mod_lt _ (by omega);rw[←hv _ hk];obtain e|e|e:k%3=0∨k%3=1∨k%3=2:=by omega
    ·rw[e];simp only[TriM.v];omega
    ·rw[e];simp only[TriM.v];omega
    ·rw[e];simp only[TriM.v];omega
  · intro hr;have hn:=fun k=>h.geo.net.nonneg ht (hr.2 k);have n0:=hn 0;have n1:=hn 1;have n2:=hn 2;rw[←hv 0 (by omega)] at n0;rw[←hv 1 (by omega)] at n1;rw[←hv 2 (by omega)] at n2;exact⟨n0,n1,n2⟩
inductive Told(P:List (Int×Int))(S:List TriM)(p:Int×Int):Int×Int×Int×Int→Prop|point{t:Nat}{w:Int}:0≤w→UsedA S w→ptV P w=p→Told P S p (2,(t:Int),w,0)|inside{t:Nat}:RealA S t→InO P S t p→Told P S p (0,(t:Int),0,0)|edge{t k:Nat}:k<3→RealA S t→OnE P S t k p→Told P S p (1,(t:Int),min (vA S t (k+1)) (vA S t (k+2)),max (vA S t (k+1)) (vA S t (k+2)))|out{u j:Nat}:Fac P S p u j→Told P S p (3,(u:Int),0,0)
theorem told_within(h:Tidy P S){T:TriM}(hT:S[t]?=some T)(hr:realT T=true)(hh:holdsT P T p=true):Told P S p (withinT P T t p):=by
  have hR:=(realT_iff h hT).1 hr;have hi:=(inC_holds hT).1 hh;obtain⟨T',hT',hv,-⟩:=slot_at hR.1;rw[hT] at hT';cases hT';have hq:∀k,k<3→ptA P (T.v k).toNat=qA P S t k:=fun k hk=>by rw[hv k hk];rfl
  have hs:∀k,k<3→(sideT P T k p=0↔crP (qA P S t (k+1)) (qA P S t (k+2)) p=0):=fun k hk=>by
    rw[sideT_is,sign_zero];unfold ptT;rw[hq _ (Nat.mod_lt _ (by omega)),hq _ (Nat.mod_lt _ (by omega)),qA_eq P S t (Nat.mod_mod _ 3),qA_eq P S t (Nat.mod_mod _ 3)]
  by_cases hpt:∃k,k<3∧ptA P (T.v k).toNat=p;· obtain⟨k,hk⟩:=hpt;obtain⟨k,⟨hk,e⟩,hn⟩:=exists_min (p:=fun k=>k<3∧ptA P (T.v k).toNat=p) k hk;rw[withinT_pt hk e (fun j hj e'=>hn j hj ⟨by omega,e'⟩),hv k hk];rw[hq k hk] at e;exact .point (h.geo.net.nonneg hR.1 (hR.2 k)) ⟨t,k,hR.1,rfl⟩ e
  · have hno:∀j,j<3→ptA P (T.v j).toNat≠p:=fun j hj e=>hpt ⟨j,hj,e⟩;have hne:∀j,p≠qA P S t j:=fun j e=>hno (j%3) (Nat.mod_lt _ (by omega)) (by rw[hq _ (Nat.mod_lt _ (by omega)),qA_eq P S t (Nat.mod_mod _ 3),e]);by_cases hed:∃k,k<3∧sideT P T k p=0
    · obtain⟨k,hk⟩:=hed;obtain⟨k,⟨hk,e⟩,hn⟩:=exists_min (p:=fun k=>k<3∧sideT P T k p=0) k hk;rw[withinT_edge hk hno e (fun j hj e'=>hn j hj ⟨by omega,e'⟩),hv _ (Nat.mod_lt _ (by omega)),hv _ (Nat.mod_lt _ (by omega)),vA_mod,vA_mod];refine .edge hk hR ?_;have e0:=(hs k hk).1 e;rcases hi.cases h.geo.pos hR with g|⟨i,hi3,g⟩|⟨i,-,g⟩;·have:=g k;omega
      · by_cases eik:i=k;·rw[←eik];exact g
        · exfalso;have:k%3=(i+1)%3∨k%3=(i+2)%3:=by omega
          rcases this with x|x;· rw[qA_eq P S t (show(k+1)%3=(i+2)%3 by omega),qA_eq P S t (show(k+2)%3=i%3 by omega)] at e0;have:=g.2.1;omega
          · rw[qA_eq P S t (show(k+1)%3=i%3 by omega),qA_eq P S t (show(k+2)%3=(i+1)%3 by omega)] at e0;have:=g.2.2;omega
      ·exact absurd g (hne i)
    · rw[withinT_in hno (fun j hj e=>hed ⟨j,hj,e⟩)];refine .inside hR ?_;rcases hi.cases h.geo.pos hR with g|⟨i,hi3,g⟩|⟨i,-,g⟩;·exact g
      ·exact absurd ⟨i,hi3,(hs i hi3).2 g.1⟩ hed
      ·exact absurd g (hne i)
theorem fac_faces(h:Tidy P S){T:TriM}(hT:S[t]?=some T):facesT P T p=true↔Fac P S p t (gI S t):=by
  have ht:=(List.getElem?_eq_some_iff.1 hT).1;obtain⟨T',hT',hv,-⟩:=slot_at ht;rw[hT] at hT';cases hT';have hpl:placeM S (t:Int) (-1)=placeT T (-1):=by
    unfold placeM;rw[getT_nat,hT];simp only[];rw[not_gone h.alive hT,if_neg (by decide)]
  have hq:∀k,k<3→ptT P T k=qA P S t k:=fun k hk=>by unfold ptT;rw[hv k hk];rfl
  have hsd:∀k,sideT P T k p=(crP (qA P S t (k+1)) (qA P S t (k+2)) p).sign:=fun k=>by rw[sideT_is,hq _ (Nat.mod_lt _ (by omega)),hq _ (Nat.mod_lt _ (by omega)),qA_eq P S t (Nat.mod_mod _ 3),qA_eq P S t (Nat.mod_mod _ 3)]
  unfold facesT;rw[Bool.and_eq_true,decide_eq_true_eq,decide_eq_true_eq,hsd,sign_gt,←hpl];constructor
  · rintro⟨h0,h1⟩;have hg:GhA S t:=Classical.byContradiction fun hn=>by rw[place_re h.alive ht (fun k hk=>hn ⟨ht,k,hk⟩)] at h0;omega
    exact⟨ht,(hg.gi h).2.1,h1⟩
  · rintro⟨h0,h1,h2⟩;have hg:GhA S t:=⟨ht,_,h1⟩;refine⟨by rw[gh_place h hg];omega,h2⟩
theorem firstN_not{f:Nat→Bool}{n:Nat}(h:firstN f n=none)(j:Nat)(hj:j<n):f j=false:=by cases e:f j with|false=>rfl|true=>exact absurd h (firstN_some.firstN_ex e hj)
theorem told_look(h:Tidy P S)(hr:RealA S t):Told P S p (lookM P S p):=by unfold lookM;cases hh:firstN (heldAt P S p) S.length with
  |some g=>
    obtain⟨g1,g2,-⟩:=firstN_some hh;simp only[];unfold heldAt at g2;cases hT:S[g]? with
    |none=>rw[hT] at g2;cases g2|some T=>
      rw[hT] at g2;simp only[Bool.and_eq_true] at g2⊢;exact told_within h hT g2.1 g2.2
  |none=>
    simp only[];have hnh:∀u,RealA S u→¬InC P S u p:=fun u hu hi=>by
      obtain⟨T,hT,-,-⟩:=slot_at hu.1;have:=firstN_not hh u hu.1;unfold heldAt at this;rw[hT] at this;simp only[(realT_iff h hT).2 hu,(inC_holds hT).2 hi] at this;cases this
    rcases cover_all h.geo.net h.geo.pos hr p with⟨u,hu,hi⟩|⟨u,i,hf⟩;·exact absurd hi (hnh u hu)
    ·cases hff:firstN (faceAt P S p) S.length with
      |none=>
        exfalso;obtain⟨T,hT,-,-⟩:=slot_at hf.1;have:=firstN_not hff u hf.1;unfold faceAt at this;rw[hT] at this;simp only[] at this;have hg:=gI_of h hf.1 hf.2.1;have:facesT P T p=true:=(fac_faces h hT).2 ⟨hf.1,by rw[hg,vA_mod];exact hf.2.1,by rw[hg,qA_eq P S u (show(i%3+1)%3=(i+1)%3 by omega),qA_eq P S u (show(i%3+2)%3=(i+2)%3 by omega)];exact hf.2.2⟩;rename_i this';rw[this] at this';cases this'|some g=>obtain⟨g1,g2,-⟩:=firstN_some hff;unfold faceAt at g2;cases hT:S[g]? with|none=>rw[hT] at g2;cases g2|some T=>rw[hT] at g2;simp only[] at g2;exact .out ((fac_faces h hT).1 g2)
theorem told_ends(h:Tidy P S)(hr:RealA S t)(he:EndsAt P S p x):Told P S p x:=by
  rcases he with⟨u,T,hT,h1,h2,rfl⟩|⟨u,U,j,hU,h1,h2,h3,h4,h5,rfl⟩|rfl;·exact told_within h hT h1 h2
  · obtain⟨T',hT',hv,-⟩:=slot_at (List.getElem?_eq_some_iff.1 hU).1;rw[hU] at hT';cases hT';have hu:=(List.getElem?_eq_some_iff.1 hU).1;have l1:(j+1)%3<3:=Nat.mod_lt _ (by omega);have l2:(j+2)%3<3:=Nat.mod_lt _ (by omega);rw[hv _ l1,vA_mod] at h3;rw[hv _ l2,vA_mod] at h4;have hg:vA S u j=-1:=by
      refine Classical.byContradiction fun hn=>?_;have:RealA S u:=⟨hu,three_cases (fun k=>vA S u k≠-1) (fun a b e k=>by rw[←vA_eq S u e];exact k) j hn (by omega) (by omega)⟩;rw[(realT_iff h hU).2 this] at h1;cases h1
    refine .out (j:=j) ⟨hu,hg,?_⟩;rw[sideT_is,sign_gt] at h5;unfold ptT at h5;rw[hv _ l1,hv _ l2,vA_mod,vA_mod] at h5;exact h5
  ·exact told_look h hr
theorem Told.there(h:Tidy P S){w:Int}(hw:0≤w)(hu:UsedA S w)(hp:ptV P w=p)(hx:Told P S p x):x.1=2:=by
  obtain⟨u,k,hul,rfl⟩:=hu;have hk:vA S u k≠-1:=by omega
  have hq:qA P S u k=p:=hp;cases hx with
  |point=>rfl|inside hr ho=>exfalso;obtain⟨i,hi⟩:=h.geo.corn _ u k hr hul hk (by rw[hq];exact ho.inC);exact ho.ne i (by rw[←hq,qA_is,qA_is,hi])|edge _ hr ho=>exfalso;obtain⟨i,hi⟩:=h.geo.corn _ u k hr hul hk (by rw[hq];exact ho.inC);exact ho.no_corner h.geo.pos hr i (by rw[←hq,qA_is,qA_is,hi])|out hf=>exfalso;have:=(h.geo.conv _ _ hf.1 hf.2.1 u k hul hk).1;rw[hq] at this;have:=hf.2.2;omega
end
end Go.MagM
namespace Go.Proofs.YtdmfbkhafnkcfaaGreat
open Go.RowKit Go.MagM
set_option maxRecDepth 100000 in set_option maxHeartbeats 4000000 in theorem faultAt_off(mv:Value)(x0 x1 x2 x3:Int)(hx:x0≠1)(w:World):Calls Tryz.prog 183 #[mv,.agg #[.int .i64 x0,.int .i64 x1,.int .i64 x2,.int .i64 x3]] w fun e w'=>e= .returned (.slice none 0 0)∧Below w.heap.size w w':=by
  obtain⟨w1,hw1,px,hb1,hs1⟩:=new_box w _ rfl [.int .i64 x0,.int .i64 x1,.int .i64 x2,.int .i64 x3] 89;have i0:=px.c 0 _ rfl;have q1:(x0 !=1)=true:=by simpa using hx
  have q2:(x0==1)=false:=by simpa using hx
  have HB1:=Lib.hid hb1;clear px hb1 hs1 hx;go_enter Tryz.func183,Tryz.ntmps183;go_wp2;go_ret;exact⟨rfl,HB1.out⟩
set_option maxRecDepth 100000 in set_option maxHeartbeats 16000000 in theorem Insert_any{mb pb pc:Nat}{ta:Option Addr}{tc:Nat}{P:List (Int×Int)}{S:List TriM}(v:Nat)(p0 p1 x0 x1 x2 x3 cnt fr:Int)(Q:World→World→Prop)(w:World)(h:MeshR w mb pb pc ta tc P S)(hv:P[v]?=some (p0,p1))(hfd:∀W:World,Below w.heap.size w W→Calls Tryz.prog 105 #[.pointer (some ⟨mb,0,none⟩),.agg #[.int .i64 p0,.int .i64 p1],.int .i64 fr,.int .i64 ((S.length:Nat):Int)] W fun e w'=>e= .returned (.tuple #[.agg #[.int .i64 x0,.int .i64 x1,.int .i64 x2,.int .i64 x3],.int .i64 cnt])∧Below W.heap.size W w')(hput:x0≠2→∀W:World,Below w.heap.size w W→Calls Tryz.prog 106 #[.pointer (some ⟨mb,0,none⟩),.int .i64 (v:Int),.agg #[.int .i64 x0,.int .i64 x1,.int .i64 x2,.int .i64 x3]] W fun e w'=>e= .returned (.tuple #[])∧Q W w'):Calls Tryz.prog 33 #[.pointer (some ⟨mb,0,none⟩),.int .i64 (v:Int),.int .i64 fr] w fun e w'=>(x0=2∧e= .returned (.bool false)∧Below w.heap.size w w')∨(x0≠2∧e= .returned (.bool true)∧∃W,Below w.heap.size w W∧Q W w'):=by
  have hvl:=(List.getElem?_eq_some_iff.1 hv).1;have e0:=h.box.c 0 _ rfl;have HS:=Lib.hid h;obtain⟨SL,hSL⟩:∃SL,S.length=SL:=⟨_,rfl⟩;obtain⟨N,hN⟩:∃N,P.length=N:=⟨_,rfl⟩;rw[hN] at hvl e0;rw[hSL] at hfd;obtain⟨qk,hqk⟩:∃q,decide (x0=2)=q:=⟨_,rfl⟩;have HV:=Lib.hid hv;have HFD:=Lib.hid hfd;have HPUT:=Lib.hid hput;have HN:=Lib.hid hN;have HSL:=Lib.hid hSL;have HQK:=Lib.hid hqk;have j1:¬((v:Int)<0):=by omega
  have j2:¬((N:Int)≤(v:Int)):=by omega
  have j3:(0:Int)≤(v:Int):=by omega
  have j4:(v:Int)<(N:Int):=by omega
  clear h hv hfd hput hvl hN hSL hqk;go_enter Tryz.func33,Tryz.ntmps33;go_wp2;obtain⟨WD,hwd⟩:∃WD,w.drew=WD:=⟨_,rfl⟩;have hBD:Below w.heap.size w WD:=by rw[←hwd];exact(Below.refl _ _).drew'
  have HWD:=Lib.hid hBD;have C3:=Lib.hid (show∀w',Below WD.heap.size WD w'→w'.cell? ⟨mb,0,none⟩=some (.slice (some ⟨pb,0,none⟩) N pc)∧w'.cell? ⟨mb,1,none⟩=some (.slice ta SL tc)∧w'.cell? ⟨pb,v*2,none⟩=some (.int .i64 p0)∧w'.cell? ⟨pb,v*2+1,none⟩=some (.int .i64 p1) from fun w' hb=>by
    have hh:Below w.heap.size w w':=hBD.trans (hb.mono hBD.size);have hr:=HS.out.below hh;have e0:=hr.box.c 0 _ rfl;have e1:=hr.box.c 1 _ rfl;rw[HN.out] at e0;rw[HSL.out] at e1;exact⟨e0,e1,(hr.pt HV.out).1,(hr.pt HV.out).2⟩);clear hBD e0;refine wp_region_noPanic ?_;refine wp_region_held_drew (S:=fun w'=>w'.cell? ⟨mb,0,none⟩=some (.slice (some ⟨pb,0,none⟩) N pc)∧w'.cell? ⟨mb,1,none⟩=some (.slice ta SL tc)∧w'.cell? ⟨pb,v*2,none⟩=some (.int .i64 p0)∧w'.cell? ⟨pb,v*2+1,none⟩=some (.int .i64 p1)) (by kernel_rfl) (C3.out _ (by rw[←hwd];exact Below.refl _ _)) (fun hHeld=>?_);rw[hwd] at hHeld⊢;refine rU 0 _ _ ?_;refine rU 1 _ _ ?_;refine rU 2 _ _ ?_;refine rU 3 _ _ ?_;refine rU 4 _ _ ?_;refine rU 5 _ _ ?_;refine rU 6 _ _ ?_;refine rU 7 _ _ ?_;refine rU 8 _ _ ?_;refine rU 9 _ _ ?_;refine rU 10 _ _ ?_;refine rU 11 _ _ ?_;refine rU 12 _ _ ?_;refine rU 13 _ _ ?_;refine reg_grab (fun WWx ax hWW hAA=>?_);have LEAF:∀(k:Nat)(Wx:World),Below WD.heap.size WD Wx→WD.heap.size≤k→Box Wx k [.int .i64 0,.int .i64 0,.int .i64 0,.int .i64 0]→WWx 2 #[true,true,true,true,true,true,true,true,true,true,true,true,true,true,true,true,true,true,true,false,false] (((((ax.put (some 35) (.tuple #[.agg #[.int .i64 x0,.int .i64 x1,.int .i64 x2,.int .i64 x3],.int .i64 cnt])).put (some 20) (.tuple #[.agg #[.int .i64 x0,.int .i64 x1,.int .i64 x2,.int .i64 x3],.int .i64 cnt])).put (some 36) (.agg #[.int .i64 x0,.int .i64 x1,.int .i64 x2,.int .i64 x3])).put (some 37) (.int .i64 cnt)).put (some 7) (.pointer (some ⟨k,0,none⟩))) Wx:=by
    intro k Wx hbx hk pz;have hHeld:=C3.out _ hbx;rw[hWW,hAA];try simp only[Act.put,sA,sZ,sS]
    refine rC 19 _ (fun K hK=>?_);obtain⟨wy,hwy_⟩:∃wy,setAll Wx k 0 [.int .i64 x0,.int .i64 x1,.int .i64 x2,.int .i64 x3]=wy:=⟨_,rfl⟩;refine wanted_go rfl ?_;refine wp_store_box _ _ _ rfl [.int .i64 x0,.int .i64 x1,.int .i64 x2,.int .i64 x3] pz rfl rfl (by kernel_rfl) (by simp) rfl hwy_ ?_;have hby:Below WD.heap.size WD wy:=by rw[←hwy_];exact below_setAll hbx hk _
    refine hK.out _ _ (C3.out _ hby) (fun hHeld=>?_);clear hK K;try simp only[Act.put,sA,sZ,sS]
    refine rU 20 _ _ ?_;refine wpAnyH_done (by kernel_rfl) ?_ _;refine NoPanic.normal ?_;have hwx:Below w.heap.size w Wx:=HWD.out.trans (hbx.mono HWD.out.size);have hwy:Below w.heap.size w wy:=by rw[←hwy_];exact below_setAll hwx (by have:=HWD.out.size;omega) _
    have py:Box wy k [.int .i64 x0,.int .i64 x1,.int .i64 x2,.int .i64 x3]:=by rw[←hwy_];exact pz.setAll [.int .i64 x0,.int .i64 x1,.int .i64 x2,.int .i64 x3] rfl
    have y0:=py.c 0 _ rfl;have y1:=py.c 1 _ rfl;have y2:=py.c 2 _ rfl;have y3:=py.c 3 _ rfl;have HWY:=Lib.hid hwy;clear hwx hwy py pz hbx hHeld hk;cases qk with
    |true=>
      obtain rfl:x0=2:=of_decide_eq_true HQK.out;go_wp2;go_ret;first|exact .inl ⟨rfl,rfl,HWY.out⟩|exact⟨rfl,HWY.out⟩|exact⟨rfl,rfl,HWY.out⟩
    |false=>
      have hne:=of_decide_eq_false HQK.out;have q1:(x0==2)=false:=by simpa using hne
      have HPW:=Lib.hid (HPUT.out hne wy HWY.out);have HNE:=Lib.hid hne;clear hne;go_wp2_with fail;refine HPW.out.mono ?_;rintro e wp ⟨rfl,hq⟩;have FIN:=Lib.hid hq;clear hq;go_wp2;go_ret;exact .inr ⟨HNE.out,rfl,wy,HWY.out,FIN.out⟩
  rw[hWW,hAA];try simp only[Act.put,sA,sZ,sS]
  refine reg_all2 14 18 _ _ (by kernel_rfl) rfl rfl (fun K hK=>?_) (fun K hK=>?_)
  · go_simp;refine(HFD.out WD (HWD.out.trans ((Below.refl _ _).mono HWD.out.size))).mono ?_;rintro e wc ⟨rfl,hbc⟩;go_wp2_with fail;refine hK.out _ _ (C3.out _ hbc) (fun hHeld=>?_);clear hK K;try simp only[Act.put,sA,sZ,sS]
    refine rU 15 _ _ ?_;refine rU 16 _ _ ?_;refine rU 17 _ _ ?_;refine rC 18 _ (fun K hK=>?_);obtain⟨wb,hwb,pz,hbb,hsb⟩:=new_box wc _ rfl [.int .i64 0,.int .i64 0,.int .i64 0,.int .i64 0] 89;have hbx:=hbc.trans (hbb.mono hbc.size);go_simp;try rw[hwb]
    refine hK.out _ _ (C3.out _ hbx) (fun hHeld=>?_);clear hK K;try simp only[Act.put,sA,sZ,sS]
    have hL:=LEAF wc.heap.size wb hbx (by have:=hbc.size;omega) pz;rw[hWW,hAA] at hL;try simp only[Act.put] at hL
    try simp only[sA,sZ,sS] at hL
    exact hL
  · obtain⟨wb,hwb,pz,hbb,hsb⟩:=new_box WD _ rfl [.int .i64 0,.int .i64 0,.int .i64 0,.int .i64 0] 89;go_simp;try rw[hwb]
    refine hK.out _ _ (C3.out _ hbb) (fun hHeld=>?_);clear hK K;try simp only[Act.put,sA,sZ,sS]
    refine rC 14 _ (fun K hK=>?_);go_simp;refine(HFD.out wb (HWD.out.trans (hbb.mono HWD.out.size))).mono ?_;rintro e wc ⟨rfl,hbc⟩;go_wp2_with fail;have hbx:=hbb.trans (hbc.mono hbb.size);refine hK.out _ _ (C3.out _ hbx) (fun hHeld=>?_);clear hK K;try simp only[Act.put,sA,sZ,sS]
    refine rU 15 _ _ ?_;refine rU 16 _ _ ?_;refine rU 17 _ _ ?_;have hL:=LEAF WD.heap.size wc hbx (Nat.le_refl _) (pz.below hbc);rw[hWW,hAA] at hL;try simp only[Act.put] at hL
    try simp only[sA,sZ,sS] at hL
    exact hL
set_option maxRecDepth 100000 in set_option maxHeartbeats 8000000 in theorem faultAt_0{mb pb pc:Nat}{ta:Option Addr}{tc:Nat}{P:List (Int×Int)}{S:List TriM}(t:Nat)(v0 v1 v2 n0 n1 n2 a b:Int)(f0 f1 f2:Bool)(w:World)(h:MeshR w mb pb pc ta tc P S)(hT:S[t]?=some ⟨v0,v1,v2,n0,n1,n2,f0,f1,f2⟩)(hk:v0≠a∧v0≠b)(ho1:v1=a∨v1=b)(ho2:v2=a∨v2=b):Calls Tryz.prog 183 #[.pointer (some ⟨mb,0,none⟩),.agg #[.int .i64 1,.int .i64 (t:Int),.int .i64 a,.int .i64 b]] w fun e w'=>∃pv,e= .returned pv∧((f0=false∧pv= .slice none 0 0)∨(f0=true∧∃qb c,pv= .slice (some ⟨qb,0,none⟩) 2 c∧IntsAt w' qb [a,b]∧w.heap.size≤qb∧qb<w'.heap.size))∧Below w.heap.size w w':=by
  obtain⟨lb,hlb⟩:∃lb,w.heap.size=lb:=⟨_,rfl⟩;obtain⟨w1,hw1,px,hb1,hs1⟩:=new_box w _ rfl [.int .i64 1,.int .i64 (t:Int),.int .i64 a,.int .i64 b] 89;rw[hlb] at px;have i0:=px.c 0 _ rfl;have hlt:=(List.getElem?_eq_some_iff.1 hT).1;obtain⟨len,hlen⟩:∃len,S.length=len:=⟨_,rfl⟩;have j1:(0:Int)≤(t:Int):=by omega
  have j2:(t:Int)<(len:Int):=by omega
  obtain⟨tb,hta,-,-⟩:=h.tris.get hT;subst hta;have HR:=Lib.hid h;have HTT:=Lib.hid hT;have HLEN:=Lib.hid hlen;have HB1:=Lib.hid hb1;have PX:=Lib.hid px;have qk0:(v0 !=a)=true:=by simpa using hk.1
  have qk1:(v0 !=b)=true:=by simpa using hk.2
  obtain⟨WD,hwd⟩:∃WD,w1.drew=WD:=⟨_,rfl⟩;have HBD:=Lib.hid (show Below w1.heap.size w1 WD from by rw[←hwd];exact(Below.refl _ _).drew');have CC:=Lib.hid (show∀w',Below WD.heap.size WD w'→w'.cell? ⟨mb,1,none⟩=some (.slice (some ⟨tb,0,none⟩) len tc)∧w'.cell? ⟨lb,1,none⟩=some (.int .i64 (t:Int))∧w'.cell? ⟨tb,t*9,none⟩=some (.int .i64 v0)∧w'.cell? ⟨tb,t*9+1,none⟩=some (.int .i64 v1)∧w'.cell? ⟨tb,t*9+2,none⟩=some (.int .i64 v2)∧w'.cell? ⟨tb,t*9+3,none⟩=some (.int .i64 n0)∧w'.cell? ⟨tb,t*9+4,none⟩=some (.int .i64 n1)∧w'.cell? ⟨tb,t*9+5,none⟩=some (.int .i64 n2)∧w'.cell? ⟨tb,t*9+6,none⟩=some (.bool f0)∧w'.cell? ⟨tb,t*9+7,none⟩=some (.bool f1)∧w'.cell? ⟨tb,t*9+8,none⟩=some (.bool f2) from fun w' hb=>by
    have hh:Below w1.heap.size w1 w':=HBD.out.trans (hb.mono HBD.out.size);have hm:=(HR.out.below HB1.out).below hh;have e1:=hm.box.c1;rw[HLEN.out] at e1;obtain⟨tb',e2,-,h9⟩:=hm.tris.get HTT.out;injection e2 with e2;injection e2 with e2;subst e2;obtain⟨c0,c1,c2,c3,c4,c5,c6,c7,c8⟩:=h9;exact⟨e1,(PX.out.below hh).c 1 _ rfl,c0,c1,c2,c3,c4,c5,c6,c7,c8⟩);have HO1:=Lib.hid ho1;have HO2:=Lib.hid ho2;clear h hT px hb1 hs1 hlt hlen hk ho1 ho2;go_enter Tryz.func183,Tryz.ntmps183;go_wp2;clear hlb;refine wp_region_noPanic ?_;refine wp_region_held_drew (S:=fun w'=>w'.cell? ⟨mb,1,none⟩=some (.slice (some ⟨tb,0,none⟩) len tc)∧w'.cell? ⟨lb,1,none⟩=some (.int .i64 (t:Int))∧w'.cell? ⟨tb,t*9,none⟩=some (.int .i64 v0)∧w'.cell? ⟨tb,t*9+1,none⟩=some (.int .i64 v1)∧w'.cell? ⟨tb,t*9+2,none⟩=some (.int .i64 v2)∧w'.cell? ⟨tb,t*9+3,none⟩=some (.int .i64 n0)∧w'.cell? ⟨tb,t*9+4,none⟩=some (.int .i64 n1)∧w'.cell? ⟨tb,t*9+5,none⟩=some (.int .i64 n2)∧w'.cell? ⟨tb,t*9+6,none⟩=some (.bool f0)∧w'.cell? ⟨tb,t*9+7,none⟩=some (.bool f1)∧w'.cell? ⟨tb,t*9+8,none⟩=some (.bool f2)) (by kernel_rfl) (CC.out _ (by rw[←hwd];exact Below.refl _ _)) (fun hHeld=>?_);rw[hwd] at hHeld⊢;refine rU 0 _ _ ?_;refine rU 1 _ _ ?_;refine rU 2 _ _ ?_;refine rU 3 _ _ ?_;refine rU 4 _ _ ?_;refine rU 5 _ _ ?_;refine rU 6 _ _ ?_;refine rU 7 _ _ ?_;refine rC 8 _ (fun K hK=>?_);obtain⟨wb,hwb,pz,hbb,hsb⟩:=new_box WD _ rfl [.int .i64 0,.int .i64 0,.int .i64 0,.int .i64 0,.int .i64 0,.int .i64 0,.bool false,.bool false,.bool false] 41;go_simp;try rw[hwb]
  refine hK.out _ _ (CC.out _ hbb) (fun hHeld=>?_);clear hK K;try simp only[Act.put,sA,sZ,sS]
  refine rC 9 _ (fun K hK=>?_);obtain⟨wy,hwy_⟩:∃wy,setAll wb WD.heap.size 0 [.int .i64 v0,.int .i64 v1,.int .i64 v2,.int .i64 n0,.int .i64 n1,.int .i64 n2,.bool f0,.bool f1,.bool f2]=wy:=⟨_,rfl⟩;refine wanted_go rfl ?_;refine wp_store_box _ _ _ rfl [.int .i64 v0,.int .i64 v1,.int .i64 v2,.int .i64 n0,.int .i64 n1,.int .i64 n2,.bool f0,.bool f1,.bool f2] pz rfl rfl (by kernel_rfl) (by simp) rfl hwy_ ?_;have hby:Below WD.heap.size WD wy:=by rw[←hwy_];exact below_setAll hbb (Nat.le_refl _) _
  refine hK.out _ _ (CC.out _ hby) (fun hHeld=>?_);clear hK K;try simp only[Act.put,sA,sZ,sS]
  refine wpAnyH_done (by kernel_rfl) ?_ _;refine NoPanic.normal ?_;have py:Box wy WD.heap.size [.int .i64 v0,.int .i64 v1,.int .i64 v2,.int .i64 n0,.int .i64 n1,.int .i64 n2,.bool f0,.bool f1,.bool f2]:=by rw[←hwy_];exact pz.setAll [.int .i64 v0,.int .i64 v1,.int .i64 v2,.int .i64 n0,.int .i64 n1,.int .i64 n2,.bool f0,.bool f1,.bool f2] rfl
  have pw:Box wy lb [.int .i64 1,.int .i64 (t:Int),.int .i64 a,.int .i64 b]:=PX.out.below (HBD.out.trans (hby.mono HBD.out.size));have hsy:Below w.heap.size w wy:=HB1.out.trans ((HBD.out.trans (hby.mono HBD.out.size)).mono HB1.out.size);obtain⟨kb,hkb⟩:∃kb,WD.heap.size=kb:=⟨_,rfl⟩;rw[hkb] at py⊢;have HSY:=Lib.hid hsy;have x2:=pw.c 2 _ rfl;have x3:=pw.c 3 _ rfl;have d0:=py.c 0 _ rfl;have d1:=py.c 1 _ rfl;have d2:=py.c 2 _ rfl;have d6:=py.c 6 _ rfl;have d7:=py.c 7 _ rfl;have d8:=py.c 8 _ rfl;obtain⟨wc,hwc,pc,hbc,hsc⟩:=new_box wy _ rfl [.int .i64 a,.int .i64 b] 3;have HPC:=Lib.hid pc;have HBC:=Lib.hid hbc;have HSC:=Lib.hid hsc;clear hsy py pw pz hbb hsb hwb hby hwy_ hHeld hkb hw1 i0 hwd pc hbc hsc;obtain⟨p1,hp1⟩:∃q,(v1 !=a)=q:=⟨_,rfl⟩;obtain⟨r1,hr1⟩:∃q,(v1 !=b)=q:=⟨_,rfl⟩;obtain⟨p2,hp2⟩:∃q,(v2 !=a)=q:=⟨_,rfl⟩;obtain⟨r2,hr2⟩:∃q,(v2 !=b)=q:=⟨_,rfl⟩;have e1:p1=false∨(p1=true∧r1=false):=by
    rw[←hp1,←hr1];rcases HO1.out with e|e;·left;simp[e]
    · by_cases e2:v1=a;·left;simp[e2]
      ·right;simp[e];rw[←e];exact e2
  have e2:p2=false∨(p2=true∧r2=false):=by
    rw[←hp2,←hr2];rcases HO2.out with e|e;·left;simp[e]
    · by_cases e2:v2=a;·left;simp[e2]
      ·right;simp[e];rw[←e];exact e2
  have ix0:∀w:World,(Instr.index 38 (.agg #[.int .i64 v0,.int .i64 v1,.int .i64 v2]) (.int .i64 0)).run Tryz.prog w= .ok (.int .i64 v0) w:=fun _=>by kernel_rfl
  have ix1:∀w:World,(Instr.index 38 (.agg #[.int .i64 v0,.int .i64 v1,.int .i64 v2]) (.int .i64 1)).run Tryz.prog w= .ok (.int .i64 v1) w:=fun _=>by kernel_rfl
  have ix2:∀w:World,(Instr.index 38 (.agg #[.int .i64 v0,.int .i64 v1,.int .i64 v2]) (.int .i64 2)).run Tryz.prog w= .ok (.int .i64 v2) w:=fun _=>by kernel_rfl
  go_wp2;refine wp_loop_rounds 4 ?_;rcases e1 with rfl|⟨rfl,rfl⟩<;>rcases e2 with rfl|⟨rfl,rfl⟩<;>cases f0;all_goals
    rw[rounds_succ];go_wp2;try rw[rounds_succ]
    try go_wp2
    try rw[rounds_succ]
    try go_wp2
    try rw[rounds_succ]
    try go_wp2
    go_ret;first
      |exact⟨_,rfl,rfl,HSY.out⟩|exact⟨_,rfl,.inl ⟨rfl,rfl⟩,HSY.out⟩
      | (refine⟨_,rfl,⟨_,⟨_,rfl⟩,fun j z hj=>?_,HSY.out.size,by have:=HSC.out;omega⟩,HSY.out.trans (HBC.out.mono HSY.out.size)⟩;have hj2:=(List.getElem?_eq_some_iff.1 hj).1;obtain rfl|rfl:j=0∨j=1:=by simp at hj2;omega
         ·injection hj with hj;rw[←hj];exact HPC.out.c 0 _ rfl
         ·injection hj with hj;rw[←hj];exact HPC.out.c 1 _ rfl)
set_option maxRecDepth 100000 in set_option maxHeartbeats 8000000 in theorem faultAt_1{mb pb pc:Nat}{ta:Option Addr}{tc:Nat}{P:List (Int×Int)}{S:List TriM}(t:Nat)(v0 v1 v2 n0 n1 n2 a b:Int)(f0 f1 f2:Bool)(w:World)(h:MeshR w mb pb pc ta tc P S)(hT:S[t]?=some ⟨v0,v1,v2,n0,n1,n2,f0,f1,f2⟩)(hk:v1≠a∧v1≠b)(ho1:v0=a∨v0=b)(ho2:v2=a∨v2=b):Calls Tryz.prog 183 #[.pointer (some ⟨mb,0,none⟩),.agg #[.int .i64 1,.int .i64 (t:Int),.int .i64 a,.int .i64 b]] w fun e w'=>∃pv,e= .returned pv∧((f1=false∧pv= .slice none 0 0)∨(f1=true∧∃qb c,pv= .slice (some ⟨qb,0,none⟩) 2 c∧IntsAt w' qb [a,b]∧w.heap.size≤qb∧qb<w'.heap.size))∧Below w.heap.size w w':=by
  obtain⟨lb,hlb⟩:∃lb,w.heap.size=lb:=⟨_,rfl⟩;obtain⟨w1,hw1,px,hb1,hs1⟩:=new_box w _ rfl [.int .i64 1,.int .i64 (t:Int),.int .i64 a,.int .i64 b] 89;rw[hlb] at px;have i0:=px.c 0 _ rfl;have hlt:=(List.getElem?_eq_some_iff.1 hT).1;obtain⟨len,hlen⟩:∃len,S.length=len:=⟨_,rfl⟩;have j1:(0:Int)≤(t:Int):=by omega
  have j2:(t:Int)<(len:Int):=by omega
  obtain⟨tb,hta,-,-⟩:=h.tris.get hT;subst hta;have HR:=Lib.hid h;have HTT:=Lib.hid hT;have HLEN:=Lib.hid hlen;have HB1:=Lib.hid hb1;have PX:=Lib.hid px;have qk0:(v1 !=a)=true:=by simpa using hk.1
  have qk1:(v1 !=b)=true:=by simpa using hk.2
  obtain⟨WD,hwd⟩:∃WD,w1.drew=WD:=⟨_,rfl⟩;have HBD:=Lib.hid (show Below w1.heap.size w1 WD from by rw[←hwd];exact(Below.refl _ _).drew');have CC:=Lib.hid (show∀w',Below WD.heap.size WD w'→w'.cell? ⟨mb,1,none⟩=some (.slice (some ⟨tb,0,none⟩) len tc)∧w'.cell? ⟨lb,1,none⟩=some (.int .i64 (t:Int))∧w'.cell? ⟨tb,t*9,none⟩=some (.int .i64 v0)∧w'.cell? ⟨tb,t*9+1,none⟩=some (.int .i64 v1)∧w'.cell? ⟨tb,t*9+2,none⟩=some (.int .i64 v2)∧w'.cell? ⟨tb,t*9+3,none⟩=some (.int .i64 n0)∧w'.cell? ⟨tb,t*9+4,none⟩=some (.int .i64 n1)∧w'.cell? ⟨tb,t*9+5,none⟩=some (.int .i64 n2)∧w'.cell? ⟨tb,t*9+6,none⟩=some (.bool f0)∧w'.cell? ⟨tb,t*9+7,none⟩=some (.bool f1)∧w'.cell? ⟨tb,t*9+8,none⟩=some (.bool f2) from fun w' hb=>by
    have hh:Below w1.heap.size w1 w':=HBD.out.trans (hb.mono HBD.out.size);have hm:=(HR.out.below HB1.out).below hh;have e1:=hm.box.c1;rw[HLEN.out] at e1;obtain⟨tb',e2,-,h9⟩:=hm.tris.get HTT.out;injection e2 with e2;injection e2 with e2;subst e2;obtain⟨c0,c1,c2,c3,c4,c5,c6,c7,c8⟩:=h9;exact⟨e1,(PX.out.below hh).c 1 _ rfl,c0,c1,c2,c3,c4,c5,c6,c7,c8⟩);have HO1:=Lib.hid ho1;have HO2:=Lib.hid ho2;clear h hT px hb1 hs1 hlt hlen hk ho1 ho2;go_enter Tryz.func183,Tryz.ntmps183;go_wp2;clear hlb;refine wp_region_noPanic ?_;refine wp_region_held_drew (S:=fun w'=>w'.cell? ⟨mb,1,none⟩=some (.slice (some ⟨tb,0,none⟩) len tc)∧w'.cell? ⟨lb,1,none⟩=some (.int .i64 (t:Int))∧w'.cell? ⟨tb,t*9,none⟩=some (.int .i64 v0)∧w'.cell? ⟨tb,t*9+1,none⟩=some (.int .i64 v1)∧w'.cell? ⟨tb,t*9+2,none⟩=some (.int .i64 v2)∧w'.cell? ⟨tb,t*9+3,none⟩=some (.int .i64 n0)∧w'.cell? ⟨tb,t*9+4,none⟩=some (.int .i64 n1)∧w'.cell? ⟨tb,t*9+5,none⟩=some (.int .i64 n2)∧w'.cell? ⟨tb,t*9+6,none⟩=some (.bool f0)∧w'.cell? ⟨tb,t*9+7,none⟩=some (.bool f1)∧w'.cell? ⟨tb,t*9+8,none⟩=some (.bool f2)) (by kernel_rfl) (CC.out _ (by rw[←hwd];exact Below.refl _ _)) (fun hHeld=>?_);rw[hwd] at hHeld⊢;refine rU 0 _ _ ?_;refine rU 1 _ _ ?_;refine rU 2 _ _ ?_;refine rU 3 _ _ ?_;refine rU 4 _ _ ?_;refine rU 5 _ _ ?_;refine rU 6 _ _ ?_;refine rU 7 _ _ ?_;refine rC 8 _ (fun K hK=>?_);obtain⟨wb,hwb,pz,hbb,hsb⟩:=new_box WD _ rfl [.int .i64 0,.int .i64 0,.int .i64 0,.int .i64 0,.int .i64 0,.int .i64 0,.bool false,.bool false,.bool false] 41;go_simp;try rw[hwb]
  refine hK.out _ _ (CC.out _ hbb) (fun hHeld=>?_);clear hK K;try simp only[Act.put,sA,sZ,sS]
  refine rC 9 _ (fun K hK=>?_);obtain⟨wy,hwy_⟩:∃wy,setAll wb WD.heap.size 0 [.int .i64 v0,.int .i64 v1,.int .i64 v2,.int .i64 n0,.int .i64 n1,.int .i64 n2,.bool f0,.bool f1,.bool f2]=wy:=⟨_,rfl⟩;refine wanted_go rfl ?_;refine wp_store_box _ _ _ rfl [.int .i64 v0,.int .i64 v1,.int .i64 v2,.int .i64 n0,.int .i64 n1,.int .i64 n2,.bool f0,.bool f1,.bool f2] pz rfl rfl (by kernel_rfl) (by simp) rfl hwy_ ?_;have hby:Below WD.heap.size WD wy:=by rw[←hwy_];exact below_setAll hbb (Nat.le_refl _) _
  refine hK.out _ _ (CC.out _ hby) (fun hHeld=>?_);clear hK K;try simp only[Act.put,sA,sZ,sS]
  refine wpAnyH_done (by kernel_rfl) ?_ _;refine NoPanic.normal ?_;have py:Box wy WD.heap.size [.int .i64 v0,.int .i64 v1,.int .i64 v2,.int .i64 n0,.int .i64 n1,.int .i64 n2,.bool f0,.bool f1,.bool f2]:=by rw[←hwy_];exact pz.setAll [.int .i64 v0,.int .i64 v1,.int .i64 v2,.int .i64 n0,.int .i64 n1,.int .i64 n2,.bool f0,.bool f1,.bool f2] rfl
  have pw:Box wy lb [.int .i64 1,.int .i64 (t:Int),.int .i64 a,.int .i64 b]:=PX.out.below (HBD.out.trans (hby.mono HBD.out.size));have hsy:Below w.heap.size w wy:=HB1.out.trans ((HBD.out.trans (hby.mono HBD.out.size)).mono HB1.out.size);obtain⟨kb,hkb⟩:∃kb,WD.heap.size=kb:=⟨_,rfl⟩;rw[hkb] at py⊢;have HSY:=Lib.hid hsy;have x2:=pw.c 2 _ rfl;have x3:=pw.c 3 _ rfl;have d0:=py.c 0 _ rfl;have d1:=py.c 1 _ rfl;have d2:=py.c 2 _ rfl;have d6:=py.c 6 _ rfl;have d7:=py.c 7 _ rfl;have d8:=py.c 8 _ rfl;obtain⟨wc,hwc,pc,hbc,hsc⟩:=new_box wy _ rfl [.int .i64 a,.int .i64 b] 3;have HPC:=Lib.hid pc;have HBC:=Lib.hid hbc;have HSC:=Lib.hid hsc;clear hsy py pw pz hbb hsb hwb hby hwy_ hHeld hkb hw1 i0 hwd pc hbc hsc;obtain⟨p1,hp1⟩:∃q,(v0 !=a)=q:=⟨_,rfl⟩;obtain⟨r1,hr1⟩:∃q,(v0 !=b)=q:=⟨_,rfl⟩;obtain⟨p2,hp2⟩:∃q,(v2 !=a)=q:=⟨_,rfl⟩;obtain⟨r2,hr2⟩:∃q,(v2 !=b)=q:=⟨_,rfl⟩;have e1:p1=false∨(p1=true∧r1=false):=by
    rw[←hp1,←hr1];rcases HO1.out with e|e;·left;simp[e]
    · by_cases e2:v0=a;·left;simp[e2]
      ·right;simp[e];rw[←e];exact e2
  have e2:p2=false∨(p2=true∧r2=false):=by
    rw[←hp2,←hr2];rcases HO2.out with e|e;·left;simp[e]
    · by_cases e2:v2=a;·left;simp[e2]
      ·right;simp[e];rw[←e];exact e2
  have ix0:∀w:World,(Instr.index 38 (.agg #[.int .i64 v0,.int .i64 v1,.int .i64 v2]) (.int .i64 0)).run Tryz.prog w= .ok (.int .i64 v0) w:=fun _=>by kernel_rfl
  have ix1:∀w:World,(Instr.index 38 (.agg #[.int .i64 v0,.int .i64 v1,.int .i64 v2]) (.int .i64 1)).run Tryz.prog w= .ok (.int .i64 v1) w:=fun _=>by kernel_rfl
  have ix2:∀w:World,(Instr.index 38 (.agg #[.int .i64 v0,.int .i64 v1,.int .i64 v2]) (.int .i64 2)).run Tryz.prog w= .ok (.int .i64 v2) w:=fun _=>by kernel_rfl
  go_wp2;refine wp_loop_rounds 4 ?_;rcases e1 with rfl|⟨rfl,rfl⟩<;>rcases e2 with rfl|⟨rfl,rfl⟩<;>cases f1;all_goals
    rw[rounds_succ];go_wp2;try rw[rounds_succ]
    try go_wp2
    try rw[rounds_succ]
    try go_wp2
    try rw[rounds_succ]
    try go_wp2
    go_ret;first
      |exact⟨_,rfl,rfl,HSY.out⟩|exact⟨_,rfl,.inl ⟨rfl,rfl⟩,HSY.out⟩
      | (refine⟨_,rfl,⟨_,⟨_,rfl⟩,fun j z hj=>?_,HSY.out.size,by have:=HSC.out;omega⟩,HSY.out.trans (HBC.out.mono HSY.out.size)⟩;have hj2:=(List.getElem?_eq_some_iff.1 hj).1;obtain rfl|rfl:j=0∨j=1:=by simp at hj2;omega
         ·injection hj with hj;rw[←hj];exact HPC.out.c 0 _ rfl
         ·injection hj with hj;rw[←hj];exact HPC.out.c 1 _ rfl)
set_option maxRecDepth 100000 in set_option maxHeartbeats 8000000 in theorem faultAt_2{mb pb pc:Nat}{ta:Option Addr}{tc:Nat}{P:List (Int×Int)}{S:List TriM}(t:Nat)(v0 v1 v2 n0 n1 n2 a b:Int)(f0 f1 f2:Bool)(w:World)(h:MeshR w mb pb pc ta tc P S)(hT:S[t]?=some ⟨v0,v1,v2,n0,n1,n2,f0,f1,f2⟩)(hk:v2≠a∧v2≠b)(ho1:v0=a∨v0=b)(ho2:v1=a∨v1=b):Calls Tryz.prog 183 #[.pointer (some ⟨mb,0,none⟩),.agg #[.int .i64 1,.int .i64 (t:Int),.int .i64 a,.int .i64 b]] w fun e w'=>∃pv,e= .returned pv∧((f2=false∧pv= .slice none 0 0)∨(f2=true∧∃qb c,pv= .slice (some ⟨qb,0,none⟩) 2 c∧IntsAt w' qb [a,b]∧w.heap.size≤qb∧qb<w'.heap.size))∧Below w.heap.size w w':=by
  obtain⟨lb,hlb⟩:∃lb,w.heap.size=lb:=⟨_,rfl⟩;obtain⟨w1,hw1,px,hb1,hs1⟩:=new_box w _ rfl [.int .i64 1,.int .i64 (t:Int),.int .i64 a,.int .i64 b] 89;rw[hlb] at px;have i0:=px.c 0 _ rfl;have hlt:=(List.getElem?_eq_some_iff.1 hT).1;obtain⟨len,hlen⟩:∃len,S.length=len:=⟨_,rfl⟩;have j1:(0:Int)≤(t:Int):=by omega
  have j2:(t:Int)<(len:Int):=by omega
  obtain⟨tb,hta,-,-⟩:=h.tris.get hT;subst hta;have HR:=Lib.hid h;have HTT:=Lib.hid hT;have HLEN:=Lib.hid hlen;have HB1:=Lib.hid hb1;have PX:=Lib.hid px;have qk0:(v2 !=a)=true:=by simpa using hk.1
  have qk1:(v2 !=b)=true:=by simpa using hk.2
  obtain⟨WD,hwd⟩:∃WD,w1.drew=WD:=⟨_,rfl⟩;have HBD:=Lib.hid (show Below w1.heap.size w1 WD from by rw[←hwd];exact(Below.refl _ _).drew');have CC:=Lib.hid (show∀w',Below WD.heap.size WD w'→w'.cell? ⟨mb,1,none⟩=some (.slice (some ⟨tb,0,none⟩) len tc)∧w'.cell? ⟨lb,1,none⟩=some (.int .i64 (t:Int))∧w'.cell? ⟨tb,t*9,none⟩=some (.int .i64 v0)∧w'.cell? ⟨tb,t*9+1,none⟩=some (.int .i64 v1)∧w'.cell? ⟨tb,t*9+2,none⟩=some (.int .i64 v2)∧w'.cell? ⟨tb,t*9+3,none⟩=some (.int .i64 n0)∧w'.cell? ⟨tb,t*9+4,none⟩=some (.int .i64 n1)∧w'.cell? ⟨tb,t*9+5,none⟩=some (.int .i64 n2)∧w'.cell? ⟨tb,t*9+6,none⟩=some (.bool f0)∧w'.cell? ⟨tb,t*9+7,none⟩=some (.bool f1)∧w'.cell? ⟨tb,t*9+8,none⟩=some (.bool f2) from fun w' hb=>by
    have hh:Below w1.heap.size w1 w':=HBD.out.trans (hb.mono HBD.out.size);have hm:=(HR.out.below HB1.out).below hh;have e1:=hm.box.c1;rw[HLEN.out] at e1;obtain⟨tb',e2,-,h9⟩:=hm.tris.get HTT.out;injection e2 with e2;injection e2 with e2;subst e2;obtain⟨c0,c1,c2,c3,c4,c5,c6,c7,c8⟩:=h9;exact⟨e1,(PX.out.below hh).c 1 _ rfl,c0,c1,c2,c3,c4,c5,c6,c7,c8⟩);have HO1:=Lib.hid ho1;have HO2:=Lib.hid ho2;clear h hT px hb1 hs1 hlt hlen hk ho1 ho2;go_enter Tryz.func183,Tryz.ntmps183;go_wp2;clear hlb;refine wp_region_noPanic ?_;refine wp_region_held_drew (S:=fun w'=>w'.cell? ⟨mb,1,none⟩=some (.slice (some ⟨tb,0,none⟩) len tc)∧w'.cell? ⟨lb,1,none⟩=some (.int .i64 (t:Int))∧w'.cell? ⟨tb,t*9,none⟩=some (.int .i64 v0)∧w'.cell? ⟨tb,t*9+1,none⟩=some (.int .i64 v1)∧w'.cell? ⟨tb,t*9+2,none⟩=some (.int .i64 v2)∧w'.cell? ⟨tb,t*9+3,none⟩=some (.int .i64 n0)∧w'.cell? ⟨tb,t*9+4,none⟩=some (.int .i64 n1)∧w'.cell? ⟨tb,t*9+5,none⟩=some (.int .i64 n2)∧w'.cell? ⟨tb,t*9+6,none⟩=some (.bool f0)∧w'.cell? ⟨tb,t*9+7,none⟩=some (.bool f1)∧w'.cell? ⟨tb,t*9+8,none⟩=some (.bool f2)) (by kernel_rfl) (CC.out _ (by rw[←hwd];exact Below.refl _ _)) (fun hHeld=>?_);rw[hwd] at hHeld⊢;refine rU 0 _ _ ?_;refine rU 1 _ _ ?_;refine rU 2 _ _ ?_;refine rU 3 _ _ ?_;refine rU 4 _ _ ?_;refine rU 5 _ _ ?_;refine rU 6 _ _ ?_;refine rU 7 _ _ ?_;refine rC 8 _ (fun K hK=>?_);obtain⟨wb,hwb,pz,hbb,hsb⟩:=new_box WD _ rfl [.int .i64 0,.int .i64 0,.int .i64 0,.int .i64 0,.int .i64 0,.int .i64 0,.bool false,.bool false,.bool false] 41;go_simp;try rw[hwb]
  refine hK.out _ _ (CC.out _ hbb) (fun hHeld=>?_);clear hK K;try simp only[Act.put,sA,sZ,sS]
  refine rC 9 _ (fun K hK=>?_);obtain⟨wy,hwy_⟩:∃wy,setAll wb WD.heap.size 0 [.int .i64 v0,.int .i64 v1,.int .i64 v2,.int .i64 n0,.int .i64 n1,.int .i64 n2,.bool f0,.bool f1,.bool f2]=wy:=⟨_,rfl⟩;refine wanted_go rfl ?_;refine wp_store_box _ _ _ rfl [.int .i64 v0,.int .i64 v1,.int .i64 v2,.int .i64 n0,.int .i64 n1,.int .i64 n2,.bool f0,.bool f1,.bool f2] pz rfl rfl (by kernel_rfl) (by simp) rfl hwy_ ?_;have hby:Below WD.heap.size WD wy:=by rw[←hwy_];exact below_setAll hbb (Nat.le_refl _) _
  refine hK.out _ _ (CC.out _ hby) (fun hHeld=>?_);clear hK K;try simp only[Act.put,sA,sZ,sS]
  refine wpAnyH_done (by kernel_rfl) ?_ _;refine NoPanic.normal ?_;have py:Box wy WD.heap.size [.int .i64 v0,.int .i64 v1,.int .i64 v2,.int .i64 n0,.int .i64 n1,.int .i64 n2,.bool f0,.bool f1,.bool f2]:=by rw[←hwy_];exact pz.setAll [.int .i64 v0,.int .i64 v1,.int .i64 v2,.int .i64 n0,.int .i64 n1,.int .i64 n2,.bool f0,.bool f1,.bool f2] rfl
  have pw:Box wy lb [.int .i64 1,.int .i64 (t:Int),.int .i64 a,.int .i64 b]:=PX.out.below (HBD.out.trans (hby.mono HBD.out.size));have hsy:Below w.heap.size w wy:=HB1.out.trans ((HBD.out.trans (hby.mono HBD.out.size)).mono HB1.out.size);obtain⟨kb,hkb⟩:∃kb,WD.heap.size=kb:=⟨_,rfl⟩;rw[hkb] at py⊢;have HSY:=Lib.hid hsy;have x2:=pw.c 2 _ rfl;have x3:=pw.c 3 _ rfl;have d0:=py.c 0 _ rfl;have d1:=py.c 1 _ rfl;have d2:=py.c 2 _ rfl;have d6:=py.c 6 _ rfl;have d7:=py.c 7 _ rfl;have d8:=py.c 8 _ rfl;obtain⟨wc,hwc,pc,hbc,hsc⟩:=new_box wy _ rfl [.int .i64 a,.int .i64 b] 3;have HPC:=Lib.hid pc;have HBC:=Lib.hid hbc;have HSC:=Lib.hid hsc;clear hsy py pw pz hbb hsb hwb hby hwy_ hHeld hkb hw1 i0 hwd pc hbc hsc;obtain⟨p1,hp1⟩:∃q,(v0 !=a)=q:=⟨_,rfl⟩;obtain⟨r1,hr1⟩:∃q,(v0 !=b)=q:=⟨_,rfl⟩;obtain⟨p2,hp2⟩:∃q,(v1 !=a)=q:=⟨_,rfl⟩;obtain⟨r2,hr2⟩:∃q,(v1 !=b)=q:=⟨_,rfl⟩;have e1:p1=false∨(p1=true∧r1=false):=by
    rw[←hp1,←hr1];rcases HO1.out with e|e;·left;simp[e]
    · by_cases e2:v0=a;·left;simp[e2]
      ·right;simp[e];rw[←e];exact e2
  have e2:p2=false∨(p2=true∧r2=false):=by
    rw[←hp2,←hr2];rcases HO2.out with e|e;·left;simp[e]
    · by_cases e2:v1=a;·left;simp[e2]
      ·right;simp[e];rw[←e];exact e2
  have ix0:∀w:World,(Instr.index 38 (.agg #[.int .i64 v0,.int .i64 v1,.int .i64 v2]) (.int .i64 0)).run Tryz.prog w= .ok (.int .i64 v0) w:=fun _=>by kernel_rfl
  have ix1:∀w:World,(Instr.index 38 (.agg #[.int .i64 v0,.int .i64 v1,.int .i64 v2]) (.int .i64 1)).run Tryz.prog w= .ok (.int .i64 v1) w:=fun _=>by kernel_rfl
  have ix2:∀w:World,(Instr.index 38 (.agg #[.int .i64 v0,.int .i64 v1,.int .i64 v2]) (.int .i64 2)).run Tryz.prog w= .ok (.int .i64 v2) w:=fun _=>by kernel_rfl
  go_wp2;refine wp_loop_rounds 4 ?_;rcases e1 with rfl|⟨rfl,rfl⟩<;>rcases e2 with rfl|⟨rfl,rfl⟩<;>cases f2;all_goals
    rw[rounds_succ];go_wp2;try rw[rounds_succ]
    try go_wp2
    try rw[rounds_succ]
    try go_wp2
    try rw[rounds_succ]
    try go_wp2
    go_ret;first
      |exact⟨_,rfl,rfl,HSY.out⟩|exact⟨_,rfl,.inl ⟨rfl,rfl⟩,HSY.out⟩
      | (refine⟨_,rfl,⟨_,⟨_,rfl⟩,fun j z hj=>?_,HSY.out.size,by have:=HSC.out;omega⟩,HSY.out.trans (HBC.out.mono HSY.out.size)⟩;have hj2:=(List.getElem?_eq_some_iff.1 hj).1;obtain rfl|rfl:j=0∨j=1:=by simp at hj2;omega
         ·injection hj with hj;rw[←hj];exact HPC.out.c 0 _ rfl
         ·injection hj with hj;rw[←hj];exact HPC.out.c 1 _ rfl)
end Go.Proofs.YtdmfbkhafnkcfaaGreat
namespace Go.MagM
def crsP(p q r:Int×Int):Int:=crs p.1 p.2 q.1 q.2 r.1 r.2
def BaseIs(P:List (Int×Int))(ok:Bool)(s t:Nat):Prop:=(ok=true∧1≤s∧s<t∧t<P.length∧(∀i,i<s→ptA P i=ptA P 0)∧ptA P s≠ptA P 0∧(∀i,s<i→i<t→crsP (ptA P 0) (ptA P s) (ptA P i)=0)∧crsP (ptA P 0) (ptA P s) (ptA P t)≠0)∨(ok=false∧s=0∧t=0∧∃k,(∀i,i<k→i<P.length→ptA P i=ptA P 0)∧(P.length≤k∨(ptA P k≠ptA P 0∧∀i,k<i→i<P.length→crsP (ptA P 0) (ptA P k) (ptA P i)=0)))
def FlatIs(P:List (Int×Int)):Prop:=∀i k j,j<k→k<i→i<P.length→crsP (ptA P i) (ptA P k) (ptA P j)=0
theorem col_of{ox oy dx dy ax ay bx by' cx cy:Int}(hd:(dx,dy)≠(ox,oy))(ha:crs ox oy dx dy ax ay=0)(hb:crs ox oy dx dy bx by'=0)(hc:crs ox oy dx dy cx cy=0):crs ax ay bx by' cx cy=0:=by
  unfold crs at*;by_cases h:dx-ox=0
  · have h2:dy-oy≠0:=fun e=>hd (by rw[show dx=ox by omega,show dy=oy by omega]);refine(Int.mul_eq_zero.1 ?_).resolve_left h2;grind
  · refine(Int.mul_eq_zero.1 ?_).resolve_left h;grind
theorem crsP_self(p q:Int×Int):crsP p q p=0:=by unfold crsP crs;grind
theorem crsP_self2(p q:Int×Int):crsP p q q=0:=by unfold crsP crs;grind
theorem crsP_same(p q:Int×Int):crsP p p q=0:=by unfold crsP crs;grind
theorem base_flat{P:List (Int×Int)}{s t:Nat}(h:BaseIs P false s t):FlatIs P:=by
  rcases h with⟨h,-⟩|⟨-,-,-,k,h1,h2⟩;·cases h
  intro i k' j hj hk hi;rcases h2 with h2|⟨h2,h3⟩;·rw[h1 i (by omega) (by omega),h1 k' (by omega) (by omega)];exact crsP_same _ _
  · have all:∀i,i<P.length→crsP (ptA P 0) (ptA P k) (ptA P i)=0:=fun i hi=>by
      rcases Nat.lt_trichotomy i k with g|g|g;·rw[h1 i g hi];exact crsP_self _ _
      ·rw[g];exact crsP_self2 _ _
      ·exact h3 i g hi
    have e:=all i hi;have e2:=all k' (by omega);have e3:=all j (by omega);unfold crsP at e e2 e3⊢;exact col_of h2 e e2 e3
end Go.MagM
namespace Go.Proofs.YtdmfbkhafnkcfaaGreat
open Go.RowKit Go.MagM
theorem turnM_cases(P:List (Int×Int))(a b c:Int):turnM P a b c=0∨turnM P a b c=1∨turnM P a b c=-1:=by
  unfold turnM;split
  · rename_i p q r _ _ _;rcases Int.lt_trichotomy (crs p.1 p.2 q.1 q.2 r.1 r.2) 0 with h|h|h;·exact .inr (.inr (Int.sign_eq_neg_one_of_neg h))
    ·rw[h];exact .inl rfl
    ·exact .inr (.inl (Int.sign_eq_one_of_pos h))
  ·exact .inl rfl
theorem New_ok(so:Option Addr)(sb n sc:Nat)(P:List (Int×Int))(w:World)(hn:P.length=n)(h0:0<n)(hn9:n≤1000000)(hP:InPs P)(ho:so=some ⟨sb,0,none⟩)(hc:∀j u,(ptsCells P)[j]?=some u→w.cell? ⟨sb,0+j,none⟩=some u)(a b c:Nat):Calls Tryz.prog 81 #[.slice so n sc,.int .i64 (a:Int),.int .i64 (b:Int),.int .i64 (c:Int)] w fun e w'=>∃pv,e= .returned (.tuple #[pv,.bool (decide (turnM P (a:Int) (b:Int) (c:Int)≠0))])∧Below w.heap.size w w':=by
  rcases turnM_cases P a b c with h|h|h;· refine(New_no so sb n sc P w hn h0 hn9 hP ho hc a b c h).mono ?_;rintro e w' ⟨rfl,hb⟩;exact⟨_,by rw[h];rfl,hb⟩
  · refine(New_yes so sb n sc P w hn h0 hn9 hP ho hc a b c h).mono ?_;rintro e w' ⟨mb,pb,pc,tv,rfl,-,-,hb⟩;exact⟨_,by rw[h];rfl,hb⟩
  · refine(New_back so sb n sc P w hn h0 hn9 hP ho hc a b c h).mono ?_;rintro e w' ⟨mb,pb,pc,tv,rfl,-,-,hb⟩;exact⟨_,by rw[h];rfl,hb⟩
theorem signZ_ne{z:Int}:z.sign≠0↔z≠0:=by
  constructor;·intro h e;rw[e] at h;exact h rfl
  ·intro h e;exact h (Int.sign_eq_zero_iff_zero.1 e)
set_option maxRecDepth 100000 in set_option maxHeartbeats 8000000 in theorem hasArea_any(a0 a1 b0 b1 c0 c1:Int)(ha:InP a0∧InP a1)(hb:InP b0∧InP b1)(hc:InP c0∧InP c1)(q:Bool)(hq:decide (crsP (a0,a1) (b0,b1) (c0,c1)≠0)=q)(w:World):Calls Tryz.prog 164 #[.agg #[.int .i64 a0,.int .i64 a1],.agg #[.int .i64 b0,.int .i64 b1],.agg #[.int .i64 c0,.int .i64 c1]] w fun e w'=>e= .returned (.bool q)∧Below w.heap.size w w':=by
  obtain⟨w1,hw1,pa,hb1,hs1⟩:=new_box w _ rfl [.int .i64 a0,.int .i64 a1] 33;obtain⟨w2,hw2,pb,hb2,hs2⟩:=new_box w1 _ rfl [.int .i64 b0,.int .i64 b1] 33;obtain⟨w3,hw3,pc,hb3,hs3⟩:=new_box w2 _ rfl [.int .i64 c0,.int .i64 c1] 33;obtain⟨w4,hw4,pq,hb4,hs4⟩:=new_box w3 _ rfl [.int .i64 a0,.int .i64 a1,.int .i64 b0,.int .i64 b1,.int .i64 c0,.int .i64 c1] 33;have hb12:Below w.heap.size w w2:=hb1.trans (hb2.mono hb1.size);have hb13:Below w.heap.size w w3:=hb12.trans (hb3.mono hb12.size);have hb14:Below w.heap.size w w4:=hb13.trans (hb4.mono hb13.size);have pa3:=(pa.below hb2).below hb3;have pb3:=pb.below hb3;obtain⟨z0,z1⟩:w3.cell? ⟨w.heap.size,0,none⟩=some (.int .i64 a0)∧w3.cell? ⟨w.heap.size,1,none⟩=some (.int .i64 a1):=⟨pa3.c 0 _ rfl,pa3.c 1 _ rfl⟩;obtain⟨z2,z3⟩:w3.cell? ⟨w1.heap.size,0,none⟩=some (.int .i64 b0)∧w3.cell? ⟨w1.heap.size,1,none⟩=some (.int .i64 b1):=⟨pb3.c 0 _ rfl,pb3.c 1 _ rfl⟩;obtain⟨z4,z5⟩:w3.cell? ⟨w2.heap.size,0,none⟩=some (.int .i64 c0)∧w3.cell? ⟨w2.heap.size,1,none⟩=some (.int .i64 c1):=⟨pc.c 0 _ rfl,pc.c 1 _ rfl⟩;have hP:InPs [(a0,a1),(b0,b1),(c0,c1)]:=by
    intro p hp;simp at hp;rcases hp with rfl|rfl|rfl;·exact ha
    ·exact hb
    ·exact hc
  have hnew:=New_ok (some ⟨w3.heap.size,0,none⟩) w3.heap.size 3 3 [(a0,a1),(b0,b1),(c0,c1)] w4 rfl (by omega) (by omega) hP rfl (fun j u hj=>by rw[Nat.zero_add];exact pq.c j u hj) 0 1 2;have hz:decide (turnM [(a0,a1),(b0,b1),(c0,c1)] ((0:Nat):Int) ((1:Nat):Int) ((2:Nat):Int)≠0)=q:=by
    rw[←hq];exact decide_eq_decide.2 (show(crs a0 a1 b0 b1 c0 c1).sign≠0↔crs a0 a1 b0 b1 c0 c1≠0 from signZ_ne)
  rw[hz] at hnew;have hnew':Calls Tryz.prog 81 #[.slice (some ⟨w3.heap.size,0,none⟩) 3 3,.int .i64 0,.int .i64 1,.int .i64 2] w4 fun e w'=>∃pv,e= .returned (.tuple #[pv,.bool q])∧Below w4.heap.size w4 w':=hnew;have HN:=Lib.hid hnew';have HB:=Lib.hid hb14;clear hnew hnew' hz hP hb12 hb13 hb14 pa pb pc pa3 pb3 hb1 hb2 hb3 hb4 hq pq ha hb hc;clear hs1 hs2 hs3 hs4;go_enter Tryz.func164,Tryz.ntmps164;go_wp2_with fail;refine HN.out.mono ?_;rintro e w5 ⟨pv,rfl,hb5⟩;have FIN:=Lib.hid (HB.out.trans (hb5.mono HB.out.size));clear hb5;go_wp2;go_ret;exact⟨rfl,FIN.out⟩
theorem ptsIn_at{w:World}{sb:Nat}{P:List (Int×Int)}(h:PtsIn w sb P):∀w':World,Below w.heap.size w w'→∀i x y,P[i]?=some (x,y)→w'.cell? ⟨sb,i*2,none⟩=some (.int .i64 x)∧w'.cell? ⟨sb,i*2+1,none⟩=some (.int .i64 y):=fun _ hb i x y hi=>(h.below hb) i x y hi
theorem ptA_get{P:List (Int×Int)}{i:Nat}{p:Int×Int}(h:P[i]?=some p):ptA P i=p:=by unfold ptA;rw[h];rfl
set_option maxRecDepth 100000 in set_option maxHeartbeats 8000000 in theorem Flat_any(sb n sc:Nat)(P:List (Int×Int))(w:World)(hn:P.length=n)(hn9:n≤1000000)(hP:InPs P)(hc:PtsIn w sb P):Calls Tryz.prog 23 #[.slice (some ⟨sb,0,none⟩) n sc] w fun e w'=>∃q,e= .returned (.bool q)∧(q=true↔FlatIs P)∧Below w.heap.size w w':=by
  have HPT:=Lib.hid (ptsIn_at hc);have HIN:=Lib.hid hP;have HN:=Lib.hid hn;clear hc hP hn;go_enter Tryz.func23,Tryz.ntmps23;go_wp2;go_loopw [3,4,5,8] (fun _ _ _ iv wr=>∃i:Nat,i≤n∧iv= .int .i64 (i:Int)∧(∀i' k j,j<k→k<i'→i'<i→crsP (ptA P i') (ptA P k) (ptA P j)=0)∧Below w.heap.size w wr) (fun _ _ _ iv _=>n-(intOf iv).toNat);case atStart=>exact⟨0,Nat.zero_le _,rfl,fun i' k j _ _ h=>by omega,Below.refl _ _⟩
  case round=>
    obtain⟨i,hi,rfl,hI,hbw⟩:=hrel;have HI:=Lib.hid hI;clear hI;by_cases hlt:i<n
    · have hyd:decide ((i:Int)<(n:Int))=true:=decide_eq_true (by omega);have HBW:=Lib.hid hbw;clear hbw;go_wp2;go_loopw [4,5,12] (fun _ _ kv wr=>∃k:Nat,k≤i∧kv= .int .i64 (k:Int)∧(∀k' j,j<k'→k'<k→crsP (ptA P i) (ptA P k') (ptA P j)=0)∧Below w.heap.size w wr) (fun _ _ kv _=>i-(intOf kv).toNat);case atStart=>exact⟨0,Nat.zero_le _,rfl,fun k' j _ h=>by omega,HBW.out⟩
      case round=>
        obtain⟨k,hk,rfl,hK,hbw⟩:=hrel;have HKK:=Lib.hid hK;clear hK;by_cases hltk:k<i
        · have hye:decide ((k:Int)<(i:Int))=true:=decide_eq_true (by omega);have HBV:=Lib.hid hbw;clear hbw;go_wp2;go_loopw [5,16] (fun _ jv wr=>∃j:Nat,j≤k∧jv= .int .i64 (j:Int)∧(∀j',j'<j→crsP (ptA P i) (ptA P k) (ptA P j')=0)∧Below w.heap.size w wr) (fun _ jv _=>k-(intOf jv).toNat);case atStart=>exact⟨0,Nat.zero_le _,rfl,fun j' h=>by omega,HBV.out⟩
          case round=>
            obtain⟨j,hj,rfl,hJ,hbw⟩:=hrel;have HJ:=Lib.hid hJ;clear hJ;by_cases hltj:j<k
            · have hyf:decide ((j:Int)<(k:Int))=true:=decide_eq_true (by omega);obtain⟨⟨a0,a1⟩,hi'⟩:∃p,P[i]?=some p:=⟨_,List.getElem?_eq_getElem (by rw[HN.out];exact hlt)⟩;obtain⟨⟨b0,b1⟩,hk'⟩:∃p,P[k]?=some p:=⟨_,List.getElem?_eq_getElem (by rw[HN.out];omega)⟩;obtain⟨⟨c0,c1⟩,hj'⟩:∃p,P[j]?=some p:=⟨_,List.getElem?_eq_getElem (by rw[HN.out];omega)⟩;have ia:=HIN.out _ (List.mem_of_getElem? hi');have ib:=HIN.out _ (List.mem_of_getElem? hk');have ic:=HIN.out _ (List.mem_of_getElem? hj');obtain⟨s,hs⟩:∃s,(crs a0 a1 b0 b1 c0 c1).sign=s:=⟨_,rfl⟩;have hcr:crsP (ptA P i) (ptA P k) (ptA P j)=crs a0 a1 b0 b1 c0 c1:=by rw[ptA_get hi',ptA_get hk',ptA_get hj'];rfl
              have HOR:=Lib.hid (fun W=>Orient_is a0 a1 b0 b1 c0 c1 ia.1 ia.2 ib.1 ib.2 ic.1 ic.2 hs W);have HS:=Lib.hid hs;have HCR:=Lib.hid hcr;clear ia ib ic hs hcr;have j1:(0:Int)≤(i:Int):=by omega
              have j2:(i:Int)<(n:Int):=by omega
              have j3:(0:Int)≤(k:Int):=by omega
              have j4:(k:Int)<(n:Int):=by omega
              have j5:(0:Int)≤(j:Int):=by omega
              have j6:(j:Int)<(n:Int):=by omega
              have hB_0:=hbw.drew';clear hbw;go_wp2_with fail;refine wp_region_noPanic ?_;refine wp_region_held_drew (S:=fun w'=>w'.cell? ⟨sb,i*2,none⟩=some (.int .i64 a0)∧w'.cell? ⟨sb,i*2+1,none⟩=some (.int .i64 a1)∧w'.cell? ⟨sb,k*2,none⟩=some (.int .i64 b0)∧w'.cell? ⟨sb,k*2+1,none⟩=some (.int .i64 b1)∧w'.cell? ⟨sb,j*2,none⟩=some (.int .i64 c0)∧w'.cell? ⟨sb,j*2+1,none⟩=some (.int .i64 c1)) (by kernel_rfl) (⟨(HPT.out _ hB_0 i _ _ hi').1,(HPT.out _ hB_0 i _ _ hi').2,(HPT.out _ hB_0 k _ _ hk').1,(HPT.out _ hB_0 k _ _ hk').2,(HPT.out _ hB_0 j _ _ hj').1,(HPT.out _ hB_0 j _ _ hj').2⟩) (fun hHeld=>?_);refine rU 0 _ _ ?_;refine rU 1 _ _ ?_;refine rU 2 _ _ ?_;refine rU 3 _ _ ?_;refine rU 4 _ _ ?_;refine rU 5 _ _ ?_;refine rU 6 _ _ ?_;refine rU 7 _ _ ?_;refine rU 8 _ _ ?_;refine rU 9 _ _ ?_;refine rU 10 _ _ ?_;refine rU 11 _ _ ?_;refine rC 12 _ (fun K hK=>?_);go_simp;refine(HOR.out _).mono ?_;rintro e wz ⟨rfl,hbz⟩;have hB_1:=hB_0.trans (hbz.mono hB_0.size);clear hbz;go_wp2_with fail;refine hK.out _ _ (⟨(HPT.out _ hB_1 i _ _ hi').1,(HPT.out _ hB_1 i _ _ hi').2,(HPT.out _ hB_1 k _ _ hk').1,(HPT.out _ hB_1 k _ _ hk').2,(HPT.out _ hB_1 j _ _ hj').1,(HPT.out _ hB_1 j _ _ hj').2⟩) (fun hHeld=>?_);clear hK K;try simp only[Act.put,sA,sZ,sS]
              refine rU 13 _ _ ?_;refine wpAnyH_done (by kernel_rfl) ?_ _;refine NoPanic.normal ?_;have HB1:=Lib.hid hB_1;clear hB_0 hB_1;by_cases hz:s=0
              · have q1:(s !=0)=false:=by simpa using hz
                have q2:(s==0)=true:=by simpa using hz
                have HZ:=Lib.hid hz;clear hz;go_wp2;exact⟨⟨j+1,by omega,by go_num,fun j' hj2=>(by
                  rcases Nat.lt_or_ge j' j with g|g;·exact HJ.out j' g
                  · obtain rfl:j'=j:=by omega
                    rw[HCR.out];exact Int.sign_eq_zero_iff_zero.1 (HS.out.trans HZ.out)),HB1.out⟩,by simp[intOf];omega⟩
              · have q1:(s !=0)=true:=by simpa using hz
                have q2:(s==0)=false:=by simpa using hz
                have HZ:=Lib.hid hz;have HLS:=Lib.hid (And.intro hlt (And.intro hltk hltj));clear hz;go_wp2;go_ret;refine⟨false,rfl,⟨fun h=>(by cases h),fun h=>?_⟩,HB1.out⟩;have:=h i k j HLS.out.2.2 HLS.out.2.1 (by rw[HN.out];exact HLS.out.1);rw[HCR.out] at this;exact absurd (HS.out.symm.trans (by rw[this];rfl)) HZ.out
            · obtain rfl:j=k:=by omega
              have HBU:=Lib.hid hbw;clear hbw;go_wp2;exact⟨⟨j+1,by omega,by go_num,fun k' j' h1 h2=>(by
                rcases Nat.lt_or_ge k' j with g|g;·exact HKK.out k' j' h1 g
                · obtain rfl:k'=j:=by omega
                  exact HJ.out j' h1),HBU.out⟩,by simp[intOf];omega⟩
        · obtain rfl:k=i:=by omega
          have HBU:=Lib.hid hbw;clear hbw;go_wp2;exact⟨⟨k+1,by omega,by go_num,fun i' k' j' h1 h2 h3=>(by
            rcases Nat.lt_or_ge i' k with g|g;·exact HI.out i' k' j' h1 h2 g
            · obtain rfl:i'=k:=by omega
              exact HKK.out k' j' h1 h2),HBU.out⟩,by simp[intOf];omega⟩
    · obtain rfl:i=n:=by omega
      have HBU:=Lib.hid hbw;clear hbw;go_wp2;go_ret;refine⟨true,rfl,⟨fun _ i' k j h1 h2 h3=>?_,fun _=>rfl⟩,HBU.out⟩;exact HI.out i' k j h1 h2 (by have:=HN.out;omega)
set_option maxRecDepth 100000 in set_option maxHeartbeats 8000000 in theorem Base_any(sb n sc:Nat)(P:List (Int×Int))(w:World)(hn:P.length=n)(h0:0<n)(hn9:n≤1000000)(hP:InPs P)(hc:PtsIn w sb P):Calls Tryz.prog 80 #[.slice (some ⟨sb,0,none⟩) n sc] w fun e w'=>∃ok s t,e= .returned (.tuple #[.agg #[.int .i64 0,.int .i64 ((s:Nat):Int),.int .i64 ((t:Nat):Int)],.bool ok])∧BaseIs P ok s t∧Below w.heap.size w w':=by
  obtain⟨⟨z0,z1⟩,hz⟩:∃p,P[0]?=some p:=⟨_,List.getElem?_eq_getElem (by omega)⟩;obtain⟨w1,hw1,pr,hb1,hs1⟩:=new_box w _ rfl [.int .i64 0,.int .i64 0,.int .i64 0] 38;have HPT:=Lib.hid (ptsIn_at hc);have HIN:=Lib.hid hP;have HN:=Lib.hid hn;have HZ:=Lib.hid hz;have PR:=Lib.hid pr;have HB1:=Lib.hid hb1;have HS1:=Lib.hid hs1;have HZP:=Lib.hid (ptA_get hz);have y0:(0:Int)<(n:Int):=by omega
  clear hc hP hn hz pr hb1 hs1;go_enter Tryz.func80,Tryz.ntmps80;go_wp2;go_loopw [4] (fun kv wr=>∃k:Nat,1≤k∧k≤n+1∧kv= .int .i64 (k:Int)∧(∀i,i<k→i<n→ptA P i=ptA P 0)∧Below w1.heap.size w1 wr) (fun kv _=>n+1-(intOf kv).toNat);case atStart=>exact⟨1,by omega,by omega,rfl,fun i h1 _=>(by rw[show i=0 by omega]),Below.refl _ _⟩
  case round=>
    obtain⟨k,hk1,hkn,rfl,hI,hbw⟩:=hrel;by_cases hlt:k<n
    · have hyd:decide ((k:Int)<(n:Int))=true:=decide_eq_true (by omega);obtain⟨⟨a0,a1⟩,hk'⟩:∃p,P[k]?=some p:=⟨_,List.getElem?_eq_getElem (by rw[HN.out];exact hlt)⟩;have hbw0:=HB1.out.trans (hbw.mono HB1.out.size);obtain⟨d0,d1⟩:=HPT.out _ hbw0 k _ _ hk';obtain⟨d2,d3⟩:=HPT.out _ hbw0 0 _ _ HZ.out;obtain⟨q,hq⟩:∃q,decide (a0=z0∧a1=z1)=q:=⟨_,rfl⟩;have heq:∀W:World,Sem.run Tryz.prog (binOp BinOp.eql 33 (Value.agg #[.int .i64 a0,.int .i64 a1]) (Value.agg #[.int .i64 z0,.int .i64 z1])) W=Result.ok (Value.bool q) W:=fun W=>by rw[eqPt_run,hq]
      have HQ:=Lib.hid hq;have HI:=Lib.hid hI;have HBW:=Lib.hid hbw;have HPK:=Lib.hid (ptA_get hk');have j1:(0:Int)≤(k:Int):=by omega
      have j2:(k:Int)<(n:Int):=by omega
      have j3:(0:Int)≤0:=by omega
      rw[Nat.zero_mul] at d2 d3;clear hq hI hbw hbw0 hk';have DD:=Lib.hid (And.intro d0 (And.intro d1 (And.intro d2 d3)));clear d0 d1 d2 d3;go_wp2_with fail;refine wp_region_noPanic ?_;refine wp_region_held_drew (S:=fun w'=>w'.cell? ⟨sb,k*2,none⟩=some (.int .i64 a0)∧w'.cell? ⟨sb,k*2+1,none⟩=some (.int .i64 a1)∧w'.cell? ⟨sb,0,none⟩=some (.int .i64 z0)∧w'.cell? ⟨sb,1,none⟩=some (.int .i64 z1)) (by kernel_rfl) (DD.out) (fun hHeld=>?_);refine rU 0 _ _ ?_;refine rU 1 _ _ ?_;refine rU 2 _ _ ?_;refine rU 3 _ _ ?_;refine rU 4 _ _ ?_;refine rU 5 _ _ ?_;refine rU 6 _ _ ?_;refine rU 7 _ _ ?_;refine rU 8 _ _ ?_;refine rU 9 _ _ ?_;refine rU 10 _ _ ?_;refine rU 11 _ _ ?_;refine rU 12 _ _ ?_;refine rU 13 _ _ ?_;refine wpAnyH_done (by kernel_rfl) ?_ _;refine NoPanic.normal ?_;clear heq;cases q with
      |true=>
        go_wp2;have hB_:=HBW.out.drew';exact⟨⟨k+1,by omega,by omega,by go_num,fun i h1 h2=>(by
          rcases Nat.lt_or_ge i k with g|g;·exact HI.out i g h2
          · obtain rfl:i=k:=by omega
            have e:=of_decide_eq_true HQ.out;rw[HPK.out,HZP.out,e.1,e.2]),hB_⟩,by simp[intOf];omega⟩|false=>
        have HLT:=Lib.hid (And.intro hk1 hlt);have HPZ:=Lib.hid (show ptA P k≠ptA P 0 from by
          intro e;rw[HPK.out,HZP.out] at e;exact of_decide_eq_false HQ.out ⟨congrArg Prod.fst e,congrArg Prod.snd e⟩);have hkw:IntKind.i64.wrap ((k:Int)+1)=((k+1:Nat):Int):=by rw[IntKind.wrap_i64];omega
        clear j3;go_wp2;have hB_:=HBW.out.drew';have HB2:=Lib.hid hB_;clear hB_;go_loopw [5] (fun tv wr=>∃t:Nat,k+1≤t∧t≤n∧tv= .int .i64 (t:Int)∧(∀i,k<i→i<t→crsP (ptA P 0) (ptA P k) (ptA P i)=0)∧Below w1.heap.size w1 wr) (fun tv _=>n-(intOf tv).toNat);case atStart=>exact⟨k+1,by omega,by omega,by go_num,fun i h1 h2=>by omega,HB2.out⟩
        case round=>
          obtain⟨t,ht1,htn,rfl,hT,hbw⟩:=hrel;have HTT:=Lib.hid hT;clear hT;by_cases hlt2:t<n
          · have hye:decide ((t:Int)<(n:Int))=true:=decide_eq_true (by omega);obtain⟨⟨b0,b1⟩,ht'⟩:∃p,P[t]?=some p:=⟨_,List.getElem?_eq_getElem (by rw[HN.out];exact hlt2)⟩;obtain⟨⟨a0',a1'⟩,hs'⟩:∃p,P[k]?=some p:=⟨_,List.getElem?_eq_getElem (by rw[HN.out];omega)⟩;have iz:=HIN.out _ (List.mem_of_getElem? HZ.out);have ia:=HIN.out _ (List.mem_of_getElem? hs');have ib:=HIN.out _ (List.mem_of_getElem? ht');obtain⟨q,hq⟩:∃q,decide (crsP (z0,z1) (a0',a1') (b0,b1)≠0)=q:=⟨_,rfl⟩;have HAR:=Lib.hid (fun W=>hasArea_any z0 z1 a0' a1' b0 b1 iz ia ib q hq W);have hcr:crsP (ptA P 0) (ptA P k) (ptA P t)=crsP (z0,z1) (a0',a1') (b0,b1):=by rw[HZP.out,ptA_get hs',ptA_get ht']
            have HCR:=Lib.hid hcr;have HS:=Lib.hid hs';have HT:=Lib.hid ht';have HQ2:=Lib.hid hq;have hB_0:=(HB1.out.trans (hbw.mono HB1.out.size)).drew';have hW_0:=hbw.drew';have j5:(0:Int)≤(t:Int):=by omega
            have j6:(t:Int)<(n:Int):=by omega
            clear iz ia ib hq hcr hs' ht' hbw;go_wp2_with fail;refine wp_region_noPanic ?_;refine wp_region_held_drew (S:=fun w'=>w'.cell? ⟨sb,0,none⟩=some (.int .i64 z0)∧w'.cell? ⟨sb,1,none⟩=some (.int .i64 z1)∧w'.cell? ⟨sb,k*2,none⟩=some (.int .i64 a0')∧w'.cell? ⟨sb,k*2+1,none⟩=some (.int .i64 a1')∧w'.cell? ⟨sb,t*2,none⟩=some (.int .i64 b0)∧w'.cell? ⟨sb,t*2+1,none⟩=some (.int .i64 b1)) (by kernel_rfl) (⟨(HPT.out _ hB_0 0 _ _ HZ.out).1,(HPT.out _ hB_0 0 _ _ HZ.out).2,(HPT.out _ hB_0 k _ _ HS.out).1,(HPT.out _ hB_0 k _ _ HS.out).2,(HPT.out _ hB_0 t _ _ HT.out).1,(HPT.out _ hB_0 t _ _ HT.out).2⟩) (fun hHeld=>?_);refine rU 0 _ _ ?_;refine rU 1 _ _ ?_;refine rU 2 _ _ ?_;refine rU 3 _ _ ?_;refine rU 4 _ _ ?_;refine rU 5 _ _ ?_;refine rU 6 _ _ ?_;refine rU 7 _ _ ?_;refine rU 8 _ _ ?_;refine rU 9 _ _ ?_;refine rU 10 _ _ ?_;refine rC 11 _ (fun K hK=>?_);go_simp;refine(HAR.out _).mono ?_;rintro e wz ⟨rfl,hbz⟩;have hB_1:=hB_0.trans (hbz.mono hB_0.size);have hW_1:=hW_0.trans (hbz.mono hW_0.size);clear hbz;go_wp2_with fail;refine hK.out _ _ (⟨(HPT.out _ hB_1 0 _ _ HZ.out).1,(HPT.out _ hB_1 0 _ _ HZ.out).2,(HPT.out _ hB_1 k _ _ HS.out).1,(HPT.out _ hB_1 k _ _ HS.out).2,(HPT.out _ hB_1 t _ _ HT.out).1,(HPT.out _ hB_1 t _ _ HT.out).2⟩) (fun hHeld=>?_);clear hK K;try simp only[Act.put,sA,sZ,sS]
            refine wpAnyH_done (by kernel_rfl) ?_ _;refine NoPanic.normal ?_;have HW:=Lib.hid hW_1;clear hB_0 hB_1 hW_0 hW_1;cases q with
            |true=>
              have pz:=PR.out.below HW.out;have o0:=pz.c 0 _ rfl;have o1:=pz.c 1 _ rfl;have o2:=pz.c 2 _ rfl;have g0:=pz.f 0 _ rfl;have g1:=pz.f 1 _ rfl;have g2:=pz.f 2 _ rfl;obtain⟨wy,hwy⟩:∃wy,setAll wz w.heap.size 0 [.int .i64 0,.int .i64 (k:Int),.int .i64 (t:Int)]=wy:=⟨_,rfl⟩;have pz2:Box wy w.heap.size [.int .i64 0,.int .i64 (k:Int),.int .i64 (t:Int)]:=by rw[←hwy];exact pz.setAll [.int .i64 0,.int .i64 (k:Int),.int .i64 (t:Int)] rfl
              have hbz:Below w.heap.size w wy:=by rw[←hwy];exact below_setAll (HB1.out.trans (HW.out.mono HB1.out.size)) (Nat.le_refl _) _
              have Z0:=Lib.hid (pz2.c 0 _ rfl);have Z1:=Lib.hid (pz2.c 1 _ rfl);have Z2:=Lib.hid (pz2.c 2 _ rfl);have HWZ:=Lib.hid hwy;have HBZ:=Lib.hid hbz;clear pz pz2 hbz hwy;go_wp2;have z0_:=Z0.out;have z1_:=Z1.out;have z2_:=Z2.out;have hwy:=HWZ.out;simp only[setAll] at hwy;rw[hwy];(try simp only[Exit.inBlock,Exit.then]);refine bodyPost_ret (v:= .tuple #[.agg #[.int .i64 0,.int .i64 (k:Int),.int .i64 (t:Int)],.bool true]) ?_ rfl ?_;·simp[results,Tryz.results80,go_sem,z0_,z1_,z2_]
              ·exact⟨true,k,t,rfl,.inl ⟨rfl,HLT.out.1,by omega,by have:=HN.out;omega,fun i hi=>HI.out i hi (by have:=HLT.out.2;omega),HPZ.out,HTT.out,by rw[HCR.out];exact of_decide_eq_true HQ2.out⟩,HBZ.out⟩|false=>
              go_wp2;exact⟨⟨t+1,by omega,by omega,by go_num,fun i h1 h2=>(by
                rcases Nat.lt_or_ge i t with g|g;·exact HTT.out i h1 g
                · obtain rfl:i=t:=by omega
                  rw[HCR.out];have:=of_decide_eq_false HQ2.out;exact Classical.not_not.1 this),HW.out⟩,by simp[intOf];omega⟩
          · obtain rfl:t=n:=by omega
            have HW:=Lib.hid hbw;clear hbw;have pz:=PR.out.below HW.out;have o0:=pz.c 0 _ rfl;have o1:=pz.c 1 _ rfl;have o2:=pz.c 2 _ rfl;have g0:=pz.f 0 _ rfl;have g1:=pz.f 1 _ rfl;have g2:=pz.f 2 _ rfl;obtain⟨wy,hwy⟩:∃wy,setAll wr w.heap.size 0 [.int .i64 0,.int .i64 0,.int .i64 0]=wy:=⟨_,rfl⟩;have pz2:Box wy w.heap.size [.int .i64 0,.int .i64 0,.int .i64 0]:=by rw[←hwy];exact pz.setAll [.int .i64 0,.int .i64 0,.int .i64 0] rfl
            have hbz:Below w.heap.size w wy:=by rw[←hwy];exact below_setAll (HB1.out.trans (HW.out.mono HB1.out.size)) (Nat.le_refl _) _
            have Z0:=Lib.hid (pz2.c 0 _ rfl);have Z1:=Lib.hid (pz2.c 1 _ rfl);have Z2:=Lib.hid (pz2.c 2 _ rfl);have HWZ:=Lib.hid hwy;have HBZ:=Lib.hid hbz;clear pz pz2 hbz hwy;go_wp2;have z0_:=Z0.out;have z1_:=Z1.out;have z2_:=Z2.out;have hwy:=HWZ.out;simp only[setAll] at hwy;rw[hwy];(try simp only[Exit.inBlock,Exit.then]);refine bodyPost_ret (v:= .tuple #[.agg #[.int .i64 0,.int .i64 0,.int .i64 0],.bool false]) ?_ rfl ?_;·simp[results,Tryz.results80,go_sem,z0_,z1_,z2_]
            ·exact⟨false,0,0,rfl,.inr ⟨rfl,rfl,rfl,k,fun i hi _=>HI.out i hi (by have:=HLT.out.2;omega),.inr ⟨HPZ.out,fun i h1 h2=>HTT.out i h1 (by have:=HN.out;omega)⟩⟩,HBZ.out⟩
    · have hyd:decide ((k:Int)<(n:Int))=false:=decide_eq_false (by omega);have HI:=Lib.hid hI;have HBW:=Lib.hid hbw;clear hI hbw;go_wp2_with fail;refine wp_region_noPanic ?_;refine wp_region_held_drew (S:=fun w'=>True) (by kernel_rfl) (trivial) (fun hHeld=>?_);refine rU 0 _ _ ?_;refine rU 1 _ _ ?_;refine rU 2 _ _ ?_;refine rU 3 _ _ ?_;refine rU 4 _ _ ?_;refine rS 5 ?_ ?_ ?_ ?_;rotate_left 1;·simp only[gA,gS,gZ];exact rfl
      ·rfl
      try simp only[Act.put,sA,sZ,sS]
      refine rS 6 ?_ ?_ ?_ ?_;rotate_left 1;·simp only[gA,gS,gZ];exact rfl
      ·rfl
      try simp only[Act.put,sA,sZ,sS]
      refine rS 7 ?_ ?_ ?_ ?_;rotate_left 1;·simp only[gA,gS,gZ];exact rfl
      ·rfl
      try simp only[Act.put,sA,sZ,sS]
      refine rS 8 ?_ ?_ ?_ ?_;rotate_left 1;·simp only[gA,gS,gZ];exact rfl
      ·rfl
      try simp only[Act.put,sA,sZ,sS]
      refine rS 9 ?_ ?_ ?_ ?_;rotate_left 1;·simp only[gA,gS,gZ];exact rfl
      ·rfl
      try simp only[Act.put,sA,sZ,sS]
      refine rS 10 ?_ ?_ ?_ ?_;rotate_left 1;·simp only[gA,gS,gZ];exact rfl
      ·rfl
      try simp only[Act.put,sA,sZ,sS]
      refine rS 11 ?_ ?_ ?_ ?_;rotate_left 1;·simp only[gA,gS,gZ];exact rfl
      ·rfl
      try simp only[Act.put,sA,sZ,sS]
      refine rS 12 ?_ ?_ ?_ ?_;rotate_left 1;·simp only[gA,gS,gZ];exact rfl
      ·rfl
      try simp only[Act.put,sA,sZ,sS]
      refine rU 13 _ _ ?_;refine wpAnyH_done (by kernel_rfl) ?_ _;refine NoPanic.normal ?_;go_wp2;have hB_:=HBW.out.drew';have HB2:=Lib.hid hB_;clear hB_;go_loopw [5] (fun tv wr=>tv= .int .i64 ((k:Int)+1)∧Below w1.heap.size w1 wr) (fun _ _=>0);case atStart=>exact⟨by go_num,HB2.out⟩
      case round=>
        obtain⟨rfl,hbw⟩:=hrel;have hyd2:decide (((k:Int)+1)<(n:Int))=false:=decide_eq_false (by omega);have HW:=Lib.hid hbw;clear hbw;have pz:=PR.out.below HW.out;have o0:=pz.c 0 _ rfl;have o1:=pz.c 1 _ rfl;have o2:=pz.c 2 _ rfl;have g0:=pz.f 0 _ rfl;have g1:=pz.f 1 _ rfl;have g2:=pz.f 2 _ rfl;obtain⟨wy,hwy⟩:∃wy,setAll wr w.heap.size 0 [.int .i64 0,.int .i64 0,.int .i64 0]=wy:=⟨_,rfl⟩;have pz2:Box wy w.heap.size [.int .i64 0,.int .i64 0,.int .i64 0]:=by rw[←hwy];exact pz.setAll [.int .i64 0,.int .i64 0,.int .i64 0] rfl
        have hbz:Below w.heap.size w wy:=by rw[←hwy];exact below_setAll (HB1.out.trans (HW.out.mono HB1.out.size)) (Nat.le_refl _) _
        have Z0:=Lib.hid (pz2.c 0 _ rfl);have Z1:=Lib.hid (pz2.c 1 _ rfl);have Z2:=Lib.hid (pz2.c 2 _ rfl);have HWZ:=Lib.hid hwy;have HBZ:=Lib.hid hbz;clear pz pz2 hbz hwy;go_wp2;have z0_:=Z0.out;have z1_:=Z1.out;have z2_:=Z2.out;have hwy:=HWZ.out;simp only[setAll] at hwy;rw[hwy];(try simp only[Exit.inBlock,Exit.then]);refine bodyPost_ret (v:= .tuple #[.agg #[.int .i64 0,.int .i64 0,.int .i64 0],.bool false]) ?_ rfl ?_;·simp[results,Tryz.results80,go_sem,z0_,z1_,z2_]
        ·exact⟨false,0,0,rfl,.inr ⟨rfl,rfl,rfl,k,fun i hi h2=>HI.out i hi (by have:=HN.out;omega),.inl (by rw[HN.out];omega)⟩,HBZ.out⟩
end Go.Proofs.YtdmfbkhafnkcfaaGreat
namespace Go.MagM
open Go.RowKit
theorem cors_real{P:List (Int×Int)}{T:TriM}(_hr:realT T=true)(h:∀i,i<3→InV P (T.v i)):cors P T=[ptT P T 0,ptT P T 1,ptT P T 2]:=by
  have h0:=h 0 (by omega);have h1:=h 1 (by omega);have h2:=h 2 (by omega);unfold InV at h0 h1 h2;have hf:corF T=0:=by
    unfold corF placeT;have a0:T.v 0=T.v0:=rfl;have a1:T.v 1=T.v1:=rfl;have a2:T.v 2=T.v2:=rfl;rw[if_neg (by omega),if_neg (by omega),if_neg (by omega)];rfl
  unfold cors;simp only[corsN,hf,List.nil_append];unfold corK;rw[if_pos h0,if_pos h1,if_pos h2];rfl
theorem cors_ghost{P:List (Int×Int)}{T:TriM}{j:Nat}(hj:j<3)(hg:placeT T (-1)=(j:Int))(h1:InV P (T.v ((j+1)%3)))(h2:InV P (T.v ((j+2)%3)))(h0:T.v j=-1):cors P T=[ptT P T ((j+1)%3),ptT P T ((j+2)%3)]:=by
  unfold InV at h1 h2;have hf:corF T=j+1:=by unfold corF;rw[hg];omega
  unfold cors;simp only[corsN,hf,List.nil_append];obtain rfl|rfl|rfl:j=0∨j=1∨j=2:=by omega
  all_goals (unfold corK;rw[if_pos h1,if_pos h2,if_neg (by simp[h0])];rfl)
end Go.MagM
namespace Go.Proofs.YtdmfbkhafnkcfaaGreat
open Go.RowKit Go.MagM
theorem MeshO.sl{p e:TypeId}{w:World}{lo mb pb pc:Nat}{tv:Value}{P:List (Int×Int)}{S:List TriM}(h:MeshO p e w lo mb pb pc tv P S)(h0:0<S.length):∃tb tc,tv= .slice (some ⟨tb,0,none⟩) S.length tc∧MeshR w mb pb pc (some ⟨tb,0,none⟩) tc P S:=by obtain⟨t,ht⟩:∃t,S[0]?=some t:=⟨_,List.getElem?_eq_getElem h0⟩;obtain⟨tb,tc,rfl⟩:=h.slot ht;obtain⟨ta,tc',e,hr⟩:=h.read;simp only[Value.slice.injEq] at e;obtain⟨rfl,-,rfl⟩:=e;exact⟨tb,tc,rfl,hr⟩
end Go.Proofs.YtdmfbkhafnkcfaaGreat
namespace Go.MagM
open Go.RowKit
section
variable{P:Program}
theorem run_append_all(w:World)(base:Nat)(t ty e:TypeId)(i:TypeInfo)(z:Value)(size bytes:Nat)(ht:P.underlying t=some (.slice e))(hi:P.info? e=some i)(hz:i.zero=some z)(hsize:i.size=size)(hby:i.bytes=bytes)(hzs:z.cells.size=size)(hzw:∀u∈z.cells.toList,NoWord u)(v:Value)(n:Nat)(xs:List Value)(hrow:RowN w base e size v n xs)(a:Addr)(m c:Nat)(news:List Value)(hl:news.length=m*size)(hnews:∀j u,news[j]?=some u→w.cell? (a.add j)=some u)(h1:∀u∈news,u.oneCell'=true)(hnw:∀u∈news,NoWord u)(h63:n+m≤maxLen)(hbytes:(n+m)*bytes≤140737488355328)(hbase:base≤w.heap.size):∃v' w',(Builtin.append_ #[t,t] ty #[v,.slice (some a) m c]).run P w= .ok v' w'∧RowN w' base e size v' (n+m) (xs++news)∧w.grownBy w' v.ownBlock∧Kept w w':=by
  by_cases hm:m=0
  · subst hm;obtain rfl:news=[]:=List.eq_nil_of_length_eq_zero (by omega);refine⟨v,w,?_,by rw[List.append_nil];exact hrow,⟨rfl,rfl,rfl,Nat.le_refl _,fun k _ _=>rfl⟩,Kept.refl w⟩;rcases hrow.2 with⟨rfl,rfl⟩|⟨g,cap,cur,rfl,_,_,hnc,_⟩;·simp[Builtin.append_,run_underlying ht,sizeOf,typeInfo,hi,Builtin.lenOf,Builtin.firstCells,loadCells,loadCellsFrom]
    ·simp[Builtin.append_,run_underlying ht,sizeOf,typeInfo,hi,Builtin.lenOf,Builtin.firstCells,loadCells,loadCellsFrom,storeCells,hnc]
  ·exact run_append_row w base t ty e i z size bytes ht hi hz hsize hby hzs hzw v n xs hrow a m c news (by omega) hl hnews h1 hnw h63 hbytes hbase
theorem run_append_made(w:World)(base:Nat)(t u ty e:TypeId)(i:TypeInfo)(z:Value)(ht:P.underlying t=some (.slice e))(hu:P.underlying u=some (.int .i64))(hi:P.info? e=some i)(hz:i.zero=some z)(hzs:z.cells.size=i.size)(hzw:∀u∈z.cells.toList,NoWord u)(hs0:0<i.size)(n:Nat)(h0:0<n)(h63:n≤maxLen)(hbytes:n*i.bytes≤140737488355328)(hbase:base≤w.heap.size):∃g c w',(Builtin.append_ #[t,u] ty #[.slice none 0 0,.int .i64 (n:Int)]).run P w= .ok (.slice (some ⟨g,0,none⟩) n c) w'∧n≤c∧RowN w' base e i.size (.slice (some ⟨g,0,none⟩) 0 c) 0 []∧Below w.heap.size w w':=by
  have hge:=grownCap_ge w n 0 e;have hcm:grownCap w n 0 e≤maxLen:=grownCap_le_maxLen w n 0 e h63;have hm:maxLen=9223372036854775807:=rfl;refine⟨w.heap.size,grownCap w n 0 e,w.drew.alloc (.cells (Builtin.zeroCells z.cells n++Builtin.zeroCells z.cells (grownCap w n 0 e-n)) e),?_,hge,⟨by simp,.inr ⟨w.heap.size,_,_,rfl,hbase,heap_alloc_new w.drew _,Nat.zero_le _,hcm,?_,by simp,?_⟩⟩,(Below.refl _ _).drew'.alloc (Nat.le_refl _) _⟩
  · have hn:¬n=0:=by omega
    have hns:¬n*i.size=0:=Nat.ne_of_gt (Nat.mul_pos h0 hs0);have hw:IntKind.i64.wrap (n:Int)=(n:Int):=by rw[IntKind.wrap_i64];omega
    have hneg:¬(n:Int)<0:=by omega
    have h48:¬(281474976710656:Int)<(n:Int)*(i.bytes:Int):=by
      have:((n*i.bytes:Nat):Int)=(n:Int)*(i.bytes:Int):=by push_cast;rfl
      omega
    have h63':¬(9223372036854775807<(n:Int)):=by omega
    have h48':¬(281474976710656<Builtin.nextslicecap n 0*i.bytes):=by rw[nextslicecap_zero h0];omega
    simp[Builtin.append_,run_underlying ht,run_underlying hu,sizeOf,typeInfo,zeroValue,hi,hz,hw,hneg,h48,hn,hns,h63',h48',Question.forced,run_firstCells_none,newRow,grownCap,asInt,asIntOf]
  · rw[Array.size_append,size_zeroCells,size_zeroCells,hzs,←Nat.add_mul];congr 1;omega
  · intro u hu;rw[Array.toList_append,List.mem_append] at hu;rcases hu with hu|hu;·exact noWord_zero hzw _ u hu
    ·exact noWord_zero hzw _ u hu
theorem wp_append_two{w:World}{o:Oper}{a:Act}{K:Act→World→Prop}{Q:Exit→Act→World→Prop}(s x:Operand)(t t2:TypeId)(ho:o.op= .call {callee:= .builtin .append,args:=#[s,x],argTypes:=#[t,t2]}){v v':Value}{u:Value}{w':World}(hs:a.eval s=v)(hx:a.eval x=u)(hr:(Builtin.append_ #[t,t2] o.type #[v,u]).run P w= .ok v' w')(h:K (a.put o.dst v') w'):o.wp P a w K Q:=by unfold Oper.wp execOp;simp only[ho,resolve,invoke,builtin,Sem.run_bind,Sem.run_pure,Result.andThen_ok,List.map_toArray,List.map_cons,List.map_nil,hs,hx,hr];exact h
theorem wpList_append_two{ops:Array Oper}{rest:List Oper}{w:World}{o:Oper}{a:Act}{Q:Exit→Act→World→Prop}(hgd:o.guard=none)(s x:Operand)(t t2:TypeId)(ho:o.op= .call {callee:= .builtin .append,args:=#[s,x],argTypes:=#[t,t2]}){v v':Value}{u:Value}{w':World}(hs:a.eval s=v)(hx:a.eval x=u)(hr:(Builtin.append_ #[t,t2] o.type #[v,u]).run P w= .ok v' w')(h:wpList P ops Q rest (a.put o.dst v') w'):wpList P ops Q (o::rest) a w:=wpList_plain hgd fun _ hK=>wp_append_two s x t t2 ho hs hx hr (hK _ _ h)
end
def minZ(zs:List Int):Nat→Int|0=>zs.headD 0|k+1=>min (minZ zs k) (zs.getD k 0)
theorem minZ_mem{zs:List Int}(h0:0<zs.length):∀k,k≤zs.length→minZ zs k∈zs
  |0,_=>by cases zs with
    |nil=>simp at h0|cons a r=>simp[minZ]
  |k+1,hk=>by
    have h:=minZ_mem h0 k (by omega);rw[minZ];have e:zs.getD k 0=zs[k]:=by simp[show k<zs.length by omega]
    rw[e];rcases Int.le_total (minZ zs k) zs[k] with g|g;·rw[Int.min_eq_left g];exact h
    ·rw[Int.min_eq_right g];exact List.getElem_mem (by omega)
theorem idxZ_mem{zs:List Int}{x:Int}(h:x∈zs):∃k:Nat,idxZ zs x=(k:Int)∧k<zs.length:=by unfold idxZ;cases hf:zs.findIdx? (·==x) with|none=>rw[List.findIdx?_eq_none_iff] at hf;exact absurd (hf x h) (by simp)|some k=>rw[List.findIdx?_eq_some_iff_getElem] at hf;exact⟨k,rfl,hf.1⟩
def hullL(l:List Int):List Int:=l.drop (idxZ l (minZ l l.length)).toNat++l.take (idxZ l (minZ l l.length)).toNat
theorem hullL_len(l:List Int):(hullL l).length=l.length:=by unfold hullL;rw[List.length_append,List.length_drop,List.length_take];omega
def catK(xs ys:List Value):Nat→List Value|0=>[]|1=>xs|_=>xs++ys
end Go.MagM
namespace Go.Proofs.YtdmfbkhafnkcfaaGreat
open Go.RowKit Go.MagM
set_option maxRecDepth 100000 in set_option maxHeartbeats 4000000 in theorem growI_any(n:Nat)(h0:0<n)(hn9:n≤1000000)(w:World):Calls Tryz.prog 175 #[.slice none 0 0,.int .i64 (n:Int)] w fun e w'=>∃g c,e= .returned (.slice (some ⟨g,0,none⟩) 0 c)∧RowN w' w.heap.size 3 1 (.slice (some ⟨g,0,none⟩) 0 c) 0 []∧Below w.heap.size w w':=by
  obtain⟨i0,hi,hz0,hz1,hz2⟩:=info_parts infoI;obtain⟨g,c,wa,hrun,hnc,hrow,hb⟩:=run_append_made (P:=Tryz.prog) w w.heap.size 44 3 44 3 i0 (.int .i64 0) (by kernel_rfl) (by kernel_rfl) hi hz0 (by rw[hz1];rfl) (by intro u hu;simp[Value.cells] at hu;subst hu;exact NoWord.int _) (by omega) n h0 (by unfold maxLen;omega) (by rw[hz2];omega) (Nat.le_refl _);rw[hz1] at hrow;have HR:=Lib.hid hrow;have HB:=Lib.hid hb;clear hrow hb hi hz0 hz1 hz2;have hp:(0:Int)<(n:Int):=by omega
  go_enter Tryz.func175,Tryz.ntmps175;go_wp2_with (refine wpList_append_two rfl _ _ 44 3 rfl rfl rfl hrun ?_);clear hrun;go_wp2;go_ret;exact⟨g,c,rfl,HR.out,HB.out⟩
set_option maxRecDepth 100000 in set_option maxHeartbeats 4000000 in theorem minI_any(g n c:Nat)(zs:List Int)(w:World)(hn:zs.length=n)(h0:0<n)(hn9:n≤1000000)(hc:∀j v,zs[j]?=some v→w.cell? ⟨g,j,none⟩=some (.int .i64 v)):Calls Tryz.prog 99 #[.slice (some ⟨g,0,none⟩) n c] w fun e w'=>e= .returned (.int .i64 (minZ zs n))∧w=w':=by
  obtain⟨z0,hz0⟩:∃z,zs[0]?=some z:=⟨_,List.getElem?_eq_getElem (by omega)⟩;have c0:=hc 0 z0 hz0;have h1:minZ zs 1=z0:=by cases zs with|nil=>simp at hz0|cons a r=>simp at hz0;subst hz0;simp[minZ]
  have HC:=Lib.hid hc;have HN:=Lib.hid hn;have H1:=Lib.hid h1;clear hc hn h1 hz0;have hn1:¬(n:Int)<1:=by omega
  go_enter Tryz.func99,Tryz.ntmps99;go_wp2;clear c0;go_loop [3,4] (fun mv iv=>∃k:Nat,1≤k∧k≤n∧iv= .int .i64 (k:Int)∧mv= .int .i64 (minZ zs k)) (fun _ iv=>n-(intOf iv).toNat);case atStart=>exact⟨1,by omega,by omega,rfl,by rw[H1.out]⟩
  case round=>
    obtain⟨k,hk1,hk,rfl,rfl⟩:=hrel;by_cases hlt:k<n
    · obtain⟨y,hy⟩:∃y,zs[k]?=some y:=⟨_,List.getElem?_eq_getElem (by rw[HN.out];exact hlt)⟩;have hcell:=HC.out k y hy;have HM:=Lib.hid (show minZ zs (k+1)=min (minZ zs k) y by rw[minZ];congr 1;simp[List.getD,hy]);obtain⟨m,hm⟩:∃m,minZ zs k=m:=⟨_,rfl⟩;have HMM:=Lib.hid hm;rw[hm];have b1:(0:Int)≤(k:Int):=by omega
      have b2:(k:Int)<(n:Int):=by omega
      clear hy hm;go_wp2;go_round;case rel=>refine⟨k+1,by omega,by omega,by go_num,?_⟩;rw[HM.out,HMM.out]<;>congr 1<;>(by_cases hc:y<m<;>first|(rw[if_pos hc];omega)|(rw[if_neg hc];omega)|omega)
      case measure=>simp[intOf];omega
    · obtain rfl:k=n:=by omega
      go_wp2;go_ret;exact⟨rfl,rfl⟩
set_option maxRecDepth 100000 in set_option maxHeartbeats 4000000 in theorem concatI_any(sb sc n1 c1 n2 c2:Nat)(a b:Addr)(xs ys:List Value)(w:World)(h0:0<n1+n2)(h9:n1+n2≤1000000)(hx:xs.length=n1)(hy:ys.length=n2)(hs:Box w sb [.slice (some a) n1 c1,.slice (some b) n2 c2])(hcx:∀j u,xs[j]?=some u→w.cell? (a.add j)=some u)(hcy:∀j u,ys[j]?=some u→w.cell? (b.add j)=some u)(h1:∀u∈xs++ys,∃z:Int,u= .int .i64 z):Calls Tryz.prog 100 #[.slice (some ⟨sb,0,none⟩) 2 sc] w fun e w'=>∃g c,e= .returned (.slice (some ⟨g,0,none⟩) (n1+n2) c)∧RowN w' w.heap.size 3 1 (.slice (some ⟨g,0,none⟩) (n1+n2) c) (n1+n2) (xs++ys)∧Below w.heap.size w w':=by
  obtain⟨i0,hi,hz0,hz1,hz2⟩:=info_parts infoI;have HI:=Lib.hid hi;have HZ0:=Lib.hid hz0;have HZ1:=Lib.hid hz1;have HZ2:=Lib.hid hz2;have hone:∀u∈xs++ys,u.oneCell'=true:=fun u hu=>by obtain⟨z,rfl⟩:=h1 u hu;rfl
  have hnow:∀u∈xs++ys,NoWord u:=fun u hu=>by obtain⟨z,rfl⟩:=h1 u hu;exact NoWord.int _
  have d0:=hs.c 0 _ rfl;have d1:=hs.c 1 _ rfl;have HS:=Lib.hid hs;have HX:=Lib.hid hx;have HY:=Lib.hid hy;have HCX:=Lib.hid hcx;have HCY:=Lib.hid hcy;have HONE:=Lib.hid hone;have HNOW:=Lib.hid hnow;clear hi hz0 hz1 hz2 hs hx hy hcx hcy hone hnow h1;obtain⟨sz,hsz⟩:∃f:Nat→Nat,f=fun k=>if k=0 then 0 else if k=1 then n1 else n1+n2:=⟨_,rfl⟩;have s0:sz 0=0:=by rw[hsz];rfl
  have s1:sz 1=n1:=by rw[hsz];rfl
  have s2:sz 2=n1+n2:=by rw[hsz];rfl
  clear hsz;have S0:=Lib.hid s0;have S1:=Lib.hid s1;have S2:=Lib.hid s2;clear s0 s1 s2;go_enter Tryz.func100,Tryz.ntmps100;go_wp2;go_loop [3,5,11] (fun sv _ iv=>∃k:Nat,k≤2∧iv= .int .i64 (k:Int)∧sv= .int .i64 (sz k:Int)) (fun _ _ iv=>2-(intOf iv).toNat);case atStart=>exact⟨0,by omega,rfl,by rw[S0.out];rfl⟩
  case round=>
    obtain⟨k,hk,rfl,rfl⟩:=hrel;obtain rfl|rfl|rfl:k=0∨k=1∨k=2:=by omega
    · rw[S0.out];have n1b:¬(n1:Int)<0:=by omega
      go_wp2;go_round;case rel=>exact⟨1,by omega,rfl,by rw[S1.out]⟩
      case measure=>simp[intOf]
    · rw[S1.out];have n1b:¬((n1:Int)+(n2:Int))<0:=by omega
      go_wp2;go_round;case rel=>exact⟨2,by omega,rfl,by rw[S2.out];go_num⟩
      case measure=>simp[intOf]
    · rw[S2.out];have HG:=Lib.hid (growI_any (n1+n2) h0 h9 w);have e2:((2:Nat):Int)=2:=rfl;clear d0 d1;go_wp2_with fail;refine HG.out.mono ?_;rintro e wg ⟨g,c,rfl,hrow,hb⟩;have hs2:=HS.out.below hb;have d0:=hs2.c 0 _ rfl;have d1:=hs2.c 1 _ rfl;have HROW:=Lib.hid hrow;have HB:=Lib.hid hb;have hbs:=hb.size;clear hrow hb hs2;go_wp2;clear d0 d1;go_loopw [6,8,27] (fun nv _ iv wr=>∃k:Nat,k≤2∧iv= .int .i64 (k:Int)∧RowN wr w.heap.size 3 1 nv (sz k) (catK xs ys k)∧Below w.heap.size w wr) (fun _ _ iv _=>2-(intOf iv).toNat);case atStart=>exact⟨0,by omega,rfl,by rw[S0.out];exact HROW.out,HB.out⟩
      case round=>
        obtain⟨k,hk,rfl,hrow,hb⟩:=hrel;have hs2:=HS.out.below hb;have d0:=hs2.c 0 _ rfl;have d1:=hs2.c 1 _ rfl;have hbs:=hb.size;obtain rfl|rfl|rfl:k=0∨k=1∨k=2:=by omega
        · rw[S0.out] at hrow;obtain⟨v',w',hrun,hrow',hgr,-⟩:=run_append_all (P:=Tryz.prog) wr w.heap.size 44 44 3 i0 (.int .i64 0) 1 8 (by kernel_rfl) HI.out HZ0.out HZ1.out HZ2.out rfl (by intro u hu;simp[Value.cells] at hu;subst hu;exact NoWord.int _) _ 0 _ hrow a n1 c1 xs (by rw[HX.out];omega) (fun j u hj=>(hb.cell (World.block_lt_of_cell? w _ (HCX.out j u hj))).trans (HCX.out j u hj)) (fun u hu=>HONE.out u (by simp[hu])) (fun u hu=>HNOW.out u (by simp[hu])) (by unfold maxLen;omega) (by omega) hbs;have HR:=Lib.hid hrow';have HB2:=Lib.hid (hb.grown hgr hbs (fun q hq=>(hrow.lt q hq).1));clear hrow hb hs2 hrow' hgr;go_wp2_with (refine wpList_append_row rfl _ _ 44 rfl rfl rfl hrun ?_);clear hrun d0 d1;go_wp2;exact⟨⟨1,by omega,rfl,by rw[S1.out];simpa[catK] using HR.out,HB2.out⟩,by simp[intOf]⟩
        · rw[S1.out] at hrow;obtain⟨v',w',hrun,hrow',hgr,-⟩:=run_append_all (P:=Tryz.prog) wr w.heap.size 44 44 3 i0 (.int .i64 0) 1 8 (by kernel_rfl) HI.out HZ0.out HZ1.out HZ2.out rfl (by intro u hu;simp[Value.cells] at hu;subst hu;exact NoWord.int _) _ n1 _ hrow b n2 c2 ys (by rw[HY.out];omega) (fun j u hj=>(hb.cell (World.block_lt_of_cell? w _ (HCY.out j u hj))).trans (HCY.out j u hj)) (fun u hu=>HONE.out u (by simp[hu])) (fun u hu=>HNOW.out u (by simp[hu])) (by unfold maxLen;omega) (by omega) hbs;have HR:=Lib.hid hrow';have HB2:=Lib.hid (hb.grown hgr hbs (fun q hq=>(hrow.lt q hq).1));clear hrow hb hs2 hrow' hgr;go_wp2_with (refine wpList_append_row rfl _ _ 44 rfl rfl rfl hrun ?_);clear hrun d0 d1;go_wp2;exact⟨⟨2,by omega,rfl,by rw[S2.out];simpa[catK] using HR.out,HB2.out⟩,by simp[intOf]⟩
        · rw[S2.out] at hrow;have hrow2:RowN wr w.heap.size 3 1 _ (n1+n2) (xs++ys):=hrow;have HB2:=Lib.hid hb;rcases hrow2.2 with⟨h1,h2⟩|⟨g2,cap,cur,h1,-⟩;·omega
          · have HR:=Lib.hid hrow2;have e2:((2:Nat):Int)=2:=rfl;clear hrow hb hs2 hrow2 d0 d1;subst h1;go_wp2;go_ret;exact⟨g2,cap,rfl,HR.out,HB2.out⟩
end Go.Proofs.YtdmfbkhafnkcfaaGreat
namespace Go.Proofs.YtdmfbkhafnkcfaaGreat
open Go.RowKit Go.MagM Go.Shelf
theorem intCells_app(l k:List Int):intCells (l++k)=intCells l++intCells k:=by unfold intCells;rw[List.map_append]
theorem intCells_get{l:List Int}{j:Nat}{z:Int}(h:l[j]?=some z):(intCells l)[j]?=some (.int .i64 z):=by unfold intCells;rw[List.getElem?_map,h];rfl
theorem border_le(S:List TriM):(borderM S).length≤S.length:=by unfold borderM;rw[List.length_reverse];unfold rimZ;rw[List.length_map];exact walkM_len _ _ _ _ _
set_option maxRecDepth 100000 in set_option maxHeartbeats 8000000 in theorem Hull_any{mb pb pc:Nat}{ta:Option Addr}{tc:Nat}{P:List (Int×Int)}{S:List TriM}(w:World)(h:MeshR w mb pb pc ta tc P S)(hP0:P≠[])(hne:borderM S≠[]):Calls Tryz.prog 28 #[.pointer (some ⟨mb,0,none⟩)] w fun e w'=>∃g c,e= .returned (.slice (some ⟨g,0,none⟩) (borderM S).length c)∧Box w' g (intCells (hullL (borderM S)))∧w.heap.size≤g∧g<w'.heap.size∧Below w.heap.size w w':=by
  have hbo:=border_room w h hP0 hne;have hble:=border_le S;have hsh:=h.short.2;obtain⟨L,hL⟩:∃L,borderM S=L:=⟨_,rfl⟩;rw[hL] at hbo hne hble⊢;obtain⟨n,hn⟩:∃n,L.length=n:=⟨_,rfl⟩;rw[hn] at hbo hble;have h0:0<n:=by rw[←hn];exact List.length_pos_iff.2 hne
  have h9:n≤1000000:=by omega
  have HBO:=Lib.hid hbo;have HN:=Lib.hid hn;have HN9:=Lib.hid h9;obtain⟨k,hk,hkn⟩:=idxZ_mem (minZ_mem (zs:=L) (by omega) L.length (Nat.le_refl _));have hhl:hullL L=L.drop k++L.take k:=by unfold hullL;rw[hk,Int.toNat_natCast]
  rw[hn] at hk hkn⊢;rw[hhl];have HK:=Lib.hid hk;clear hbo hn h9 hne hble hsh hL h hP0 hhl hk;have e0:((n:Int)==0)=false:=by simp;omega
  have e00:(n==0)=false:=by simp;omega
  go_enter Tryz.func28,Tryz.ntmps28;go_wp2_with fail;refine HBO.out.mono ?_;rintro e w1 ⟨g,c,rfl,hcap,hbx,hg1,hg2,hb1⟩;have hcz:∀j v,L[j]?=some v→w1.cell? ⟨g,j,none⟩=some (.int .i64 v):=fun j v hj=>hbx.c j _ (intCells_get hj);have HMI:=Lib.hid (minI_any g n c L w1 HN.out h0 HN9.out hcz);have HIX:=Lib.hid (index_any g 0 n c L (minZ L n) w1 HN.out HN9.out (fun j v hj=>by rw[Nat.zero_add];exact hcz j v hj));rw[HK.out] at HIX;have HC1:=Lib.hid (show∀j u,(intCells (L.drop k))[j]?=some u→w1.cell? ((⟨g,k,none⟩:Addr).add j)=some u from fun j u hj=>by
    rw[addr_add];unfold intCells at hj;rw[List.getElem?_map,List.getElem?_drop] at hj;cases hz:L[k+j]? with|none=>rw[hz] at hj;cases hj|some z=>rw[hz] at hj;simp at hj;subst hj;exact hcz _ _ hz);have HC2:=Lib.hid (show∀j u,(intCells (L.take k))[j]?=some u→w1.cell? ((⟨g,0,none⟩:Addr).add j)=some u from fun j u hj=>by
    rw[addr_add,Nat.zero_add];unfold intCells at hj;rw[List.getElem?_map,List.getElem?_take] at hj;split at hj;·cases hz:L[j]? with
      |none=>rw[hz] at hj;cases hj|some z=>rw[hz] at hj;simp at hj;subst hj;exact hcz _ _ hz
    ·cases hj);have HB1:=Lib.hid hb1;have HGL:=Lib.hid hg2;have HG1:=Lib.hid hg1;have s1:∀w:World,(Instr.slice 44 (.slice (some ⟨g,0,none⟩) n c) (some (.int .i64 (k:Int))) none none).run Tryz.prog w= .ok (.slice (some ⟨g,k,none⟩) (n-k) (c-k)) w:=by
    intro w;have h3:¬c=k:=by omega
    have h4:k≤n:=by omega
    simp[Instr.slice,Instr.sliceBounds,Instr.sliceBound,go_sem,h3,h4,Addr.add];exact fun h=>h.symm
  have s2:∀w:World,(Instr.slice 44 (.slice (some ⟨g,0,none⟩) n c) none (some (.int .i64 (k:Int))) none).run Tryz.prog w= .ok (.slice (some ⟨g,0,none⟩) k c) w:=by
    intro w;have h2:¬c<k:=by omega
    simp[Instr.slice,Instr.sliceBounds,Instr.sliceBound,go_sem,h2,Addr.add]
  clear hbx hcz hb1 hg1 hg2;go_wp2_with fail;refine HMI.out.mono ?_;rintro e w' ⟨rfl,rfl⟩;go_wp2_with fail;refine HIX.out.mono ?_;rintro e w' ⟨rfl,rfl⟩;go_wp2;refine wp_region_noPanic ?_;refine wp_region_held_drew (S:=fun w'=>True) (by kernel_rfl) (trivial) (fun hHeld=>?_);refine rU 0 _ _ ?_;refine rU 1 _ _ ?_;refine rU 2 _ _ ?_;refine rU 3 _ _ ?_;refine rU 4 _ _ ?_;refine rU 5 _ _ ?_;refine rC 6 _ (fun K hK=>?_);obtain⟨w3,hw3,pz,hb3,hs3⟩:=new_box w1.drew _ rfl [.slice (some ⟨g,k,none⟩) (n-k) (c-k),.slice (some ⟨g,0,none⟩) k c] 44;go_simp;try rw[hw3]
  refine hK.out _ _ (trivial) (fun hHeld=>?_);clear hK K;try simp only[Act.put,sA,sZ,sS]
  refine rC 7 _ (fun K hK=>?_);have hb13:=((Below.refl w1.heap.size w1).drew').trans (hb3.mono (Nat.le_refl _));have HCO:=Lib.hid (concatI_any w1.drew.heap.size 2 (n-k) (c-k) k c ⟨g,k,none⟩ ⟨g,0,none⟩ (intCells (L.drop k)) (intCells (L.take k)) w3 (by omega) (by have:=HN9.out;omega) (by rw[intCells_len,List.length_drop,HN.out]) (by rw[intCells_len,List.length_take,HN.out];omega) pz (fun j u hj=>by have h1:=HC1.out j u hj;rw[addr_add] at h1⊢;exact(hb13.cell (p:=⟨g,k+j,none⟩) HGL.out).trans h1) (fun j u hj=>by have h1:=HC2.out j u hj;rw[addr_add] at h1⊢;exact(hb13.cell (p:=⟨g,0+j,none⟩) HGL.out).trans h1) (fun u hu=>by rcases List.mem_append.1 hu with h|h<;>(unfold intCells at h;obtain⟨z,-,rfl⟩:=List.mem_map.1 h;exact⟨z,rfl⟩)));go_simp;refine HCO.out.mono ?_;rintro e w4 ⟨g4,c4,rfl,hrow,hb4⟩;have hb14:=hb13.trans (hb4.mono hb13.size);have FIN:=Lib.hid (And.intro hrow (And.intro hb4.size (HB1.out.trans (hb14.mono HB1.out.size))));have HSZ:=Lib.hid hb13.size;clear hrow hb4 hb14 hb13;go_wp2_with fail;refine hK.out _ _ (trivial) (fun hHeld=>?_);clear hK K;try simp only[Act.put,sA,sZ,sS]
  refine rU 8 _ _ ?_;refine wpAnyH_done (by kernel_rfl) ?_ _;refine NoPanic.normal ?_;go_wp2;go_ret;have hrow:=FIN.out.1;have hlt:=hrow.lt g4 rfl;have hsz:=HSZ.out;have hb1s:=HB1.out.size;rw[show n-k+k=n by omega,←intCells_app] at hrow;have hbx:=owns_box hrow.own;refine⟨g4,c4,?_,hbx,by omega,hlt.2,FIN.out.2.2⟩;rw[show n-k+k=n by omega];rfl
end Go.Proofs.YtdmfbkhafnkcfaaGreat
namespace Go.MagM
open Go.RowKit Go.Shelf
theorem range_start9{F:Fence}{n:Nat}{P:Program}{g:Operand}{ps:Array Tmp}{assign body:Code}{Q:Exit→Act→World→Prop}{a:Act}{w:World}(h:∀a0,a0=a→(Code.rangeFunc g ps assign body).wpIn F n P Q a0 w):(Code.rangeFunc g ps assign body).wpIn F n P Q a w:=h a rfl
theorem keepB_set9{Pb:Nat→Prop}{A B:World}(h:KeepB Pb A B){g i:Nat}(hg:¬Pb g)(v:Value):KeepB Pb A (B.setCell ⟨g,i,none⟩ v):=fun b hb=>by rw[heap_set_far _ _ _ _ _ (fun e=>hg (by rw[←e];exact hb))];exact h b hb
section
variable{a b c:Nat}
theorem one_only9{y:Nat}{U:TriM}(h:(newM (a:Int) b c)[y]?=some U)(hr:realT U=true):y=0∧U=⟨(a:Int),b,c,1,2,3,false,false,false⟩:=by
  have hl:y<4:=(List.getElem?_eq_some_iff.1 h).1;obtain rfl|rfl|rfl|rfl:y=0∨y=1∨y=2∨y=3:=by omega
  all_goals simp only[newM,List.getElem?_cons_zero,List.getElem?_cons_succ,Option.some.injEq] at h
  ·exact⟨rfl,h.symm⟩
  all_goals subst h;unfold realT at hr;have:=of_decide_eq_true hr;simp only[] at this;omega
end
end Go.MagM
namespace Go.MagM
open Go.RowKit Go.Shelf
inductive MarksOk(W:World):List Deferred→Prop|nil:MarksOk W []|cons{r:Nat}{ds:List Deferred}(h:W.heap[r]?=some (.deferred (some [])))(hn:∀d,d∈ds→d.target≠ .collected r)(t:MarksOk W ds):MarksOk W ({target:= .collected r,args:=#[]}::ds)
theorem MarksOk.put{W:World}{ds:List Deferred}{r:Nat}(h:MarksOk W ds)(hn:∀d,d∈ds→d.target≠ .collected r)(o:Obj):MarksOk (W.putObj r o) ds:=by induction h with|nil=>exact .nil|@cons r2 ds h hn2 t ih=>refine .cons ((World.putObj_heap_other (fun e=>?_)).trans h) hn2 (ih fun d hd=>hn d (List.mem_cons_of_mem _ hd));exact hn _ (List.mem_cons_self ..) (by rw[e])
theorem leaves_marks{F:Fence}{n:Nat}{P:Program}{fn:Func}{tmps:Array Value}{R:Ending→World→Prop}:∀(ds:List Deferred)(W:World),MarksOk W ds→(∀W':World,W'.os=W.os→W'.tape=W.tape→W'.output=W.output→W'.heap.size=W.heap.size→(∀k,(∀d,d∈ds→d.target≠ .collected k)→W'.heap[k]?=W.heap[k]?)→LeavesInM F n P fn tmps R [] .returning W')→LeavesInM F n P fn tmps R ds .returning W|[],W,_,h=>h W rfl rfl rfl rfl (fun _ _=>rfl)|d::ds,W,hm,h=>by cases hm with|@cons r _ hr hn t=>refine⟨by simp,.inl ⟨_,_,rfl,run_takeDeferred hr,?_⟩⟩;refine leaves_marks ds _ (t.put hn _) (fun W' e1 e2 e3 e4 e5=>h W' e1 e2 e3 (by rw[e4];simp[World.putObj]) (fun k hk=>?_));refine(e5 k fun d hd=>hk d (List.mem_cons_of_mem _ hd)).trans (World.putObj_heap_other (fun e=>?_));exact hk _ (List.mem_cons_self ..) (by rw[e])
end Go.MagM
namespace Go.Proofs.YtdmfbkhafnkcfaaGreat
open Go.RowKit Go.MagM Go.Shelf
attribute [local go_sem] Oper.semAt_some
theorem round_stops_at(n:Nat)(hn:1≤n)(Bb Bv Bm:Nat)(Pb:Nat→Prop){mb pb pc:Nat}{ta:Option Addr}{tc:Nat}{P:List (Int×Int)}{S:List TriM}(v:Int)(w:World)(hm:MeshR w mb pb pc ta tc P S)(hin:MeshIn Pb mb pb ta)(hBb:w.cell? ⟨Bb,0,none⟩=some (.func (.func 25) #[.pointer (some ⟨mb,0,none⟩)] #[]))(hBv:w.cell? ⟨Bv,0,none⟩=some (.int .i64 v))(hBm:w.cell? ⟨Bm,0,none⟩=some (.pointer (some ⟨mb,0,none⟩)))(hPv:Pb Bv)(hPm:Pb Bm):SeqStopsK Fence.wide n Tryz.prog 190 #[.pointer (some ⟨Bb,0,none⟩),.pointer (some ⟨Bv,0,none⟩),.pointer (some ⟨Bm,0,none⟩)] encR (KeepB Pb) (fun ys:List (RB S)=>ys.map (·.1)=walkM S v (atM S v) S.length (atM S v)) (fun pre:List (RB S)=>pre.map (·.1)<+:walkM S v (atM S v) S.length (atM S v)) S.length w:=fun l J Jx W hW _ _ hY h0=>round1_at n hn l Bb Bv Bm Pb v J Jx hY W (hm.below hW) hin ((hW.cell (p:=⟨Bb,0,none⟩) (World.block_lt_of_cell? w _ hBb)).trans hBb) ((hW.cell (p:=⟨Bv,0,none⟩) (World.block_lt_of_cell? w _ hBv)).trans hBv) ((hW.cell (p:=⟨Bm,0,none⟩) (World.block_lt_of_cell? w _ hBm)).trans hBm) hPv hPm h0
set_option maxHeartbeats 1000000 in theorem Around_any(mb:Nat)(v:Int)(w:World):Calls Tryz.prog 38 #[.pointer (some ⟨mb,0,none⟩),.int .i64 v] w fun e w'=>e= .returned (.func (.func 190) #[] #[.pointer (some ⟨w.heap.size+1+1,0,none⟩),.pointer (some ⟨w.heap.size+1,0,none⟩),.pointer (some ⟨w.heap.size,0,none⟩)])∧w'=((w.alloc (.cells #[.pointer (some ⟨mb,0,none⟩)] 25)).alloc (.cells #[.int .i64 v] 3)).alloc (.cells #[.func (.func 25) #[.pointer (some ⟨mb,0,none⟩)] #[]] 34):=by go_enter Tryz.func38,Tryz.ntmps38;go_wp2_with (go_at_call 112;refine(round_any _ _ v mb 25 _ rfl rfl).mono ?_;rintro e w' ⟨rfl,rfl⟩);go_ret;exact⟨rfl,rfl⟩
end Go.Proofs.YtdmfbkhafnkcfaaGreat
namespace Go.MagM
open Go.RowKit
def HavX(rb:Nat)(ty:TypeId)(W:World):Prop:=∃t:Int,Boxed W rb ty (.int .i64 t)
theorem havX_own{S:List TriM}(rb:Nat)(ty:TypeId)(B:Nat):OwnFrom B (fun(_:List (RB S)) W=>HavX rb ty W):=by intro s A B' row hs hg hr;obtain⟨t,hb⟩:=hs;exact⟨t,(Own.from (boxed_own rb ty (fun _:List (RB S)=>Value.int .i64 t)) B) s A B' row hb hg hr⟩
end Go.MagM
namespace Go.Proofs.YtdmfbkhafnkcfaaGreat
open Go.RowKit Go.MagM Go.Shelf
attribute [local go_sem] Oper.semAt_some
theorem keepsOthersG{W W':World}(h:Below W.heap.size W W'):KeepsOthers W W':=⟨h.size,fun k _ hk _=>(h.block k (Array.getElem?_eq_some_iff.1 hk).1).trans hk⟩
set_option maxRecDepth 100000 in set_option maxHeartbeats 8000000 in theorem having_any{mb pb pc:Nat}{ta:Option Addr}{tc:Nat}{P:List (Int×Int)}{S:List TriM}(v:Int)(w:World)(h:MeshR w mb pb pc ta tc P S)(hin:MeshIn (fun b=>b<w.heap.size) mb pb ta):Calls Tryz.prog 83 #[.pointer (some ⟨mb,0,none⟩),.int .i64 v] w fun e w'=>∃t:Int,e= .returned (.int .i64 t)∧Below w.heap.size w w':=by
  obtain⟨w1,hw1,pm,hb1,hs1⟩:=new_box w _ rfl [.pointer (some ⟨mb,0,none⟩)] 25;obtain⟨w2,hw2,pp,hb2,hs2⟩:=new_box w1 _ rfl [.int .i64 0] 3;obtain⟨b0,hb0⟩:∃x,w.heap.size=x:=⟨_,rfl⟩;obtain⟨rb,hrb⟩:∃x,w1.heap.size=x:=⟨_,rfl⟩;have bx2:Boxed w2 rb 3 (.int .i64 0):=by rw[←hw2,←hrb];exact Boxed.new w1 _ _
  have hB2:Below w.heap.size w w2:=hb1.trans (hb2.mono hb1.size);have bm2:Boxed w2 b0 25 (.pointer (some ⟨mb,0,none⟩)):=by
    have e1:Boxed w1 b0 25 (.pointer (some ⟨mb,0,none⟩)):=by rw[←hw1,←hb0];exact Boxed.new w _ _
    exact(hb2.block b0 (by omega)).trans e1
  have hm2:=h.below hB2;have c0:=bm2.cell;have hz1:rb=b0+1:=by omega
  have hz2:w2.heap.size=rb+1:=by omega
  have HB2:=Lib.hid hB2;have BX2:=Lib.hid bx2;have BM2:=Lib.hid bm2;have HM2:=Lib.hid hm2;have HIN:=Lib.hid hin;have HZ1:=Lib.hid hz1;have HZ2:=Lib.hid hz2;have HB0:=Lib.hid hb0;clear h hin pm pp hb1 hb2 hB2 bx2 bm2 hm2 hs1 hs2 hz1 hz2;refine(callsIn_wide (n:=20)).1 (callsIn_of_wp_marks (F:=Fence.wide) (n:=20) Tryz.func83 rfl trivial ?_ rfl);simp only[Tryz.ntmps83,List.size_toArray,List.length_cons,List.length_nil,Nat.reduceAdd,Nat.reduceSub,Array.replicate_succ,Array.replicate_zero,List.push_toArray,List.append_toArray,List.nil_append,List.cons_append];rw[wpIn_wide];go_wp2_with fail;clear hw1 hw2 hb0 hrb;refine(Around_any mb v w2).mono ?_;rintro e w3 ⟨rfl,hw3⟩;obtain⟨b,hb⟩:∃x,w2.heap.size=x:=⟨_,rfl⟩;rw[hb];have hW3:w3.heap.size=b+3:=by rw[hw3];simp;omega
  have hb23:Below w2.heap.size w2 w3:=by rw[hw3];exact(((Below.refl _ _).alloc (Nat.le_refl _) _).alloc (by simp) _).alloc (by simp;omega) _
  have q0:Boxed w3 b 25 (.pointer (some ⟨mb,0,none⟩)):=by rw[hw3,←hb];exact(((Boxed.new w2 _ _).alloc _).alloc _)
  have q1:Boxed w3 (b+1) 3 (.int .i64 v):=by rw[hw3];have:Boxed ((w2.alloc (.cells #[.pointer (some ⟨mb,0,none⟩)] 25)).alloc (.cells #[.int .i64 v] 3)) (w2.alloc (.cells #[.pointer (some ⟨mb,0,none⟩)] 25)).heap.size 3 (.int .i64 v):=Boxed.new _ _ _;rw[show(w2.alloc (.cells #[.pointer (some ⟨mb,0,none⟩)] 25)).heap.size=b+1 by simp;omega] at this;exact this.alloc _
  have q2:Boxed w3 (b+1+1) 34 (.func (.func 25) #[.pointer (some ⟨mb,0,none⟩)] #[]):=by
    rw[hw3];have:Boxed (((w2.alloc (.cells #[.pointer (some ⟨mb,0,none⟩)] 25)).alloc (.cells #[.int .i64 v] 3)).alloc (.cells #[.func (.func 25) #[.pointer (some ⟨mb,0,none⟩)] #[]] 34)) ((w2.alloc (.cells #[.pointer (some ⟨mb,0,none⟩)] 25)).alloc (.cells #[.int .i64 v] 3)).heap.size 34 (.func (.func 25) #[.pointer (some ⟨mb,0,none⟩)] #[]):=Boxed.new _ _ _;rw[show((w2.alloc (.cells #[.pointer (some ⟨mb,0,none⟩)] 25)).alloc (.cells #[.int .i64 v] 3)).heap.size=b+1+1 by simp;omega] at this;exact this
  have hm3:=HM2.out.below hb23;have hB3:=HB2.out.trans (hb23.mono HB2.out.size);have hz1:=HZ1.out;have hz2:=HZ2.out;have bx3:Boxed w3 rb 3 (.int .i64 0):=(hb23.block rb (by omega)).trans BX2.out;have bm3:Boxed w3 b0 25 (.pointer (some ⟨mb,0,none⟩)):=(hb23.block b0 (by omega)).trans BM2.out;clear hw3 c0;have hw0:w.heap.size≤b0∧b0≤w.heap.size:=by have:=HB0.out;omega
  have hl1:b0<rb:=by omega
  have hl2:rb<b:=by omega
  have hl3:b+3≤w3.heap.size∧w3.heap.size≤b+3:=by omega
  clear hz1 hz2 hW3 hb;have hin3:MeshIn (fun k=>k≠rb∧k<b+3) mb pb ta:=⟨by have:=HIN.out.m;omega,by have:=HIN.out.p;omega,fun k hk=>by have:=HIN.out.t k hk;omega⟩;have HM3:=Lib.hid hm3;have HI3:=Lib.hid hin3;go_wp2;rw[←wpIn_wide (n:=20)];refine wpIn_rangeFunc_ownG rfl (by omega) (gf:=190) (lb:=#[.pointer (some ⟨b+1+1,0,none⟩),.pointer (some ⟨b+1,0,none⟩),.pointer (some ⟨b,0,none⟩)]) rfl trivial (enters_of Tryz.func190 (by kernel_rfl) rfl) (round_stops_at 19 (by omega) (b+1+1) (b+1) b (fun k=>k≠rb∧k<b+3) v w3 hm3 hin3 q2.cell q1.cell q0.cell (by omega) (by omega)) (fun h k=>KeepB.trans h k) ?kb (Below.refl _ _) (fun _=>rfl) (fun(_:List (RB S)) W=>Boxed W rb 3 (.int .i64 0)∧KeepB (fun k=>k≠rb∧k<b+3) w3 W∧Below w.heap.size w W) (fun c (_:List (RB S)) W=>(c= .ret∧HavX rb 3 W)∧Below w.heap.size w W) (OwnFrom.and (Own.from (boxed_own rb 3 (fun _:List (RB S)=>Value.int .i64 0)) w3.heap.size) (OwnFrom.and (keepB_own (fun k hk=>by omega)) (ownFrom_below (Nat.le_refl _) (by omega)))) (fun c=>OwnFrom.and (fun s A B row hs hg hr=>⟨hs.1,havX_own _ _ _ s A B row hs.2 hg hr⟩) (ownFrom_below (Nat.le_refl _) (by omega))) ⟨bx3,KeepB.refl _ _,hB3⟩ (fun x=>{tmps:=#[.pointer (some ⟨mb,0,none⟩),.int .i64 v,.pointer (some ⟨b0,0,none⟩),undef,.pointer (some ⟨rb,0,none⟩),.int .i64 (x.1.1:Int),.pointer (some ⟨mb,0,none⟩),.int .i64 v,.func (.func 190) #[] #[.pointer (some ⟨b+1+1,0,none⟩),.pointer (some ⟨b+1,0,none⟩),.pointer (some ⟨b,0,none⟩)],.int .i64 (x.1.1:Int),.int .i64 (x.1.2:Int),undef,undef,undef,undef],defers:=[]}) ?assign ?body ?done ?stop;case kb=>
    intro W l o o' hl h _ _ k hk;exact World.putObj_heap_other (fun e=>by omega)
  case assign=>
    intro l x W K hK;dsimp only[encR];gi_wp2;exact hK
  case body=>
    rintro l pre ⟨⟨m,k⟩,hm,hk⟩ W ⟨hbx,hKB,hB⟩ _;simp only[] at hm hk;have hmW:=HM3.out.keep HI3.out hKB;have hbm:Boxed W b0 25 (.pointer (some ⟨mb,0,none⟩)):=(hKB b0 (by omega)).trans bm3;have cm:=hbm.cell;have hre:=Real_any (m:Int) W hmW;obtain⟨r,hr⟩:∃r,realM S (m:Int)=r:=⟨_,rfl⟩;rw[hr] at hre;have HRE:=Lib.hid hre;have HBX:=Lib.hid hbx;have HKB:=Lib.hid hKB;have HBB:=Lib.hid hB;clear hre hr hmW hbx hKB hB;gi_wp2_with fail;refine⟨trivial,(CallsIn.inRound l (callsIn_wide.2 HRE.out)).mono ?_⟩;rintro e W1 ⟨rfl,q,rfl⟩;have hbx1:Boxed (W.drewN q) rb 3 (.int .i64 0):=HBX.out;have hc:=hbx1.cell;have hf:=hbx1.frozen;have hb1:Below w.heap.size w (W.drewN q):=HBB.out.trans ((Drew.below ⟨q,rfl⟩:Below W.heap.size W (W.drewN q)).mono HBB.out.size);have hd1:Below W.heap.size W (W.drewN q):=Drew.below ⟨q,rfl⟩;have hkb1:KeepB (fun k=>k≠rb∧k<b+3) W (W.drewN q):=fun _ _=>rfl;cases r with
    |true=>
      gi_wp2;exact⟨((keepsOthersG hd1).trans (KeepsOthers.setCell _ _ _)).from _,⟨rfl,⟨_,hbx1.set _⟩⟩,hb1.setCell (p:=⟨rb,0,none⟩) (by simp only[];omega) _⟩|false=>gi_wp2;exact⟨(keepsOthersG hd1).from _,hkb1,hbx1,HKB.out.trans hkb1,hb1⟩
  case done=>
    rintro D xs W hD hS ⟨hbx,hKB,hB⟩ hK;have hc:=hbx.cell;have hf:=hbx.frozen;gi_wp2;go_wp2;have hK':=(KeepsOthers.setCell W ⟨rb,0,none⟩ (.int .i64 0)).same D _ hK rfl;have hb':=hB.setCell (p:=⟨rb,0,none⟩) (by simp only[];omega) (.int .i64 0);have hbx':=hbx.set (.int .i64 0);refine⟨by simp,.inl ⟨_,_,rfl,run_takeDeferred hK',?_⟩⟩;have hc5:=cell_kept hbx'.cell (grownBy_putObj' _ D (.deferred none)) (fun r e=>by cases e;exact⟨_,hK',rfl⟩);refine⟨.int .i64 0,?_,0,rfl,hb'.trans (belowK_b (w:=w) (Nat.le_refl _) _ D _ _ (by omega) hK' rfl rfl)⟩;simp[results,Tryz.results83,go_sem,hc5]
  case stop=>
    rintro D c pre W hD hS ⟨⟨rfl,⟨x,hbx⟩⟩,hB⟩ hK;gi_wp2;refine⟨by simp,.inl ⟨_,_,rfl,run_takeDeferred hK,?_⟩⟩;have hc5:=cell_kept hbx.cell (grownBy_putObj' _ D (.deferred none)) (fun r e=>by cases e;exact⟨_,hK,rfl⟩);refine⟨.int .i64 x,?_,x,rfl,hB.trans (belowK_b (w:=w) (Nat.le_refl _) _ D _ _ (by omega) hK rfl rfl)⟩;simp[results,Tryz.results83,go_sem,hc5]
end Go.Proofs.YtdmfbkhafnkcfaaGreat
namespace Go.MagM
open Go.RowKit
theorem begin_at{S:List TriM}{T:TriM}(h0:S[0]?=some T)(hr:realT T=true)(fr:Int):∃(t0:Nat) (T0:TriM),beginM S fr=(t0:Int)∧S[t0]?=some T0∧realT T0=true:=by
  unfold beginM;by_cases h:realM S fr=true;· obtain⟨T0,hg,hr0⟩:=realM_some h;obtain⟨h1,-,h3⟩:=getT_some hg;exact⟨fr.toNat,T0,by rw[if_pos h];omega,h3,hr0⟩
  · refine⟨0,T,?_,h0,hr⟩;rw[if_neg h];have h1:realsK S 1=[(0,T)]:=by rw[realsK_yes h0 hr];rfl
    obtain⟨rest,he⟩:=realsK_pre S S.length 1 (by have:=(List.getElem?_eq_some_iff.1 h0).1;omega);rw[←he,h1];rfl
theorem MeshR.in_{w:World}{mb pb pc:Nat}{ta:Option Addr}{tc:Nat}{P:List (Int×Int)}{S:List TriM}(h:MeshR w mb pb pc ta tc P S)(hP:0<P.length)(hS:0<S.length):MeshIn (fun b=>b<w.heap.size) mb pb ta:=by
  refine⟨World.block_lt_of_cell? w _ (h.box.c 0 _ rfl),?_,fun b hb=>?_⟩
  · obtain⟨⟨x,y⟩,hp⟩:∃q,P[0]?=some q:=⟨_,List.getElem?_eq_getElem hP⟩;exact World.block_lt_of_cell? w _ (h.pts 0 x y hp).1
  · obtain⟨T,hT⟩:∃T,S[0]?=some T:=⟨_,List.getElem?_eq_getElem hS⟩;obtain⟨tb,e,hl,-⟩:=h.tris.get hT;rw[hb] at e;cases e;exact hl
end Go.MagM
namespace Go.Proofs.YtdmfbkhafnkcfaaGreat
open Go.RowKit Go.MagM
theorem dig_put{S:List TriM}{ts:List Int}{W w':World}{e:Ending}{cb:Bool}{gd c:Nat}{rv:Value}(Good:List Int→Prop)(hg:Good ts)(hne:rimR S ts≠[])(he:e= .returned (.agg #[.slice (some ⟨gd,0,none⟩) ts.length c,rv,.bool cb]))(h1:RowN w' W.heap.size 3 1 (.slice (some ⟨gd,0,none⟩) ts.length c) ts.length (intCells (sortL ts)))(h2:RowN w' W.heap.size 118 5 rv (rimR S ts).length (sideCells (rimR S ts)))(hb:Below W.heap.size W w'):∃(gd c rb rc:Nat) (ts:List Int) (cb:Bool),e= .returned (.agg #[.slice (some ⟨gd,0,none⟩) ts.length c,.slice (some ⟨rb,0,none⟩) (rimR S ts).length rc,.bool cb])∧Good ts∧IntsAt w' gd (sortL ts)∧SidesAt w' rb (rimR S ts)∧(W.heap.size≤gd∧gd<w'.heap.size∧W.heap.size≤rb∧rb<w'.heap.size)∧Below W.heap.size W w':=by
  obtain⟨rb,rc,rfl⟩:∃rb rc,rv= .slice (some ⟨rb,0,none⟩) (rimR S ts).length rc:=by
    rcases h2.2 with⟨-,h⟩|⟨g,cap,cur,h,-⟩;·exact absurd (List.eq_nil_of_length_eq_zero h) hne
    ·exact⟨g,cap,h⟩
  refine⟨gd,c,rb,rc,ts,cb,he,hg,fun j z hj=>h1.cells (g:=gd) rfl j _ (intCells_get hj),fun i s hs j u hj=>?_,⟨(h1.lt gd rfl).1,(h1.lt gd rfl).2,(h2.lt rb rfl).1,(h2.lt rb rfl).2⟩,hb⟩;have hj5:j<5:=by have:=(List.getElem?_eq_some_iff.1 hj).1;exact this
  exact h2.cells (g:=rb) rfl _ u ((sideCells_get _ i j s hs hj5).trans hj)
theorem one_begin{a b c:Nat}(fr:Int):beginM (newM (a:Int) b c) fr=((0:Nat):Int):=by obtain⟨t0,T0,h1,h2,h3⟩:=begin_at (S:=newM (a:Int) b c) (T:=⟨(a:Int),b,c,1,2,3,false,false,false⟩) rfl (by unfold realT;exact decide_eq_true (by simp only[];omega)) fr;rw[h1,(one_only9 h2 h3).1]
theorem single_of{ts:List Int}{x:Int}(h:ts.Nodup)(hm:∀y,y∈ts↔y=x):ts=[x]:=by cases ts with|nil=>exact absurd ((hm x).2 rfl) (by simp)|cons a l=>have ha:a=x:=(hm a).1 (by simp);cases l with|nil=>rw[ha]|cons b l=>have hb:b=x:=(hm b).1 (by simp);rw[ha,hb] at h;simp at h
theorem sortL_one(x:Int):sortL [x]=[x]:=List.perm_singleton.1 (sortL_perm [x])
set_option maxRecDepth 100000 in set_option maxHeartbeats 16000000 in theorem Build4_any(P:List (Int×Int))(g:Nat)(cnt p0 p1:Int)(S4:List TriM)(sb sc:Nat)(w:World)(hP:InPs P)(hl:P.length=4)(hc:PtsIn w sb P)(hbase:∀ok s t,BaseIs P ok s t→ok=true∧s=1∧t=2)(hturn:turnM P ((0:Nat):Int) ((1:Nat):Int) ((2:Nat):Int)=1)(h3:P[3]?=some (p0,p1))(hg:1≤g∧g<4)(hfind:findF P (newM ((0:Nat):Int) ((1:Nat):Int) ((2:Nat):Int)) ⟨((0:Nat):Int),((1:Nat):Int),((2:Nat):Int),1,2,3,false,false,false⟩ (p0,p1) 4 0 ((0:Nat):Int)=((3,(g:Int),0,0),cnt))(hconf:∀k:Nat,k<4→k≠g→confT P (newM ((0:Nat):Int) ((1:Nat):Int) ((2:Nat):Int)) (p0,p1) (k:Int)=false)(hput:putM (newM ((0:Nat):Int) ((1:Nat):Int) ((2:Nat):Int)) ((3:Nat):Int) [] [(g:Int)]=S4)(hrim:rimR (newM ((0:Nat):Int) ((1:Nat):Int) ((2:Nat):Int)) [(g:Int)]≠[])(hok:∀s,s∈rimR (newM ((0:Nat):Int) ((1:Nat):Int) ((2:Nat):Int)) [(g:Int)]→∃u i:Nat,s.u=(u:Int)∧(u:Int)∉[(g:Int)]∧u<4∧s.i=(i:Int)∧i<3):Calls Tryz.prog 22 #[.slice (some ⟨sb,0,none⟩) 4 sc] w fun e w'=>∃mb pb pc tv,e= .returned (.tuple #[.pointer (some ⟨mb,0,none⟩),.bool true])∧MeshO 33 41 w' w.heap.size mb pb pc tv P (S4)∧Below w.heap.size w w':=by
  have hP0:P≠[]:=by intro e;rw[e] at hl;cases hl
  obtain⟨S0,hS0⟩:∃S0,newM ((0:Nat):Int) ((1:Nat):Int) ((2:Nat):Int)=S0:=⟨_,rfl⟩;have hlook:LookIn P S0:=by
    intro t T hT;rw[←hS0] at hT;rcases newM_get _ _ _ t T hT with⟨rfl,rfl⟩|⟨rfl,rfl⟩|⟨rfl,rfl⟩|⟨rfl,rfl⟩
    · refine⟨fun _ i hi=>?_,fun k hk=>?_⟩
      · obtain rfl|rfl|rfl:i=0∨i=1∨i=2:=by omega
        all_goals (unfold InV;rw[hl];decide)
      · exfalso;have:placeT (⟨((0:Nat):Int),((1:Nat):Int),((2:Nat):Int),1,2,3,false,false,false⟩:TriM) (-1)=-1:=by decide
        omega
    all_goals
      refine⟨fun hr=>?_,fun k hk=>?_⟩;·exact absurd hr (by decide)
      · have hk2:k=2:=by
          simp[placeT] at hk;omega
        subst hk2;unfold InV;rw[hl];decide
  have hnx:Nexts S0:=by
    intro t T hT i hi;rw[←hS0] at hT⊢;rcases newM_get _ _ _ t T hT with⟨rfl,rfl⟩|⟨rfl,rfl⟩|⟨rfl,rfl⟩|⟨rfl,rfl⟩;all_goals
      obtain rfl|rfl|rfl:i=0∨i=1∨i=2:=by omega
      all_goals first|exact⟨0,rfl,by decide⟩|exact⟨1,rfl,by decide⟩|exact⟨2,rfl,by decide⟩|exact⟨3,rfl,by decide⟩
  have hcor:Cornered P S0:=by
    intro t T hT;have hlk:=hlook t T hT;rw[←hS0] at hT;rcases newM_get _ _ _ t T hT with⟨rfl,rfl⟩|⟨rfl,rfl⟩|⟨rfl,rfl⟩|⟨rfl,rfl⟩
    · have hv:=hlk.1 (by decide);rw[cors_real (by decide) hv];simp
    all_goals have hv:=hlk.2 2 (by decide);rw[cors_ghost (j:=2) (by omega) (by decide) hv.1 hv.2 rfl];simp
  have hsm:SmallV S0:=by
    intro t T hT k;rw[←hS0] at hT;rcases newM_get _ _ _ t T hT with⟨rfl,rfl⟩|⟨rfl,rfl⟩|⟨rfl,rfl⟩|⟨rfl,rfl⟩;all_goals match k with|0=>decide|1=>decide|k+2=>exact(show-1000000≤(TriM.v _ 2)∧(TriM.v _ 2)≤1000000 by decide)
  have hlen0:S0.length=4:=by rw[←hS0];rfl
  have hlive:∀t,t<S0.length→Alive S0 t:=by
    intro t ht;obtain⟨T,hT⟩:∃T,S0[t]?=some T:=⟨_,List.getElem?_eq_getElem ht⟩;refine⟨T,hT,?_⟩;rw[←hS0] at hT;rcases newM_get _ _ _ t T hT with⟨rfl,rfl⟩|⟨rfl,rfl⟩|⟨rfl,rfl⟩|⟨rfl,rfl⟩;all_goals decide
  have hT0:S0[0]?=some ⟨((0:Nat):Int),((1:Nat):Int),((2:Nat):Int),1,2,3,false,false,false⟩:=by rw[←hS0];rfl
  have hbeg:∀fr,beginM S0 fr=((0:Nat):Int):=fun fr=>by rw[←hS0];exact one_begin fr
  rw[hS0] at hfind hconf hput hrim hok;obtain⟨Tg,hTg⟩:∃T,S0[g]?=some T:=⟨_,List.getElem?_eq_getElem (by omega)⟩;have hIS:InS S0 [(g:Int)]:=⟨by simp,fun z hz=>⟨g,by simpa using hz,by omega⟩⟩;have hreach:∀x,Reach S0 (confT P S0 (p0,p1)) [(g:Int)] x→x=(g:Int):=by
    intro x hx;have hcl:Closed S0 (confT P S0 (p0,p1)) [(g:Int)]:=by
      intro t i T ht hT hi _ hcf;obtain⟨u,hu,hul⟩:=hnx t T hT i hi;rw[hu] at hcf⊢;by_cases e:u=g;·rw[e];simp
      ·rw[hconf u (by omega) e] at hcf;cases hcf
    simpa using hcl.reach (fun t ht=>ht) hx
  have hpt:InP p0∧InP p1:=hP _ (List.mem_of_getElem? h3);have hdig:∀(mb pb pc:Nat)(ta:Option Addr)(tc:Nat)(W:World),MeshR W mb pb pc ta tc P S0→Calls Tryz.prog 53 #[.pointer (some ⟨mb,0,none⟩),.agg #[.int .i64 p0,.int .i64 p1],.agg #[.int .i64 3,.int .i64 (g:Int),.int .i64 0,.int .i64 0]] W fun e w'=>∃(gd c rb rc:Nat) (ts:List Int) (cb:Bool),e= .returned (.agg #[.slice (some ⟨gd,0,none⟩) ts.length c,.slice (some ⟨rb,0,none⟩) (rimR S0 ts).length rc,.bool cb])∧ts=[(g:Int)]∧IntsAt w' gd (sortL ts)∧SidesAt w' rb (rimR S0 ts)∧(W.heap.size≤gd∧gd<w'.heap.size∧W.heap.size≤rb∧rb<w'.heap.size)∧Below W.heap.size W w':=by
    intro mb pb pc ta tc W hm;refine(cvDig_any [(g:Int)] 3 (g:Int) 0 0 p0 p1 W hm hP hpt hnx hcor (by omega) hsm hIS (by simp) (fun V hV=>?_)).mono ?_
    · have:=cvBegin_off g Tg 3 0 0 V (hm.below hV) hTg (by decide);have e:takeM P Tg (g:Int) []=[(g:Int)]:=by unfold takeM;rw[if_pos ⟨hcor g Tg hTg,by simp⟩];rfl
      rw[e] at this;exact this
    · rintro e w' ⟨gd,c,rv,ts,he,hI,hts,h1,h2,hb⟩;have e1:ts=[(g:Int)]:=single_of hI.once (fun y=>⟨fun hy=>hreach y ((hts y).1 hy),fun hy=>(hts y).2 (.base (by rw[hy];simp))⟩);exact dig_put (fun ts=>ts=[(g:Int)]) e1 (by rw[e1];exact hrim) he h1 h2 hb
  have hPUT:∀(lo mb pb pc:Nat)(tv:Value)(W:World),MeshO 33 41 W lo mb pb pc tv P (S0)→Calls Tryz.prog 106 #[.pointer (some ⟨mb,0,none⟩),.int .i64 ((3:Nat):Int),.agg #[.int .i64 3,.int .i64 (g:Int),.int .i64 0,.int .i64 0]] W fun e w'=>e= .returned (.tuple #[])∧∃tv',MeshO 33 41 w' lo mb pb pc tv' P (S4)∧Mut W w' mb tv tv':=by
    intro lo mb pb pc tv W hm;refine(put_any 3 p0 p1 3 (g:Int) 0 0 [] (fun ts=>ts=[(g:Int)]) W hm h3 hlive (by omega) (fun ts e=>by subst e;rw[hlen0];exact⟨hIS,hrim,hok⟩) (fun V hV=>?_) (fun V hV=>?_)).mono ?_;·exact(faultAt_off _ 3 _ _ _ (by decide) V).mono fun e w' ⟨h1,h2⟩=>⟨_,h1,.inl ⟨rfl,rfl⟩,h2⟩
    · obtain⟨ta,tc,-,hr⟩:=(hm.below hV).read;exact hdig mb pb pc ta tc V hr
    · rintro e w' ⟨ts,tv',he,hts,h1,h2⟩;subst hts;rw[hput] at h1;exact⟨he,tv',h1,h2⟩
  have hFD:∀(mb pb pc:Nat)(ta:Option Addr)(tc:Nat)(fr:Int)(W:World),MeshR W mb pb pc ta tc P S0→MeshIn (fun b=>b<W.heap.size) mb pb ta→Calls Tryz.prog 105 #[.pointer (some ⟨mb,0,none⟩),.agg #[.int .i64 p0,.int .i64 p1],.int .i64 fr,.int .i64 ((S0.length:Nat):Int)] W fun e w'=>e= .returned (.tuple #[.agg #[.int .i64 3,.int .i64 (g:Int),.int .i64 0,.int .i64 0],.int .i64 cnt])∧Below W.heap.size W w':=by
    intro mb pb pc ta tc fr W hm hin;have:=WFind_any 0 ⟨((0:Nat):Int),((1:Nat):Int),((2:Nat):Int),1,2,3,false,false,false⟩ (p0,p1) fr ((S0.length:Nat):Int) W hm hin hP hpt hlook (hbeg fr) hT0 (by decide);rw[hlen0] at this⊢;rw[show(min ((4:Nat):Int) ((4:Nat):Int)).toNat=4 by decide,hfind] at this;exact this
  have HB:=Lib.hid (Base_any sb 4 sc P w hl (by omega) (by omega) hP hc);have HNEW:=Lib.hid (fun W (hW:PtsIn W sb P)=>New_yes (some ⟨sb,0,none⟩) sb 4 sc P W hl (by omega) (by omega) hP rfl (fun j u hj=>by
    rw[Nat.zero_add];obtain⟨q,r,hr,rfl⟩:∃q r,r<2∧j=q*2+r:=⟨j/2,j%2,Nat.mod_lt _ (by omega),by omega⟩;have hq:q<P.length:=by have:=(List.getElem?_eq_some_iff.1 hj).1;rw[ptsCells_len] at this;omega
    obtain⟨⟨x,y⟩,hxy⟩:∃p,P[q]?=some p:=⟨_,List.getElem?_eq_getElem hq⟩;obtain⟨g1,g2⟩:=ptsCells_get P q x y hxy;obtain⟨g3,g4⟩:=hW q x y hxy;obtain rfl|rfl:r=0∨r=1:=by omega
    · rw[Nat.add_zero] at hj⊢;rw[g1] at hj;cases hj;exact g3
    ·rw[g2] at hj;cases hj;exact g4) 0 1 2 hturn);have HBA:=Lib.hid hbase;have HC:=Lib.hid hc;have H3:=Lib.hid h3;have HPU:=Lib.hid hPUT;have HFN:=Lib.hid hFD;have HS0:=Lib.hid hS0;have HL4:=Lib.hid hlen0;have HL:=Lib.hid hl;clear hdig hPUT hFD hpt hreach hIS hTg hbeg hT0 hlive hsm hcor hnx hlook hfind hconf hput hrim hok hbase hturn h3 hc hP hP0 hS0 hlen0 hl;go_enter Tryz.func22,Tryz.ntmps22;go_wp2_with fail;refine HB.out.mono ?_;rintro e w1 ⟨ok,s,t,rfl,hba,hb1⟩;obtain⟨rfl,rfl,rfl⟩:=HBA.out ok s t hba;obtain⟨bb,hbb⟩:∃x,w1.heap.size=x:=⟨_,rfl⟩;obtain⟨w2,hw2,pb2,hb2,hs2⟩:=new_box w1 _ rfl [.int .i64 0,.int .i64 1,.int .i64 2] 38;rw[hbb] at pb2;have hB2:Below w.heap.size w w2:=hb1.trans (hb2.mono hb1.size);have HN:=Lib.hid (show Calls Tryz.prog 81 #[.slice (some ⟨sb,0,none⟩) 4 sc,.int .i64 0,.int .i64 1,.int .i64 2] w2 fun e w'=>∃mb pb pc tv,e= .returned (.tuple #[.pointer (some ⟨mb,0,none⟩),.bool true])∧MeshO 33 41 w' w2.heap.size mb pb pc tv P (newM ((0:Nat):Int) ((1:Nat):Int) ((2:Nat):Int))∧w2.heap.size≤pb∧Below w2.heap.size w2 w' from HNEW.out w2 (HC.out.below hB2));have z0:=pb2.c 0 _ rfl;have z1:=pb2.c 1 _ rfl;have z2:=pb2.c 2 _ rfl;have PB2:=Lib.hid pb2;have HB2:=Lib.hid hB2;have hlb:w.heap.size≤bb:=by rw[←hbb];exact hb1.size
  have HLB:=Lib.hid hlb;clear hba hb1 pb2 hb2 hs2 hB2 hlb;go_wp2_with fail;clear hbb hw2;refine HN.out.mono ?_;rintro e w3 ⟨mb,pb,pc,tv,rfl,hm,hpb,hb3⟩;rw[HS0.out] at hm;have pb3:=PB2.out.below hb3;have hB3:Below w.heap.size w w3:=HB2.out.trans (hb3.mono HB2.out.size);have hio:IntsAt w3 bb [0,1,2]:=fun j z hj=>by match j,hj with
    |0,hj=>cases hj;exact pb3.c 0 _ rfl|1,hj=>cases hj;exact pb3.c 1 _ rfl|2,hj=>cases hj;exact pb3.c 2 _ rfl|_+3,hj=>cases hj
  have HCO:=Lib.hid (fun x=>containsI_any (.slice (some ⟨bb,0,none⟩) 3 3) [0,1,2] x w3 (.inr ⟨bb,3,rfl,hio,by decide⟩));have HM:=Lib.hid hm;have HB3:=Lib.hid hB3;have y0:=pb3.c 0 _ rfl;have hlo:w.heap.size≤w2.heap.size:=HB2.out.size;have HLO:=Lib.hid hlo;have HPB:=Lib.hid hpb;clear z0 z1 z2 hm hpb hb3 hB3 pb3 hio hlo;go_wp2;clear y0;go_loopw [7,8,31] (fun lv _ iv wr=>∃k:Nat,iv= .int .i64 (k:Int)∧((k≤3∧lv= .int .i64 0∧wr=w3)∨(k=4∧∃tv',MeshO 33 41 wr w2.heap.size mb pb pc tv' P (S4)∧Below w.heap.size w wr))) (fun _ _ iv _=>4-(intOf iv).toNat);case atStart=>exact⟨0,rfl,.inl ⟨by omega,rfl,rfl⟩⟩
  case round=>
    obtain⟨k,rfl,⟨hk,rfl,rfl⟩|⟨rfl,tv',hm4,hb4⟩⟩:=hrel
    · obtain rfl|rfl|rfl|rfl:k=0∨k=1∨k=2∨k=3:=by omega
      · have HC0:=Lib.hid (HCO.out 0);rw[show decide ((0:Int)∈[(0:Int),1,2])=true by decide] at HC0;go_wp2_with fail;refine HC0.out.mono ?_;rintro e w5 ⟨rfl,rfl⟩;go_wp2;exact⟨⟨1,rfl,.inl ⟨by omega,rfl,by first|rfl|trivial⟩⟩,by simp[intOf]⟩
      · have HC0:=Lib.hid (HCO.out 1);rw[show decide ((1:Int)∈[(0:Int),1,2])=true by decide] at HC0;go_wp2_with fail;refine HC0.out.mono ?_;rintro e w5 ⟨rfl,rfl⟩;go_wp2;exact⟨⟨2,rfl,.inl ⟨by omega,rfl,by first|rfl|trivial⟩⟩,by simp[intOf]⟩
      · have HC0:=Lib.hid (HCO.out 2);rw[show decide ((2:Int)∈[(0:Int),1,2])=true by decide] at HC0;go_wp2_with fail;refine HC0.out.mono ?_;rintro e w5 ⟨rfl,rfl⟩;go_wp2;exact⟨⟨3,rfl,.inl ⟨by omega,rfl,by first|rfl|trivial⟩⟩,by simp[intOf]⟩
      · have HC0:=Lib.hid (HCO.out 3);rw[show decide ((3:Int)∈[(0:Int),1,2])=false by decide] at HC0;go_wp2_with fail;refine HC0.out.mono ?_;rintro e w5 ⟨rfl,rfl⟩;obtain⟨ta,tc,-,hr⟩:=HM.out.read;have hin:=hr.in_ (by rw[HL.out];omega) (by rw[HL4.out];omega);have HHA:=Lib.hid (having_any 0 wr hr hin);clear hin hr;go_wp2_with fail;refine HHA.out.mono ?_;rintro e w6 ⟨fr,rfl,hb6⟩;have hm6:=HM.out.below hb6;have hB6:Below w.heap.size w w6:=HB3.out.trans (hb6.mono HB3.out.size);obtain⟨ta,tc,-,hr6⟩:=hm6.read;have hin6:=hr6.in_ (by rw[HL.out];omega) (by rw[HL4.out];omega);have HIN:=Lib.hid (Insert_any 3 p0 p1 3 (g:Int) 0 0 cnt fr (fun W w'=>∃tv',MeshO 33 41 w' w2.heap.size mb pb pc tv' P (S4)∧Mut W w' mb tv tv') w6 hr6 H3.out (fun W hW=>HFN.out mb pb pc ta tc fr W (hr6.below hW) ⟨Nat.lt_of_lt_of_le hin6.m hW.size,Nat.lt_of_lt_of_le hin6.p hW.size,fun b hb=>Nat.lt_of_lt_of_le (hin6.t b hb) hW.size⟩) (fun _ W hW=>HPU.out w2.heap.size mb pb pc tv W (hm6.below hW)));have HB6:=Lib.hid hB6;clear hb6 hm6 hB6 hr6 hin6;go_wp2_with fail;refine HIN.out.mono ?_;rintro e w7 (⟨h,-⟩|⟨-,rfl,W,hW,tv',hm7,hmu7⟩);·exact absurd h (by decide)
        · have hlow:=HM.out.low;have FIN:=Lib.hid (And.intro hm7 ((HB6.out.trans (hW.mono HB6.out.size)).trans (hmu7.below (by have:=HB6.out.size;have:=hW.size;omega) (by have:=HLO.out;omega) (fun k hk=>by have:=(HM.out.row.lt k hk).1;have:=HLO.out;omega))));clear hm7 hmu7 hlow;go_wp2;exact⟨⟨4,rfl,.inr ⟨rfl,tv',FIN.out.1,FIN.out.2⟩⟩,by simp[intOf]⟩
    · have FIN:=Lib.hid (And.intro hm4 hb4);clear hm4 hb4;go_wp2;refine bodyPost_ret (v:= .tuple #[.pointer (some ⟨mb,0,none⟩),.bool true]) ?_ rfl ?_;·simp[results,Tryz.results22,go_sem]
      exact⟨mb,pb,pc,tv',rfl,⟨FIN.out.1.box,owns_mono FIN.out.1.prow HLO.out,owns_mono FIN.out.1.row HLO.out,by have:=FIN.out.1.low;have:=HLO.out;omega,FIN.out.1.apart,FIN.out.1.short⟩,FIN.out.2⟩
end Go.Proofs.YtdmfbkhafnkcfaaGreat
namespace Go.MagM
open Go.Proofs.YtdmfbkhafnkcfaaGreat
section
variable{P:List (Int×Int)}{S:List TriM}{p:Int×Int}{t u i j k:Nat}
theorem Tidy.slot(h:Tidy P S){T:TriM}(hT:S[t]?=some T):t<S.length∧(∀k,k<3→T.v k=vA S t k)∧(∀k,k<3→T.f k=fA S t k)∧(∀k,k<3→T.n k=((nA S t k:Nat):Int)):=by have ht:=(List.getElem?_eq_some_iff.1 hT).1;obtain⟨T',hT',hv,hf⟩:=slot_at ht;rw[hT] at hT';cases hT';exact⟨ht,hv,hf,fun k hk=>slot_n h.geo.net hT hk⟩
theorem Tidy.nexts(h:Tidy P S):Nexts S:=fun t T hT i hi=>by have hs:=h.slot hT;obtain⟨j,hj,-⟩:=h.geo.net.mate t hs.1 i;exact⟨nA S t i,hs.2.2.2 i hi,hj⟩
theorem Tidy.inV(h:Tidy P S)(ht:t<S.length)(hk:vA S t k≠-1):InV P (vA S t k):=by
  rcases h.geo.net.rng t ht k with e|e;·exact absurd e hk
  ·exact e
theorem Tidy.gh_in(h:Tidy P S){T:TriM}(hT:S[t]?=some T)(hk:k<3)(hg:T.v k=-1):InV P (T.v ((k+1)%3))∧InV P (T.v ((k+2)%3)):=by
  obtain⟨ht,hv,-⟩:=h.slot hT;rw[hv k hk] at hg;rw[hv _ (Nat.mod_lt _ (by omega)),hv _ (Nat.mod_lt _ (by omega))];constructor
  · refine h.inV ht fun e=>?_;rw[vA_mod] at e;exact h.geo.net.apart t ht k (by rw[hg,e])
  · refine h.inV ht fun e=>?_;rw[vA_mod] at e;exact h.geo.net.apart2 ht k (by rw[hg,e])
theorem Tidy.cornered(h:Tidy P S):Cornered P S:=fun t T hT=>by
  obtain⟨ht,hv,-⟩:=h.slot hT;by_cases hg:∃k,k<3∧T.v k=-1
  · obtain⟨k,hk,e⟩:=hg;obtain⟨h1,h2⟩:=h.gh_in hT hk e;rw[corsA_ghost hk e h1 h2];simp
  · rw[corsA_real fun k hk=>?_];·simp
    · have:=h.inV (k:=k) ht (fun e=>hg ⟨k,hk,by rw[hv k hk];exact e⟩);rw[hv k hk];exact this
theorem Tidy.smallV(h:Tidy P S)(hl:P.length≤1000000):SmallV S:=fun t T hT k=>by
  obtain⟨ht,hv,-⟩:=h.slot hT;have hb:∀k,k<3→-1000000≤T.v k∧T.v k≤1000000:=fun k hk=>by rw[hv k hk];have:=h.geo.net.rng t ht k;omega
  match k with
  |0=>exact hb 0 (by omega)|1=>exact hb 1 (by omega)|_+2=>exact hb 2 (by omega)
theorem Tidy.live(h:Tidy P S):∀t,t<S.length→Alive S t:=fun _ ht=>⟨_,List.getElem?_eq_getElem ht,not_gone h.alive (List.getElem?_eq_getElem ht)⟩
theorem Tidy.lookIn(h:Tidy P S):LookIn P S:=fun t T hT=>by
  obtain⟨ht,hv,-⟩:=h.slot hT;refine⟨fun hr i hi=>?_,fun k hk=>?_⟩
  · rw[hv i hi];exact h.inV ht (((realT_iff h hT).1 hr).2 i)
  · by_cases hg:∃k,k<3∧T.v k=-1
    · obtain⟨j,hj,e⟩:=hg;have:=placeT_ghost hj e fun i hi e'=>by
        rw[hv i hi] at e';rw[hv j hj] at e;have:=h.geo.net.corner ht (e'.trans e.symm);omega
      rw[this] at hk;have:j=k:=by omega
      subst this;exact h.gh_in hT hj e
    ·rw[placeT_real fun k hk e=>hg ⟨k,hk,e⟩] at hk;omega
theorem Tidy.across(h:Tidy P S):Across S:=fun t T i hT hr hi=>by
  obtain⟨ht,hv,-,hn⟩:=h.slot hT;obtain⟨j,hj,e1,e2,-⟩:=h.geo.net.mate t ht i;obtain⟨U,hU,hu,-⟩:=slot_at hj;refine⟨nA S t i,j%3,U,hU,Nat.mod_lt _ (by omega),hn i hi,?_,?_⟩;·rw[hu _ (Nat.mod_lt _ (by omega)),hv _ (Nat.mod_lt _ (by omega)),vA_mod,vA_mod,vA_eq S _ (show(j%3+1)%3=(j+1)%3 by omega),e1]
  ·rw[hu _ (Nat.mod_lt _ (by omega)),hv _ (Nat.mod_lt _ (by omega)),vA_mod,vA_mod,vA_eq S _ (show(j%3+2)%3=(j+2)%3 by omega),e2]
theorem take_one(h:Tidy P S){T:TriM}(hT:S[t]?=some T):takeM P T (t:Int) []=[(t:Int)]:=by unfold takeM;rw[if_pos ⟨h.cornered t T hT,by simp⟩];rfl
theorem take_two(h:Tidy P S){U:TriM}(hU:S[u]?=some U)(hne:u≠t):takeM P U (u:Int) [(t:Int)]=[(t:Int),(u:Int)]:=by unfold takeM;rw[if_pos ⟨h.cornered u U hU,by simp;omega⟩];rfl
theorem edgeV_at{T:TriM}(hk:k<3):edgeV T k=(T.v ((k+1)%3),T.v ((k+2)%3)):=by
  obtain rfl|rfl|rfl:k=0∨k=1∨k=2:=by omega
  all_goals rfl
theorem edge_told(h:Tidy P S){T:TriM}(hT:S[t]?=some T)(hk:k<3){a b:Int}(ha:a=min (vA S t (k+1)) (vA S t (k+2)))(hb:b=max (vA S t (k+1)) (vA S t (k+2))):(edgeT T a b=(k:Int)∧edgeT T b a=-1)∨(edgeT T a b=-1∧edgeT T b a=(k:Int)):=by
  obtain⟨ht,hv,-,-⟩:=h.slot hT;have he:∀j,j<3→edgeV T j=(vA S t (j+1),vA S t (j+2)):=fun j hj=>by rw[edgeV_at hj,hv _ (Nat.mod_lt _ (by omega)),hv _ (Nat.mod_lt _ (by omega)),vA_mod,vA_mod]
  have hit:edgeT T (vA S t (k+1)) (vA S t (k+2))=(k:Int):=edgeT_hit hk (he k hk) fun j hj e=>by
    rw[he j (by omega)] at e;have:=h.geo.net.corner ht (congrArg Prod.fst e);omega
  have miss:edgeT T (vA S t (k+2)) (vA S t (k+1))=-1:=edgeT_miss fun j hj e=>by
    rw[he j hj] at e;have e1:=h.geo.net.corner ht (congrArg Prod.fst e);have e2:=h.geo.net.corner ht (congrArg Prod.snd e);omega
  rcases Int.lt_or_le (vA S t (k+1)) (vA S t (k+2)) with hl|hl
  · left;rw[ha,hb,Int.min_eq_left (by omega),Int.max_eq_right (by omega)];exact⟨hit,miss⟩
  · right;rw[ha,hb,Int.min_eq_right hl,Int.max_eq_left hl];exact⟨miss,hit⟩
def partE(S:List TriM)(t k:Nat)(a b:Int):List Int:=if fA S t k=true then[a,b] else[]
def Came(P:List (Int×Int))(S S':List TriM)(p:Int×Int)(v:Int):Prop:=∃(st:List Nat) (pl ts stI:List Int),PlaceA P S p st pl∧(∀x∈pl,0≤x)∧InS S ts∧(∀z,z∈ts↔Go.Proofs.YtdmfbkhafnkcfaaGreat.Reach S (confT P S p) stI z)∧(∀x:Nat,(x:Int)∈stI↔x∈st)∧(∀z∈stI,∃x:Nat,z=(x:Int))∧(pl≠[]→∃t i,t<S.length∧fA S t i=true)∧S'=putM S v pl ts
end
end Go.MagM
namespace Go.Proofs.YtdmfbkhafnkcfaaGreat
open Go.RowKit Go.MagM
theorem faultAt_edge{mb pb pc:Nat}{ta:Option Addr}{tc:Nat}{P:List (Int×Int)}{S:List TriM}(t k:Nat)(T:TriM)(a b:Int)(w:World)(h:MeshR w mb pb pc ta tc P S)(hG:Tidy P S)(hT:S[t]?=some T)(hk:k<3)(ha:a=min (vA S t (k+1)) (vA S t (k+2)))(hb:b=max (vA S t (k+1)) (vA S t (k+2))):Calls Tryz.prog 183 #[.pointer (some ⟨mb,0,none⟩),.agg #[.int .i64 1,.int .i64 (t:Int),.int .i64 a,.int .i64 b]] w fun e w'=>∃pv,e= .returned pv∧((pv= .slice none 0 0∧partE S t k a b=[])∨∃qb c,pv= .slice (some ⟨qb,0,none⟩) (partE S t k a b).length c∧IntsAt w' qb (partE S t k a b)∧(w.heap.size≤qb∧qb<w'.heap.size)∧(partE S t k a b).length≤1000)∧Below w.heap.size w w':=by
  obtain⟨ht,hv,hf,-⟩:=hG.slot hT;obtain⟨v0,v1,v2,n0,n1,n2,f0,f1,f2⟩:=T;have e0:v0=vA S t 0:=hv 0 (by omega);have e1:v1=vA S t 1:=hv 1 (by omega);have e2:v2=vA S t 2:=hv 2 (by omega);have e3:vA S t 3=vA S t 0:=vA_eq S t rfl;have e4:vA S t 4=vA S t 1:=vA_eq S t rfl;have g0:f0=fA S t 0:=hf 0 (by omega);have g1:f1=fA S t 1:=hf 1 (by omega);have g2:f2=fA S t 2:=hf 2 (by omega);have a01:=hG.geo.net.apart t ht 0;have a12:=hG.geo.net.apart t ht 1;have a02:=hG.geo.net.apart2 ht 0;simp only[Nat.reduceAdd] at a01 a12 a02;have fin:∀(q:Bool),q=fA S t k→∀e w',(∃pv,e=Ending.returned pv∧((q=false∧pv= .slice none 0 0)∨(q=true∧∃qb c,pv= .slice (some ⟨qb,0,none⟩) 2 c∧IntsAt w' qb [a,b]∧w.heap.size≤qb∧qb<w'.heap.size))∧Below w.heap.size w w')→∃pv,e= .returned pv∧((pv= .slice none 0 0∧partE S t k a b=[])∨∃qb c,pv= .slice (some ⟨qb,0,none⟩) (partE S t k a b).length c∧IntsAt w' qb (partE S t k a b)∧(w.heap.size≤qb∧qb<w'.heap.size)∧(partE S t k a b).length≤1000)∧Below w.heap.size w w':=by
    rintro q hq e w' ⟨pv,he,h1|⟨h1,qb,c,h2,h3,h4,h5⟩,hb'⟩;· refine⟨pv,he,.inl ⟨h1.2,?_⟩,hb'⟩;unfold partE;rw[←hq,h1.1];rfl
    · have e:partE S t k a b=[a,b]:=by unfold partE;rw[←hq,h1];rfl
      rw[e];exact⟨pv,he,.inr ⟨qb,c,h2,h3,⟨h4,h5⟩,by simp⟩,hb'⟩
  obtain rfl|rfl|rfl:k=0∨k=1∨k=2:=by omega
  · simp only[Nat.reduceAdd] at ha hb;exact(faultAt_0 t v0 v1 v2 n0 n1 n2 a b f0 f1 f2 w h hT (by omega) (by omega) (by omega)).mono (fin f0 g0)
  · simp only[Nat.reduceAdd] at ha hb;exact(faultAt_1 t v0 v1 v2 n0 n1 n2 a b f0 f1 f2 w h hT (by omega) (by omega) (by omega)).mono (fin f1 g1)
  · simp only[Nat.reduceAdd] at ha hb;exact(faultAt_2 t v0 v1 v2 n0 n1 n2 a b f0 f1 f2 w h hT (by omega) (by omega) (by omega)).mono (fin f2 g2)
theorem put_begun{lo mb pb pc:Nat}{tv:Value}{P:List (Int×Int)}{S:List TriM}(v:Nat)(p0 p1 x0 x1 x2 x3:Int)(st:List Nat)(pl stI:List Int)(w:World)(h:MeshO 33 41 w lo mb pb pc tv P S)(hv:P[v]?=some (p0,p1))(hT:Tidy P S)(hP:InPs P)(hl:P.length≤1000000)(hsh:S.length≤200000)(hpl:PlaceA P S (p0,p1) st pl)(hpl0:∀x∈pl,0≤x)(hst:∀x:Nat,(x:Int)∈stI↔x∈st)(hI:InS S stI)(hne:stI≠[])(hun:∀t,t<S.length→∀i,vA S t i≠(v:Int))(hfl:pl≠[]→∃t i,t<S.length∧fA S t i=true)(hbeg:∀ta tc W,MeshR W mb pb pc ta tc P S→Calls Tryz.prog 129 #[.pointer (some ⟨mb,0,none⟩),.agg #[.int .i64 x0,.int .i64 x1,.int .i64 x2,.int .i64 x3]] W fun e w'=>∃(hb m:Nat) (v:Value),e= .returned (.pointer (some ⟨hb,0,none⟩))∧HoleR w' W.heap.size hb mb m v stI∧Below W.heap.size W w')(hfa:∀ta tc W,MeshR W mb pb pc ta tc P S→Calls Tryz.prog 183 #[.pointer (some ⟨mb,0,none⟩),.agg #[.int .i64 x0,.int .i64 x1,.int .i64 x2,.int .i64 x3]] W fun e w'=>∃pv,e= .returned pv∧((pv= .slice none 0 0∧pl=[])∨∃qb c,pv= .slice (some ⟨qb,0,none⟩) pl.length c∧IntsAt w' qb pl∧(W.heap.size≤qb∧qb<w'.heap.size)∧pl.length≤1000)∧Below W.heap.size W w'):Calls Tryz.prog 106 #[.pointer (some ⟨mb,0,none⟩),.int .i64 (v:Int),.agg #[.int .i64 x0,.int .i64 x1,.int .i64 x2,.int .i64 x3]] w fun e w'=>∃(S':List TriM) (tv':Value),e= .returned (.tuple #[])∧Came P S S' (p0,p1) (v:Int)∧MeshO 33 41 w' lo mb pb pc tv' P S'∧Mut w w' mb tv tv':=by
  have hs0:∀z∈stI,∃x:Nat,z=(x:Int):=fun z hz=>by obtain⟨u,hu,-⟩:=hI.is z hz;exact⟨u,hu⟩
  have hvl:=(List.getElem?_eq_some_iff.1 hv).1;have hpv:ptV P (v:Int)=(p0,p1):=by unfold ptV ptA;rw[Int.toNat_natCast,hv];rfl
  have key:∀ts,(InS S ts∧∀z,z∈ts↔Reach S (confT P S (p0,p1)) stI z)→RowOk S ts (rimR S ts)∧(rimR S ts).length=ts.length+2:=fun ts hg=>by
    have:=put_tidy (v:=(v:Int)) hT hpl hpl0 hg.1 hg.2 hst hs0 (by omega) hpv hun;exact⟨this.2.2.1,this.2.2.2.1⟩
  have kne:∀ts,(InS S ts∧∀z,z∈ts↔Reach S (confT P S (p0,p1)) stI z)→rimR S ts≠[]:=fun ts hg e=>by
    have:=(key ts hg).2;rw[e] at this;simp at this
  refine(put_any v p0 p1 x0 x1 x2 x3 pl (fun ts=>InS S ts∧∀z,z∈ts↔Reach S (confT P S (p0,p1)) stI z) w h hv hT.live hsh (fun ts hg=>⟨hg.1,kne ts hg,fun s hs=>?_⟩) (fun W hW=>?_) (fun W hW=>?_)).mono ?_
  · obtain⟨u,i,e1,e2,e3,e4,e5⟩:=(key ts hg).1.out s hs;exact⟨u,i,e1,e5,e4,e2,e3⟩
  · obtain⟨ta,tc,-,hr⟩:=(h.below hW).read;exact hfa ta tc W hr
  · obtain⟨ta,tc,-,hr⟩:=(h.below hW).read;refine(cvDig_any stI x0 x1 x2 x3 p0 p1 W hr hP (hP _ (List.mem_of_getElem? hv)) hT.nexts hT.cornered (by omega) (hT.smallV hl) hI hne (fun V hV=>hbeg ta tc V (hr.below hV))).mono ?_;rintro e w' ⟨gd,c,rv,ts,he,hI',hts,h1,h2,hb⟩;exact dig_put _ ⟨hI',hts⟩ (kne ts ⟨hI',hts⟩) he h1 h2 hb
  · rintro e w' ⟨ts,tv',he,hg,h1,h2⟩;exact⟨_,tv',he,⟨st,pl,ts,stI,hpl,hpl0,hg.1,hg.2,hst,hs0,hfl,rfl⟩,h1,h2⟩
end Go.Proofs.YtdmfbkhafnkcfaaGreat
namespace Go.MagM
open Go.Proofs.YtdmfbkhafnkcfaaGreat
section
variable{P:List (Int×Int)}{S:List TriM}{p:Int×Int}{t:Nat}
theorem reals_has{S:List TriM}:∀(n:Nat)(x:Nat×TriM),x∈realsK S n→S[x.1]?=some x.2∧realT x.2=true
  |0,_,hx=>by cases hx|n+1,x,hx=>by
    rcases hn:S[n]? with-|T;· rw[realsK,hn] at hx;exact reals_has n x (by simpa using hx)
    ·cases hr:realT T with
      |true=>
        rw[realsK_yes hn hr] at hx;rcases List.mem_append.1 hx with h|h;·exact reals_has n x h
        · simp only[List.mem_singleton] at h;subst h;exact⟨hn,hr⟩|false=>rw[realsK_no hn hr] at hx;exact reals_has n x hx
theorem begin_real(h:Tidy P S)(hr:RealA S t)(fr:Int):∃(t0:Nat) (T0:TriM),beginM S fr=(t0:Int)∧S[t0]?=some T0∧realT T0=true∧RealA S t0∧0<crP (ptT P T0 0) (ptT P T0 1) (ptT P T0 2):=by
  have main:∀(t0:Nat)(T0:TriM),S[t0]?=some T0→realT T0=true→RealA S t0∧0<crP (ptT P T0 0) (ptT P T0 1) (ptT P T0 2):=fun t0 T0 h0 h1=>by
    have hR:=(realT_iff h h0).1 h1;obtain⟨ht,hv,-⟩:=h.slot h0;refine⟨hR,?_⟩;have:=h.geo.pos t0 ht hR.2;unfold ptT;rw[hv 0 (by omega),hv 1 (by omega),hv 2 (by omega)];exact this
  unfold beginM;by_cases hm:realM S fr=true;· rw[if_pos hm];obtain⟨T,hT,h1⟩:=realM_some hm;obtain⟨g1,g2,g3⟩:=getT_some hT;exact⟨fr.toNat,T,by omega,g3,h1,main _ _ g3 h1⟩
  · rw[if_neg hm];obtain⟨T,hT,-⟩:=slot_at hr.1;have h1:=realsK_yes hT ((realT_iff h hT).2 hr);have h2:=realsK_pre S S.length (t+1) hr.1;cases hl:realsK S S.length with
    |nil=>
      rw[hl,h1] at h2;obtain⟨z,hz⟩:=h2;have:=congrArg List.length hz;simp at this|cons x xs=>
      have hx:x∈realsK S S.length:=by rw[hl];simp
      obtain⟨g1,g2⟩:=reals_has _ _ hx;exact⟨x.1,x.2,rfl,g1,g2,main _ _ g1 g2⟩
def There(P:List (Int×Int))(S:List TriM)(p:Int×Int):Prop:=∃w,0≤w∧UsedA S w∧ptV P w=p
theorem Told.of_two{x:Int×Int×Int×Int}(h:Told P S p x)(h2:x.1=2):There P S p:=by cases h with|point h0 h1 h3=>exact⟨_,h0,h1,h3⟩|inside _ _=>simp at h2|edge _ _ _=>simp at h2|out _=>simp at h2
end
end Go.MagM
namespace Go.Proofs.YtdmfbkhafnkcfaaGreat
open Go.RowKit Go.MagM
theorem put_told{lo mb pb pc:Nat}{tv:Value}{P:List (Int×Int)}{S:List TriM}(v:Nat)(p0 p1:Int)(x:Int×Int×Int×Int)(w:World)(h:MeshO 33 41 w lo mb pb pc tv P S)(hv:P[v]?=some (p0,p1))(hT:Tidy P S)(hP:InPs P)(hl:P.length≤1000000)(hsh:S.length≤200000)(hx:Go.MagM.Told P S (p0,p1) x)(h2:x.1≠2)(hun:∀t,t<S.length→∀i,vA S t i≠(v:Int)):Calls Tryz.prog 106 #[.pointer (some ⟨mb,0,none⟩),.int .i64 (v:Int),.agg #[.int .i64 x.1,.int .i64 x.2.1,.int .i64 x.2.2.1,.int .i64 x.2.2.2]] w fun e w'=>∃(S':List TriM) (tv':Value),e= .returned (.tuple #[])∧Came P S S' (p0,p1) (v:Int)∧MeshO 33 41 w' lo mb pb pc tv' P S'∧Mut w w' mb tv tv':=by cases hx with
  |point _ _ _=>exact absurd rfl h2|@inside t ht ho=>
    obtain⟨T,hS,-⟩:=slot_at ht.1;refine put_begun v p0 p1 0 (t:Int) 0 0 [t] [] [(t:Int)] w h hv hT hP hl hsh (.inside ht ho) (by simp) (fun x=>by simp;omega) ⟨by simp,fun z hz=>⟨t,by simpa using hz,ht.1⟩⟩ (by simp) hun (fun hc=>absurd rfl hc) (fun ta tc W hm=>?_) (fun ta tc W hm=>?_);· have:=cvBegin_off t T 0 0 0 W hm hS (by decide);rw[take_one hT hS] at this;exact this
    ·exact(faultAt_off _ 0 _ _ _ (by decide) W).mono fun e w' ⟨h1,h2⟩=>⟨_,h1,.inl ⟨rfl,rfl⟩,h2⟩|@out t i hf=>
    obtain⟨T,hS,-⟩:=slot_at hf.1;refine put_begun v p0 p1 3 (t:Int) 0 0 [t] [] [(t:Int)] w h hv hT hP hl hsh (.out hf) (by simp) (fun x=>by simp;omega) ⟨by simp,fun z hz=>⟨t,by simpa using hz,hf.1⟩⟩ (by simp) hun (fun hc=>absurd rfl hc) (fun ta tc W hm=>?_) (fun ta tc W hm=>?_);· have:=cvBegin_off t T 3 0 0 W hm hS (by decide);rw[take_one hT hS] at this;exact this
    ·exact(faultAt_off _ 3 _ _ _ (by decide) W).mono fun e w' ⟨h1,h2⟩=>⟨_,h1,.inl ⟨rfl,rfl⟩,h2⟩|@edge t k hk ht he=>
    obtain⟨T,hS,hvT,-⟩:=slot_at ht.1;obtain⟨-,-,-,hn⟩:=hT.slot hS;obtain⟨j,hu,-⟩:=hT.geo.net.mate t ht.1 k;obtain⟨U,hU,-⟩:=slot_at hu;have hne:=hT.geo.net.not_own ht.1 k;obtain⟨a,ha⟩:∃a,a=min (vA S t (k+1)) (vA S t (k+2)):=⟨_,rfl⟩;obtain⟨b,hb⟩:∃b,b=max (vA S t (k+1)) (vA S t (k+2)):=⟨_,rfl⟩;have n1:=hT.geo.net.nonneg ht.1 (ht.2 (k+1));have n2:=hT.geo.net.nonneg ht.1 (ht.2 (k+2));have hp0:∀x∈partE S t k a b,0≤x:=fun x hx=>by
      unfold partE at hx;split at hx;·simp only[List.mem_cons,List.not_mem_nil,or_false] at hx;omega
      ·cases hx
    have hp1:fA S t k=true→vA S t (k+1)∈partE S t k a b∧vA S t (k+2)∈partE S t k a b:=fun hf=>by
      unfold partE;rw[if_pos hf];simp only[List.mem_cons,List.not_mem_nil,or_false];omega
    rw[←ha,←hb];refine put_begun v p0 p1 1 (t:Int) a b [t,nA S t k] (partE S t k a b) [(t:Int),((nA S t k:Nat):Int)] w h hv hT hP hl hsh (.edge ht he hp0 hp1) hp0 (fun x=>by simp;omega) ⟨by simp;omega,fun z hz=>?_⟩ (by simp) hun (fun hc=>?_) (fun ta tc W hm=>?_) (fun ta tc W hm=>?_)
    · simp only[List.mem_cons,List.not_mem_nil,or_false] at hz;rcases hz with e|e;·exact⟨t,e,ht.1⟩
      ·exact⟨_,e,hu⟩
    · refine⟨t,k,ht.1,Classical.byContradiction fun hf=>hc ?_⟩;unfold partE;rw[if_neg hf]
    · have:=cvBegin_on t T a b W hm hS k hk (nA S t k) U (hn k hk) hU (edge_told hT hS hk ha hb);rw[take_one hT hS,take_two hT hU hne] at this;exact this
    ·exact faultAt_edge t k T a b W hm hT hS hk ha hb
theorem Insert_tidy{lo mb pb pc:Nat}{tv:Value}{P:List (Int×Int)}{S:List TriM}(v:Nat)(p0 p1 fr:Int)(w:World)(h:MeshO 33 41 w lo mb pb pc tv P S)(hv:P[v]?=some (p0,p1))(hT:Tidy P S)(hP:InPs P)(hl:P.length≤1000000)(hsh:S.length≤200000){tr:Nat}(hr:RealA S tr):Calls Tryz.prog 33 #[.pointer (some ⟨mb,0,none⟩),.int .i64 (v:Int),.int .i64 fr] w fun e w'=>(There P S (p0,p1)∧e= .returned (.bool false)∧Below w.heap.size w w')∨(¬There P S (p0,p1)∧e= .returned (.bool true)∧∃(S':List TriM) (tv':Value) (W:World),Came P S S' (p0,p1) (v:Int)∧MeshO 33 41 w' lo mb pb pc tv' P S'∧Below w.heap.size w W∧Mut W w' mb tv tv'):=by
  obtain⟨t0,T0,hb,h0,hr0,hR0,hD⟩:=begin_real hT hr fr;obtain⟨ta,tc,htv,hm⟩:=h.read;have hvl:=(List.getElem?_eq_some_iff.1 hv).1;have hin:=hm.in_ (by omega) (by have:=hr.1;omega);have hpp:=hP _ (List.mem_of_getElem? hv);obtain⟨k,hk⟩:∃k,(min ((S.length:Nat):Int) S.length).toNat=k:=⟨_,rfl⟩;obtain⟨he,-,-⟩:=walk_ends (p:=(p0,p1)) h0 hr0 hD hT.lookIn hT.across k;have htold:=told_ends hT hR0 he;have hfd:∀W:World,Below w.heap.size w W→Calls Tryz.prog 105 #[.pointer (some ⟨mb,0,none⟩),.agg #[.int .i64 p0,.int .i64 p1],.int .i64 fr,.int .i64 ((S.length:Nat):Int)] W fun e w'=>e= .returned (.tuple #[placeV (findF P S T0 (p0,p1) k 0 t0).1,.int .i64 (findF P S T0 (p0,p1) k 0 t0).2])∧Below W.heap.size W w':=fun W hW=>by
    have:=WFind_any t0 T0 (p0,p1) fr ((S.length:Nat):Int) W (hm.below hW) ⟨Nat.lt_of_lt_of_le hin.m hW.size,Nat.lt_of_lt_of_le hin.p hW.size,fun b hb=>Nat.lt_of_lt_of_le (hin.t b hb) hW.size⟩ hP hpp hT.lookIn hb h0 hr0;rw[hk] at this;exact this
  obtain⟨⟨x,cnt⟩,hf⟩:∃q,findF P S T0 (p0,p1) k 0 t0=q:=⟨_,rfl⟩;rw[hf] at htold hfd;have hpv:ptV P (v:Int)=(p0,p1):=by unfold ptV ptA;rw[Int.toNat_natCast,hv];rfl
  refine(Insert_any v p0 p1 x.1 x.2.1 x.2.2.1 x.2.2.2 cnt fr (fun W w'=>¬There P S (p0,p1)∧∃(S':List TriM) (tv':Value),Came P S S' (p0,p1) (v:Int)∧MeshO 33 41 w' lo mb pb pc tv' P S'∧Mut W w' mb tv tv') w hm hv hfd (fun hx2 W hW=>?_)).mono ?_
  · have hno:¬There P S (p0,p1):=fun⟨u,h0,h1,h3⟩=>hx2 (Go.MagM.Told.there hT h0 h1 h3 htold);refine(put_told v p0 p1 x W (h.below hW) hv hT hP hl hsh htold hx2 (fun t ht i e=>hno ⟨(v:Int),by omega,⟨t,i,ht,e⟩,hpv⟩)).mono ?_;rintro e w' ⟨S',tv',he,hc,h1,h2⟩;exact⟨he,hno,S',tv',hc,h1,h2⟩
  · rintro e w' (⟨h2,he,hB⟩|⟨h2,he,W,hW,hno,S',tv',hc,h1,h3⟩);·exact .inl ⟨htold.of_two h2,he,hB⟩
    ·exact .inr ⟨hno,he,S',tv',W,hc,h1,hW,h3⟩
end Go.Proofs.YtdmfbkhafnkcfaaGreat
namespace Go.MagM
open Go.Proofs.YtdmfbkhafnkcfaaGreat
section
variable{P:List (Int×Int)}{a b c:Int}{t u i j k:Nat}
theorem new_lt(h:t<(newM a b c).length):t=0∨t=1∨t=2∨t=3:=by have:(newM a b c).length=4:=rfl;omega
theorem mod_three(i:Nat):i%3=0∨i%3=1∨i%3=2:=by omega
def cN(a b c:Int):Nat→Nat→Int|0,0=>a|0,1=>b|0,_=>c|1,0=>c|1,1=>b|2,0=>a|2,1=>c|3,0=>b|3,1=>a|_,_=>-1
theorem vA_new(h:t<4)(i:Nat):vA (newM a b c) t i=cN a b c t (i%3):=by rw[←vA_mod];obtain rfl|rfl|rfl|rfl:=new_lt (a:=a) (b:=b) (c:=c) h;all_goals rcases mod_three i with e|e|e;all_goals rw[e];rfl
theorem fA_new(t i:Nat):fA (newM a b c) t i=false:=by unfold fA;cases h:(newM a b c)[t]? with|none=>rfl|some T=>have hm:=Nat.mod_lt i (show 0<3 by omega);simp only[];rcases newM_get _ _ _ t T h with⟨rfl,rfl⟩|⟨rfl,rfl⟩|⟨rfl,rfl⟩|⟨rfl,rfl⟩;all_goals rcases mod_three i with e|e|e;all_goals rw[e];rfl
theorem new_mate(ht:t<4){r:Nat}(hr:r<3):∃j,nA (newM a b c) t r<4∧vA (newM a b c) (nA (newM a b c) t r) (j+1)=vA (newM a b c) t (r+2)∧vA (newM a b c) (nA (newM a b c) t r) (j+2)=vA (newM a b c) t (r+1)∧nA (newM a b c) (nA (newM a b c) t r) j=t:=by
  obtain rfl|rfl|rfl|rfl:=new_lt (a:=a) (b:=b) (c:=c) ht;all_goals
    obtain rfl|rfl|rfl:r=0∨r=1∨r=2:=by omega
    all_goals first
      |exact⟨0,Nat.le_of_ble_eq_true rfl,rfl,rfl,rfl⟩|exact⟨1,Nat.le_of_ble_eq_true rfl,rfl,rfl,rfl⟩|exact⟨2,Nat.le_of_ble_eq_true rfl,rfl,rfl,rfl⟩
theorem new_net{n:Nat}(ha:0≤a∧a<n)(hb:0≤b∧b<n)(hc:0≤c∧c<n)(hab:a≠b)(hbc:b≠c)(hac:a≠c):Net n (newM a b c):=by
  constructor
  · intro t ht i;rw[vA_new ht];obtain rfl|rfl|rfl|rfl:=new_lt ht;all_goals rcases mod_three i with e|e|e;all_goals rw[e];first|exact .inl rfl|exact .inr ha|exact .inr hb|exact .inr hc
  · intro t ht i;rw[vA_new ht,vA_new ht];obtain rfl|rfl|rfl|rfl:=new_lt ht;all_goals
      rcases mod_three i with e|e|e;·rw[e,show(i+1)%3=1 by omega];simp only[cN];omega
      ·rw[e,show(i+1)%3=2 by omega];simp only[cN];omega
      ·rw[e,show(i+1)%3=0 by omega];simp only[cN];omega
  · intro t u i j ht hu h1 h2;rw[vA_new ht,vA_new hu] at h1 h2;have hi:(i+1)%3=(i%3+1)%3:=by omega
    have hj:(j+1)%3=(j%3+1)%3:=by omega
    rw[hi,hj] at h2;obtain⟨r,er⟩:∃r,i%3=r:=⟨_,rfl⟩;obtain⟨s,es⟩:∃s,j%3=s:=⟨_,rfl⟩;have hr:r<3:=by omega
    have hs:s<3:=by omega
    rw[er,es] at h1 h2⊢;obtain rfl|rfl|rfl|rfl:=new_lt ht<;>obtain rfl|rfl|rfl|rfl:=new_lt hu;all_goals
      obtain rfl|rfl|rfl:r=0∨r=1∨r=2:=by omega
      all_goals
        obtain rfl|rfl|rfl:s=0∨s=1∨s=2:=by omega
        all_goals
          simp only[cN,Nat.reduceAdd,Nat.reduceMod] at h1 h2;first|exact⟨rfl,rfl⟩|omega
  · intro t ht i;obtain⟨j,h1,h2,h3,h4⟩:=new_mate (a:=a) (b:=b) (c:=c) ht (Nat.mod_lt i (show 0<3 by omega));rw[nA_mod] at h1 h2 h3 h4;rw[vA_eq _ t (show(i%3+2)%3=(i+2)%3 by omega)] at h2;rw[vA_eq _ t (show(i%3+1)%3=(i+1)%3 by omega)] at h3;exact⟨j,h1,h2,h3,h4,by rw[fA_new,fA_new]⟩
  · intro t T hT i hi;rcases newM_get _ _ _ t T hT with⟨rfl,rfl⟩|⟨rfl,rfl⟩|⟨rfl,rfl⟩|⟨rfl,rfl⟩;all_goals
      obtain rfl|rfl|rfl:i=0∨i=1∨i=2:=by omega
      all_goals simp only[TriM.n];omega
  · intro t ht i _;rw[fA_new,fA_new];exact⟨rfl,rfl⟩
  · intro t ht i h k;rw[vA_new ht] at h;have h0:nA (newM a b c) t i=0:=by rw[←nA_mod];obtain rfl|rfl|rfl|rfl:=new_lt ht;all_goals rcases mod_three i with e|e|e;all_goals
          rw[e] at h⊢;simp only[cN] at h;first|rfl|omega
    rw[h0,vA_new (by omega)];rcases mod_three k with e|e|e;all_goals rw[e];simp only[cN];omega
theorem new_real(hr:RealA (newM a b c) t):t=0:=by
  obtain rfl|rfl|rfl|rfl:=new_lt hr.1;·rfl
  all_goals exact absurd rfl (hr.2 2)
theorem new_tidy(ha:0≤a∧a<P.length)(hb:0≤b∧b<P.length)(hc:0≤c∧c<P.length)(hD:0<crP (ptV P a) (ptV P b) (ptV P c)):Tidy P (newM a b c)∧RealA (newM a b c) 0:=by
  have hz:∀p q:Int×Int,crP p p q=0∧crP p q p=0∧crP q p p=0:=fun p q=>by refine⟨?_,?_,?_⟩<;>(unfold crP crs;grind)
  have hab:a≠b:=fun e=>by rw[e,(hz _ _).1] at hD;omega
  have hbc:b≠c:=fun e=>by rw[e,(hz _ _).2.2] at hD;omega
  have hac:a≠c:=fun e=>by rw[e,(hz _ _).2.1] at hD;omega
  have hN:=new_net ha hb hc hab hbc hac;have h0:RealA (newM a b c) 0:=⟨show 0<4 by omega,fun k=>by
    rw[vA_new (by omega)];rcases mod_three k with e|e|e;all_goals rw[e];simp only[cN];omega⟩;have hq:∀t i,t<4→qA P (newM a b c) t i=ptV P (cN a b c t (i%3)):=fun t i ht=>by rw[qA_is,vA_new ht]
  have hcr:∀k,∃v,(v=a∨v=b∨v=c)∧vA (newM a b c) 0 k=v:=fun k=>by
    rw[vA_new (by omega)];rcases mod_three k with e|e|e;all_goals rw[e];simp only[cN]
    ·exact⟨a,by simp,rfl⟩
    ·exact⟨b,by simp,rfl⟩
    ·exact⟨c,by simp,rfl⟩
  have hall:∀t k,t<4→vA (newM a b c) t k≠-1→vA (newM a b c) t k=a∨vA (newM a b c) t k=b∨vA (newM a b c) t k=c:=fun t k ht hk=>by
    rw[vA_new ht] at hk⊢;obtain rfl|rfl|rfl|rfl:=new_lt (a:=a) (b:=b) (c:=c) ht;all_goals rcases mod_three k with e|e|e;all_goals
        rw[e] at hk⊢;first|exact .inl rfl|exact .inr (.inl rfl)|exact .inr (.inr rfl)|exact absurd rfl hk
  have hin:∀v,(v=a∨v=b∨v=c)→∃i,vA (newM a b c) 0 i=v:=fun v hv=>by
    rcases hv with rfl|rfl|rfl;·exact⟨0,rfl⟩
    ·exact⟨1,rfl⟩
    ·exact⟨2,rfl⟩
  have side:∀x y z w:Int×Int,0<crP x y z→(w=x∨w=y∨w=z)→crP y x w≤0∧¬Betw y x w:=fun x y z w hxy hw=>by
    rcases hw with rfl|rfl|rfl
    · refine⟨by rw[(hz _ _).2.2];omega,fun h=>?_⟩;have:=h.2;unfold dotP at this;simp at this
    · refine⟨by rw[(hz _ _).2.1];omega,fun h=>?_⟩;have:=h.2;unfold dotP at this;simp at this
    · have:crP y x w=-crP x y w:=crP_swap _ _ _;exact⟨by omega,fun h=>by have:=h.1;omega⟩
  refine⟨⟨⟨hN,?_,?_,?_,?_,?_⟩,?_,?_⟩,h0⟩
  · intro t ht hr;have e:=new_real ⟨ht,hr⟩;subst e;rw[hq 0 0 (by omega),hq 0 1 (by omega),hq 0 2 (by omega)];exact hD
  · intro g i hg hgi t k ht hk;have hw:=hall t k ht hk;rw[vA_new hg] at hgi;have hi:i%3=2:=by
      obtain rfl|rfl|rfl|rfl:=new_lt hg;all_goals rcases mod_three i with e|e|e;all_goals rw[e] at hgi;simp only[cN] at hgi;omega
    have hg0:g≠0:=fun e=>by subst e;rw[hi] at hgi;simp only[cN] at hgi;omega
    rw[hq g _ hg,hq g _ hg,show(i+1)%3=0 by omega,show(i+2)%3=1 by omega,qA_is];have hD2:0<crP (ptV P b) (ptV P c) (ptV P a):=by rw[crP_cyc];exact hD
    have hD3:0<crP (ptV P c) (ptV P a) (ptV P b):=by rw[crP_cyc];exact hD2
    obtain rfl|rfl|rfl|rfl:=new_lt hg;·exact absurd rfl hg0
    · simp only[cN];refine side _ _ _ _ hD2 ?_;rcases hw with e|e|e<;>rw[e]<;>simp
    · simp only[cN];refine side _ _ _ _ hD3 ?_;rcases hw with e|e|e<;>rw[e]<;>simp
    · simp only[cN];refine side _ _ _ _ hD ?_;rcases hw with e|e|e<;>rw[e]<;>simp
  · intro t u k ht hu hk _;have e:=new_real ht;subst e;exact hin _ (hall u k hu hk)
  · intro t u q ht hu _ _;rw[new_real ht,new_real hu]
  · intro t i u q ht hu _ _;exact .inl (by rw[new_real ht,new_real hu])
  · intro t i j ht hu _ _ _;exfalso;have e:=new_real ht;subst e;have e:=new_real hu;exact hN.not_own (show 0<4 by omega) i e
  · intro t hg;have ht:=hg.lt;unfold GoneAt rdV at hg;obtain rfl|rfl|rfl|rfl:=new_lt ht;all_goals simp[newM] at hg
    all_goals omega
end
section
variable{P:List (Int×Int)}{S S':List TriM}{p:Int×Int}{v:Int}
theorem Came.tidy(h:Came P S S' p v)(hT:Tidy P S)(hv:0≤v∧v<P.length)(hp:ptV P v=p)(hun:∀t,t<S.length→∀i,vA S t i≠v):Tidy P S'∧S'.length=S.length+2∧UsedA S' v∧(∀w,0≤w→UsedA S w→UsedA S' w)∧(∀w,0≤w→UsedA S' w→w=v∨UsedA S w):=by obtain⟨st,pl,ts,stI,h1,h2,h3,h4,h5,h6,-,rfl⟩:=h;have:=put_tidy hT h1 h2 h3 h4 h5 h6 hv hp hun;exact⟨this.1,this.2.1,this.2.2.2.2.1,this.2.2.2.2.2.1,this.2.2.2.2.2.2.1⟩
end
end Go.MagM
namespace Go.MagM
open Go.Proofs.YtdmfbkhafnkcfaaGreat
section
variable{P:List (Int×Int)}{S:List TriM}
theorem Put.no_fault{p:Int×Int}{us:List Nat}{R:List SideM}{v:Int}{Y:List TriM}{M:List Nat}(h:Put P S p us R v [] Y M)(hnf:∀t i,t<S.length→fA S t i=false):∀t i,t<Y.length→fA Y t i=false:=by
  have hs:∀(k:Nat)(s:SideM),R[k]?=some s→s.f=false:=fun k s hk=>by
    obtain⟨t,i,j,u,m1,-,-,-,-,-,-,-,-,-,-,-,-,m2,-⟩:=h.cav.rim.src k s hk;rw[m2];exact hnf t i (h.cav.lt t m1)
  intro t i ht;rcases h.star.slot t ht with⟨k,s,hk,rfl⟩|⟨h1,h2⟩
  · rw[←fA_mod];rcases mod_three i with e|e|e;·rw[e,(h.star.n0 k s hk).2];simp
    · obtain⟨k',hk',e'⟩:=pred_mod (List.getElem?_eq_some_iff.1 hk).1;have:=(h.star.n1 k' _ (List.getElem?_eq_getElem hk')).2;rw[e'] at this;rw[e,this];simp
    · obtain⟨-,-,-,u,-,-,-,-,m,-⟩:=h.cav.rim.src k s hk;rw[e,(h.star.n2 k s u hk m).2];exact hs k s hk
  · rcases h.star.on t h1 h2 i with⟨k,s,hk,-,-,-,e⟩|⟨-,-,e⟩;·rw[e];exact hs k s hk
    ·rw[e];exact hnf t i h1
theorem Came.no_fault{S':List TriM}{p:Int×Int}{v:Int}(h:Came P S S' p v)(hT:Tidy P S)(hv:0≤v∧v<P.length)(hp:ptV P v=p)(hun:∀t,t<S.length→∀i,vA S t i≠v)(hnf:∀t i,t<S.length→fA S t i=false):∀t i,t<S'.length→fA S' t i=false:=by
  obtain⟨st,pl,ts,stI,h1,h2,h3,h4,h5,h6,h7,rfl⟩:=h;have e:pl=[]:=Classical.byContradiction fun hc=>by
    obtain⟨t,i,ht,hf⟩:=h7 hc;rw[hnf t i ht] at hf;cases hf
  subst e;obtain⟨-,-,-,-,-,-,-,us,M,-,hP,-⟩:=put_tidy hT h1 h2 h3 h4 h5 h6 hv hp hun;exact hP.no_fault hnf
end
end Go.MagM
namespace Go.MagM
open Go.Proofs.YtdmfbkhafnkcfaaGreat
def cntB(s t:Nat):Nat→Nat|0=>0|k+1=>cntB s t k+(if k=0∨k=s∨k=t then 0 else 1)
theorem cntB_is{s t:Nat}(hs:0<s)(hst:s<t):∀k,cntB s t k+(if 0<k then 1 else 0)+(if s<k then 1 else 0)+(if t<k then 1 else 0)=k|0=>by simp[cntB]|k+1=>by have ih:=cntB_is hs hst k;rw[cntB];split at ih<;>split at ih<;>split at ih<;>split<;>split<;>split<;>split<;>omega
structure Grown(P:List (Int×Int))(S:List TriM)(k s t:Nat):Prop where
  tidy:Tidy P S
  real:∃r,RealA S r
  free:∀t i,t<S.length→fA S t i=false
  len:S.length≤4+2*k
  has:∀w:Nat,w<P.length→(w<k∨w=0∨w=s∨w=t)→There P S (ptA P w)
  only:∀w:Nat,UsedA S (w:Int)→w<k∨w=0∨w=s∨w=t
  exact_:P.Nodup→S.length=4+2*cntB s t k
section
variable{P:List (Int×Int)}{S S':List TriM}{k s t:Nat}
theorem some_real(h:Tidy P S)(h0:0<S.length):∃r,RealA S r:=by
  by_cases hr:∀i,vA S 0 i≠-1;·exact⟨0,h0,hr⟩
  · obtain⟨i,hi⟩:∃i,vA S 0 i=-1:=Classical.byContradiction fun hn=>hr fun i e=>hn ⟨i,e⟩;obtain⟨j,hj,-⟩:=h.geo.net.mate 0 h0 i;exact⟨nA S 0 i,hj,h.geo.net.gr 0 h0 i hi⟩
theorem There.mono{p:Int×Int}(hu:∀w,0≤w→UsedA S w→UsedA S' w)(h:There P S p):There P S' p:=by obtain⟨w,h0,h1,h2⟩:=h;exact⟨w,h0,hu w h0 h1,h2⟩
theorem new_grown{a b c:Nat}(ha:a<P.length)(hb:b<P.length)(hc:c<P.length)(hz:turnM P (a:Int) (b:Int) (c:Int)=1)(hs:(a=0∧b=s∧c=t)∨(a=0∧b=t∧c=s)):Grown P (newM (a:Int) b c) 0 s t:=by
  have hD:0<crP (ptV P (a:Int)) (ptV P (b:Int)) (ptV P (c:Int)):=by
    unfold turnM at hz;rw[getP_of (show 0≤(a:Int)∧(a:Int)<P.length by omega),getP_of (show 0≤(b:Int)∧(b:Int)<P.length by omega),getP_of (show 0≤(c:Int)∧(c:Int)<P.length by omega)] at hz;simp only[] at hz;exact Int.sign_eq_one_iff_pos.1 hz
  obtain⟨hT,hr⟩:=new_tidy (P:=P) (a:=(a:Int)) (b:=b) (c:=c) (by omega) (by omega) (by omega) hD;have hp:∀v:Nat,ptV P (v:Int)=ptA P v:=fun v=>by unfold ptV;rw[Int.toNat_natCast]
  have hx:∀v:Nat,(v=a∨v=b∨v=c)→There P (newM (a:Int) b c) (ptA P v):=fun v hv=>by
    refine⟨(v:Int),by omega,?_,hp v⟩;rcases hv with rfl|rfl|rfl;·exact⟨0,0,hr.1,rfl⟩
    ·exact⟨0,1,hr.1,rfl⟩
    ·exact⟨0,2,hr.1,rfl⟩
  refine⟨hT,⟨0,hr⟩,fun t i _=>fA_new t i,by show 4≤_;omega,fun w _ h=>hx w (by omega),fun w hw=>?_,fun _=>rfl⟩;obtain⟨u,i,hu,e⟩:=hw;rw[vA_new hu] at e;obtain rfl|rfl|rfl|rfl:=new_lt hu;all_goals rcases mod_three i with e'|e'|e';all_goals rw[e'] at e;simp only[cN] at e;omega
theorem Grown.first(h:Grown P S k s t)(hkl:k<P.length)(hk:k=0∨k=s∨k=t):Grown P S (k+1) s t:=by
  refine⟨h.tidy,h.real,h.free,by have:=h.len;omega,fun w hw h1=>?_,fun w hw=>by have:=h.only w hw;omega,fun hn=>by rw[h.exact_ hn,cntB,if_pos hk,Nat.add_zero]⟩;by_cases e:w=k;·rw[e];exact h.has k hkl (by omega)
  ·exact h.has w hw (by omega)
theorem there_same(hT:Tidy P S)(hnd:P.Nodup)(hk:k<P.length)(h:There P S (ptA P k)):UsedA S (k:Int):=by
  obtain⟨v,h0,⟨u,i,hu,hv⟩,h2⟩:=h;have hr:=hT.geo.net.rng u hu i;rw[hv] at hr;have at_:∀{i:Nat},i<P.length→P[i]?=some (ptA P i):=fun h=>by unfold ptA;rw[List.getElem?_eq_getElem h];rfl
  have e1:=at_ (show v.toNat<P.length by omega);have e2:=at_ hk;rw[show ptA P v.toNat=ptA P k from h2] at e1;have:v.toNat=k:=(List.getElem?_inj (show v.toNat<P.length by omega) hnd).1 (e1.trans e2.symm);exact⟨u,i,hu,by omega⟩
theorem Grown.skip(h:Grown P S k s t)(hkl:k<P.length)(h3:¬(k=0∨k=s∨k=t))(hk:There P S (ptA P k)):Grown P S (k+1) s t:=by
  refine⟨h.tidy,h.real,h.free,by have:=h.len;omega,fun w hw h1=>?_,fun w hw=>by have:=h.only w hw;omega,fun hn=>?_⟩
  · by_cases e:w=k;·rw[e];exact hk
    ·exact h.has w hw (by omega)
  · exfalso;have:=h.only k (there_same h.tidy hn hkl hk);omega
theorem Grown.came(h:Grown P S k s t)(hkl:k<P.length)(h3':¬(k=0∨k=s∨k=t))(hc:Came P S S' (ptA P k) (k:Int))(hno:¬There P S (ptA P k)):Grown P S' (k+1) s t:=by
  have hp:ptV P (k:Int)=ptA P k:=by unfold ptV;rw[Int.toNat_natCast]
  have hun:∀t,t<S.length→∀i,vA S t i≠(k:Int):=fun t ht i e=>hno ⟨(k:Int),by omega,⟨t,i,ht,e⟩,hp⟩;obtain⟨h1,h2,h3,h4,h5⟩:=hc.tidy h.tidy ⟨by omega,by omega⟩ hp hun;have hon:∀w:Nat,UsedA S' (w:Int)→w<k+1∨w=0∨w=s∨w=t:=fun w hw=>by
    rcases h5 w (by omega) hw with e|e;·omega
    ·have:=h.only w e;omega
  refine⟨h1,some_real h1 (by omega),hc.no_fault h.tidy ⟨by omega,by omega⟩ hp hun h.free,by have:=h.len;omega,fun w hw hx=>?_,hon,fun hn=>by rw[h2,h.exact_ hn,cntB,if_neg h3'];omega⟩;by_cases e:w=k;·subst e;exact⟨(w:Int),by omega,h3,hp⟩
  ·exact(h.has w hw (by omega)).mono h4
end
end Go.MagM
namespace Go.Proofs.YtdmfbkhafnkcfaaGreat
open Go.RowKit Go.MagM
theorem ptsIn_cells{W:World}{sb:Nat}{P:List (Int×Int)}(hW:PtsIn W sb P):∀j u,(ptsCells P)[j]?=some u→W.cell? ⟨sb,0+j,none⟩=some u:=fun j u hj=>by
  rw[Nat.zero_add];obtain⟨q,r,hr,rfl⟩:∃q r,r<2∧j=q*2+r:=⟨j/2,j%2,Nat.mod_lt _ (by omega),by omega⟩;have hq:q<P.length:=by have:=(List.getElem?_eq_some_iff.1 hj).1;rw[ptsCells_len] at this;omega
  obtain⟨⟨x,y⟩,hxy⟩:∃p,P[q]?=some p:=⟨_,List.getElem?_eq_getElem hq⟩;obtain⟨g1,g2⟩:=ptsCells_get P q x y hxy;obtain⟨g3,g4⟩:=hW q x y hxy;obtain rfl|rfl:r=0∨r=1:=by omega
  · rw[Nat.add_zero] at hj⊢;rw[g1] at hj;cases hj;exact g3
  ·rw[g2] at hj;cases hj;exact g4
theorem new_base(sb n sc:Nat)(P:List (Int×Int))(s t:Nat)(hn:P.length=n)(h0:0<n)(hn9:n≤1000000)(hP:InPs P)(hb:BaseIs P true s t):∃S0,Grown P S0 0 s t∧∀W:World,PtsIn W sb P→Calls Tryz.prog 81 #[.slice (some ⟨sb,0,none⟩) n sc,.int .i64 0,.int .i64 (s:Int),.int .i64 (t:Int)] W fun e w'=>∃mb pb pc tv,e= .returned (.tuple #[.pointer (some ⟨mb,0,none⟩),.bool true])∧MeshO 33 41 w' W.heap.size mb pb pc tv P S0∧W.heap.size≤pb∧Below W.heap.size W w':=by
  rcases hb with⟨-,h1,h2,h3,-,-,-,h4⟩|⟨h,-⟩
  · have hz:turnM P ((0:Nat):Int) (s:Int) (t:Int)≠0:=by
      unfold turnM;rw[getP_of (show 0≤((0:Nat):Int)∧((0:Nat):Int)<P.length by omega),getP_of (show 0≤(s:Int)∧(s:Int)<P.length by omega),getP_of (show 0≤(t:Int)∧(t:Int)<P.length by omega)];simp only[];exact signZ_ne.2 h4
    rcases turnM_cases P ((0:Nat):Int) (s:Int) (t:Int) with h|h|h;·exact absurd h hz
    ·exact⟨_,new_grown (by omega) (by omega) (by omega) h (.inl ⟨rfl,rfl,rfl⟩),fun W hW=>New_yes (some ⟨sb,0,none⟩) sb n sc P W hn h0 hn9 hP rfl (ptsIn_cells hW) 0 s t h⟩
    · have h':turnM P ((0:Nat):Int) (t:Int) (s:Int)=1:=by
        unfold turnM at h⊢;rw[getP_of (show 0≤((0:Nat):Int)∧((0:Nat):Int)<P.length by omega),getP_of (show 0≤(s:Int)∧(s:Int)<P.length by omega),getP_of (show 0≤(t:Int)∧(t:Int)<P.length by omega)] at*;simp only[] at h⊢;rw[show∀a b c d e f:Int,crs a b c d e f=-crs a b e f c d from fun a b c d e f=>by unfold crs;grind,Int.sign_neg,h];rfl
      exact⟨_,new_grown (by omega) (by omega) (by omega) h' (.inr ⟨rfl,rfl,rfl⟩),fun W hW=>New_back (some ⟨sb,0,none⟩) sb n sc P W hn h0 hn9 hP rfl (ptsIn_cells hW) 0 s t h⟩
  ·cases h
theorem Insert_grown{B mb pb pc:Nat}{tv:Value}{P:List (Int×Int)}{S:List TriM}(k s t:Nat)(fr:Int)(w:World)(h:MeshO 33 41 w B mb pb pc tv P S)(hk:k<P.length)(h3:¬(k=0∨k=s∨k=t))(hG:Grown P S k s t)(hP:InPs P)(hl:P.length≤90000)(hB:B≤w.heap.size):Calls Tryz.prog 33 #[.pointer (some ⟨mb,0,none⟩),.int .i64 (k:Int),.int .i64 fr] w fun e w'=>∃(b:Bool) (S':List TriM) (tv':Value),e= .returned (.bool b)∧Grown P S' (k+1) s t∧MeshO 33 41 w' B mb pb pc tv' P S'∧Below B w w':=by
  obtain⟨r,hr⟩:=hG.real;have hv:P[k]?=some ((ptA P k).1,(ptA P k).2):=by unfold ptA;rw[List.getElem?_eq_getElem hk];rfl
  have hlen:=hG.len;refine(Insert_tidy k (ptA P k).1 (ptA P k).2 fr w h hv hG.tidy hP (by omega) (by omega) hr).mono ?_;rintro e w' (⟨h1,he,hb⟩|⟨h1,he,S',tv',W,hc,hm,hW,hmu⟩);·exact⟨false,S,tv,he,hG.skip hk h3 h1,h.below hb,hb.mono hB⟩
  ·exact⟨true,S',tv',he,hG.came hk h3 hc h1,hm,(hW.mono hB).trans (hmu.below (by have:=hW.size;omega) h.low.1 (fun k hk=>(h.row.lt k hk).1))⟩
set_option maxRecDepth 100000 in set_option maxHeartbeats 8000000 in theorem grown_any(P:List (Int×Int))(sb n sc:Nat)(w:World)(hP:InPs P)(hl:P.length=n)(h0:0<n)(hn9:n≤90000)(hc:PtsIn w sb P):Calls Tryz.prog 22 #[.slice (some ⟨sb,0,none⟩) n sc] w fun e w'=>(∃s t,BaseIs P false s t∧e= .returned (.tuple #[.pointer none,.bool false])∧Below w.heap.size w w')∨(∃s t mb pb pc tv S,BaseIs P true s t∧Grown P S n s t∧e= .returned (.tuple #[.pointer (some ⟨mb,0,none⟩),.bool true])∧MeshO 33 41 w' w.heap.size mb pb pc tv P S∧Below w.heap.size w w'):=by
  have HB:=Lib.hid (Base_any sb n sc P w hl h0 (by omega) hP hc);have HNB:=Lib.hid (fun s t (hb:BaseIs P true s t)=>new_base sb n sc P s t hl h0 (by omega) hP hb);have HC:=Lib.hid hc;have HP:=Lib.hid hP;have HL:=Lib.hid hl;have HN9:=Lib.hid hn9;clear hc hP hl;go_enter Tryz.func22,Tryz.ntmps22;go_wp2_with fail;refine HB.out.mono ?_;rintro e w1 ⟨ok,s,t,rfl,hba,hb1⟩;obtain⟨bb,hbb⟩:∃x,w1.heap.size=x:=⟨_,rfl⟩;obtain⟨w2,hw2,pb2,hb2,hs2⟩:=new_box w1 _ rfl [.int .i64 0,.int .i64 (s:Int),.int .i64 (t:Int)] 38;rw[hbb] at pb2;have hB2:Below w.heap.size w w2:=hb1.trans (hb2.mono hb1.size);have z0:=pb2.c 0 _ rfl;have z1:=pb2.c 1 _ rfl;have z2:=pb2.c 2 _ rfl;have PB2:=Lib.hid pb2;have HB2:=Lib.hid hB2;have hlb:w.heap.size≤bb:=by rw[←hbb];exact hb1.size
  have HLB:=Lib.hid hlb;have HBS:=Lib.hid (show bb<w2.heap.size by omega);have HBA:=Lib.hid hba;clear hb1 pb2 hb2 hs2 hB2 hlb hba;cases ok
  · go_wp2;refine bodyPost_ret (v:= .tuple #[.pointer none,.bool false]) ?_ rfl ?_;·simp[results,Tryz.results22,go_sem]
    exact .inl ⟨s,t,HBA.out,rfl,HB2.out⟩
  · obtain⟨S0,hg0,hnew⟩:=HNB.out s t HBA.out;have HN:=Lib.hid (hnew w2 (HC.out.below HB2.out));have HG0:=Lib.hid hg0;clear hnew hg0;go_wp2_with fail;clear hbb hw2;refine HN.out.mono ?_;rintro e w3 ⟨mb,pb,pc,tv,rfl,hm,hpb,hb3⟩;have pb3:=PB2.out.below hb3;have HM:=Lib.hid hm;have HB3:=Lib.hid hb3;have y0:=pb3.c 0 _ rfl;have HLO:=Lib.hid HB2.out.size;have hio:∀W:World,Below w2.heap.size w2 W→IntsAt W bb [0,(s:Int),(t:Int)]:=fun W hW j z hj=>by
      have pb4:=PB2.out.below hW;match j,hj with
      |0,hj=>cases hj;exact pb4.c 0 _ rfl|1,hj=>cases hj;exact pb4.c 1 _ rfl|2,hj=>cases hj;exact pb4.c 2 _ rfl|_+3,hj=>cases hj
    have HCO:=Lib.hid (fun(k:Nat) (W:World) (hW:Below w2.heap.size w2 W)=>containsI_any (.slice (some ⟨bb,0,none⟩) 3 3) [0,(s:Int),(t:Int)] (k:Int) W (.inr ⟨bb,3,rfl,hio W hW,by simp⟩));clear z0 z1 z2 hm hpb hb3 pb3 hio;go_wp2;clear y0;go_loopw [7,8,31] (fun lv _ iv wr=>∃(k:Nat) (la:Int) (S:List TriM) (tv':Value),k≤n∧lv= .int .i64 la∧iv= .int .i64 (k:Int)∧Grown P S k s t∧MeshO 33 41 wr w2.heap.size mb pb pc tv' P S∧Below w2.heap.size w2 wr) (fun _ _ iv _=>n-(intOf iv).toNat);case atStart=>exact⟨0,0,S0,tv,Nat.zero_le _,rfl,rfl,HG0.out,HM.out,HB3.out⟩
    case round=>
      obtain⟨k,la,S,tv',hk,rfl,rfl,hg,hm,hb⟩:=hrel;by_cases hlt:k<n
      · have hyd:decide ((k:Int)<(n:Int))=true:=decide_eq_true (by omega);have HC0:=Lib.hid (HCO.out k wr hb);have hj1:(0:Int)≤(k:Int):=by omega
        have hj2:(k:Int)<(n:Int):=by omega
        obtain⟨q,hq⟩:∃q,decide ((k:Int)∈[0,(s:Int),(t:Int)])=q:=⟨_,rfl⟩;rw[hq] at HC0;have HQ:=Lib.hid hq;have HG:=Lib.hid hg;have HMR:=Lib.hid hm;have HBR:=Lib.hid hb;clear hq hg hm hb;go_wp2_with fail;refine HC0.out.mono ?_;rintro e w5 ⟨rfl,rfl⟩;cases q
        · obtain⟨ta,tc,-,hr⟩:=HMR.out.read;have hin:=hr.in_ (by have:=HL.out;omega) (by obtain⟨r,hr⟩:=HG.out.real;have:=hr.1;omega);have HHA:=Lib.hid (having_any la wr hr hin);have HQ3:Hid (¬(k=0∨k=s∨k=t)):=Lib.hid (fun hk3=>by have:=of_decide_eq_false HQ.out;simp only[List.mem_cons,List.not_mem_nil,or_false] at this;omega);clear hin hr;go_wp2_with fail;refine HHA.out.mono ?_;rintro e w6 ⟨fr,rfl,hb6⟩;have HIN:=Lib.hid (Insert_grown k s t fr w6 (HMR.out.below hb6) (by have:=HL.out;omega) HQ3.out HG.out HP.out (by have:=HL.out;have:=HN9.out;omega) (Nat.le_trans HBR.out.size hb6.size));have HB6:=Lib.hid hb6;clear hb6;go_wp2_with fail;refine HIN.out.mono ?_;rintro e w7 ⟨b,S',tv'',rfl,hg7,hm7,hb7⟩;have FIN:=Lib.hid (And.intro hg7 (And.intro hm7 ((HBR.out.trans (HB6.out.mono HBR.out.size)).trans hb7)));clear hg7 hm7 hb7;go_wp2;exact⟨⟨k+1,(k:Int),S',tv'',by omega,rfl,rfl,FIN.out.1,FIN.out.2.1,FIN.out.2.2⟩,by simp only[intOf];omega⟩
        · have hin3:k=0∨k=s∨k=t:=by
            have:=of_decide_eq_true HQ.out;simp only[List.mem_cons,List.not_mem_nil,or_false] at this;omega
          have HI3:=Lib.hid hin3;clear hin3;go_wp2;exact⟨⟨k+1,la,S,tv',by omega,rfl,rfl,HG.out.first (by have:=HL.out;omega) HI3.out,HMR.out,HBR.out⟩,by simp only[intOf];omega⟩
      · have hyd:decide ((k:Int)<(n:Int))=false:=decide_eq_false (by omega);have hkn:k=n:=by omega
        have FIN:=Lib.hid (And.intro hg (And.intro hm hb));clear hg hm hb;go_wp2;refine bodyPost_ret (v:= .tuple #[.pointer (some ⟨mb,0,none⟩),.bool true]) ?_ rfl ?_;·simp[results,Tryz.results22,go_sem]
        have hlow:=FIN.out.2.1.low;have hlo:=HLO.out;exact .inr ⟨s,t,mb,pb,pc,tv',S,HBA.out,by rw[←hkn];exact FIN.out.1,rfl,⟨FIN.out.2.1.box,owns_mono FIN.out.2.1.prow HLO.out,owns_mono FIN.out.2.1.row HLO.out,⟨by omega,hlow.2⟩,FIN.out.2.1.apart,FIN.out.2.1.short⟩,HB2.out.trans (FIN.out.2.2.mono HB2.out.size)⟩
end Go.Proofs.YtdmfbkhafnkcfaaGreat
namespace Go.MagM
open Go.Proofs.YtdmfbkhafnkcfaaGreat
section
variable{P:List (Int×Int)}{S:List TriM}{n s t:Nat}
theorem ptA_atG{i:Nat}(h:i<P.length):P[i]?=some (ptA P i):=by unfold ptA;rw[List.getElem?_eq_getElem h];rfl
theorem Grown.used(h:Grown P S P.length s t)(hnd:P.Nodup){w:Nat}(hw:w<P.length):UsedA S (w:Int):=by
  obtain⟨v,h0,⟨u,i,hu,hv⟩,h2⟩:=h.has w hw (.inl hw);have hr:=h.tidy.geo.net.rng u hu i;rw[hv] at hr;have hl:v.toNat<P.length:=by omega
  have e1:=ptA_atG hl;have e2:=ptA_atG hw;rw[show ptA P v.toNat=ptA P w from h2] at e1;have:v.toNat=w:=(List.getElem?_inj hl hnd).1 (e1.trans e2.symm);exact⟨u,i,hu,by omega⟩
end
end Go.MagM
namespace Go.MagM
open Go.Proofs.YtdmfbkhafnkcfaaGreat
theorem least_of{α:Type}(Q:α→Prop)(r:α→α→Prop)(irr:∀x,Q x→¬r x x)(tr:∀x y z,Q x→Q y→Q z→r x y→r y z→r x z):∀l:List α,(∀x∈l,Q x)→l≠[]→∃x∈l,∀y∈l,¬r y x
  |[],_,h=>absurd rfl h|[x],hq,_=>⟨x,by simp,fun y hy=>by simp at hy;subst hy;exact irr _ (hq _ (by simp))⟩|x::y::l,hq,_=>by
    obtain⟨m,hm,hmin⟩:=least_of Q r irr tr (y::l) (fun z hz=>hq z (List.mem_cons_of_mem _ hz)) (by simp);by_cases h:r x m
    · refine⟨x,by simp,fun z hz hr=>?_⟩;rcases List.mem_cons.1 hz with rfl|hz;·exact irr _ (hq _ (by simp)) hr
      ·exact hmin z hz (tr z x m (hq _ (List.mem_cons_of_mem _ hz)) (hq _ (by simp)) (hq _ (List.mem_cons_of_mem _ hm)) hr h)
    · refine⟨m,List.mem_cons_of_mem _ hm,fun z hz=>?_⟩;rcases List.mem_cons.1 hz with rfl|hz;·exact h
      ·exact hmin z hz
section
variable{P:List (Int×Int)}{S:List TriM}{v:Int}
def OnB(S:List TriM)(v:Int):Prop:=∃t i,t<S.length∧vA S t i=-1∧vA S t (i+1)=v
def Ext(P:List (Int×Int))(S:List TriM)(p:Int×Int):Prop:=∃g:Int×Int,g≠(0,0)∧∀w,0≤w→UsedA S w→g.1*((ptV P w).1-p.1)+g.2*((ptV P w).2-p.2)≤0
theorem OnB.ext(h:Tidy P S)(hb:OnB S v):Ext P S (ptV P v):=by
  obtain⟨t,i,ht,hg,hv⟩:=hb;have hN:=h.geo.net;have h1:vA S t (i+1)≠-1:=fun e=>hN.apart t ht i (hg.trans e.symm);have h2:vA S t (i+2)≠-1:=fun e=>hN.apart2 ht i (hg.trans e.symm);have hne:qA P S t (i+1)≠qA P S t (i+2):=fun e=>hN.apart t ht (i+1) (h.geo.dist ht ht h1 h2 e);refine⟨(-((qA P S t (i+2)).2-(qA P S t (i+1)).2),(qA P S t (i+2)).1-(qA P S t (i+1)).1),fun e=>hne ?_,fun w hw hu=>?_⟩
  · have e1:=congrArg Prod.fst e;have e2:=congrArg Prod.snd e;simp only[] at e1 e2;exact Prod.ext (by omega) (by omega)
  · obtain⟨u,k,hu,hk⟩:=hu;have c:=(h.geo.conv t i ht hg u k hu (by omega)).1;rw[←hv,←qA_is];rw[←hk,←qA_is];have e:crP (qA P S t (i+1)) (qA P S t (i+2)) (qA P S u k)=-((qA P S t (i+2)).2-(qA P S t (i+1)).2)*((qA P S u k).1-(qA P S t (i+1)).1)+((qA P S t (i+2)).1-(qA P S t (i+1)).1)*((qA P S u k).2-(qA P S t (i+1)).2):=by unfold crP crs;grind
    rw[←e];exact c
theorem all_real(h:Tidy P S)(hv:0≤v)(hb:¬OnB S v){t i:Nat}(ht:t<S.length)(hi:vA S t i=v):RealA S t:=by
  have hN:=h.geo.net;refine⟨ht,fun k hk=>hb ?_⟩;have:k%3≠i%3:=fun e=>by rw[vA_eq S t e] at hk;omega
  have:i%3=(k+1)%3∨i%3=(k+2)%3:=by omega
  rcases this with e|e;·exact⟨t,k,ht,hk,by rw[←hi];exact vA_eq S t e.symm⟩
  · obtain⟨j,hj,m1,m2,-⟩:=hN.mate t ht (k+1);rw[vA_eq S t (show(k+1+2)%3=k%3 by omega),hk] at m1;rw[show k+1+1=k+2 from rfl,vA_eq S t e.symm,hi] at m2;exact⟨nA S t (k+1),j+1,hj,m1,m2⟩
def gD(g p q:Int×Int):Int:=g.1*(q.1-p.1)+g.2*(q.2-p.2)
def gX(g p q:Int×Int):Int:=g.1*(q.2-p.2)-g.2*(q.1-p.1)
theorem gDX(g p a b:Int×Int):gD g p a*gX g p b-gX g p a*gD g p b=(g.1*g.1+g.2*g.2)*crP p a b:=by unfold gD gX crP crs;grind
theorem Ext.onB(h:Tidy P S)(hv:0≤v)(hu:UsedA S v)(hx:Ext P S (ptV P v)):OnB S v:=by
  refine Classical.byContradiction fun hb=>?_;have hN:=h.geo.net;obtain⟨g,hg0,hg⟩:=hx;obtain⟨p,hp⟩:∃p,ptV P v=p:=⟨_,rfl⟩;rw[hp] at hg;have hG:∀u k,u<S.length→vA S u k≠-1→gD g p (qA P S u k)≤0:=fun u k hu hk=>hg _ (hN.nonneg hu hk) ⟨u,k,hu,rfl⟩;have hgg:0<g.1*g.1+g.2*g.2:=by
    have q1:=sq_nonneg g.1;have q2:=sq_nonneg g.2;refine Classical.byContradiction fun hn=>hg0 ?_;have x0:g.1=0:=Classical.byContradiction fun h=>by have:=sq_pos h;omega
    have z0:g.2=0:=Classical.byContradiction fun h=>by have:=sq_pos h;omega
    exact Prod.ext x0 z0
  have tri:∀t i,t<S.length→vA S t i=v→0<gD g p (qA P S t (i+1))*gX g p (qA P S t (i+2))-gX g p (qA P S t (i+1))*gD g p (qA P S t (i+2)):=fun t i ht hi=>by
    have hr:=all_real h hv hb ht hi;have:=h.geo.pos.at_ ht hr.2 i;rw[qA_is P S t i,hi,hp] at this;rw[gDX];exact Int.mul_pos hgg this
  have real:∀t i,t<S.length→vA S t i=v→∀k,vA S t k≠-1:=fun t i ht hi=>(all_real h hv hb ht hi).2;have next:∀t i,t<S.length→vA S t i=v→∃u j,u<S.length∧vA S u j=v∧vA S u (j+1)=vA S t (i+2):=fun t i ht hi=>by
    obtain⟨j,hj,m1,m2,-⟩:=hN.mate t ht (i+1);rw[vA_eq S t (show(i+1+2)%3=i%3 by omega),hi] at m1;exact⟨nA S t (i+1),j+1,hj,m1,m2⟩
  have prev:∀t i,t<S.length→vA S t i=v→∃u j,u<S.length∧vA S u j=v∧vA S u (j+2)=vA S t (i+1):=fun t i ht hi=>by
    obtain⟨j,hj,m1,m2,-⟩:=hN.mate t ht (i+2);rw[show i+2+1=i+3 from rfl,vA_eq S t (show(i+3)%3=i%3 by omega),hi] at m2;rw[vA_eq S t (show(i+2+2)%3=(i+1)%3 by omega)] at m1;exact⟨nA S t (i+2),j+2,hj,m2,by rw[←m1];exact vA_eq S _ (by omega)⟩
  have neg:∀t i,t<S.length→vA S t i=v→gD g p (qA P S t (i+2))<0:=fun t i ht hi=>by
    refine Classical.byContradiction fun hn=>?_;have r0:=hG t (i+2) ht (real t i ht hi _);have e0:gD g p (qA P S t (i+2))=0:=by omega
    have c1:=tri t i ht hi;have a0:=hG t (i+1) ht (real t i ht hi _);rw[e0,Int.mul_zero,Int.sub_zero] at c1;obtain⟨u,j,hu,hj,e⟩:=next t i ht hi;have c2:=tri u j hu hj;have q:qA P S u (j+1)=qA P S t (i+2):=by rw[qA_is,qA_is,e]
    rw[q,e0,Int.zero_mul] at c2;have b0:=hG u (j+2) hu (real u j hu hj _);have x1:gX g p (qA P S t (i+2))<0:=Classical.byContradiction fun hx=>by have:=Int.mul_nonpos_of_nonpos_of_nonneg a0 (show 0≤gX g p (qA P S t (i+2)) by omega);omega
    have x2:0≤gX g p (qA P S t (i+2))*gD g p (qA P S u (j+2)):=Int.mul_nonneg_of_nonpos_of_nonpos (by omega) b0;omega
  let L:List Int:=(List.range S.length).flatMap fun t=>((List.range 3).filter fun i=>decide (vA S t i=v)).map fun i=>vA S t (i+2);have hL:∀w,w∈L↔∃t i,t<S.length∧i<3∧vA S t i=v∧vA S t (i+2)=w:=fun w=>by
    simp only[L,List.mem_flatMap,List.mem_map,List.mem_filter,List.mem_range,decide_eq_true_eq];constructor;·rintro⟨t,ht,i,⟨hi,e⟩,rfl⟩;exact⟨t,i,ht,hi,e,rfl⟩
    ·rintro⟨t,i,ht,hi,e,rfl⟩;exact⟨t,ht,i,⟨hi,e⟩,rfl⟩
  obtain⟨t0,i0,ht0,hi0⟩:=hu;obtain⟨w,hw,hmin⟩:=least_of (fun w=>gD g p (ptV P w)<0) (fun a b=>gX g p (ptV P a)*-gD g p (ptV P b)<gX g p (ptV P b)*-gD g p (ptV P a)) (fun x _=>by omega) (fun x y z hx hy hz h1 h2=>by
      have a1:=Int.mul_lt_mul_of_pos_right h1 (show 0< -gD g p (ptV P z) by omega);have a2:=Int.mul_lt_mul_of_pos_right h2 (show 0< -gD g p (ptV P x) by omega);refine Int.not_le.1 fun hc=>?_;have a3:=Int.mul_le_mul_of_nonneg_right hc (show 0≤-gD g p (ptV P y) by omega);generalize gX g p (ptV P x)=X1 at*;generalize gX g p (ptV P y)=X2 at*;generalize gX g p (ptV P z)=X3 at*;generalize-gD g p (ptV P x)=D1 at*;generalize-gD g p (ptV P y)=D2 at*;generalize-gD g p (ptV P z)=D3 at*;rw[Int.mul_right_comm X1 D2 D3] at a1;rw[Int.mul_right_comm X2 D1 D3] at a1;rw[Int.mul_right_comm X3 D2 D1] at a2;omega) L (fun w hw=>by obtain⟨t,i,ht,-,hi,rfl⟩:=(hL w).1 hw;exact neg t i ht hi) (fun e=>by have:vA S t0 (i0%3+2)∈L:=(hL _).2 ⟨t0,i0%3,ht0,Nat.mod_lt _ (by omega),by rw[vA_mod];exact hi0,rfl⟩;rw[e] at this;cases this);obtain⟨t,i,ht,-,hi,rfl⟩:=(hL w).1 hw;obtain⟨u,j,hu,hj,e⟩:=next t i ht hi;have c2:=tri u j hu hj;rw[qA_is P S u (j+1),e] at c2;refine hmin (vA S u (j+2)) ((hL _).2 ⟨u,j%3,hu,Nat.mod_lt _ (by omega),by rw[vA_mod];exact hj,vA_eq S u (by omega)⟩) ?_;rw[qA_is] at c2;generalize gX g p (ptV P (vA S t (i+2)))=X1 at*;generalize gX g p (ptV P (vA S u (j+2)))=X2 at*;generalize gD g p (ptV P (vA S t (i+2)))=D1 at*;generalize gD g p (ptV P (vA S u (j+2)))=D2 at*;have s1:D1*X2-X1*D2=X1*-D2-X2*-D1:=by grind
  omega
end
end Go.MagM
namespace Go.MagM
open Go.Proofs.YtdmfbkhafnkcfaaGreat
section
variable{P:List (Int×Int)}{S:List TriM}{t:Nat}
theorem Tidy.border(h:Tidy P S)(hr:RealA S t):(borderM S).Nodup∧(∀v,0≤v→(v∈borderM S↔OnB S v))∧(∀v∈borderM S,0≤v∧v<P.length)∧(borderM S).length=ghN S S.length:=by
  have hlen:(borderM S).length=ghN S S.length:=by
    rcases h.sound hr with⟨e,-⟩|⟨-,-,-,hl,-⟩;·cases e
    ·exact hl
  obtain⟨t0,m,ht0,m1,-,m2,m3,m4,m5,hb⟩:=h.border_is hr;have hin:∀k,0≤vA S (itG S t0 k) (gI S (itG S t0 k)+1)∧vA S (itG S t0 k) (gI S (itG S t0 k)+1)<P.length:=fun k=>by
    have hgk:=itG_gh h ht0 k;rcases h.geo.net.rng _ hgk.1 (gI S (itG S t0 k)+1) with e|e;·exact absurd e (hgk.gi h).2.2.1
    ·exact e
  have hmem:∀v,v∈borderM S↔∃k,k<m∧vA S (itG S t0 k) (gI S (itG S t0 k)+1)=v:=fun v=>by
    rw[hb];simp only[List.mem_map,List.mem_reverse,List.mem_range];constructor;·rintro⟨n,⟨k,hk,rfl⟩,rfl⟩;exact⟨k,hk,by have:=hin k;omega⟩
    ·rintro⟨k,hk,rfl⟩;exact⟨_,⟨k,hk,rfl⟩,by have:=hin k;omega⟩
  refine⟨?_,fun v hv=>?_,fun v hv=>?_,hlen⟩
  · rw[hb,List.map_reverse,List.map_map];unfold List.Nodup;rw[List.pairwise_reverse,List.pairwise_map];have key:∀i j,i<m→j<m→vA S (itG S t0 i) (gI S (itG S t0 i)+1)=vA S (itG S t0 j) (gI S (itG S t0 j)+1)→i=j:=fun i j hi hj e=>by
      have hgi:=itG_gh h ht0 i;have hgj:=itG_gh h ht0 j;have:=(h.geo.net.once _ _ (gI S (itG S t0 i)) (gI S (itG S t0 j)) hgi.1 hgj.1 (((hgi.gi h).2.1).trans ((hgj.gi h).2.1).symm) e).1;have hx:((List.range m).map (itG S t0))[i]?=((List.range m).map (itG S t0))[j]?:=by rw[List.getElem?_map,List.getElem?_map,List.getElem?_range hi,List.getElem?_range hj];simp only[Option.map_some];rw[this]
      exact(List.getElem?_inj (by simp;exact hi) m5).1 hx
    refine List.Pairwise.imp_of_mem (fun{i j} hi hj hne e=>hne ?_) (List.nodup_range (n:=m));simp only[List.mem_range] at hi hj;simp only[Function.comp_apply] at e;have a1:=hin i;have a2:=hin j;exact key i j hi hj (by omega)
  · rw[hmem];constructor
    · rintro⟨k,hk,rfl⟩;have hgk:=itG_gh h ht0 k;exact⟨_,_,hgk.1,(hgk.gi h).2.1,rfl⟩
    · rintro⟨u,i,hu,hi,e⟩;have hg:GhA S u:=⟨hu,i,hi⟩;obtain⟨k,hk⟩:=ring_all h ht0 hg;refine⟨k%m,Nat.mod_lt _ (by omega),?_⟩;have e1:itG S t0 (k%m)=u:=by have:=itG_mod (S:=S) m m3 (k/m) (k%m);rw[Nat.mul_comm,Nat.div_add_mod] at this;rw[←this,hk]
      rw[e1,gI_of h hu hi,vA_eq S u (show(i%3+1)%3=(i+1)%3 by omega)];exact e
  · obtain⟨k,-,rfl⟩:=(hmem v).1 hv;exact hin k
end
end Go.MagM
namespace Go.MagM
open Go.Proofs.YtdmfbkhafnkcfaaGreat
def ExtL(L:List (Int×Int))(p:Int×Int):Prop:=∃g:Int×Int,g≠(0,0)∧∀q∈L,g.1*(q.1-p.1)+g.2*(q.2-p.2)≤0
section
variable{P P':List (Int×Int)}{S S':List TriM}{s t s' t':Nat}
theorem Grown.ext(h:Grown P S P.length s t)(hnd:P.Nodup)(p:Int×Int):Ext P S p↔ExtL P p:=by
  constructor
  · rintro⟨g,hg,h1⟩;refine⟨g,hg,fun q hq=>?_⟩;obtain⟨i,hi⟩:=List.getElem?_of_mem hq;have hl:=(List.getElem?_eq_some_iff.1 hi).1;have:=h1 (i:Int) (by omega) (h.used hnd hl);rw[show ptV P (i:Int)=q from by unfold ptV ptA;rw[Int.toNat_natCast,hi];rfl] at this;exact this
  · rintro⟨g,hg,h1⟩;refine⟨g,hg,fun w hw hu=>?_⟩;obtain⟨u,i,hu,e⟩:=hu;have hr:=h.tidy.geo.net.rng u hu i;exact h1 _ (by unfold ptV;exact List.mem_of_getElem? (ptA_atG (P:=P) (i:=w.toNat) (by omega)))
theorem Grown.border(h:Grown P S P.length s t)(hnd:P.Nodup):((borderM S).map (ptV P)).Nodup∧∀p,p∈(borderM S).map (ptV P)↔p∈P∧ExtL P p:=by
  obtain⟨r,hr⟩:=h.real;obtain⟨b1,b2,b3,-⟩:=h.tidy.border hr;have hget:∀v:Int,0≤v∧v<P.length→P[v.toNat]?=some (ptV P v):=fun v hv=>by unfold ptV;exact ptA_atG (by omega)
  constructor
  · unfold List.Nodup at b1⊢;rw[List.pairwise_map];refine List.Pairwise.imp_of_mem (fun{a b} ha hb hne e=>hne ?_) b1;have ga:=hget a (b3 a ha);have gb:=hget b (b3 b hb);rw[e] at ga;have:=(List.getElem?_inj (show a.toNat<P.length by have:=b3 a ha;omega) hnd).1 (ga.trans gb.symm);have:=b3 a ha;have:=b3 b hb;omega
  · intro p;simp only[List.mem_map];constructor;· rintro⟨v,hv,rfl⟩;have hv0:=b3 v hv;exact⟨List.mem_of_getElem? (hget v hv0),(h.ext hnd _).1 (((b2 v hv0.1).1 hv).ext h.tidy)⟩
    · rintro⟨hp,he⟩;obtain⟨i,hi⟩:=List.getElem?_of_mem hp;have hl:=(List.getElem?_eq_some_iff.1 hi).1;have hpi:ptV P (i:Int)=p:=by unfold ptV ptA;rw[Int.toNat_natCast,hi];rfl
      refine⟨(i:Int),(b2 _ (by omega)).2 (Ext.onB h.tidy (by omega) (h.used hnd hl) ?_),hpi⟩;rw[hpi];exact(h.ext hnd p).2 he
theorem reals_ghosts(h:Tidy P S):∀n,n≤S.length→(realsK S n).length+ghN S n=n
  |0,_=>rfl|n+1,hn=>by
    have ih:=reals_ghosts h n (by omega);obtain⟨T,hT,-⟩:=slot_at (show n<S.length by omega);cases hr:realT T with
    |true=>
      have hR:=(realT_iff h hT).1 hr;rw[realsK_yes hT hr,ghN_none (place_re h.alive hR.1 hR.2),List.length_append];simp only[List.length_cons,List.length_nil];omega|false=>
      have hg:GhA S n:=Classical.byContradiction fun hn'=>by have:realT T=true:=(realT_iff h hT).2 ⟨by omega,fun k e=>hn' ⟨by omega,k,e⟩⟩;rw[hr] at this;cases this
      rw[realsK_no hT hr,ghN_some (by rw[gh_place h hg];omega)];omega
theorem Grown.size(h:Grown P S P.length s t)(hnd:P.Nodup)(hs:1≤s)(hst:s<t)(ht:t<P.length):S.length+2=2*P.length:=by have h1:=h.exact_ hnd;have h2:=cntB_is (show 0<s by omega) hst P.length;rw[if_pos (by omega),if_pos (by omega),if_pos ht] at h2;omega
theorem same_build(h:Grown P S P.length s t)(h':Grown P' S' P'.length s' t')(hnd:P.Nodup)(hnd':P'.Nodup)(hP:∀p,p∈P↔p∈P')(hl:P.length=P'.length)(hs:1≤s)(hst:s<t)(ht:t<P.length)(hs':1≤s')(hst':s'<t')(ht':t'<P'.length):(borderM S).length=(borderM S').length∧(realsK S S.length).length=(realsK S' S'.length).length∧∀v∈borderM S',∃u∈borderM S,ptV P u=ptV P' v:=by
  obtain⟨n1,m1⟩:=h.border hnd;obtain⟨n2,m2⟩:=h'.border hnd';have hx:∀p,ExtL P p↔ExtL P' p:=fun p=>⟨fun⟨g,hg,hq⟩=>⟨g,hg,fun q h=>hq q ((hP q).2 h)⟩,fun⟨g,hg,hq⟩=>⟨g,hg,fun q h=>hq q ((hP q).1 h)⟩⟩;have hm:∀p,p∈(borderM S).map (ptV P)↔p∈(borderM S').map (ptV P'):=fun p=>by rw[m1,m2,hP,hx]
  have hb:(borderM S).length=(borderM S').length:=by
    have:=((List.perm_ext_iff_of_nodup n1 n2).2 hm).length_eq;simpa using this
  obtain⟨r,hr⟩:=h.real;obtain⟨r',hr'⟩:=h'.real;have g1:=(h.tidy.border hr).2.2.2;have g2:=(h'.tidy.border hr').2.2.2;have c1:=reals_ghosts h.tidy S.length (Nat.le_refl _);have c2:=reals_ghosts h'.tidy S'.length (Nat.le_refl _);have z1:=h.size hnd hs hst ht;have z2:=h'.size hnd' hs' hst' ht';refine⟨hb,by omega,fun v hv=>?_⟩;obtain⟨u,hu,e⟩:=List.mem_map.1 ((hm (ptV P' v)).2 (List.mem_map.2 ⟨v,hv,rfl⟩));exact⟨u,hu,e⟩
end
end Go.MagM
namespace Go.MagM
def cntR(S:List TriM):Nat→Nat|0=>0|k+1=>cntR S k+(match S[k]? with|some T=>if 0≤T.v0∧0≤T.v1∧0≤T.v2 then 1 else 0|none=>0)
theorem cntR_yes{S:List TriM}{k:Nat}{T:TriM}(h:S[k]?=some T)(hv:0≤T.v0∧0≤T.v1∧0≤T.v2):cntR S (k+1)=cntR S k+1:=by rw[cntR,h];simp only[];rw[if_pos hv]
theorem cntR_no{S:List TriM}{k:Nat}{T:TriM}(h:S[k]?=some T)(hv:¬(0≤T.v0∧0≤T.v1∧0≤T.v2)):cntR S (k+1)=cntR S k:=by rw[cntR,h];simp only[];rw[if_neg hv];rfl
theorem cntR_le(S:List TriM):∀k,cntR S k≤k
  |0=>Nat.le_refl _|k+1=>by
    have:=cntR_le S k;rw[cntR];split;·split<;>omega
    ·omega
def sqP:List (Int×Int):=[(0,0),(2,0),(0,2),(2,2)]
def sqS:List TriM:=[⟨0,1,2,4,2,3,false,false,false⟩,⟨-1,2,3,4,5,2,false,false,false⟩,⟨0,2,-1,1,3,0,false,false,false⟩,⟨1,0,-1,2,5,0,false,false,false⟩,⟨2,1,3,5,1,0,false,false,false⟩,⟨1,-1,3,1,4,3,false,false,false⟩]
end Go.MagM
namespace Go.Proofs.YtdmfbkhafnkcfaaGreat
open Go.RowKit Go.MagM
theorem sound_of{P:List (Int×Int)}{S:List TriM}(hs:List Nat)(h1:((List.range S.length).all fun k=>match S[k]? with|some T=>okT P S k T|none=>true)=true)(h2:borderM S=hs.map (fun v:Nat=>(v:Int)))(h3:hs≠[])(h4:hs.length=ghN S S.length)(h5:(hs.all fun v=>decide (v<P.length))=true)(h6:convexM P hs=true):SoundIs P S true:=by refine .inr ⟨rfl,fun k T hT=>?_,by rw[h2];simpa using h3,by rw[h2,List.length_map];exact h4,hs,h2,fun v hv=>by have:=List.all_eq_true.1 h5 v hv;simpa using this,h6⟩;have hk:=(List.getElem?_eq_some_iff.1 hT).1;have:=List.all_eq_true.1 h1 k (List.mem_range.2 hk);simp only[hT] at this;exact this
theorem sq_sound:SoundIs sqP sqS true:=sound_of [0,1,3,2] (by decide+kernel) (by decide+kernel) (by decide) (by decide+kernel) (by decide) (by decide+kernel)
theorem sq_in:InPs sqP:=by intro p hp;simp[sqP] at hp;rcases hp with rfl|rfl|rfl|rfl<;>(unfold InP;omega)
theorem sq_base(ok:Bool)(s t:Nat)(h:BaseIs sqP ok s t):ok=true∧s=1∧t=2:=by
  have e1:ptA sqP 1≠ptA sqP 0:=by decide
  have e2:crsP (ptA sqP 0) (ptA sqP 1) (ptA sqP 2)≠0:=by decide
  have hl:sqP.length=4:=rfl;rcases h with⟨h0,h1,h2,h3,h4,h5,h6,h7⟩|⟨h0,-,-,k,h1,h2⟩
  · have hs:s=1:=by
      rcases Nat.lt_or_ge 1 s with g|g;·exact absurd (h4 1 g) e1
      ·omega
    subst hs;refine⟨h0,rfl,?_⟩;rcases Nat.lt_or_ge 2 t with g|g;·exact absurd (h6 2 (by omega) g) e2
    ·omega
  · exfalso;have hk:k≤1:=by
      rcases Nat.lt_or_ge 1 k with g|g;·exact absurd (h1 1 g (by omega)) e1
      ·exact g
    rcases h2 with h2|⟨h2,h3⟩;·omega
    · have hk1:k=1:=by
        rcases Nat.lt_or_ge 0 k with g|g;·omega
        · obtain rfl:k=0:=by omega
          exact absurd rfl h2
      subst hk1;exact e2 (h3 2 (by omega) (by omega))
theorem sq_build(sb sc:Nat)(w:World)(hc:PtsIn w sb sqP):Calls Tryz.prog 22 #[.slice (some ⟨sb,0,none⟩) 4 sc] w fun e w'=>∃mb pb pc tv,e= .returned (.tuple #[.pointer (some ⟨mb,0,none⟩),.bool true])∧MeshO 33 41 w' w.heap.size mb pb pc tv sqP sqS∧Below w.heap.size w w':=by
  have e:sortL [((1:Nat):Int)]=[((1:Nat):Int)]:=sortL_one _;refine Build4_any sqP 1 2 2 2 sqS sb sc w sq_in rfl hc sq_base (by decide+kernel) rfl (by omega) (by decide+kernel) (fun k hk hne=>?_) ?_ ?_ (fun s hs=>?_)
  · obtain rfl|rfl|rfl:k=0∨k=2∨k=3:=by omega
    all_goals decide+kernel
  · unfold putM;rw[e];rfl
  ·exact(show rimR (newM ((0:Nat):Int) ((1:Nat):Int) ((2:Nat):Int)) [((1:Nat):Int)]=[⟨-1,2,2,0,false⟩,⟨2,1,0,0,false⟩,⟨1,-1,3,1,false⟩] from rfl)▸(by simp)
  · rw[show rimR (newM ((0:Nat):Int) ((1:Nat):Int) ((2:Nat):Int)) [((1:Nat):Int)]=[⟨-1,2,2,0,false⟩,⟨2,1,0,0,false⟩,⟨1,-1,3,1,false⟩] from rfl] at hs;simp only[List.mem_cons,List.not_mem_nil,or_false] at hs;rcases hs with rfl|rfl|rfl;·exact⟨2,0,rfl,by decide,by omega,rfl,by omega⟩
    ·exact⟨0,0,rfl,by decide,by omega,rfl,by omega⟩
    ·exact⟨3,1,rfl,by decide,by omega,rfl,by omega⟩
set_option maxRecDepth 100000 in set_option maxHeartbeats 16000000 in theorem fit12_any(w:World):Calls Tryz.prog 20 #[] w fun e w'=>e= .returned (.bool true)∧Below w.heap.size w w':=by
  obtain⟨w1,hw1,pp,hb1,hs1⟩:=new_box w _ rfl [.int .i64 0,.int .i64 0,.int .i64 2,.int .i64 0,.int .i64 0,.int .i64 2,.int .i64 2,.int .i64 2] 33;have hpt:PtsIn w1 w.heap.size sqP:=fun i x y hi=>by match i,hi with
    |0,hi=>cases hi;exact⟨pp.c 0 _ rfl,pp.c 1 _ rfl⟩|1,hi=>cases hi;exact⟨pp.c 2 _ rfl,pp.c 3 _ rfl⟩|2,hi=>cases hi;exact⟨pp.c 4 _ rfl,pp.c 5 _ rfl⟩|3,hi=>cases hi;exact⟨pp.c 6 _ rfl,pp.c 7 _ rfl⟩|_+4,hi=>cases hi
  have HN:=Lib.hid (sq_build w.heap.size 4 w1 hpt);have HB1:=Lib.hid hb1;clear pp hb1 hs1 hpt;go_enter Tryz.func20,Tryz.ntmps20;go_wp2_with fail;refine HN.out.mono ?_;rintro e w2 ⟨mb,pb,pc,tv,rfl,hm,hb2⟩;obtain⟨tb,tc,rfl,hr⟩:=MeshO.sl hm (by decide);have hB2:=HB1.out.trans (hb2.mono HB1.out.size);have hso:=Sound_any true w2 hr sq_in (by decide) sq_sound;have HR:=Lib.hid hr;have HB2:=Lib.hid hB2;have HSO:=Lib.hid hso;clear hm hb2 hr hB2 hso;go_wp2_with fail;refine HSO.out.mono ?_;rintro e w3 ⟨rfl,hb3⟩;have hB3:=HB2.out.trans (hb3.mono HB2.out.size);have hr3:=HR.out.below hb3;have HR3:=Lib.hid hr3;have HB3:=Lib.hid hB3;have c2:w3.cell? ⟨mb,1,none⟩=some (.slice (some ⟨tb,0,none⟩) 6 tc):=hr3.box.c 1 _ rfl;clear hr3 hB3 hb3;go_wp2;clear c2;go_loopw [3,5,31] (fun nv _ iv wr=>∃k:Nat,k≤6∧iv= .int .i64 (k:Int)∧nv= .int .i64 ((cntR sqS k:Nat):Int)∧Below w3.heap.size w3 wr) (fun _ _ iv _=>6-(intOf iv).toNat);case atStart=>exact⟨0,by omega,rfl,rfl,Below.refl _ _⟩
  case round=>
    obtain⟨k,hk,rfl,rfl,hbw⟩:=hrel;by_cases hlt:k<6
    · have hyd:decide ((k:Int)<6)=true:=decide_eq_true (by omega);obtain⟨X,hX⟩:∃X,sqS[k]?=some X:=⟨_,List.getElem?_eq_getElem (by show k<6;exact hlt)⟩;have hr:=HR3.out.below hbw;obtain⟨tb',htb,-,h9⟩:=hr.tris.get hX;simp only[Option.some.injEq,Addr.mk.injEq,and_true] at htb;subst htb;obtain⟨c0,c1,c2,c3,c4,c5,c6,c7,c8⟩:=h9;obtain⟨v0,v1,v2,n0,n1,n2,f0,f1,f2⟩:=X;simp only[] at c0 c1 c2 c3 c4 c5 c6 c7 c8;obtain⟨xb,hxb⟩:∃x,wr.heap.size=x:=⟨_,rfl⟩;obtain⟨w4,hw4,px,hb4,hs4⟩:=new_box wr _ rfl [.int .i64 v0,.int .i64 v1,.int .i64 v2,.int .i64 n0,.int .i64 n1,.int .i64 n2,.bool f0,.bool f1,.bool f2] 41;rw[hxb] at px;have d0:=px.c 0 _ rfl;have d1:=px.c 1 _ rfl;have d2:=px.c 2 _ rfl;have FIN:=Lib.hid (hbw.trans (hb4.mono hbw.size));have hcl:=cntR_le sqS k;have HX:=Lib.hid hX;have j1:(0:Int)≤(k:Int):=by omega
      have j2:(k:Int)<6:=by omega
      have hwc:IntKind.i64.wrap ((cntR sqS k:Int)+1)=(cntR sqS k:Int)+1:=by rw[IntKind.wrap_i64];omega
      clear hX hr hbw px hb4 hs4;by_cases hv:0≤v0∧0≤v1∧0≤v2
      · have hcn:=Lib.hid (cntR_yes HX.out hv);obtain⟨e0,e1,e2⟩:=hv;go_wp2;refine⟨⟨k+1,by omega,by go_num,?_,FIN.out⟩,by simp[intOf];omega⟩;rw[hcn.out];go_num
      · have hcn:=Lib.hid (cntR_no HX.out hv);by_cases e0:0≤v0
        · by_cases e1:0≤v1
          · have e2:¬0≤v2:=fun h=>hv ⟨e0,e1,h⟩;clear hv;go_wp2;refine⟨⟨k+1,by omega,by go_num,?_,FIN.out⟩,by simp[intOf];omega⟩;rw[hcn.out]
          · clear hv;go_wp2;refine⟨⟨k+1,by omega,by go_num,?_,FIN.out⟩,by simp[intOf];omega⟩;rw[hcn.out]
        · clear hv;go_wp2;refine⟨⟨k+1,by omega,by go_num,?_,FIN.out⟩,by simp[intOf];omega⟩;rw[hcn.out]
    · obtain rfl:k=6:=by omega
      have hcn:cntR sqS 6=2:=by decide
      rw[hcn];have hr:=HR3.out.below hbw;have c0:wr.cell? ⟨mb,0,none⟩=some (.slice (some ⟨pb,0,none⟩) 4 pc):=hr.box.c 0 _ rfl;have HH:=Lib.hid (Hull_any wr hr (by decide) (by decide+kernel));have HBW:=Lib.hid (HB3.out.trans (hbw.mono HB3.out.size));clear hr hbw;go_wp2_with fail;refine HH.out.mono ?_;rintro e w5 ⟨g,c,rfl,-,-,-,hb5⟩;have FIN:=Lib.hid (HBW.out.trans (hb5.mono HBW.out.size));have hl:(borderM sqS).length=4:=by decide+kernel
      rw[hl];clear hb5 hl c0;go_wp2;go_ret;exact⟨rfl,FIN.out⟩
end Go.Proofs.YtdmfbkhafnkcfaaGreat
namespace Go.Proofs.YtdmfbkhafnkcfaaGreat
open Go.MagM
def cor(l:List (Rat×Rat))(i:Nat):Rat×Rat:=l.getD (i%l.length) (0,0)
def riseQ(l:List (Rat×Rat))(i:Nat):Prop:=(cor l (i+1)).2≤(cor l i).2∧(cor l (i+1)).2<(cor l (i+2)).2
instance(l:List (Rat×Rat))(i:Nat):Decidable (riseQ l i):=by unfold riseQ;infer_instance
end Go.Proofs.YtdmfbkhafnkcfaaGreat
namespace Go.MagM
open Go.RowKit
theorem RowN.shape{w:World}{base:Nat}{e:TypeId}{size:Nat}{v:Value}{n:Nat}{xs:List Value}(h:RowN w base e size v n xs):∃ao c,v= .slice ao n c:=by
  rcases h.2 with⟨h1,h2⟩|⟨g,cap,_,h1,_⟩;·subst h2;exact⟨_,_,h1⟩
  ·exact⟨_,_,h1⟩
end Go.MagM
namespace Go.Proofs.YtdmfbkhafnkcfaaGreat
open Go.RowKit Go.MagM
end Go.Proofs.YtdmfbkhafnkcfaaGreat
namespace Go.MagM
open Go.RowKit
def PtsAt(w:World)(ao:Option Addr)(l:List (Int×Int)):Prop:=∀i x y,l[i]?=some (x,y)→∃b o,ao=some ⟨b,o,none⟩∧w.cell? ⟨b,o+i*2,none⟩=some (.int .i64 x)∧w.cell? ⟨b,o+i*2+1,none⟩=some (.int .i64 y)
theorem PtsAt.below{w w':World}{ao:Option Addr}{l:List (Int×Int)}(h:PtsAt w ao l)(hb:Below w.heap.size w w'):PtsAt w' ao l:=by intro i x y hi;obtain⟨b,o,h0,h1,h2⟩:=h i x y hi;have hlt:=World.block_lt_of_cell? w _ h1;exact⟨b,o,h0,(hb.cell (p:=⟨b,o+i*2,none⟩) hlt).trans h1,(hb.cell (p:=⟨b,o+i*2+1,none⟩) hlt).trans h2⟩
end Go.MagM
namespace Go.Proofs.YtdmfbkhafnkcfaaGreat
open Go.RowKit Go.MagM
end Go.Proofs.YtdmfbkhafnkcfaaGreat
