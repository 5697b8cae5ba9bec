import Derived.Test.YtdmfbkhafnkcfaaGreatRows
import Derived.Test.YtdmfbkhafnkcfaaGreatPartg
import Derived.ProofKit
import Derived.ChangeVars
import Derived.JoinedOf
import Derived.RowKitTokens
import Derived.Lib.SmallJoins
import Derived.Test.YtdmfbkhafnkcfaaGreatMath
import Derived.Test.YtdmfbkhafnkcfaaGreatPartf
set_option linter.unusedSimpArgs false
set_option linter.unusedVariables false
namespace Go.Proofs.YtdmfbkhafnkcfaaGreat
open Go.ChangeShapes Go.WideShapes Go.RowKit Go.MagM
theorem own0:ownKnob Tryz.prog.godebug=none:=by kernel_rfl
theorem laidOut0:laidOutB Tryz.prog=true:=by kernel_rfl
end Go.Proofs.YtdmfbkhafnkcfaaGreat
namespace Go.MagM
def crs(ax ay bx by' cx cy:Int):Int:=(bx-ax)*(cy-ay)-(by'-ay)*(cx-ax)
def inc(ax ay bx by' cx cy dx dy:Int):Int:=(ax-dx)*((by'-dy)*((cx-dx)*(cx-dx)+(cy-dy)*(cy-dy))-((bx-dx)*(bx-dx)+(by'-dy)*(by'-dy))*(cy-dy))-(ay-dy)*((bx-dx)*((cx-dx)*(cx-dx)+(cy-dy)*(cy-dy))-((bx-dx)*(bx-dx)+(by'-dy)*(by'-dy))*(cx-dx))+((ax-dx)*(ax-dx)+(ay-dy)*(ay-dy))*((bx-dx)*(cy-dy)-(by'-dy)*(cx-dx))
def sqd(ax ay bx by':Int):Int:=(ax-bx)*(ax-bx)+(ay-by')*(ay-by')
theorem sq_nonneg(x:Int):0≤x*x:=by rw[←Int.natAbs_mul_self' x];exact Int.mul_nonneg (Int.natCast_nonneg _) (Int.natCast_nonneg _)
theorem sq_pos{x:Int}(h:x≠0):0<x*x:=by have h1:=sq_nonneg x;have h2:x*x≠0:=fun e=>h (by rcases Int.mul_eq_zero.1 e with h|h<;>exact h);omega
theorem sqd_pos{ax ay bx by':Int}(h:¬(ax=bx∧ay=by')):0<sqd ax ay bx by':=by
  have h1:=sq_nonneg (ax-bx);have h2:=sq_nonneg (ay-by');unfold sqd;by_cases hx:ax=bx;·have:=sq_pos (x:=ay-by') (by omega);omega
  ·have:=sq_pos (x:=ax-bx) (by omega);omega
theorem crs_sum(ax ay bx by' cx cy dx dy:Int):crs ax ay bx by' dx dy+crs bx by' cx cy dx dy+crs cx cy ax ay dx dy=crs ax ay bx by' cx cy:=by unfold crs;grind
theorem inc_cyc(ax ay bx by' cx cy dx dy:Int):inc bx by' cx cy ax ay dx dy=inc ax ay bx by' cx cy dx dy:=by unfold inc;grind
theorem inc_a(ax ay bx by' cx cy:Int):inc ax ay bx by' cx cy ax ay=0:=by unfold inc;grind
theorem inc_b(ax ay bx by' cx cy:Int):inc ax ay bx by' cx cy bx by'=0:=by unfold inc;grind
theorem inc_c(ax ay bx by' cx cy:Int):inc ax ay bx by' cx cy cx cy=0:=by unfold inc;grind
theorem inc_bary(ax ay bx by' cx cy dx dy:Int):crs ax ay bx by' cx cy*inc ax ay bx by' cx cy dx dy=crs bx by' cx cy dx dy*crs cx cy ax ay dx dy*sqd ax ay bx by'+crs cx cy ax ay dx dy*crs ax ay bx by' dx dy*sqd bx by' cx cy+crs ax ay bx by' dx dy*crs bx by' cx cy dx dy*sqd cx cy ax ay:=by unfold inc crs sqd;grind
theorem inc_in{ax ay bx by' cx cy dx dy:Int}(hD:0<crs ax ay bx by' cx cy)(hx:0≤crs ax ay bx by' dx dy)(hy:0≤crs bx by' cx cy dx dy)(hz:0≤crs cx cy ax ay dx dy):0<inc ax ay bx by' cx cy dx dy∨(dx=ax∧dy=ay)∨(dx=bx∧dy=by')∨(dx=cx∧dy=cy):=by
  have hb:=inc_bary ax ay bx by' cx cy dx dy;have hs:=crs_sum ax ay bx by' cx cy dx dy;have nab:¬(ax=bx∧ay=by'):=by rintro⟨rfl,rfl⟩;unfold crs at hD;grind
  have nbc:¬(bx=cx∧by'=cy):=by rintro⟨rfl,rfl⟩;unfold crs at hD;grind
  have nca:¬(cx=ax∧cy=ay):=by rintro⟨rfl,rfl⟩;unfold crs at hD;grind
  have pab:=sqd_pos nab;have pbc:=sqd_pos nbc;have pca:=sqd_pos nca;have ea:crs bx by' cx cy dx dy=crs ax ay bx by' cx cy→crs ax ay bx by' dx dy=0→crs cx cy ax ay dx dy=0→dx=ax∧dy=ay:=by
    intro _ h1 h2;have e1:crs ax ay bx by' cx cy*(dx-ax)=0:=by
      have:crs ax ay bx by' cx cy*(dx-ax)=(cx-ax)*crs ax ay bx by' dx dy+(bx-ax)*crs cx cy ax ay dx dy:=by unfold crs;grind
      rw[this,h1,h2];simp
    have e2:crs ax ay bx by' cx cy*(dy-ay)=0:=by
      have:crs ax ay bx by' cx cy*(dy-ay)=(cy-ay)*crs ax ay bx by' dx dy+(by'-ay)*crs cx cy ax ay dx dy:=by unfold crs;grind
      rw[this,h1,h2];simp
    rcases Int.mul_eq_zero.1 e1 with h|h<;>rcases Int.mul_eq_zero.1 e2 with k|k<;>omega
  have eb:crs bx by' cx cy dx dy=0→crs ax ay bx by' dx dy=0→dx=bx∧dy=by':=by
    intro h1 h2;have e1:crs ax ay bx by' cx cy*(dx-bx)=0:=by
      have:crs ax ay bx by' cx cy*(dx-bx)=(ax-bx)*crs bx by' cx cy dx dy+(cx-bx)*crs ax ay bx by' dx dy:=by unfold crs;grind
      rw[this,h1,h2];simp
    have e2:crs ax ay bx by' cx cy*(dy-by')=0:=by
      have:crs ax ay bx by' cx cy*(dy-by')=(ay-by')*crs bx by' cx cy dx dy+(cy-by')*crs ax ay bx by' dx dy:=by unfold crs;grind
      rw[this,h1,h2];simp
    rcases Int.mul_eq_zero.1 e1 with h|h<;>rcases Int.mul_eq_zero.1 e2 with k|k<;>omega
  have ec:crs bx by' cx cy dx dy=0→crs cx cy ax ay dx dy=0→dx=cx∧dy=cy:=by
    intro h1 h2;have e1:crs ax ay bx by' cx cy*(dx-cx)=0:=by
      have:crs ax ay bx by' cx cy*(dx-cx)=(ax-cx)*crs bx by' cx cy dx dy+(bx-cx)*crs cx cy ax ay dx dy:=by unfold crs;grind
      rw[this,h1,h2];simp
    have e2:crs ax ay bx by' cx cy*(dy-cy)=0:=by
      have:crs ax ay bx by' cx cy*(dy-cy)=(ay-cy)*crs bx by' cx cy dx dy+(by'-cy)*crs cx cy ax ay dx dy:=by unfold crs;grind
      rw[this,h1,h2];simp
    rcases Int.mul_eq_zero.1 e1 with h|h<;>rcases Int.mul_eq_zero.1 e2 with k|k<;>omega
  generalize crs ax ay bx by' cx cy=D at*;generalize crs bx by' cx cy dx dy=α at*;generalize crs cx cy ax ay dx dy=β at*;generalize crs ax ay bx by' dx dy=γ at*;generalize inc ax ay bx by' cx cy dx dy=J at*;generalize sqd ax ay bx by'=s1 at*;generalize sqd bx by' cx cy=s2 at*;generalize sqd cx cy ax ay=s3 at*;have m1:=Int.mul_nonneg (Int.mul_nonneg hy hz) (Int.le_of_lt pab);have m2:=Int.mul_nonneg (Int.mul_nonneg hz hx) (Int.le_of_lt pbc);have m3:=Int.mul_nonneg (Int.mul_nonneg hx hy) (Int.le_of_lt pca);by_cases hJ:0<J;·exact .inl hJ
  · right;have hDJ:D*J≤0:=Int.mul_nonpos_of_nonneg_of_nonpos (Int.le_of_lt hD) (Int.not_lt.1 hJ);have z1:α*β*s1=0:=by omega
    have z2:β*γ*s2=0:=by omega
    have z3:γ*α*s3=0:=by omega
    have w1 : α = 0 ∨ β = 0 := by rcases Int.mul_eq_zero.1 z1 with h|h;·exact Int.mul_eq_zero.1 h
                                  ·omega
    have w2 : β = 0 ∨ γ = 0 := by rcases Int.mul_eq_zero.1 z2 with h|h;·exact Int.mul_eq_zero.1 h
                                  ·omega
    have w3 : γ = 0 ∨ α = 0 := by rcases Int.mul_eq_zero.1 z3 with h|h;·exact Int.mul_eq_zero.1 h
                                  ·omega
    by_cases ha:α=0
    · by_cases hc:γ=0;·exact .inr (.inl (eb ha hc))
      · have hb0:β=0:=by omega
        exact .inr (.inr (ec ha hb0))
    · have hc:γ=0:=by omega
      have hb0:β=0:=by omega
      exact .inl (ea (by omega) hc hb0)
theorem on_box{px py ax ay bx by':Int}(h:crs ax ay bx by' px py=0):0≤(px-ax)*(bx-px)+(py-ay)*(by'-py)↔(0≤(px-ax)*(bx-px)∧0≤(py-ay)*(by'-py)):=by
  have e:((px-ax)*(bx-px))*((py-ay)*(by'-py))=((px-ax)*(by'-py))*((px-ax)*(by'-py)):=by
    have:(px-ax)*(by'-py)=(py-ay)*(bx-px):=by unfold crs at h;grind
    grind
  have hs:=sq_nonneg ((px-ax)*(by'-py));rw[←e] at hs;generalize (px-ax)*(bx-px)=u at*;generalize (py-ay)*(by'-py)=v at*;constructor
  · intro hd;by_cases hu:0≤u
    · by_cases hv:0≤v;·exact⟨hu,hv⟩
      · have hup:0<u:=by omega
        have:=Int.mul_neg_of_pos_of_neg hup (show v<0 by omega);omega
    · have hv:0<v:=by omega
      have:=Int.mul_neg_of_neg_of_pos (show u<0 by omega) hv;omega
  ·rintro⟨h1,h2⟩;omega
theorem tween(p a b:Int):0≤(p-a)*(b-p)↔(min a b≤p∧p≤max a b):=by
  constructor
  · intro h;by_cases h1:p<a
    · by_cases h2:p<b;·have:=Int.mul_neg_of_neg_of_pos (show p-a<0 by omega) (show 0<b-p by omega);omega
      ·omega
    · by_cases h2:b<p
      · by_cases h3:a<p;·have:=Int.mul_neg_of_pos_of_neg (show 0<p-a by omega) (show b-p<0 by omega);omega
        ·omega
      ·omega
  · rintro⟨h1,h2⟩;by_cases h3:a≤p
    · by_cases h4:p≤b;·exact Int.mul_nonneg (by omega) (by omega)
      · have:p=a:=by omega
        subst this;simp
    · have h4:b≤p:=by omega
      exact Int.mul_nonneg_of_nonpos_of_nonpos (by omega) (by omega)
end Go.MagM
namespace Go.MagM
open Go.RowKit
structure Box(w:World)(g:Nat)(vs:List Value):Prop where
  c:∀i v,vs[i]?=some v→w.cell? ⟨g,i,none⟩=some v
  f:∀i v,vs[i]?=some v→w.frozen? ⟨g,i,none⟩=false
theorem Box.below{w w':World}{g:Nat}{vs:List Value}(h:Box w g vs)(hb:Below w.heap.size w w'):Box w' g vs:=⟨fun i v hi=>(hb.cell (p:=⟨g,i,none⟩) (World.block_lt_of_cell? w _ (h.c i v hi))).trans (h.c i v hi),fun i v hi=>(hb.frozen (p:=⟨g,i,none⟩) (World.block_lt_of_cell? w _ (h.c i v hi))).trans (h.f i v hi)⟩
theorem Box.drew{w:World}{g:Nat}{vs:List Value}(h:Box w g vs):Box w.drew g vs:=⟨h.c,h.f⟩
theorem Box.drewN{w:World}{g:Nat}{vs:List Value}(h:Box w g vs)(n:Nat):Box (w.drewN n) g vs:=⟨h.c,h.f⟩
theorem Box.lt{w:World}{g:Nat}{v:Value}{vs:List Value}(h:Box w g (v::vs)):g<w.heap.size:=World.block_lt_of_cell? w _ (h.c 0 v rfl)
theorem Box.set{w:World}{g:Nat}{vs:List Value}(h:Box w g vs)(i:Nat)(x:Value):Box (w.setCell ⟨g,i,none⟩ x) g (vs.set i x):=by
  refine⟨fun j v hj=>?_,fun j v hj=>?_⟩
  · rw[List.getElem?_set] at hj;by_cases e:i=j
    · subst e;rw[if_pos rfl] at hj;split at hj;·next hl=>
        simp at hj;subst hj;exact World.cell?_setCell_same _ _ _ (h.c i _ (List.getElem?_eq_getElem hl))
      ·cases hj
    · rw[if_neg e] at hj;have ne:(⟨g,i,none⟩:Addr)≠⟨g,j,none⟩:=by intro k;injection k with k1 k2;exact e k2
      rw[World.cell?_setCell_other _ _ _ _ (by first|exact ne|exact ne.symm)];exact h.c j v hj
  · rw[World.frozen?_setCell];rw[List.getElem?_set] at hj;by_cases e:i=j
    · subst e;rw[if_pos rfl] at hj;split at hj;·next hl=>exact h.f i _ (List.getElem?_eq_getElem hl)
      ·cases hj
    ·rw[if_neg e] at hj;exact h.f j v hj
theorem Box.far{w:World}{g g':Nat}{vs:List Value}(h:Box w g vs)(hne:g≠g')(i:Nat)(x:Value):Box (w.setCell ⟨g',i,none⟩ x) g vs:=by
  refine⟨fun j v hj=>?_,fun j v hj=>(World.frozen?_setCell _ _ _ _).trans (h.f j v hj)⟩;have ne:(⟨g',i,none⟩:Addr)≠⟨g,j,none⟩:=by intro k;injection k with k1;exact hne k1.symm
  rw[World.cell?_setCell_other _ _ _ _ (by first|exact ne|exact ne.symm)];exact h.c j v hj
theorem box_new(w:World)(vs:List Value)(T:TypeId):Box (w.alloc (.cells vs.toArray T)) w.heap.size vs:=by
  refine⟨fun i v hi=>?_,fun i v hi=>?_⟩;·simp[go_sem,hi]
  ·simp[go_sem]
def setAll(w:World)(g:Nat):Nat→List Value→World|_,[]=>w|i,x::xs=>setAll (w.setCell ⟨g,i,none⟩ x) g (i+1) xs
theorem new_box(w:World)(n:Nat)(hn:w.heap.size=n)(vs:List Value)(T:TypeId):∃w1,w.alloc (.cells vs.toArray T)=w1∧Box w1 n vs∧Below n w w1∧w1.heap.size=n+1:=by subst hn;exact⟨_,rfl,box_new w vs T,(Below.refl _ _).alloc (Nat.le_refl _) _,by simp⟩
theorem Box.c0{w:World}{g:Nat}{u:Value}{l:List Value}(h:Box w g (u::l)):w.cell? ⟨g,0,none⟩=some u:=h.c 0 _ rfl
theorem Box.c1{w:World}{g:Nat}{u0 u:Value}{l:List Value}(h:Box w g (u0::u::l)):w.cell? ⟨g,1,none⟩=some u:=h.c 1 _ rfl
theorem Box.c2{w:World}{g:Nat}{u0 u1 u:Value}{l:List Value}(h:Box w g (u0::u1::u::l)):w.cell? ⟨g,2,none⟩=some u:=h.c 2 _ rfl
theorem Box.c3{w:World}{g:Nat}{u0 u1 u2 u:Value}{l:List Value}(h:Box w g (u0::u1::u2::u::l)):w.cell? ⟨g,3,none⟩=some u:=h.c 3 _ rfl
theorem Box.c4{w:World}{g:Nat}{u0 u1 u2 u3 u:Value}{l:List Value}(h:Box w g (u0::u1::u2::u3::u::l)):w.cell? ⟨g,4,none⟩=some u:=h.c 4 _ rfl
theorem Box.c5{w:World}{g:Nat}{u0 u1 u2 u3 u4 u:Value}{l:List Value}(h:Box w g (u0::u1::u2::u3::u4::u::l)):w.cell? ⟨g,5,none⟩=some u:=h.c 5 _ rfl
theorem Box.open2{w:World}{g:Nat}{u0 u1:Value}(h:Box w g [u0,u1]):w.cell? ⟨g,0,none⟩=some u0∧w.cell? ⟨g,1,none⟩=some u1∧w.frozen? ⟨g,0,none⟩=false∧w.frozen? ⟨g,1,none⟩=false:=⟨h.c 0 _ rfl,h.c 1 _ rfl,h.f 0 _ rfl,h.f 1 _ rfl⟩
theorem Box.open3{w:World}{g:Nat}{u0 u1 u2:Value}(h:Box w g [u0,u1,u2]):w.cell? ⟨g,0,none⟩=some u0∧w.cell? ⟨g,1,none⟩=some u1∧w.cell? ⟨g,2,none⟩=some u2∧w.frozen? ⟨g,0,none⟩=false∧w.frozen? ⟨g,1,none⟩=false∧w.frozen? ⟨g,2,none⟩=false:=⟨h.c 0 _ rfl,h.c 1 _ rfl,h.c 2 _ rfl,h.f 0 _ rfl,h.f 1 _ rfl,h.f 2 _ rfl⟩
theorem Box.put2{w:World}{g:Nat}{u0 u1:Value}(h:Box w g [u0,u1])(x0:Value):(w.setCell ⟨g,0,none⟩ x0).cell? ⟨g,1,none⟩=some u1∧(w.setCell ⟨g,0,none⟩ x0).frozen? ⟨g,1,none⟩=false:=⟨(h.set 0 x0).c 1 _ rfl,(h.set 0 x0).f 1 _ rfl⟩
theorem Box.setTail{g:Nat}:∀(xs:List Value)(pre vs:List Value)(w:World),vs.length=xs.length→Box w g (pre++vs)→Box (setAll w g pre.length xs) g (pre++xs)
  |[],pre,vs,w,hl,h=>by
    have:vs=[]:=List.length_eq_zero_iff.1 hl;subst this;exact h|x::xs,pre,[],w,hl,h=>by simp at hl|x::xs,pre,v::vs,w,hl,h=>by
    have e:(pre++v::vs).set pre.length x=(pre++[x])++vs:=by simp
    have h1:=h.set pre.length x;rw[e] at h1;have:=Box.setTail xs (pre++[x]) vs _ (by simpa using hl) h1;simpa[setAll] using this
theorem Box.setAll{w:World}{g:Nat}{vs:List Value}(h:Box w g vs)(xs:List Value)(hl:vs.length=xs.length):Box (setAll w g 0 xs) g xs:=Box.setTail xs [] vs w hl h
theorem Box.farFrom{g g':Nat}(hne:g≠g'):∀(xs:List Value)(i:Nat){w:World}{vs:List Value},Box w g vs→Box (Go.MagM.setAll w g' i xs) g vs|[],_,_,_,h=>h|x::xs,i,_,_,h=>Box.farFrom hne xs (i+1) (h.far hne i x)
theorem Box.farAll{w:World}{g:Nat}{vs:List Value}(h:Box w g vs){g':Nat}(hne:g≠g')(xs:List Value):Box (Go.MagM.setAll w g' 0 xs) g vs:=Box.farFrom hne xs 0 h
theorem below_setFrom{M g:Nat}(hg:M≤g){w:World}:∀(xs:List Value)(i:Nat){w':World},Below M w w'→Below M w (setAll w' g i xs)|[],_,_,h=>h|x::xs,i,_,h=>below_setFrom hg xs (i+1) (h.setCell (p:=⟨g,i,none⟩) hg x)
theorem below_setAll{M:Nat}{w w':World}(h:Below M w w'){g:Nat}(hg:M≤g)(xs:List Value):Below M w (setAll w' g 0 xs):=below_setFrom hg xs 0 h
def NoWord(u:Value):Prop:=∀x,u≠ .int .u64 x
theorem NoWord.bool(b:Bool):NoWord (.bool b):=fun _ h=>by cases h
theorem NoWord.slice(a:Option Addr)(n c:Nat):NoWord (.slice a n c):=fun _ h=>by cases h
theorem NoWord.int(x:Int):NoWord (.int .i64 x):=fun _ h=>by cases h
theorem Reads.setOne{w:World}{ao:Option Addr}{n:Nat}{f:Nat→Nat}(hr:Reads w ao n f){a:Addr}{u:Value}(hc:w.cell? a=some u)(hu:NoWord u)(v:Value):Reads (w.setCell a v) ao n f:=by
  intro i hi;obtain⟨b,o,e,h1,h2⟩:=hr i hi;refine⟨b,o,e,?_,h2⟩;have ne:a≠⟨b,o+i,none⟩:=by
    intro h;rw[h,h1] at hc;exact hu _ (Option.some.inj hc).symm
  rw[World.cell?_setCell_other _ _ _ _ (by first|exact ne|exact ne.symm)];exact h1
theorem Reads.setTail{ao:Option Addr}{n g:Nat}{f:Nat→Nat}:∀(xs:List Value)(pre vs:List Value){w:World},vs.length=xs.length→(∀u∈vs,NoWord u)→Box w g (pre++vs)→Reads w ao n f→Reads (Go.MagM.setAll w g pre.length xs) ao n f
  |[],_,_,_,_,_,_,h=>h|x::xs,pre,[],_,hl,_,_,_=>by simp at hl|x::xs,pre,v::vs,w,hl,hv,hb,h=>by
    have e:(pre++v::vs).set pre.length x=(pre++[x])++vs:=by simp
    have h1:=hb.set pre.length x;rw[e] at h1;have hc:w.cell? ⟨g,pre.length,none⟩=some v:=hb.c pre.length _ (by simp);have:=Reads.setTail xs (pre++[x]) vs (by simpa using hl) (fun u hu=>hv u (by simp[hu])) h1 (h.setOne hc (hv v (by simp)) x);simpa[Go.MagM.setAll] using this
theorem Reads.setAll{w:World}{ao:Option Addr}{n g:Nat}{f:Nat→Nat}(h:Reads w ao n f){vs:List Value}(hb:Box w g vs)(hv:∀u∈vs,NoWord u)(xs:List Value)(hl:vs.length=xs.length):Reads (Go.MagM.setAll w g 0 xs) ao n f:=Reads.setTail xs [] vs hl hv hb h
theorem RMag.setAll{w:World}{v:Value}{L N g:Nat}(h:RMag w v L N){vs:List Value}(hb:Box w g vs)(hv:∀u∈vs,NoWord u)(xs:List Value)(hl:vs.length=xs.length):RMag (Go.MagM.setAll w g 0 xs) v L N:=by obtain⟨ao,n,c,f,h1,h2,h3,h4,h5⟩:=h;exact⟨ao,n,c,f,h1,h2,h3,h4.setAll hb hv xs hl,h5⟩
theorem RNum.setAll{w:World}{v:Value}{L g:Nat}{N:Int}(h:RNum w v L N){vs:List Value}(hb:Box w g vs)(hv:∀u∈vs,NoWord u)(xs:List Value)(hl:vs.length=xs.length):RNum (Go.MagM.setAll w g 0 xs) v L N:=by obtain⟨m,vm,M,h1,h2,h3⟩:=h;exact⟨m,vm,M,h1,h2.setAll hb hv xs hl,h3⟩
theorem noWord2(b:Bool)(ao:Option Addr)(n c:Nat):∀u∈[.bool b,.slice ao n c],NoWord u:=by
  intro u hu;simp at hu;rcases hu with rfl|rfl;·exact NoWord.bool _
  ·exact NoWord.slice _ _ _
def wh(z:Int):Nat:=(z/18446744073709551616%18446744073709551616).toNat
def wl(z:Int):Nat:=(z%18446744073709551616).toNat
def InW(z:Int):Prop:=-170141183460469231731687303715884105728≤z∧z<170141183460469231731687303715884105728
instance(z:Int):Decidable (InW z):=by unfold InW;exact inferInstance
theorem wh_lt(z:Int):wh z<B:=by unfold wh B;omega
theorem wl_lt(z:Int):wl z<B:=by unfold wl B;omega
theorem w_mod(z:Int):((wh z:Nat):Int)*18446744073709551616+((wl z:Nat):Int)=z%340282366920938463463374607431768211456:=by unfold wh wl;omega
theorem w_of{z:Int}{h l:Nat}(hh:h<B)(hl:l<B)(k:Int)(e:(h:Int)*18446744073709551616+(l:Int)=z+k*340282366920938463463374607431768211456):h=wh z∧l=wl z:=by have:=w_mod z;have h1:=wh_lt z;have h2:=wl_lt z;unfold B at*;omega
theorem wh_zero:wh 0=0:=by decide
theorem wl_zero:wl 0=0:=by decide
theorem w_sub(x y:Int):(wh x+B-wh y-(if wl x<wl y+0 then 1 else 0))%B=wh (x-y)∧(wl x+B-wl y-0)%B=wl (x-y):=by
  have a:=w_mod x;have b:=w_mod y;have h1:=wh_lt x;have h2:=wl_lt x;have h3:=wh_lt y;have h4:=wl_lt y;simp only[B_eq] at*;generalize wh x=h at*;generalize wl x=l at*;generalize wh y=h' at*;generalize wl y=l' at*;by_cases c:l<l'+0
  · rw[if_pos c];by_cases d:h<h'+1;·exact w_of (by rw[B_eq];omega) (by rw[B_eq];omega) (1-x/340282366920938463463374607431768211456+y/340282366920938463463374607431768211456) (by omega)
    ·exact w_of (by rw[B_eq];omega) (by rw[B_eq];omega) (-(x/340282366920938463463374607431768211456)+y/340282366920938463463374607431768211456) (by omega)
  · rw[if_neg c];by_cases d:h<h';·exact w_of (by rw[B_eq];omega) (by rw[B_eq];omega) (1-x/340282366920938463463374607431768211456+y/340282366920938463463374607431768211456) (by omega)
    ·exact w_of (by rw[B_eq];omega) (by rw[B_eq];omega) (-(x/340282366920938463463374607431768211456)+y/340282366920938463463374607431768211456) (by omega)
theorem w_neg{z:Int}(h:InW z):(9223372036854775808≤wh z)↔z<0:=by have:=w_mod z;have h1:=wh_lt z;have h2:=wl_lt z;unfold InW B at*;omega
theorem w_size{z:Int}(h:InW z):((wh (z.natAbs:Int):Nat):Int)*18446744073709551616+((wl (z.natAbs:Int):Nat):Int)=(z.natAbs:Int):=by have:=w_mod (z.natAbs:Int);unfold InW at*;omega
theorem w_int_neg{n:Int}(h:-9223372036854775808≤n)(h0:n<0):wh n=18446744073709551615∧((wl n:Nat):Int)=IntKind.u64.wrap n:=by rw[IntKind.wrap_u64];unfold wh wl;omega
theorem w_int_pos{n:Int}(h:n<9223372036854775808)(h0:0≤n):wh n=0∧((wl n:Nat):Int)=IntKind.u64.wrap n:=by rw[IntKind.wrap_u64];unfold wh wl;omega
theorem w_abs_int{n:Int}(h:-9223372036854775808≤n)(h1:n<9223372036854775808):wl (n.natAbs:Int)=n.natAbs∧n.natAbs<B:=by unfold wl B;omega
def InP(x:Int):Prop:=-2147483648≤x∧x≤2147483648
theorem InP.wrap{x y:Int}(hx:InP x)(hy:InP y):IntKind.i64.wrap (x-y)=x-y:=by unfold InP at hx hy;rw[IntKind.wrap_i64];omega
theorem InP.neg{x y:Int}(hx:InP x)(hy:InP y):IntKind.i64.wrap (-(x-y))=-(x-y):=by unfold InP at hx hy;rw[IntKind.wrap_i64];omega
theorem InP.lo{x y:Int}(hx:InP x)(hy:InP y):-9223372036854775808≤x-y:=by unfold InP at hx hy;omega
theorem InP.hi{x y:Int}(hx:InP x)(hy:InP y):x-y<9223372036854775808:=by unfold InP at hx hy;omega
theorem InP.lo'{x y:Int}(hx:InP x)(hy:InP y):-9223372036854775808≤-(x-y):=by unfold InP at hx hy;omega
theorem InP.hi'{x y:Int}(hx:InP x)(hy:InP y):-(x-y)<9223372036854775808:=by unfold InP at hx hy;omega
theorem abs_prod{x y:Int}{M N:Nat}(hx:x.natAbs≤M)(hy:y.natAbs≤N):(x*y).natAbs≤M*N:=by rw[Int.natAbs_mul];exact Nat.mul_le_mul hx hy
theorem inW_dets{p q r s:Int}(hp:p.natAbs≤4294967296)(hq:q.natAbs≤4294967296)(hr:r.natAbs≤4294967296)(hs:s.natAbs≤4294967296):InW (p*s-q*r):=by have h1:=abs_prod hp hs;have h2:=abs_prod hq hr;unfold InW;omega
theorem InP.abs{x y:Int}(hx:InP x)(hy:InP y):(x-y).natAbs≤4294967296:=by unfold InP at hx hy;omega
theorem InP.abs'{x y:Int}(hx:InP x)(hy:InP y):(-(x-y)).natAbs≤4294967296:=by unfold InP at hx hy;omega
theorem inW_crs{ax ay bx by' cx cy:Int}(h1:InP ax)(h2:InP ay)(h3:InP bx)(h4:InP by')(h5:InP cx)(h6:InP cy):InW (crs ax ay bx by' cx cy):=inW_dets (h3.abs h1) (h4.abs h2) (h5.abs h1) (h6.abs h2)
theorem sqd_det(ax ay bx by':Int):(bx-ax)*(bx-ax)-(-(by'-ay))*(by'-ay)=sqd ax ay bx by':=by unfold sqd;grind
theorem inW_sqd{ax ay bx by':Int}(h1:InP ax)(h2:InP ay)(h3:InP bx)(h4:InP by'):InW (sqd ax ay bx by'):=by rw[←sqd_det];exact inW_dets (h3.abs h1) (h4.abs' h2) (h4.abs h2) (h3.abs h1)
theorem inc_circle(ax ay bx by' cx cy dx dy:Int):sqd ax ay dx dy*crs dx dy bx by' cx cy+sqd bx by' dx dy*crs dx dy cx cy ax ay+sqd cx cy dx dy*crs dx dy ax ay bx by'=inc ax ay bx by' cx cy dx dy:=by unfold inc crs sqd;grind
end Go.MagM
namespace Go.Proofs.YtdmfbkhafnkcfaaGreat
open Go.ChangeShapes Go.WideShapes Go.RowKit Go.MagM
theorem ptCells:Tryz.prog.cellsOf 33=2:=by kernel_rfl
theorem ptCell1:Tryz.prog.cellsOf 3=1:=by kernel_rfl
theorem open_pt{H:Type}{enc:TypeId×Value→H}{W:World}{n:Nat}{c0 c1:Value}{x:DataW H×List MemPlace}(h:DataW.trod enc Tryz.prog W 0 (fun _=>true) true n 33 [c0,c1]=some x):∃a b:Int,c0= .int .i64 a∧c1= .int .i64 b:=by obtain⟨y0,y1,m,rfl,_,h0,h1⟩:=trod_struct2 Tryz.underlying33 h;obtain⟨a,e0,_,_⟩:=DataW.trod_int Tryz.underlying3 h0;obtain⟨b,e1,_,_⟩:=DataW.trod_int Tryz.underlying3 h1;simp[ptCell1] at e0 e1;exact⟨a,b,e0,e1⟩
end Go.Proofs.YtdmfbkhafnkcfaaGreat
namespace Go.MagM
def crP(a b c:Int×Int):Int:=crs a.1 a.2 b.1 b.2 c.1 c.2
theorem crP_bary(a p u v w:Int×Int):crP v w p*crP a p u+crP w u p*crP a p v+crP u v p*crP a p w=0:=by unfold crP crs;grind
theorem crP_self(a p:Int×Int):crP a p p=0:=by unfold crP crs;grind
theorem crP_ends(a p:Int×Int):crP p a p=0:=by unfold crP crs;grind
theorem crP_swap(a b c:Int×Int):crP b a c=-crP a b c:=by unfold crP crs;grind
theorem crP_cyc(a b c:Int×Int):crP b c a=crP a b c:=by unfold crP crs;grind
def wayL(a0 a1 a2 p:Int×Int)(M:Int)(v:Int×Int):Int:=M*M*crP a0 p v+M*crP a1 p v+crP a2 p v
theorem way_bary(a0 a1 a2 p:Int×Int)(M:Int)(u v w:Int×Int):crP v w p*wayL a0 a1 a2 p M u+crP w u p*wayL a0 a1 a2 p M v+crP u v p*wayL a0 a1 a2 p M w=0:=by have h0:=crP_bary a0 p u v w;have h1:=crP_bary a1 p u v w;have h2:=crP_bary a2 p u v w;unfold wayL;grind
theorem lex_pos0{M x y z:Int}(hx:0<x)(hy:-M<y)(hz:-M<z)(hM:0<M):0<M*M*x+M*y+z:=by have h1:M*M*1≤M*M*x:=Int.mul_le_mul_of_nonneg_left (by omega) (Int.mul_nonneg (by omega) (by omega));have h2:M*(1-M)≤M*y:=Int.mul_le_mul_of_nonneg_left (by omega) (by omega);rw[Int.mul_sub] at h2;omega
theorem lex_pos1{M y z:Int}(hy:0<y)(hz:-M<z)(hM:0<M):0<M*y+z:=by have h2:M*1≤M*y:=Int.mul_le_mul_of_nonneg_left (by omega) (by omega);omega
theorem lex_neg0{M x y z:Int}(hx:x<0)(hy:y<M)(hz:z<M)(hM:0<M):M*M*x+M*y+z<0:=by have:=lex_pos0 (M:=M) (x:=-x) (y:=-y) (z:=-z) (by omega) (by omega) (by omega) hM;rw[Int.mul_neg,Int.mul_neg] at this;omega
theorem lex_neg1{M y z:Int}(hy:y<0)(hz:z<M)(hM:0<M):M*y+z<0:=by have:=lex_pos1 (M:=M) (y:=-y) (z:=-z) (by omega) (by omega) hM;rw[Int.mul_neg] at this;omega
theorem goes_on{gc g1 g2 lc l1 l2:Int}(hb:gc*lc+g1*l1+g2*l2=0)(hg:0<gc)(h1:0<l1)(h2:l2<0)(hz:lc=0→g1=0∧g2=0)(hn:g1<0∨g2<0):(g1<0∧l2<0∧0<lc)∨(g2<0∧lc<0∧0<l1):=by
  rcases Int.lt_trichotomy lc 0 with h|h|h
  · right;refine⟨?_,h,h1⟩;refine Int.not_le.1 fun hc=>?_;have a1:gc*lc<0:=Int.mul_neg_of_pos_of_neg hg h;have a2:g1*l1<0:=Int.mul_neg_of_neg_of_pos (by omega) h1;have a3:g2*l2≤0:=Int.mul_nonpos_of_nonneg_of_nonpos hc (by omega);omega
  · have:=hz h;omega
  · left;refine⟨?_,h2,h⟩;refine Int.not_le.1 fun hc=>?_;have a1:0<gc*lc:=Int.mul_pos hg h;have a2:0≤g1*l1:=Int.mul_nonneg hc (by omega);have a3:0<g2*l2:=Int.mul_pos_of_neg_of_neg (by omega) h2;omega
theorem way_start0(a0 a1 a2 p:Int×Int)(M:Int):(M*M+M+1)*crP a1 a2 p=M*M*crP a0 a1 a2-(wayL a0 a1 a2 p M a2-wayL a0 a1 a2 p M a1):=by unfold wayL crP crs;grind
theorem way_start1(a0 a1 a2 p:Int×Int)(M:Int):(M*M+M+1)*crP a2 a0 p=M*crP a0 a1 a2-(wayL a0 a1 a2 p M a0-wayL a0 a1 a2 p M a2):=by unfold wayL crP crs;grind
theorem way_start2(a0 a1 a2 p:Int×Int)(M:Int):(M*M+M+1)*crP a0 a1 p=crP a0 a1 a2-(wayL a0 a1 a2 p M a1-wayL a0 a1 a2 p M a0):=by unfold wayL crP crs;grind
theorem way_null(a0 a1 a2 p:Int×Int)(M:Int):M*M*wayL a0 a1 a2 p M a0+M*wayL a0 a1 a2 p M a1+wayL a0 a1 a2 p M a2=0:=by unfold wayL crP crs;grind
theorem way_end{a0 a1 a2 p v:Int×Int}(hD:crP a0 a1 a2≠0)(h0:crP a0 p v=0)(h1:crP a1 p v=0)(h2:crP a2 p v=0):v=p:=by
  have e1:crP a0 a1 a2*(v.1-p.1)=(a1.1-a0.1)*(crP a2 p v-crP a0 p v)-(a2.1-a0.1)*(crP a1 p v-crP a0 p v):=by unfold crP crs;grind
  have e2:crP a0 a1 a2*(v.2-p.2)=(a1.2-a0.2)*(crP a2 p v-crP a0 p v)-(a2.2-a0.2)*(crP a1 p v-crP a0 p v):=by unfold crP crs;grind
  rw[h0,h1,h2] at e1 e2;simp only[Int.sub_self,Int.mul_zero] at e1 e2;have f1:=(Int.mul_eq_zero.1 e1).resolve_left hD;have f2:=(Int.mul_eq_zero.1 e2).resolve_left hD;exact Prod.ext (by omega) (by omega)
theorem way_bound(a0 a1 a2 p:Int×Int):∀P:List (Int×Int),∃M:Int,0<M∧∀v,v∈P→(-M<crP a0 p v∧crP a0 p v<M)∧(-M<crP a1 p v∧crP a1 p v<M)∧(-M<crP a2 p v∧crP a2 p v<M)
  |[]=>⟨1,by omega,fun v hv=>by cases hv⟩|q::r=>by
    obtain⟨M,hM,h⟩:=way_bound a0 a1 a2 p r;refine⟨M+((crP a0 p q).natAbs+(crP a1 p q).natAbs+(crP a2 p q).natAbs:Nat),by omega,fun v hv=>?_⟩;rcases List.mem_cons.1 hv with rfl|hv;·omega
    · have:=h v hv;omega
def incP(a b c d:Int×Int):Int:=inc a.1 a.2 b.1 b.2 c.1 c.2 d.1 d.2
def sqD(a b:Int×Int):Int:=(a.1-b.1)*(a.1-b.1)+(a.2-b.2)*(a.2-b.2)
theorem sqD_nonneg(a b:Int×Int):0≤sqD a b:=by have h1:=sq_nonneg (a.1-b.1);have h2:=sq_nonneg (a.2-b.2);unfold sqD;omega
theorem incP_cyc(a b c d:Int×Int):incP b c a d=incP a b c d:=inc_cyc _ _ _ _ _ _ _ _
theorem incP_a(a b c:Int×Int):incP a b c a=0:=inc_a _ _ _ _ _ _
theorem incP_b(a b c:Int×Int):incP a b c b=0:=inc_b _ _ _ _ _ _
theorem incP_c(a b c:Int×Int):incP a b c c=0:=inc_c _ _ _ _ _ _
theorem incP_at(a b c p:Int×Int):incP a b c p=crP b c p*sqD a b+crP a b p*sqD c b-crP a b c*sqD p b:=by unfold incP inc crP crs sqD;grind
theorem incP_last(x y z p:Int×Int):incP x y p z=incP y x z p:=by unfold incP inc;grind
theorem incP_swap(x y z p:Int×Int):incP y x z p=-incP x y z p:=by unfold incP inc;grind
theorem incP_pencil(x y s p q:Int×Int):crP x y p*incP x y s q-crP x y s*incP x y p q=incP x y s p*crP x y q:=by unfold incP inc crP crs;grind
theorem crP_lin(x y p u v q:Int×Int):crP x y p*crP u v q=crP y p q*crP u v x+crP p x q*crP u v y+crP x y q*crP u v p:=by unfold crP crs;grind
theorem cap_in{a b c p:Int×Int}(hD:0<crP a b c)(hi:0<incP a b c p)(hb:crP a b p≤0):0<crP b c p∧0<crP c a p:=by
  constructor
  · refine Int.not_le.1 fun hc=>?_;have e:=incP_at a b c p;have h1:=Int.mul_nonpos_of_nonpos_of_nonneg hc (sqD_nonneg a b);have h2:=Int.mul_nonpos_of_nonpos_of_nonneg hb (sqD_nonneg c b);have h3:=Int.mul_nonneg (Int.le_of_lt hD) (sqD_nonneg p b);omega
  · refine Int.not_le.1 fun hc=>?_;have e:=incP_at c a b p;rw[show incP c a b p=incP a b c p from(incP_cyc c a b p).symm,show crP c a b=crP a b c from(crP_cyc c a b).symm] at e;have h1:=Int.mul_nonpos_of_nonpos_of_nonneg hb (sqD_nonneg c a);have h2:=Int.mul_nonpos_of_nonpos_of_nonneg hc (sqD_nonneg b a);have h3:=Int.mul_nonneg (Int.le_of_lt hD) (sqD_nonneg p a);omega
theorem disc_out{x y s z q:Int×Int}(hs:0<crP x y s)(hz:crP x y z<0)(hl:incP x y s z≤0)(hq:crP x y q≤0)(hi:0<incP x y s q):0<incP y x z q:=by have e:=incP_pencil x y s z q;rw[incP_swap];refine Int.not_le.1 fun hc=>?_;have h1:=Int.mul_neg_of_neg_of_pos hz hi;have h2:=Int.mul_nonneg_of_nonpos_of_nonpos hl hq;have h3:0≤crP x y s*incP x y z q:=Int.mul_nonneg (Int.le_of_lt hs) (by omega);omega
theorem spoke_ok{x p y w:Int×Int}{A gx gy:Int}(hA:0≤A)(hp:0<gx*(p.1-x.1)+gy*(p.2-x.2)-A*sqD p x)(hy:gx*(y.1-x.1)+gy*(y.2-x.2)-A*sqD y x≤0)(hw:gx*(w.1-x.1)+gy*(w.2-x.2)-A*sqD w x≤0)(h1:0<crP w x p)(h2:0<crP x y p):incP w x p y≤0:=by
  have e:=incP_at w x p y;have n2:crP x p y=-crP x y p:=by unfold crP crs;grind
  rw[n2] at e;refine Int.not_lt.1 fun hc=>?_;by_cases h3:crP w x y≤0;· have a1:=Int.mul_nonneg (Int.le_of_lt h2) (sqD_nonneg w x);have a2:=Int.mul_nonpos_of_nonpos_of_nonneg h3 (sqD_nonneg p x);have a3:=Int.mul_nonneg (Int.le_of_lt h1) (sqD_nonneg y x);rw[Int.neg_mul] at e;omega
  · have h3:0<crP w x y:=by omega
    have b0:crP w x p*(gx*(y.1-x.1)+gy*(y.2-x.2))=crP w x y*(gx*(p.1-x.1)+gy*(p.2-x.2))-crP x y p*(gx*(w.1-x.1)+gy*(w.2-x.2)):=by unfold crP crs;grind
    have c1:=Int.mul_pos h3 hp;have c2:=Int.mul_nonpos_of_nonneg_of_nonpos (Int.le_of_lt h2) hw;have c3:=Int.mul_nonpos_of_nonneg_of_nonpos (Int.le_of_lt h1) hy;have c4:=Int.mul_nonneg hA (Int.le_of_lt hc);rw[e] at c4;have k:A*(-crP x y p*sqD w x+crP w x y*sqD p x-crP w x p*sqD y x)=-(crP x y p*(A*sqD w x))+crP w x y*(A*sqD p x)-crP w x p*(A*sqD y x):=by grind
    rw[k] at c4;rw[Int.mul_sub] at c1 c2 c3;omega
theorem real_pivot(x b c:Int×Int):∃gx gy:Int,∀q,incP x b c q=gx*(q.1-x.1)+gy*(q.2-x.2)-crP x b c*sqD q x:=by refine⟨sqD b x*(c.2-x.2)-sqD c x*(b.2-x.2),sqD c x*(b.1-x.1)-sqD b x*(c.1-x.1),fun q=>?_⟩;unfold incP inc crP crs sqD;grind
theorem cover_on{x y s p q:Int×Int}(hD:0<crP x y s)(hp:0<crP x y p)(h1:0<crP y s p)(h2:crP s x p<0)(q0:0≤crP x y q)(q1:0≤crP y p q)(q2:0≤crP p x q):(0≤crP y s q∧0≤crP s x q)∨(0<crP x s q∧0≤crP s p q∧0≤crP p x q):=by
  have n1:∀a b c:Int×Int,crP b a c=-crP a b c:=fun a b c=>by unfold crP crs;grind
  by_cases h:0≤crP s x q
  · left;refine⟨?_,h⟩;refine Int.not_lt.1 fun hc=>?_;have e:=crP_lin x y p y s q;rw[show crP y s y=0 by unfold crP crs;grind,show crP y s x=crP x y s by unfold crP crs;grind] at e;have a1:=Int.mul_neg_of_pos_of_neg hp hc;have a2:=Int.mul_nonneg q1 (Int.le_of_lt hD);have a3:=Int.mul_nonneg q0 (Int.le_of_lt h1);omega
  · right;refine⟨by rw[n1];omega,?_,q2⟩;refine Int.not_lt.1 fun hc=>?_;have e:=crP_lin x y p s p q;rw[show crP s p p=0 by unfold crP crs;grind,show crP s p x=-crP s x p by unfold crP crs;grind,show crP s p y=crP y s p by unfold crP crs;grind] at e;have a1:=Int.mul_neg_of_pos_of_neg hp hc;have a2:=Int.mul_nonneg q1 (show 0≤-crP s x p by omega);have a3:=Int.mul_nonneg q2 (Int.le_of_lt h1);omega
theorem cover_on'{x y s p q:Int×Int}(hD:0<crP x y s)(hp:0<crP x y p)(h1:crP y s p<0)(h2:0<crP s x p)(q0:0≤crP x y q)(q1:0≤crP y p q)(q2:0≤crP p x q):(0≤crP y s q∧0≤crP s x q)∨(0<crP s y q∧0≤crP y p q∧0≤crP p s q):=by
  have n1:∀a b c:Int×Int,crP b a c=-crP a b c:=fun a b c=>by unfold crP crs;grind
  by_cases h:0≤crP y s q
  · left;refine⟨h,?_⟩;refine Int.not_lt.1 fun hc=>?_;have e:=crP_lin x y p s x q;rw[show crP s x x=0 by unfold crP crs;grind,show crP s x y=crP x y s by unfold crP crs;grind] at e;have a1:=Int.mul_neg_of_pos_of_neg hp hc;have a2:=Int.mul_nonneg q2 (Int.le_of_lt hD);have a3:=Int.mul_nonneg q0 (Int.le_of_lt h2);omega
  · right;refine⟨by rw[n1];omega,q1,?_⟩;refine Int.not_lt.1 fun hc=>?_;have e:=crP_lin x y p p s q;rw[show crP p s p=0 by unfold crP crs;grind,show crP p s x=crP s x p by unfold crP crs;grind,show crP p s y=-crP y s p by unfold crP crs;grind] at e;have a1:=Int.mul_neg_of_pos_of_neg hp hc;have a2:=Int.mul_nonneg q1 (Int.le_of_lt h2);have a3:=Int.mul_nonneg q2 (show 0≤-crP y s p by omega);omega
theorem cover_in{x y s p q:Int×Int}(hp:0<crP x y p)(hD:0<crP x y s)(h1:0≤crP y s p)(h2:0≤crP s x p)(q0:0≤crP x y q)(q1:0≤crP y p q)(q2:0≤crP p x q):0≤crP y s q∧0≤crP s x q:=by
  constructor
  · refine Int.not_lt.1 fun hc=>?_;have e:=crP_lin x y p y s q;rw[show crP y s y=0 by unfold crP crs;grind,show crP y s x=crP x y s by unfold crP crs;grind] at e;have a1:=Int.mul_neg_of_pos_of_neg hp hc;have a2:=Int.mul_nonneg q1 (Int.le_of_lt hD);have a3:=Int.mul_nonneg q0 h1;omega
  · refine Int.not_lt.1 fun hc=>?_;have e:=crP_lin x y p s x q;rw[show crP s x x=0 by unfold crP crs;grind,show crP s x y=crP x y s by unfold crP crs;grind] at e;have a1:=Int.mul_neg_of_pos_of_neg hp hc;have a2:=Int.mul_nonneg q2 (Int.le_of_lt hD);have a3:=Int.mul_nonneg q0 h2;omega
def crD(d p a:Int×Int):Int:=d.1*(a.2-p.2)-d.2*(a.1-p.1)
def doD(d p a:Int×Int):Int:=d.1*(a.1-p.1)+d.2*(a.2-p.2)
def upA(d p a:Int×Int):Prop:=0<crD d p a∨(crD d p a=0∧0<doD d p a)
def ltA(d p a b:Int×Int):Prop:=(upA d p a∧¬upA d p b)∨((upA d p a↔upA d p b)∧0<crP p a b)
theorem crD_mid(d p a b c:Int×Int):crP p a c*crD d p b=crP p a b*crD d p c+crP p b c*crD d p a:=by unfold crP crs crD;grind
theorem crD_rot(d p a b:Int×Int):(d.1*d.1+d.2*d.2)*crP p a b=doD d p a*crD d p b-crD d p a*doD d p b:=by unfold crP crs crD doD;grind
theorem cr_pos{d p a b:Int×Int}(hd:d≠(0,0))(h:0<crP p a b):0<doD d p a*crD d p b-crD d p a*doD d p b:=by
  rw[←crD_rot];refine Int.mul_pos ?_ h;have h1:=sq_nonneg d.1;have h2:=sq_nonneg d.2;by_cases hx:d.1=0;·have:=sq_pos (x:=d.2) (fun e=>hd (Prod.ext hx e));omega
  ·have:=sq_pos hx;omega
theorem ltA_irr(d p a:Int×Int):¬ltA d p a a:=by
  rintro(⟨h1,h2⟩|⟨-,h⟩);·exact h2 h1
  ·rw[show crP p a a=0 by unfold crP crs;grind] at h;omega
theorem upA_three{d p a b c:Int×Int}(hd:d≠(0,0))(ha:upA d p a)(hb:upA d p b)(hc:upA d p c)(h1:0<crP p a b)(h2:0<crP p b c):0<crP p a c:=by
  have e1:=cr_pos hd h1;have e2:=cr_pos hd h2;have m:=crD_mid d p a b c;have A:0≤crD d p a:=by rcases ha with h|⟨h,-⟩<;>omega
  have B:0<crD d p b:=by
    rcases hb with h|⟨h,h'⟩;·exact h
    · rw[h,Int.mul_zero] at e1;have:=Int.mul_nonneg A (Int.le_of_lt h');omega
  have C:0<crD d p c:=by
    rcases hc with h|⟨h,h'⟩;·exact h
    · rw[h,Int.mul_zero] at e2;have:=Int.mul_pos B h';omega
  refine Int.not_le.1 fun hn=>?_;have a1:=Int.mul_nonpos_of_nonpos_of_nonneg hn (Int.le_of_lt B);have a2:=Int.mul_pos h1 C;have a3:=Int.mul_nonneg (Int.le_of_lt h2) A;omega
theorem upA_three'{d p a b c:Int×Int}(hd:d≠(0,0))(ha:¬upA d p a)(hb:¬upA d p b)(hc:¬upA d p c)(h1:0<crP p a b)(h2:0<crP p b c):0<crP p a c:=by
  have e1:=cr_pos hd h1;have e2:=cr_pos hd h2;have m:=crD_mid d p a b c;have A:crD d p a≤0:=Int.not_lt.1 fun h=>ha (.inl h);have B:crD d p b<0:=by
    refine Int.not_le.1 fun h=>?_;have h0:crD d p b=0:=by have:=Int.not_lt.1 fun h=>hb (.inl h);omega
    have h':doD d p b≤0:=Int.not_lt.1 fun h=>hb (.inr ⟨h0,h⟩);rw[h0,Int.mul_zero] at e1;have:=Int.mul_nonneg_of_nonpos_of_nonpos A h';omega
  have C:crD d p c<0:=by
    refine Int.not_le.1 fun h=>?_;have h0:crD d p c=0:=by have:=Int.not_lt.1 fun h=>hc (.inl h);omega
    have h':doD d p c≤0:=Int.not_lt.1 fun h=>hc (.inr ⟨h0,h⟩);rw[h0,Int.mul_zero] at e2;have:=Int.mul_nonneg_of_nonpos_of_nonpos (Int.le_of_lt B) h';omega
  refine Int.not_le.1 fun hn=>?_;have a1:=Int.mul_nonneg_of_nonpos_of_nonpos hn (Int.le_of_lt B);have a2:=Int.mul_neg_of_pos_of_neg h1 C;have a3:=Int.mul_nonpos_of_nonneg_of_nonpos (Int.le_of_lt h2) A;omega
theorem ltA_trans{d p a b c:Int×Int}(hd:d≠(0,0))(h1:ltA d p a b)(h2:ltA d p b c):ltA d p a c:=by
  rcases h1 with⟨a1,b1⟩|⟨e1,k1⟩
  · rcases h2 with⟨b2,-⟩|⟨e2,-⟩;·exact absurd b2 b1
    ·exact .inl ⟨a1,fun h=>b1 (e2.2 h)⟩
  · rcases h2 with⟨b2,c2⟩|⟨e2,k2⟩;·exact .inl ⟨e1.2 b2,c2⟩
    · refine .inr ⟨e1.trans e2,?_⟩;by_cases hb:upA d p b;·exact upA_three hd (e1.2 hb) hb (e2.1 hb) k1 k2
      ·exact upA_three' hd (fun h=>hb (e1.1 h)) hb (fun h=>hb (e2.2 h)) k1 k2
theorem ltA_ins{d p a b z:Int×Int}(hd:d≠(0,0))(h:ltA d p a b)(hab:0<crP p a b)(h1:0<crP p a z)(h2:0<crP p z b):ltA d p a z∧ltA d p z b:=by
  have m:=crD_mid d p a z b;by_cases hz:upA d p z
  · by_cases ha:upA d p a
    · refine⟨.inr ⟨iff_of_true ha hz,h1⟩,?_⟩;by_cases hb:upA d p b;·exact .inr ⟨iff_of_true hz hb,h2⟩
      ·exact .inl ⟨hz,hb⟩
    · exfalso;rcases h with⟨h,-⟩|⟨e,-⟩;·exact ha h
      have hb:¬upA d p b:=fun h=>ha (e.2 h);have A:crD d p a≤0:=Int.not_lt.1 fun h=>ha (.inl h);have B:crD d p b≤0:=Int.not_lt.1 fun h=>hb (.inl h);have Z:0≤crD d p z:=by rcases hz with h|⟨h,-⟩<;>omega
      have a1:=Int.mul_nonneg (Int.le_of_lt hab) Z;have a2:=Int.mul_nonpos_of_nonneg_of_nonpos (Int.le_of_lt h1) B;have a3:=Int.mul_nonpos_of_nonneg_of_nonpos (Int.le_of_lt h2) A;have B0:crD d p b=0:=(Int.mul_eq_zero.1 (show crP p a z*crD d p b=0 by omega)).resolve_left (by omega);have A0:crD d p a=0:=(Int.mul_eq_zero.1 (show crP p z b*crD d p a=0 by omega)).resolve_left (by omega);have:=cr_pos hd hab;rw[A0,B0] at this;omega
  · by_cases ha:upA d p a
    · refine⟨.inl ⟨ha,hz⟩,?_⟩;by_cases hb:upA d p b
      · exfalso;have A:0≤crD d p a:=by rcases ha with h|⟨h,-⟩<;>omega
        have B:0≤crD d p b:=by rcases hb with h|⟨h,-⟩<;>omega
        have Z:crD d p z≤0:=Int.not_lt.1 fun h=>hz (.inl h);have a1:=Int.mul_nonpos_of_nonneg_of_nonpos (Int.le_of_lt hab) Z;have a2:=Int.mul_nonneg (Int.le_of_lt h1) B;have a3:=Int.mul_nonneg (Int.le_of_lt h2) A;have B0:crD d p b=0:=(Int.mul_eq_zero.1 (show crP p a z*crD d p b=0 by omega)).resolve_left (by omega);have A0:crD d p a=0:=(Int.mul_eq_zero.1 (show crP p z b*crD d p a=0 by omega)).resolve_left (by omega);have:=cr_pos hd hab;rw[A0,B0] at this;omega
      ·exact .inr ⟨iff_of_false hz hb,h2⟩
    · have hb:¬upA d p b:=by
        rcases h with⟨h,-⟩|⟨e,-⟩;·exact absurd h ha
        ·exact fun h=>ha (e.2 h)
      exact⟨.inr ⟨iff_of_false ha hz,h1⟩,.inr ⟨iff_of_false hz hb,h2⟩⟩
theorem ltA_last{d p a b z:Int×Int}(hd:d≠(0,0))(hb0:crD d p b=0)(hb1:0<doD d p b)(hab:0<crP p a b)(h1:0<crP p a z)(h2:0<crP p z b):ltA d p a z:=by
  have key:∀x,0<crP p x b→¬upA d p x:=fun x hx=>by
    have e:=cr_pos hd hx;rw[hb0,Int.mul_zero] at e;have hn:crD d p x<0:=by refine Int.not_le.1 fun h=>?_;have:=Int.mul_nonneg h (Int.le_of_lt hb1);omega
    rintro(h|⟨h,-⟩)<;>omega
  exact .inr ⟨iff_of_false (key a hab) (key z h2),h1⟩
end Go.MagM
namespace Go.MagM
open Go.RowKit
def Kept(w w':World):Prop:=∀(a:Addr)(x:Int),w.cell? a=some (.int .u64 x)→w'.cell? a=some (.int .u64 x)
theorem Kept.refl(w:World):Kept w w:=fun _ _ h=>h
end Go.MagM
