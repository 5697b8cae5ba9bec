import Derived.Test.YtdmfbkhafnkcfaaGreatWalkE
import Derived.StillTailTactics
import Derived.BigRegion
import Derived.Test.YtdmfbkhafnkcfaaGreatKit
set_option linter.unusedSimpArgs false
set_option linter.unusedVariables false
namespace Go.Proofs.YtdmfbkhafnkcfaaGreat
open Go.RowKit Go.MagM
theorem bl_V{f:Nat→Nat}{k:Nat}(hf:∀i,i<k→f i<B)(h:f k≠0):bl (V f (k+1))=k*64+bl (f k):=by
  have h1:=V_lt hf;have h2:=bl_lt (f k);have h3:=bl_ge h;have h4:=bl_pos h;have hB:B^k=2^(k*64):=by rw[Bpow_two,Nat.mul_comm]
  rw[hB] at h1;rw[V_succ,hB];apply bl_unique
  · rw[Nat.pow_add];have h5:=Nat.mul_le_mul_right (2^(k*64)) (show f k+1≤2^bl (f k) from h2);rw[Nat.add_mul] at h5;rw[Nat.mul_comm (2^(k*64)) (2^bl (f k))];omega
  · intro h0;have:=Nat.mul_pos (show 0<f k by omega) (Nat.pow_pos (n:=k*64) (show 0<2 by omega));omega
  · intro _;refine⟨?_,by omega⟩;rw[show k*64+bl (f k)-1=bl (f k)-1+k*64 from by omega,Nat.pow_add];have:=Nat.mul_le_mul_right (2^(k*64)) h3;omega
set_option maxHeartbeats 1000000 in theorem Len_any(va:Value)(L X:Nat)(w:World)(hL:L≤4000000000)(ha:Mag w va L X):Calls Tryz.prog 171 #[va] w fun e w'=>e= .returned (.int .i64 ((bl X:Nat):Int))∧w=w':=by
  obtain⟨ao,n0,ca,f,rfl,hnc,hnL,hra,hX⟩:=ha;have htn:=tlen_le f n0;have rf:=tlen_right f n0;rw[←tlen_V] at hX;have hra':=hra.less htn;have T1:=Lib.hid (trim_any ao n0 ca w (by omega) f hnc hra);obtain⟨n,hn⟩:∃n,tlen f n0=n:=⟨_,rfl⟩;rw[hn] at T1 hX htn hra' rf;have hn9:n≤4000000000:=by omega
  have HX:=Lib.hid hX;have HA:=Lib.hid hra';have HR:=Lib.hid rf;clear hX hra' hn hra rf;cases n with
  |zero=>
    have h0:bl X=0:=by rw[←HX.out];rfl
    have H0:=Lib.hid h0;clear h0;go_enter Tryz.func171,Tryz.ntmps171;go_wp2_with fail;refine T1.out.mono ?_;rintro e w1 ⟨rfl,rfl⟩;go_wp2;go_ret;exact⟨by rw[H0.out];rfl,rfl⟩|succ k=>
    have h0:bl X=k*64+bl (f k):=by rw[←HX.out];exact bl_V (fun i hi=>HA.out.lt i (by omega)) (HR.out k rfl)
    obtain⟨ab,aoff,rfl,hc,hl⟩:=HA.out k (by omega);have hb64:bl (f k)≤64:=by
      have h1:=bl_ge (HR.out k rfl);have h2:=(Nat.pow_lt_pow_iff_right (show 1<2 by omega)).1 (show 2^(bl (f k)-1)<2^64 by unfold B at hl;omega);omega
    have H0:=Lib.hid h0;have HL:=Lib.hid hl;clear h0 hl;have hne:(((k:Int)+1)==0)=false:=by simp only[beq_eq_false_iff_ne];omega
    go_enter Tryz.func171,Tryz.ntmps171;go_wp2_with fail;refine T1.out.mono ?_;rintro e w1 ⟨rfl,rfl⟩;go_wp2_with (go_at_call 225;refine(len64_any _ _ HL.out).mono ?_;rintro e w1 ⟨rfl,rfl⟩);go_ret;refine⟨ret1 (k:= .i64) ?_,rfl⟩;rw[H0.out];go_arith
end Go.Proofs.YtdmfbkhafnkcfaaGreat
namespace Go.RowKit
theorem Below.drew'{M:Nat}{w w':World}(h:Below M w w'):Below M w w'.drew:=⟨h.os,h.tape,h.output,h.size,h.block⟩
end Go.RowKit
namespace Go.MagM
open Go.RowKit
def sgn(m:Bool)(N:Nat):Int:=if m then-(N:Int) else(N:Int)
def Num(w:World)(v:Value)(L:Nat)(X:Int):Prop:=∃m vm N,v= .agg #[.bool m,vm]∧Mag w vm L N∧X=sgn m N
def RNum(w:World)(v:Value)(L:Nat)(X:Int):Prop:=∃m vm N,v= .agg #[.bool m,vm]∧RMag w vm L N∧X=sgn m N∧(m=true→N≠0)
theorem Num.below{w w':World}{v:Value}{L:Nat}{X:Int}(h:Num w v L X)(hb:Below w.heap.size w w'):Num w' v L X:=by obtain⟨m,vm,N,h1,h2,h3⟩:=h;exact⟨m,vm,N,h1,h2.below hb,h3⟩
theorem RNum.below{w w':World}{v:Value}{L:Nat}{X:Int}(h:RNum w v L X)(hb:Below w.heap.size w w'):RNum w' v L X:=by obtain⟨m,vm,N,h1,h2,h3,h4⟩:=h;exact⟨m,vm,N,h1,h2.below hb,h3,h4⟩
theorem RNum.num{w:World}{v:Value}{L:Nat}{X:Int}(h:RNum w v L X):Num w v L X:=by obtain⟨m,vm,N,h1,h2,h3,h4⟩:=h;exact⟨m,vm,N,h1,h2.mag,h3⟩
theorem RNum.more{w:World}{v:Value}{L L':Nat}{X:Int}(h:RNum w v L X)(hL:L≤L'):RNum w v L' X:=by obtain⟨m,vm,N,h1,h2,h3,h4⟩:=h;exact⟨m,vm,N,h1,h2.more hL,h3,h4⟩
theorem RNum.of{w:World}{v:Value}{L:Nat}{X Y:Int}(h:RNum w v L X)(e:X=Y):RNum w v L Y:=e▸h
structure Box2(w:World)(g:Nat)(u v:Value):Prop where
  c0:w.cell? ⟨g,0,none⟩=some u
  c1:w.cell? ⟨g,1,none⟩=some v
  f0:w.frozen? ⟨g,0,none⟩=false
  f1:w.frozen? ⟨g,1,none⟩=false
theorem Box2.below{w w':World}{g:Nat}{u v:Value}(h:Box2 w g u v)(hb:Below w.heap.size w w'):Box2 w' g u v:=by have h0:=World.block_lt_of_cell? w _ h.c0;exact⟨(hb.cell (p:=⟨g,0,none⟩) h0).trans h.c0,(hb.cell (p:=⟨g,1,none⟩) h0).trans h.c1,(hb.frozen (p:=⟨g,0,none⟩) h0).trans h.f0,(hb.frozen (p:=⟨g,1,none⟩) h0).trans h.f1⟩
theorem Box2.set0{w:World}{g:Nat}{u v:Value}(h:Box2 w g u v)(x:Value):Box2 (w.setCell ⟨g,0,none⟩ x) g x v:=⟨World.cell?_setCell_same _ _ _ h.c0,(World.cell?_setCell_other _ _ _ _ (by simp)).trans h.c1,(World.frozen?_setCell _ _ _ _).trans h.f0,(World.frozen?_setCell _ _ _ _).trans h.f1⟩
theorem Box2.set1{w:World}{g:Nat}{u v:Value}(h:Box2 w g u v)(x:Value):Box2 (w.setCell ⟨g,1,none⟩ x) g u x:=⟨(World.cell?_setCell_other _ _ _ _ (by simp)).trans h.c0,World.cell?_setCell_same _ _ _ h.c1,(World.frozen?_setCell _ _ _ _).trans h.f0,(World.frozen?_setCell _ _ _ _).trans h.f1⟩
theorem Box2.far{w:World}{g g':Nat}{u v:Value}(h:Box2 w g u v)(hne:g≠g')(o:Nat)(x:Value):Box2 (w.setCell ⟨g',o,none⟩ x) g u v:=by
  have ne:∀i j,(⟨g',i,none⟩:Addr)≠⟨g,j,none⟩:=by intro i j e;injection e with e1;exact hne e1.symm
  have ne':∀i j,(⟨g,i,none⟩:Addr)≠⟨g',j,none⟩:=by intro i j e;injection e with e1;exact hne e1
  refine⟨?_,?_,(World.frozen?_setCell _ _ _ _).trans h.f0,(World.frozen?_setCell _ _ _ _).trans h.f1⟩;·rw[World.cell?_setCell_other _ _ _ _ (by first|exact ne _ _|exact ne' _ _)];exact h.c0
  ·rw[World.cell?_setCell_other _ _ _ _ (by first|exact ne _ _|exact ne' _ _)];exact h.c1
theorem Box2.drew{w:World}{g:Nat}{u v:Value}(h:Box2 w g u v):Box2 w.drew g u v:=⟨h.c0,h.c1,h.f0,h.f1⟩
theorem Mag.drew{w:World}{v:Value}{L N:Nat}(h:Mag w v L N):Mag w.drew v L N:=h
theorem alloc_box(w:World)(u v:Value)(T:TypeId):Box2 (w.alloc (.cells #[u,v] T)) w.heap.size u v:=by constructor<;>simp[go_sem]
theorem Box2.alloc{w:World}{g:Nat}{u v:Value}(h:Box2 w g u v)(o:Obj):Box2 (w.alloc o) g u v:=h.below ((Below.refl _ _).alloc (Nat.le_refl _) _)
theorem alloc_size(w:World)(o:Obj):(w.alloc o).heap.size=w.heap.size+1:=by simp
theorem boxed1(w:World)(u0 u1:Value)(T:TypeId):Box2 (w.alloc (.cells #[u0,u1] T)) w.heap.size u0 u1∧Below w.heap.size w (w.alloc (.cells #[u0,u1] T)):=⟨alloc_box _ _ _ _,(Below.refl _ _).alloc (Nat.le_refl _) _⟩
theorem boxed2(w:World)(u0 u1 v0 v1:Value)(T:TypeId):Box2 ((w.alloc (.cells #[u0,u1] T)).alloc (.cells #[v0,v1] T)) w.heap.size u0 u1∧Box2 ((w.alloc (.cells #[u0,u1] T)).alloc (.cells #[v0,v1] T)) (w.heap.size+1) v0 v1∧Below w.heap.size w ((w.alloc (.cells #[u0,u1] T)).alloc (.cells #[v0,v1] T)):=by have h:=alloc_box (w.alloc (.cells #[u0,u1] T)) v0 v1 T;rw[alloc_size] at h;exact⟨(alloc_box _ _ _ _).alloc _,h,((Below.refl _ _).alloc (Nat.le_refl _) _).alloc (by simp) _⟩
theorem boxed3(w:World)(u0 u1 v0 v1 x0 x1:Value)(T:TypeId):Box2 (((w.alloc (.cells #[u0,u1] T)).alloc (.cells #[v0,v1] T)).alloc (.cells #[x0,x1] T)) w.heap.size u0 u1∧Box2 (((w.alloc (.cells #[u0,u1] T)).alloc (.cells #[v0,v1] T)).alloc (.cells #[x0,x1] T)) (w.heap.size+1) v0 v1∧Box2 (((w.alloc (.cells #[u0,u1] T)).alloc (.cells #[v0,v1] T)).alloc (.cells #[x0,x1] T)) (w.heap.size+1+1) x0 x1∧Below w.heap.size w (((w.alloc (.cells #[u0,u1] T)).alloc (.cells #[v0,v1] T)).alloc (.cells #[x0,x1] T)):=by obtain⟨h1,h2,h3⟩:=boxed2 w u0 u1 v0 v1 T;have h:=alloc_box ((w.alloc (.cells #[u0,u1] T)).alloc (.cells #[v0,v1] T)) x0 x1 T;rw[alloc_size,alloc_size] at h;exact⟨h1.alloc _,h2.alloc _,h,h3.alloc (by simp;omega) _⟩
def NoInt(u:Value):Prop:=∀k x,u≠ .int k x
theorem NoInt.bool(b:Bool):NoInt (.bool b):=fun _ _ h=>by cases h
theorem NoInt.slice(a:Option Addr)(n c:Nat):NoInt (.slice a n c):=fun _ _ h=>by cases h
theorem Reads.setCell{w:World}{ao:Option Addr}{n:Nat}{f:Nat→Nat}(hr:Reads w ao n f){a:Addr}{u:Value}(hc:w.cell? a=some u)(hu:NoInt u)(v:Value):Reads (w.setCell a v) ao n f:=by
  intro i hi;obtain⟨b,o,e,h1,h2⟩:=hr i hi;refine⟨b,o,e,?_,h2⟩;have ne:a≠⟨b,o+i,none⟩:=by
    intro h;rw[h,h1] at hc;exact hu _ _ (Option.some.inj hc).symm
  rw[World.cell?_setCell_other _ _ _ _ (by first|exact ne|exact ne.symm)];exact h1
theorem Mag.setCell{w:World}{v:Value}{L N:Nat}(h:Mag w v L N){a:Addr}{u:Value}(hc:w.cell? a=some u)(hu:NoInt u)(x:Value):Mag (w.setCell a x) v L N:=by obtain⟨ao,n,c,f,h1,h2,h3,h4,h5⟩:=h;exact⟨ao,n,c,f,h1,h2,h3,h4.setCell hc hu x,h5⟩
theorem RMag.setCell{w:World}{v:Value}{L N:Nat}(h:RMag w v L N){a:Addr}{u:Value}(hc:w.cell? a=some u)(hu:NoInt u)(x:Value):RMag (w.setCell a x) v L N:=by obtain⟨ao,n,c,f,h1,h2,h3,h4,h5⟩:=h;exact⟨ao,n,c,f,h1,h2,h3,h4.setCell hc hu x,h5⟩
theorem RNum.setCell{w:World}{v:Value}{L:Nat}{N:Int}(h:RNum w v L N){a:Addr}{u:Value}(hc:w.cell? a=some u)(hu:NoInt u)(x:Value):RNum (w.setCell a x) v L N:=by obtain⟨m,vm,M,h1,h2,h3⟩:=h;exact⟨m,vm,M,h1,h2.setCell hc hu x,h3⟩
theorem RNum.set2{w:World}{v:Value}{L:Nat}{N:Int}(h:RNum w v L N){g:Nat}{b:Bool}{ao:Option Addr}{n c:Nat}(hb:Box2 w g (.bool b) (.slice ao n c))(x y:Value):RNum ((w.setCell ⟨g,0,none⟩ x).setCell ⟨g,1,none⟩ y) v L N:=(h.setCell hb.c0 (NoInt.bool _) x).setCell (hb.set0 x).c1 (NoInt.slice _ _ _) y
theorem Mag.set2{w:World}{v:Value}{L N:Nat}(h:Mag w v L N){g:Nat}{b:Bool}{ao:Option Addr}{n c:Nat}(hb:Box2 w g (.bool b) (.slice ao n c))(x y:Value):Mag ((w.setCell ⟨g,0,none⟩ x).setCell ⟨g,1,none⟩ y) v L N:=(h.setCell hb.c0 (NoInt.bool _) x).setCell (hb.set0 x).c1 (NoInt.slice _ _ _) y
theorem Mag.slice{w:World}{v:Value}{L N:Nat}(h:Mag w v L N):∃ao n c,v= .slice ao n c:=by obtain⟨ao,n,c,f,h1,_⟩:=h;exact⟨ao,n,c,h1⟩
theorem Box2.set2{w:World}{g:Nat}{u v:Value}(h:Box2 w g u v)(x y:Value):Box2 ((w.setCell ⟨g,0,none⟩ x).setCell ⟨g,1,none⟩ y) g x y:=(h.set0 x).set1 y
theorem Box2.far2{w:World}{g g':Nat}{u v:Value}(h:Box2 w g u v)(hne:g≠g')(x y:Value):Box2 ((w.setCell ⟨g',0,none⟩ x).setCell ⟨g',1,none⟩ y) g u v:=(h.far hne 0 x).far hne 1 y
theorem below_set2{M:Nat}{w w':World}(h:Below M w w'){g:Nat}(hg:M≤g)(x y:Value):Below M w ((w'.setCell ⟨g,0,none⟩ x).setCell ⟨g,1,none⟩ y):=(h.setCell (p:=⟨g,0,none⟩) hg x).setCell (p:=⟨g,1,none⟩) hg y
theorem sgn_mul(m k:Bool)(N M:Nat):sgn (m !=k) (N*M)=sgn m N*sgn k M:=by cases m<;>cases k<;>simp[sgn,Int.natCast_mul,Int.neg_mul,Int.mul_neg]
theorem sgn_add(m:Bool)(N M:Nat):sgn m (N+M)=sgn m N+sgn m M:=by cases m<;>simp only[sgn,if_true,if_false,Bool.false_eq_true]<;>omega
theorem sgn_sub(m:Bool)(N M:Nat)(h:M≤N):sgn m (N-M)=sgn m N+sgn (!m) M:=by cases m<;>simp only[sgn,if_true,if_false,Bool.false_eq_true,Bool.not_true,Bool.not_false]<;>omega
theorem sgn_flip(m:Bool)(N M:Nat)(h:N≤M):sgn (!m) (M-N)=sgn m N+sgn (!m) M:=by cases m<;>simp only[sgn,if_true,if_false,Bool.false_eq_true,Bool.not_true,Bool.not_false]<;>omega
theorem sgn_false(N:Nat):sgn false N=(N:Int):=rfl
theorem sgn_true(N:Nat):sgn true N=-(N:Int):=rfl
end Go.MagM
