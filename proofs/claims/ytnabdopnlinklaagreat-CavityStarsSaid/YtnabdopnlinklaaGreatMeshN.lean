/- mesh's iterators: round (from a first triangle on). -/
import Derived.RangeFuncBox
import Derived.RangeFuncCalls
import Derived.RangeFuncLeaves
import Derived.Shelf.Abstract
import Derived.Shelf.RegionOpen
import Derived.WalkKit
import Derived.OwnWalkIn
import Derived.TacticsInMore
import Derived.LoopNIn
import Derived.LoopIn
import Derived.Test.YtnabdopnlinklaaGreatPartm
namespace Go.MagM
open Go.RowKit
/-- These blocks stay. -/
def KeepB (Pb : Nat → Prop) (W W' : World) : Prop := ∀ b, Pb b → W'.heap[b]? = W.heap[b]?
theorem KeepB.refl (Pb : Nat → Prop) (W : World) : KeepB Pb W W := fun _ _ => rfl
theorem KeepB.trans {Pb : Nat → Prop} {A B C : World} (h : KeepB Pb A B) (k : KeepB Pb B C) : KeepB Pb A C := fun b hb => (k b hb).trans (h b hb)
theorem KeepB.cell {Pb : Nat → Prop} {A B : World} (h : KeepB Pb A B) {b o : Nat} (hb : Pb b) : B.cell? ⟨b, o, none⟩ = A.cell? ⟨b, o, none⟩ := World.cell?_of_block (a := ⟨b, o, none⟩) (h b hb)
theorem KeepB.of_below {Pb : Nat → Prop} {m : Nat} {A B : World} (h : Below m A B) (hp : ∀ b, Pb b → b < m) : KeepB Pb A B := fun b hb => h.block b (hp b hb)
theorem KeepB.drew {Pb : Nat → Prop} {A B : World} (h : KeepB Pb A B) (q : Nat) : KeepB Pb A (B.drewN q) := fun b hb => h b hb
/-- A mesh lies in blocks that stay. -/
structure MeshIn (Pb : Nat → Prop) (mb pb : Nat) (ta : Option Addr) : Prop where
 m : Pb mb
 p : Pb pb
 t : ∀ b, ta = some ⟨b, 0, none⟩ → Pb b
theorem MeshR.keep {w w' : World} {mb pb pc : Nat} {ta : Option Addr} {tc : Nat} {P : List (Int × Int)} {S : List TriM} {Pb : Nat → Prop} (h : MeshR w mb pb pc ta tc P S) (hi : MeshIn Pb mb pb ta) (hk : KeepB Pb w w') : MeshR w' mb pb pc ta tc P S := by
 refine ⟨⟨fun i v hv => (hk.cell hi.m).trans (h.box.c i v hv), fun i v hv => ?_⟩, fun i x y hi' => ?_, fun i T hT => ?_, h.short⟩
 ·have e := hk mb hi.m
  exact (World.frozen?_of_block (a := ⟨mb, i, none⟩) e).trans (h.box.f i v hv)
 ·obtain ⟨h1, h2⟩ := h.pts i x y hi'
  exact ⟨(hk.cell hi.p).trans h1, (hk.cell hi.p).trans h2⟩
 ·obtain ⟨b, h0, h1⟩ := h.tris i T hT
  exact ⟨b, h0, fun j v hj => (hk.cell (hi.t b h0)).trans (h1 j v hj)⟩
/-- The next one, round v to the left. -/
def stepM (S : List TriM) (v t : Int) : Int := match getT S t with
 | none => -1
 | some T => T.n (((placeT T v).toNat + 1) % 3)
/-- Round v: from t on, no more than so many, till the first one comes again. -/
def walkM (S : List TriM) (v first : Int) : Nat → Int → List (Nat × Nat)
 | 0, _ => []
 | n + 1, t => if placeM S t v = -1 then [] else (t.toNat, (placeM S t v).toNat) :: (if stepM S v t = first then [] else walkM S v first n (stepM S v t))
end Go.MagM
namespace Go.Proofs.YtnabdopnlinklaaGreat
open Go.RowKit Go.MagM Go.Shelf
attribute [local go_sem] Oper.semAt_some
end Go.Proofs.YtnabdopnlinklaaGreat
