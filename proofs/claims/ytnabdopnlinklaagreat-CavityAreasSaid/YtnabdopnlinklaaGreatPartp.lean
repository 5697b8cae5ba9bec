/- A region that draws its order, in a round of a loop over a function: by the laws for regions elsewhere. Over any program. -/
import Derived.Test.YtnabdopnlinklaaGreatParth
import Derived.Test.YtnabdopnlinklaaGreatPartg
import Derived.StillTail
import Derived.RangeFuncCalls
import Derived.OwnWalkIn
import Derived.OrdersIn
import Derived.Deep.RegionHeld3
import Derived.Test.YtnabdopnlinklaaGreatMeshN
import Derived.Test.YtnabdopnlinklaaGreatParto
namespace Go.MagM
open Go
section
variable {P : Program} {l n : Nat} {md : Region.Mode} {ops : Array Oper} {Q : Exit → Act → World → Prop}
/-- Q where the region has run to its end; nothing else comes. -/
def OnlyN (Q : Exit → Act → World → Prop) : Exit → Act → World → Prop
  | .normal, a, w => Q .normal a w
  | _, _, _ => False
theorem OnlyN.normal {a : Act} {w : World} (h : Q .normal a w) : OnlyN Q .normal a w := h
end
end Go.MagM
/- mesh's readers: round, border. -/
namespace Go.MagM
open Go.RowKit
theorem owns_turned {w w' : World} {base g : Nat} {e : TypeId} {size : Nat} {v : Value} {n : Nat} {xs : List Value} (h : w.ownsRow base e size v n xs) (ht : Turned w w' g) (hne : v.ownBlock ≠ some g) : w'.ownsRow base e size v n xs := by
 refine ⟨h.1, ?_⟩
 rcases h.2 with hn | ⟨g', cap, cur, rfl, h2, h3, h4⟩
 ·exact .inl hn
 ·exact .inr ⟨g', cap, cur, rfl, h2, (ht.block g' (fun e => hne (by rw [e]; rfl))).trans h3, h4⟩
theorem owns_blow {w w' : World} {base : Nat} {e : TypeId} {size : Nat} {v : Value} {n : Nat} {xs : List Value} (h : w.ownsRow base e size v n xs) (hb : Below w.heap.size w w') : w'.ownsRow base e size v n xs := by
 refine ⟨h.1, ?_⟩
 rcases h.2 with hn | ⟨g, cap, cur, hv, hg, hc, r⟩
 ·exact .inl hn
 ·exact .inr ⟨g, cap, cur, hv, hg, by rw [hb.block g (Array.getElem?_eq_some_iff.1 hc).1]; exact hc, r⟩
/-- A row of one cell an element, as a box. -/
theorem owns_box {w : World} {base g : Nat} {e : TypeId} {size n c : Nat} {xs : List Value} (h : w.ownsRow base e size (.slice (some ⟨g, 0, none⟩) n c) n xs) : Box w g xs := by
 rcases h.2 with ⟨h0, _⟩ | ⟨g', cap, cur, hv, hb, hg, h4, h5, h6, h7⟩
 ·cases h0
 ·simp only [Value.slice.injEq, Option.some.injEq] at hv
  obtain ⟨hv, -, -⟩ := hv
  injection hv with hv
  subst hv
  refine ⟨fun i u hi => ?_, fun i u hi => ?_⟩
  ·have := h.cells (g := g) rfl i u hi
   rwa [addr_add, Nat.zero_add] at this
  ·unfold World.frozen?; rw [hg]; simp
/-- The point of triangle t at place k. -/
def vAt (S : List TriM) (t k : Nat) : Int := match S[t]? with
 | some T => T.v k
 | none => 0
/-- The points that come behind those that are gone round. -/
def rimZ (S : List TriM) (l : List (Nat × Nat)) : List Int := l.map fun x => vAt S x.1 ((x.2 + 1) % 3)
def intCells (l : List Int) : List Value := l.map fun z => .int .i64 z
def borderM (S : List TriM) : List Int := (rimZ S (walkM S (-1) (firstM S (-1)) S.length (firstM S (-1)))).reverse
theorem heap_set_far (w : World) (g i b : Nat) (v : Value) (h : b ≠ g) : (w.setCell ⟨g, i, none⟩ v).heap[b]? = w.heap[b]? := by
 simp only [World.setCell, Array.getElem?_modify]
 rw [if_neg (Ne.symm h)]
end Go.MagM
namespace Go.Proofs.YtnabdopnlinklaaGreat
open Go.RowKit Go.MagM Go.Shelf
attribute [local go_sem] Oper.semAt_some
theorem intCells_len (l : List Int) : (intCells l).length = l.length := by unfold intCells; rw [List.length_map]
theorem infoI : (Tryz.prog.info? 3).map (fun i => (i.zero, i.size, i.bytes)) = some (some (.int .i64 0), 1, 8) := by kernel_rfl
end Go.Proofs.YtnabdopnlinklaaGreat
/- mesh's iterator over all real triangles; the statements' has. -/
namespace Go.MagM
open Go.RowKit
def triV (T : TriM) : Value := .agg #[.int .i64 T.v0, .int .i64 T.v1, .int .i64 T.v2, .int .i64 T.n0, .int .i64 T.n1, .int .i64 T.n2, .bool T.f0, .bool T.f1, .bool T.f2]
/-- The real ones among the first k. -/
def realsK (S : List TriM) : Nat → List (Nat × TriM)
  | 0 => []
  | k + 1 => realsK S k ++ (match S[k]? with
    | some T => if realT T = true then [(k, T)] else []
    | none => [])
theorem realsK_yes {S : List TriM} {k : Nat} {T : TriM} (h : S[k]? = some T) (hr : realT T = true) : realsK S (k + 1) = realsK S k ++ [(k, T)] := by
  rw [realsK, h]; simp only []; rw [if_pos hr]
end Go.MagM
namespace Go.Proofs.YtnabdopnlinklaaGreat
open Go.RowKit Go.MagM Go.Shelf
attribute [local go_sem] Oper.semAt_some
end Go.Proofs.YtnabdopnlinklaaGreat
