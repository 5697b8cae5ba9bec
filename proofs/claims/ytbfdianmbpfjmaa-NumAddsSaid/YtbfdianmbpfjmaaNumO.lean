/- Sums of two and three, and of none. -/
import Derived.Test.YtbfdianmbpfjmaaNumM
namespace Go.Proofs.Ytbfdianmbpfjmaa
open Go.RowKit Go.MagM
theorem nums_two (w : World) (T : TypeId) {L1 L2 : Nat} {X Y : Int} {m1 m2 : Bool} {o1 o2 : Option Addr} {n1 c1 n2 c2 : Nat} (h1 : Num w (.agg #[.bool m1, .slice o1 n1 c1]) L1 X) (h2 : Num w (.agg #[.bool m2, .slice o2 n2 c2]) L2 Y) :
    Nums (w.alloc (.cells #[.bool m1, .slice o1 n1 c1, .bool m2, .slice o2 n2 c2] T)) (some ⟨w.heap.size, 0, none⟩) [(L1, X), (L2, Y)] := by
  have hb : Below w.heap.size w (w.alloc (.cells #[.bool m1, .slice o1 n1 c1, .bool m2, .slice o2 n2 c2] T)) := (Below.refl _ _).alloc (Nat.le_refl _) _
  intro i L Z hi
  have hi2 : i < 2 := by have := (List.getElem?_eq_some_iff.1 hi).1; simpa using this
  obtain rfl | rfl : i = 0 ∨ i = 1 := by omega
  · simp at hi; obtain ⟨rfl, rfl⟩ := hi
    exact ⟨_, 0, m1, o1, n1, c1, rfl, by simp [go_sem], by simp [go_sem], h1.below hb⟩
  · simp at hi; obtain ⟨rfl, rfl⟩ := hi
    exact ⟨_, 0, m2, o2, n2, c2, rfl, by simp [go_sem], by simp [go_sem], h2.below hb⟩
theorem nums_three (w : World) (T : TypeId) {L1 L2 L3 : Nat} {X Y Z : Int} {m1 m2 m3 : Bool} {o1 o2 o3 : Option Addr} {n1 c1 n2 c2 n3 c3 : Nat} (h1 : Num w (.agg #[.bool m1, .slice o1 n1 c1]) L1 X) (h2 : Num w (.agg #[.bool m2, .slice o2 n2 c2]) L2 Y) (h3 : Num w (.agg #[.bool m3, .slice o3 n3 c3]) L3 Z) :
    Nums (w.alloc (.cells #[.bool m1, .slice o1 n1 c1, .bool m2, .slice o2 n2 c2, .bool m3, .slice o3 n3 c3] T)) (some ⟨w.heap.size, 0, none⟩) [(L1, X), (L2, Y), (L3, Z)] := by
  have hb : Below w.heap.size w (w.alloc (.cells #[.bool m1, .slice o1 n1 c1, .bool m2, .slice o2 n2 c2, .bool m3, .slice o3 n3 c3] T)) := (Below.refl _ _).alloc (Nat.le_refl _) _
  intro i L Z hi
  have hi2 : i < 3 := by have := (List.getElem?_eq_some_iff.1 hi).1; simpa using this
  obtain rfl | rfl | rfl : i = 0 ∨ i = 1 ∨ i = 2 := by omega
  · simp at hi; obtain ⟨rfl, rfl⟩ := hi
    exact ⟨_, 0, m1, o1, n1, c1, rfl, by simp [go_sem], by simp [go_sem], h1.below hb⟩
  · simp at hi; obtain ⟨rfl, rfl⟩ := hi
    exact ⟨_, 0, m2, o2, n2, c2, rfl, by simp [go_sem], by simp [go_sem], h2.below hb⟩
  · simp at hi; obtain ⟨rfl, rfl⟩ := hi
    exact ⟨_, 0, m3, o3, n3, c3, rfl, by simp [go_sem], by simp [go_sem], h3.below hb⟩
theorem sum_two (ao : Option Addr) (c L1 L2 : Nat) (X Y : Int) (w : World) (h1 : L1 ≤ 1000000000) (h2 : L2 ≤ 1000000000) (h : Nums w ao [(L1, X), (L2, Y)]) :
    Calls Try.prog 27 #[.slice ao 2 c] w fun e w' => AnsNum w w' e (max L1 L2 + 2) (X + Y) := by
  refine (Sum_go ao 2 c _ w rfl (by omega) (fun L Z hm => ?_) h).mono fun e w' g => g.of ?_ ?_
  · simp at hm; omega
  · simp [sumLen]; omega
  · simp [sumVal]
theorem sum_three (ao : Option Addr) (c L1 L2 L3 : Nat) (X Y Z : Int) (w : World) (h1 : L1 ≤ 1000000000) (h2 : L2 ≤ 1000000000) (h3 : L3 ≤ 1000000000) (h : Nums w ao [(L1, X), (L2, Y), (L3, Z)]) :
    Calls Try.prog 27 #[.slice ao 3 c] w fun e w' => AnsNum w w' e (max L1 (max L2 L3) + 3) (X + Y + Z) := by
  refine (Sum_go ao 3 c _ w rfl (by omega) (fun L Z hm => ?_) h).mono fun e w' g => g.of ?_ ?_
  · simp at hm; omega
  · simp [sumLen]; omega
  · simp [sumVal, Int.add_assoc]
theorem sum_none (w : World) : Calls Try.prog 27 #[.slice none 0 0] w fun e w' => AnsNum w w' e 0 0 := by
  refine (Sum_go none 0 0 [] w rfl (by omega) (fun L Z hm => by cases hm) (fun i L X hi => by simp at hi)).mono fun e w' g => g.of ?_ ?_
  · simp [sumLen]
  · simp [sumVal]
theorem box_lt {w : World} {g : Nat} {u v : Value} (h : Box2 w g u v) : g < w.heap.size := World.block_lt_of_cell? w ⟨g, 0, none⟩ h.c0
theorem Nums.drew {w : World} {ao : Option Addr} {l : List (Nat × Int)} (h : Nums w ao l) : Nums w.drew ao l := h
end Go.Proofs.Ytbfdianmbpfjmaa
