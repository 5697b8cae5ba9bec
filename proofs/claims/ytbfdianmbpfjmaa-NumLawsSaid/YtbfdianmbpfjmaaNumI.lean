/- The statements' calls of short. -/
import Derived.Test.YtbfdianmbpfjmaaNumH
import Derived.Test.YtbfdianmbpfjmaaRegK
namespace Go.Proofs.Ytbfdianmbpfjmaa
open Go.RowKit Go.MagM
def sel2 {α : Type} (x y : α) : Nat → α := fun i => if i = 0 then x else y
def sel3 {α : Type} (x y z : α) : Nat → α := fun i => if i = 0 then x else if i = 1 then y else z
theorem row1_alloc (w : World) (T : TypeId) (xm : Bool) (xo : Option Addr) (xn xc : Nat) :
    Row (w.alloc (.cells #[.bool xm, .slice xo xn xc] T)) w.heap.size 1 (fun _ => xm) (fun _ => xo) (fun _ => xn) (fun _ => xc) := by
  intro i hi
  obtain rfl : i = 0 := by omega
  · exact ⟨by simp [go_sem], by simp [go_sem]⟩
theorem nshort1_yes (K : Nat) (w : World) (T : TypeId) (xm : Bool) (xo : Option Addr) (xn xc : Nat) (hK : K ≤ 1000000) (hs : xn ≤ K) :
    Calls Try.prog 10 #[.int .i64 (K : Int), .slice (some ⟨w.heap.size, 0, none⟩) 1 1] (w.alloc (.cells #[.bool xm, .slice xo xn xc] T)) fun e w' => e = .returned (.bool true) ∧ Below w.heap.size w w' := by
  refine (nshort_yes K 1 w.heap.size (fun _ => xm) (fun _ => xo) (fun _ => xn) (fun _ => xc) _ (by omega) hK (row1_alloc w T xm xo xn xc) (fun i hi => by
      obtain rfl : i = 0 := by omega
      · show _ ≤ _; omega)).mono ?_
  rintro e w' ⟨he, hb⟩
  exact ⟨he, ((Below.refl _ _).alloc (Nat.le_refl _) _).trans (hb.mono (by simp))⟩
theorem nshort1_no (K : Nat) (w : World) (T : TypeId) (xm : Bool) (xo : Option Addr) (xn xc : Nat) (hK : K ≤ 1000000) (hs : ¬ (xn ≤ K)) :
    Calls Try.prog 10 #[.int .i64 (K : Int), .slice (some ⟨w.heap.size, 0, none⟩) 1 1] (w.alloc (.cells #[.bool xm, .slice xo xn xc] T)) fun e w' => e = .returned (.bool false) ∧ Below w.heap.size w w' := by
  refine (nshort_no K 1 w.heap.size (fun _ => xm) (fun _ => xo) (fun _ => xn) (fun _ => xc) _ (by omega) hK (row1_alloc w T xm xo xn xc) (by
      exact ⟨0, by omega, by omega⟩)).mono ?_
  rintro e w' ⟨he, hb⟩
  exact ⟨he, ((Below.refl _ _).alloc (Nat.le_refl _) _).trans (hb.mono (by simp))⟩
theorem row2_alloc (w : World) (T : TypeId) (xm : Bool) (xo : Option Addr) (xn xc : Nat) (ym : Bool) (yo : Option Addr) (yn yc : Nat) :
    Row (w.alloc (.cells #[.bool xm, .slice xo xn xc, .bool ym, .slice yo yn yc] T)) w.heap.size 2 (sel2 xm ym) (sel2 xo yo) (sel2 xn yn) (sel2 xc yc) := by
  intro i hi
  obtain rfl | rfl : i = 0 ∨ i = 1 := by omega
  · exact ⟨by simp [go_sem, sel2], by simp [go_sem, sel2]⟩
  · exact ⟨by simp [go_sem, sel2], by simp [go_sem, sel2]⟩
theorem nshort2_yes (K : Nat) (w : World) (T : TypeId) (xm : Bool) (xo : Option Addr) (xn xc : Nat) (ym : Bool) (yo : Option Addr) (yn yc : Nat) (hK : K ≤ 1000000) (hs : xn ≤ K ∧ yn ≤ K) :
    Calls Try.prog 10 #[.int .i64 (K : Int), .slice (some ⟨w.heap.size, 0, none⟩) 2 2] (w.alloc (.cells #[.bool xm, .slice xo xn xc, .bool ym, .slice yo yn yc] T)) fun e w' => e = .returned (.bool true) ∧ Below w.heap.size w w' := by
  refine (nshort_yes K 2 w.heap.size (sel2 xm ym) (sel2 xo yo) (sel2 xn yn) (sel2 xc yc) _ (by omega) hK (row2_alloc w T xm xo xn xc ym yo yn yc) (fun i hi => by
      obtain rfl | rfl : i = 0 ∨ i = 1 := by omega
      · simp [sel2]; omega
      · simp [sel2]; omega)).mono ?_
  rintro e w' ⟨he, hb⟩
  exact ⟨he, ((Below.refl _ _).alloc (Nat.le_refl _) _).trans (hb.mono (by simp))⟩
theorem nshort2_no (K : Nat) (w : World) (T : TypeId) (xm : Bool) (xo : Option Addr) (xn xc : Nat) (ym : Bool) (yo : Option Addr) (yn yc : Nat) (hK : K ≤ 1000000) (hs : ¬ (xn ≤ K ∧ yn ≤ K)) :
    Calls Try.prog 10 #[.int .i64 (K : Int), .slice (some ⟨w.heap.size, 0, none⟩) 2 2] (w.alloc (.cells #[.bool xm, .slice xo xn xc, .bool ym, .slice yo yn yc] T)) fun e w' => e = .returned (.bool false) ∧ Below w.heap.size w w' := by
  refine (nshort_no K 2 w.heap.size (sel2 xm ym) (sel2 xo yo) (sel2 xn yn) (sel2 xc yc) _ (by omega) hK (row2_alloc w T xm xo xn xc ym yo yn yc) (by
      by_cases h0 : K < xn
      · exact ⟨0, by omega, by simp [sel2]; exact h0⟩
      · exact ⟨1, by omega, by simp [sel2]; omega⟩)).mono ?_
  rintro e w' ⟨he, hb⟩
  exact ⟨he, ((Below.refl _ _).alloc (Nat.le_refl _) _).trans (hb.mono (by simp))⟩
theorem row3_alloc (w : World) (T : TypeId) (xm : Bool) (xo : Option Addr) (xn xc : Nat) (ym : Bool) (yo : Option Addr) (yn yc : Nat) (zm : Bool) (zo : Option Addr) (zn zc : Nat) :
    Row (w.alloc (.cells #[.bool xm, .slice xo xn xc, .bool ym, .slice yo yn yc, .bool zm, .slice zo zn zc] T)) w.heap.size 3 (sel3 xm ym zm) (sel3 xo yo zo) (sel3 xn yn zn) (sel3 xc yc zc) := by
  intro i hi
  obtain rfl | rfl | rfl : i = 0 ∨ i = 1 ∨ i = 2 := by omega
  · exact ⟨by simp [go_sem, sel3], by simp [go_sem, sel3]⟩
  · exact ⟨by simp [go_sem, sel3], by simp [go_sem, sel3]⟩
  · exact ⟨by simp [go_sem, sel3], by simp [go_sem, sel3]⟩
theorem nshort3_yes (K : Nat) (w : World) (T : TypeId) (xm : Bool) (xo : Option Addr) (xn xc : Nat) (ym : Bool) (yo : Option Addr) (yn yc : Nat) (zm : Bool) (zo : Option Addr) (zn zc : Nat) (hK : K ≤ 1000000) (hs : xn ≤ K ∧ yn ≤ K ∧ zn ≤ K) :
    Calls Try.prog 10 #[.int .i64 (K : Int), .slice (some ⟨w.heap.size, 0, none⟩) 3 3] (w.alloc (.cells #[.bool xm, .slice xo xn xc, .bool ym, .slice yo yn yc, .bool zm, .slice zo zn zc] T)) fun e w' => e = .returned (.bool true) ∧ Below w.heap.size w w' := by
  refine (nshort_yes K 3 w.heap.size (sel3 xm ym zm) (sel3 xo yo zo) (sel3 xn yn zn) (sel3 xc yc zc) _ (by omega) hK (row3_alloc w T xm xo xn xc ym yo yn yc zm zo zn zc) (fun i hi => by
      obtain rfl | rfl | rfl : i = 0 ∨ i = 1 ∨ i = 2 := by omega
      · simp [sel3]; omega
      · simp [sel3]; omega
      · simp [sel3]; omega)).mono ?_
  rintro e w' ⟨he, hb⟩
  exact ⟨he, ((Below.refl _ _).alloc (Nat.le_refl _) _).trans (hb.mono (by simp))⟩
theorem nshort3_no (K : Nat) (w : World) (T : TypeId) (xm : Bool) (xo : Option Addr) (xn xc : Nat) (ym : Bool) (yo : Option Addr) (yn yc : Nat) (zm : Bool) (zo : Option Addr) (zn zc : Nat) (hK : K ≤ 1000000) (hs : ¬ (xn ≤ K ∧ yn ≤ K ∧ zn ≤ K)) :
    Calls Try.prog 10 #[.int .i64 (K : Int), .slice (some ⟨w.heap.size, 0, none⟩) 3 3] (w.alloc (.cells #[.bool xm, .slice xo xn xc, .bool ym, .slice yo yn yc, .bool zm, .slice zo zn zc] T)) fun e w' => e = .returned (.bool false) ∧ Below w.heap.size w w' := by
  refine (nshort_no K 3 w.heap.size (sel3 xm ym zm) (sel3 xo yo zo) (sel3 xn yn zn) (sel3 xc yc zc) _ (by omega) hK (row3_alloc w T xm xo xn xc ym yo yn yc zm zo zn zc) (by
      by_cases h0 : K < xn
      · exact ⟨0, by omega, by simp [sel3]; exact h0⟩
      · by_cases h1 : K < yn
        · exact ⟨1, by omega, by simp [sel3]; exact h1⟩
        · exact ⟨2, by omega, by simp [sel3]; omega⟩)).mono ?_
  rintro e w' ⟨he, hb⟩
  exact ⟨he, ((Below.refl _ _).alloc (Nat.le_refl _) _).trans (hb.mono (by simp))⟩
end Go.Proofs.Ytbfdianmbpfjmaa
