/- The statements' own Tame, fit; the closure of PredCrosses. -/
import Derived.Test.YtecnnpkpgbbfkaaGreatParti
import Derived.Test.YtecnnpkpgbbfkaaGreatPartg
import Derived.Test.YtecnnpkpgbbfkaaGreatParts
import Derived.Test.YtecnnpkpgbbfkaaGreatPartk
namespace Go.Proofs.YtecnnpkpgbbfkaaGreat
open Go.RowKit Go.MagM
/-- A coordinate made to be one that may be. -/
def tame (x : Int) : Int := if 2147483648 < (if x < -2147483648 then -2147483648 else x) then 2147483648 else (if x < -2147483648 then -2147483648 else x)
theorem tame_in (x : Int) : InP (tame x) := by unfold tame InP; split <;> split <;> omega
set_option maxHeartbeats 4000000 in
theorem Tame_w (a0 a1 x y s t : Int) (e1 : (if a0 < -2147483648 then -2147483648 else a0) = x) (e2 : (if a1 < -2147483648 then -2147483648 else a1) = y) (e3 : (if 2147483648 < x then 2147483648 else x) = s) (e4 : (if 2147483648 < y then 2147483648 else y) = t) (w : World) :
  Calls Tryz.prog 23 #[.agg #[.int .i64 a0, .int .i64 a1]] w fun e w' => e = .returned (.agg #[.int .i64 s, .int .i64 t]) ∧ Below w.heap.size w w' := by
 have hB_0 := Below.refl w.heap.size w
 have h1 := e1; have h2 := e2; have h3 := e3; have h4 := e4
 obtain ⟨w1, hw1, pa_0, hb1, hs1⟩ := new_box w (w.heap.size) rfl [.int .i64 a0, .int .i64 a1] 33
 have hb1' : Below w.heap.size w w1 := hb1.mono (by omega)
 clear hb1
 have hB_1 := hB_0.trans (hb1'.mono hB_0.size)
 clear hb1' hB_0
 obtain ⟨w2, hw2, pr_0, hb2, hs2⟩ := new_box w1 (w.heap.size + 1) hs1 [.int .i64 0, .int .i64 0] 33
 have hb2' : Below w1.heap.size w1 w2 := hb2.mono (by omega)
 clear hb2
 have hB_2 := hB_1.trans (hb2'.mono hB_1.size)
 have pa_1 := pa_0.below hb2'
 clear hb2' hB_1 pa_0
 go_enter Tryz.func23, Tryz.ntmps23
 obtain ⟨pae0, pae1, pae2, pae3⟩ := pa_1.open2
 obtain ⟨pre0, pre1, pre2, pre3⟩ := pr_0.open2
 obtain ⟨sf1a, sf1b, sf1c, sf1d⟩ := pr_0.open2
 obtain ⟨sg1a, sg1b⟩ := Box.put2 pr_0 (.int .i64 s)
 go_wp2
 clear pae0 pae1 pae2 pae3 pre0 pre1 pre2 pre3 sf1a sf1b sf1c sf1d sg1a sg1b
 have hB_3 := below_setAll hB_2 (g := w.heap.size + 1) (by omega) [.int .i64 s, .int .i64 t]
 have pa_2 := pa_1.farAll (g' := w.heap.size + 1) (by omega) [.int .i64 s, .int .i64 t]
 have pr_1 := pr_0.setAll [.int .i64 s, .int .i64 t] rfl
 simp only [setAll, Nat.zero_add] at hB_3 pa_2 pr_1
 clear hB_2 pa_1 pr_0
 generalize (World.setCell (World.setCell w2 ⟨w.heap.size + 1, 0, none⟩ (.int .i64 s)) ⟨w.heap.size + 1, 1, none⟩ (.int .i64 t)) = w3 at *
 go_wp2
 obtain ⟨pre0, pre1, pre2, pre3⟩ := pr_1.open2
 exact bodyPost_ret (v := .agg #[.int .i64 s, .int .i64 t]) (by simp [results, Tryz.results23, go_sem, pre0, pre1]) rfl ⟨rfl, hB_3⟩
theorem Tame_any (a0 a1 : Int) (w : World) : Calls Tryz.prog 23 #[.agg #[.int .i64 a0, .int .i64 a1]] w fun e w' => e = .returned (.agg #[.int .i64 (tame a0), .int .i64 (tame a1)]) ∧ Below w.heap.size w w' :=
 Tame_w a0 a1 _ _ _ _ rfl rfl rfl rfl w
end Go.Proofs.YtecnnpkpgbbfkaaGreat
