/- MeshGrids: for every input the law returns true, and each argument reads behind the call as it read before. -/
import Derived.Test.YtecnnpkpgbbfkaaPartg
import Derived.Test.YtecnnpkpgbbfkaaMeshBk
namespace Go.Proofs.Ytecnnpkpgbbfkaa
open Go.ChangeShapes Go.WideShapes Go.RowKit Go.MagM
set_option maxRecDepth 100000 in
theorem meshGrids_lifted (os : Os) (started : os.Started) (H : Type) (enc : TypeId × Value → H) :
  ReturnsInHanded {} Try.checked os 3 .any (Rows.meshGridsSpec.pre6 enc Try.prog Try.f3 Rows.meshGridsRow.domain false) (Rows.meshGridsSpec.post enc Try.prog Try.f3 false true false false) := by
 refine returnsInHanded_of_change (C := Try.checked) own0 started (by kernel_rfl) Try.func3
  (ChangeSpec.witness6 (enc := enc) (C := Try.checked) false ⟨#[], #[.agg #[.int .i64 0, .int .i64 0], .int .u32 0, .int .u32 0], []⟩ 8 (by kernel_rfl) (by kernel_rfl) (by kernel_rfl) (by kernel_rfl)) ?_
 intro W base args ds gs before hval0 hW hcnd _
 have hval : ∀ (j : Nat) t v, Try.f3.params[j]? = some t → args[j]? = some v → Value.okWide Try.prog W .any base t v := hval0
 have hW' := hW
 obtain ⟨p, q, hA0, hV, rfl, hfz, hnd⟩ := hW
 have hA : DataW.TrodAll enc Try.prog W 0 (fun _ => true) true Try.f3.params.toList args.toList ds p := hA0
 rw [Try.params3] at hA hval
 obtain ⟨v0, v1, v2, d0, d1, d2, p0, p1, p2, rfl, rfl, rfl, h0, h1, h2⟩ := trodAll_three hA
 obtain ⟨rfl, rfl⟩ := trodVars_none hV
 obtain ⟨x0a, x0b, rfl⟩ := view_two (hval 0 22 v0 rfl rfl) h0
 obtain ⟨x1, rfl, rfl, rfl, hw1⟩ := open_int Try.underlying23 (hval 1 23 v1 rfl rfl) h1
 obtain ⟨x2, rfl, rfl, rfl, hw2⟩ := open_int Try.underlying23 (hval 2 23 v2 rfl rfl) h2
 clear hA0 hval0
 simp only [List.append_nil] at hW'
 have hlt := fun x hx => hW'.lt x hx
 have e1 : Rows.meshGridsSpec.fn H ([d0, .lit (.int .u32 x1), .lit (.int .u32 x2)] ++ []) = { results := [.lit (.bool true)], args := [d0, .lit (.int .u32 x1), .lit (.int .u32 x2)] } := rfl
 refine (MeshGrids_walk x0a x0b x1 x2 W ).mono fun e W' ⟨he, hb⟩ => ?_
 subst he
 refine ⟨_, rfl, _, _, _, [], p0 ++ ([] ++ []), [], hW', ?_, ?_, ?_, hb.frame _, fun h => by cases h⟩
 ·rw [e1]; exact trodAll_mk1 (shut_bool Try.underlying4 true)
 ·rw [e1]; exact trodAll_mk3 (Below.trod laidOut0 (by kernel_rfl) (of_decide_eq_true (by kernel_rfl)) h0 hb (fun x hx => hlt x (by simp [hx]))) (shut_int Try.underlying23 hw1) (shut_int Try.underlying23 hw2)
 ·rw [e1]; rfl
theorem meshGrids_holds : Rows.MeshGridsSaid :=
 OpenClaim.holds_of_wide 3 Try.f3 rfl rfl rfl rfl rfl rfl rfl ⟨rfl, rfl, rfl, rfl, rfl⟩ rfl rfl rfl rfl rfl (by kernel_rfl) Try.func3 (by kernel_rfl)
  (of_decide_eq_true (by kernel_rfl)) (by unfold Func.isWrapper; rw [if_neg (of_decide_eq_false (by kernel_rfl))]; exact ⟨rfl, rfl⟩)
  (fun os started H enc _ => meshGrids_lifted os started H enc)
end Go.Proofs.Ytecnnpkpgbbfkaa
