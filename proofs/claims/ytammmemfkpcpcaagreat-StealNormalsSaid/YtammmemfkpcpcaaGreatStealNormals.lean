/- StealNormals: for every input the law returns true, and each argument reads behind the call as it read before. -/
import Derived.Test.YtammmemfkpcpcaaGreatPartw
import Derived.Test.YtammmemfkpcpcaaGreatPartx
namespace Go.Proofs.YtammmemfkpcpcaaGreat
open Go.ChangeShapes Go.WideShapes Go.RowKit Go.MagM
set_option maxRecDepth 100000 in
theorem stealNormals_lifted (os : Os) (started : os.Started) (H : Type) (enc : TypeId × Value → H) :
    ReturnsInHanded {} Tryz.checked os 4 .any (Rows.stealNormalsSpec.pre6 enc Tryz.prog Tryz.f4 Rows.stealNormalsRow.domain false) (Rows.stealNormalsSpec.post enc Tryz.prog Tryz.f4 false true false false) := by
  refine returnsInHanded_of_change (C := Tryz.checked) own0 started (by kernel_rfl) Tryz.func4
    (ChangeSpec.witness6 (enc := enc) (C := Tryz.checked) false ⟨#[], #[.slice none 0 0], []⟩ 8 (by kernel_rfl) (by kernel_rfl) (by kernel_rfl) (by kernel_rfl)) ?_
  intro W base args ds gs before hval0 hW hcnd _
  have hval : ∀ (j : Nat) t v, Tryz.f4.params[j]? = some t → args[j]? = some v → Value.okWide Tryz.prog W .any base t v := hval0
  have hW' := hW
  obtain ⟨p, q, hA0, hV, rfl, hfz, hnd⟩ := hW
  have hA : DataW.TrodAll enc Tryz.prog W 0 (fun _ => true) true Tryz.f4.params.toList args.toList ds p := hA0
  rw [Tryz.params4] at hA hval
  obtain ⟨v0, d0, rfl, rfl, h0⟩ := trodAll_one hA
  obtain ⟨rfl, rfl⟩ := trodVars_none hV
  obtain ⟨ao0, n0, c0, l0, rfl, hl0, hp0⟩ := view_shares (hval 0 52 v0 rfl rfl) h0
  clear hA0 hval0
  simp only [List.append_nil] at hW'
  have hlt := fun x hx => hW'.lt x hx
  have e1 : Rows.stealNormalsSpec.fn H ([d0] ++ []) = { results := [.lit (.bool true)], args := [d0] } := rfl
  refine (StealNormals_walk ao0 n0 c0 l0 W hl0 hp0).mono fun e W' ⟨he, hb⟩ => ?_
  subst he
  refine ⟨_, rfl, _, _, _, [], p, [], hW', ?_, ?_, ?_, hb.frame _, fun h => by cases h⟩
  · rw [e1]; exact trodAll_mk1 (shut_bool Tryz.underlying4 true)
  · rw [e1]; exact trodAll_mk1 (Below.trod laidOut0 (by kernel_rfl) (of_decide_eq_true (by kernel_rfl)) h0 hb (fun x hx => hlt x (by simpa using hx)))
  · rw [e1]; rfl
set_option maxRecDepth 100000 in set_option maxHeartbeats 16000000 in theorem stealNormals_closed:joinedFacts Tryz.pinned.checked.prog 4 Tryz.f4 Rows.stealNormalsSpec Rows.stealNormalsRow=true:=by
  unfold joinedFacts;simp only[Bool.and_eq_true];repeat' apply And.intro
  all_goals (as_aux_lemma=>kernel_rfl)
theorem stealNormals_holds:Rows.StealNormalsSaid:=OpenClaim.holds_of_wide 4 Tryz.f4 rfl rfl rfl rfl rfl rfl rfl ⟨rfl,rfl,rfl,rfl,rfl⟩ rfl rfl rfl rfl rfl (by kernel_rfl) Tryz.func4 stealNormals_closed (of_decide_eq_true (by kernel_rfl)) (by unfold Func.isWrapper;rw[if_neg (of_decide_eq_false (by kernel_rfl))];exact⟨rfl,rfl⟩) (fun os started H enc _=>stealNormals_lifted os started H enc)
end Go.Proofs.YtammmemfkpcpcaaGreat
