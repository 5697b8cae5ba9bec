/- GrowOrders: for every input the law returns true, and each argument reads behind the call as it read before. -/
import Derived.Test.YtdmfbkhafnkcfaaGreatParti
import Derived.Test.YtdmfbkhafnkcfaaGreatPartv
import Derived.Test.YtdmfbkhafnkcfaaGreatPLRow
namespace Go.Proofs.YtdmfbkhafnkcfaaGreat
open Go.ChangeShapes Go.WideShapes Go.RowKit Go.MagM
set_option maxRecDepth 100000 in
theorem growOrders_lifted (os : Os) (started : os.Started) (H : Type) (enc : TypeId × Value → H) :
    ReturnsInHanded {} Tryz.checked os 4 .any (Rows.growOrdersSpec.pre6 enc Tryz.prog Tryz.f4 Rows.growOrdersRow.domain false) (Rows.growOrdersSpec.post enc Tryz.prog Tryz.f4 false true false false) := by
  refine returnsInHanded_of_change (C := Tryz.checked) own0 started (by kernel_rfl) Tryz.func4
    (ChangeSpec.witness6 (enc := enc) (C := Tryz.checked) false ⟨#[], #[.slice none 0 0, .int .i64 0], []⟩ 8 (by kernel_rfl) (by kernel_rfl) (by kernel_rfl) (by kernel_rfl)) ?_
  intro W base args ds gs before hval0 hW hcnd _
  have hval : ∀ (j : Nat) t v, Tryz.f4.params[j]? = some t → args[j]? = some v → Value.okWide Tryz.prog W .any base t v := hval0
  have hW' := hW
  obtain ⟨p, q, hA0, hV, rfl, hfz, hnd⟩ := hW
  have hA : DataW.TrodAll enc Tryz.prog W 0 (fun _ => true) true Tryz.f4.params.toList args.toList ds p := hA0
  rw [Tryz.params4] at hA hval
  obtain ⟨v0, v1, d0, d1, p0, p1, rfl, rfl, rfl, h0, h1⟩ := trodAll_two hA
  obtain ⟨rfl, rfl⟩ := trodVars_none hV
  obtain ⟨ao0, n0, c0, l0, rfl, hl0, hlc0, hp0⟩ := view_pointsC (hval 0 22 v0 rfl rfl) h0
  obtain ⟨x1, rfl, rfl, rfl, hw1⟩ := open_int Tryz.underlying3 (hval 1 3 v1 rfl rfl) h1
  clear hA0 hval0
  simp only [List.append_nil] at hW'
  have hlt := fun x hx => hW'.lt x hx
  have e1 : Rows.growOrdersSpec.fn H ([d0, .lit (.int .i64 x1)] ++ []) = { results := [.lit (.bool true)], args := [d0, .lit (.int .i64 x1)] } := rfl
  refine (GrowOrders_walk ao0 n0 c0 x1 l0 W hl0 hlc0 hp0).mono fun e W' ⟨he, hb⟩ => ?_
  subst he
  refine ⟨_, rfl, _, _, _, [], p0 ++ [], [], hW', ?_, ?_, ?_, hb.frame _, fun h => by cases h⟩
  · rw [e1]; exact trodAll_mk1 (shut_bool Tryz.underlying4 true)
  · rw [e1]; exact trodAll_mk2 (Below.trod laidOut0 (by kernel_rfl) (of_decide_eq_true (by kernel_rfl)) h0 hb (fun x hx => hlt x (by simp [hx]))) (shut_int Tryz.underlying3 hw1)
  · rw [e1]; rfl
set_option maxRecDepth 100000 in set_option maxHeartbeats 16000000 in theorem growOrders_closed:joinedFacts Tryz.pinned.checked.prog 4 Tryz.f4 Rows.growOrdersSpec Rows.growOrdersRow=true:=by
  unfold joinedFacts;simp only[Bool.and_eq_true];repeat' apply And.intro
  all_goals (as_aux_lemma=>kernel_rfl)
theorem growOrders_holds:Rows.GrowOrdersSaid:=OpenClaim.holds_of_wide 4 Tryz.f4 rfl rfl rfl rfl rfl rfl rfl ⟨rfl,rfl,rfl,rfl,rfl⟩ rfl rfl rfl rfl rfl (by kernel_rfl) Tryz.func4 growOrders_closed (of_decide_eq_true (by kernel_rfl)) (by unfold Func.isWrapper;rw[if_neg (of_decide_eq_false (by kernel_rfl))];exact⟨rfl,rfl⟩) (fun os started H enc _=>growOrders_lifted os started H enc)
end Go.Proofs.YtdmfbkhafnkcfaaGreat
