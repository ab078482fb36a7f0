/- 'laws.FnExactDelta' answers true for every two samples. No condition. -/
import Derived.Test.YtadanckhmjgphaaS7
import Derived.Test.YtadanckhmjgphaaOpen
namespace Go.Proofs.Ytadanckhmjgphaa
open Go.ChangeShapes Go.WideShapes Go.ChangeAt Go.RowKit Go.Joins


set_option maxRecDepth 100000 in
theorem ExactDelta_lifted (os : Os) (started : os.Started) (H : Type) (enc : TypeId × Value → H) :
    ReturnsInHanded {} Try.checked os 6 .any (Rows.fnExactDeltaSpec.pre6 enc Try.prog Try.f6 Rows.fnExactDeltaRow.domain false) (Rows.fnExactDeltaSpec.post enc Try.prog Try.f6 false true false false) := by
  refine returnsInHanded_of_change (C := Try.checked) Try.own started (by kernel_rfl) Try.func6
    (ChangeSpec.witness6 (enc := enc) (C := Try.checked) false ⟨#[], #[.agg #[.int .i64 0, .int .i64 0, .int .i64 0], .agg #[.int .i64 0, .int .i64 0, .int .i64 0]], []⟩ 8 (by kernel_rfl) (by kernel_rfl) (by kernel_rfl) (by kernel_rfl)) ?_
  intro W base args ds gs before hval0 hW _ _
  have hval : ∀ (j : Nat) t v, Try.f6.params[j]? = some t → args[j]? = some v → Value.okWide Try.prog W .any base t v := hval0
  have hW' := hW
  obtain ⟨p, q, hA0, _, _, _, _⟩ := hW
  have hA : DataW.TrodAll enc Try.prog W 0 (fun _ => true) true Try.f6.params.toList args.toList ds p := hA0
  rw [Try.params6] at hA hval
  obtain ⟨v0, v1, d0, d1, p0, p1, rfl, rfl, rfl, h0, h1⟩ := trodAll_two hA
  obtain ⟨z0_0, z0_1, z0_2, rfl, iz0_0, iz0_1, iz0_2⟩ := open_Sample (hval 0 43 v0 rfl rfl) h0
  obtain ⟨z1_0, z1_1, z1_2, rfl, iz1_0, iz1_1, iz1_2⟩ := open_Sample (hval 1 43 v1 rfl rfl) h1
  refine (lawDelta z0_0 z0_1 z0_2 z1_0 z1_1 z1_2 W iz0_0 iz0_1 iz0_2 iz1_0 iz1_1 iz1_2).mono fun e W' ⟨he, hw⟩ => ⟨_, he, law_post Try.laidOut (fun u hu => ?_) rfl rfl Try.underlying4 hW' rfl hw⟩
  rw [Try.params6] at hu
  simp at hu
  subst hu
  exact Try.read43

theorem ExactDelta_holds : Rows.FnExactDeltaSaid :=
  OpenClaim.holds_of_wide 6 Try.f6 rfl rfl rfl rfl rfl rfl rfl ⟨rfl, rfl, rfl, rfl, rfl⟩ rfl rfl rfl rfl rfl (by kernel_rfl) Try.func6 (by kernel_rfl)
    (of_decide_eq_true (by kernel_rfl)) (by unfold Func.isWrapper; first | (rw [if_pos (by decide +kernel)]; kernel_rfl) | (rw [if_neg (by decide +kernel)]; exact ⟨rfl, rfl⟩))
    (fun os started H enc _ => ExactDelta_lifted os started H enc)

end Go.Proofs.Ytadanckhmjgphaa
