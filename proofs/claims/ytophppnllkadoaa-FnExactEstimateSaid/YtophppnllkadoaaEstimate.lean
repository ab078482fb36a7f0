/- 'laws.FnExactEstimate' answers true for every sketch, of whatever size, and every key, and leaves its argument as it was. No condition. -/
import Derived.Test.YtophppnllkadoaaLEstimate
import Derived.Test.YtophppnllkadoaaK3
import Derived.Test.YtophppnllkadoaaKo
namespace Go.Proofs.Ytophppnllkadoaa
open Go.ChangeShapes Go.WideShapes Go.ChangeAt Go.RowKit Go.Joins


theorem lawEstimate (s : Value) (t : Int) (D : List (List Int)) (key : Int) (w : World) (hA : TArg w s D) (ht : I64 t) (_hk : I64 key) :
    Calls Try.prog 9 #[.agg #[s, .int .i64 t], .int .i64 key] w fun e w' => e = .returned (.bool true) ∧ Below w.heap.size w w' := by
  by_cases hd : ttot D ≤ 1048576
  · exact lawExactEstimate_fit s t key D.length D w hA rfl hd (estV t D key) (fun lo hi v w hr hh => sest_any lo hi _ v t D w hr hh ht key) (fun lo hi v w hr hh => iest_any lo hi _ v t D w hr hh ht key)
  · exact lawExactEstimate_big s t key D.length D w hA rfl (by omega)

set_option maxRecDepth 100000 in
theorem ExactEstimate_lifted (os : Os) (started : os.Started) (H : Type) (enc : TypeId × Value → H) :
    ReturnsInHanded {} Try.checked os 9 .any (Rows.fnExactEstimateSpec.pre6 enc Try.prog Try.f9 Rows.fnExactEstimateRow.domain false) (Rows.fnExactEstimateSpec.post enc Try.prog Try.f9 false true false false) := by
  refine returnsInHanded_of_change (C := Try.checked) Try.own started (by kernel_rfl) Try.func9
    (ChangeSpec.witness6 (enc := enc) (C := Try.checked) false ⟨#[], #[.agg #[.slice none 0 0, .int .i64 0], .int .i64 0], []⟩ 8 (by kernel_rfl) (by kernel_rfl) (by kernel_rfl) (by kernel_rfl)) ?_
  intro W base args ds gs before hval0 hW _ _
  have hval : ∀ (j : Nat) t v, Try.f9.params[j]? = some t → args[j]? = some v → Value.okWide Try.prog W .any base t v := hval0
  have hW' := hW
  obtain ⟨p, q, hA0, _, _, _, _⟩ := hW
  have hA : DataW.TrodAll enc Try.prog W 0 (fun _ => true) true Try.f9.params.toList args.toList ds p := hA0
  rw [Try.params9] at hA hval
  obtain ⟨v0, v1, d0, d1, p0, p1, rfl, rfl, rfl, h0, h1⟩ := trodAll_two hA
  obtain ⟨s0, t0, D0, rfl, A0, it0⟩ := open_Sketch (hval 0 49 v0 rfl rfl) h0
  obtain ⟨a1, rfl, ha1, hb1⟩ := open_num (hval 1 3 v1 rfl rfl) h1
  refine (lawEstimate s0 t0 D0 a1 W A0 it0 ⟨ha1, hb1⟩).mono fun e W' ⟨he, hw⟩ => ⟨_, he, law_post Try.laidOut (fun u hu => ?_) rfl rfl Try.underlying4 hW' rfl hw⟩
  rw [Try.params9] at hu
  simp at hu
  rcases hu with rfl | rfl
  · exact Try.read49
  · exact Try.read3

theorem ExactEstimate_holds : Rows.FnExactEstimateSaid :=
  OpenClaim.holds_of_wide 9 Try.f9 rfl rfl rfl rfl rfl rfl rfl ⟨rfl, rfl, rfl, rfl, rfl⟩ rfl rfl rfl rfl rfl (by kernel_rfl) Try.func9 (by kernel_rfl)
    (of_decide_eq_true (by kernel_rfl)) (by unfold Func.isWrapper; first | (rw [if_pos (by decide +kernel)]; kernel_rfl) | (rw [if_neg (by decide +kernel)]; exact ⟨rfl, rfl⟩))
    (fun os started H enc _ => ExactEstimate_lifted os started H enc)

end Go.Proofs.Ytophppnllkadoaa
