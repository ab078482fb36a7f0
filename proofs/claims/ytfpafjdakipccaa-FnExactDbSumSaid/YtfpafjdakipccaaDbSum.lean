/- 'laws.FnExactDbSum' answers true for every database, and leaves its argument as it was. No condition. -/
import Derived.Test.YtfpafjdakipccaaLDbSum
import Derived.Test.YtfpafjdakipccaaDs
import Derived.Test.YtfpafjdakipccaaOpen
namespace Go.Proofs.Ytfpafjdakipccaa
open Go.ChangeShapes Go.WideShapes Go.ChangeAt Go.RowKit Go.Joins


theorem lawDbSum (v0 : Value) (D0 : List Ls) (w : World) (hA0 : DArg w v0 D0) :
    Calls Try.prog 10 #[.agg #[v0]] w fun e w' => e = .returned (.bool true) ∧ Below w.heap.size w w' := by
  by_cases hn : dtot D0 ≤ 1048576
  · exact lawExactDbSum_fit v0 D0 w hA0 hn (dsumB D0) (fun lo hi v w hr hh => sdsum_any D0 lo hi v w hr hh) (fun lo hi v w hr hh => idsum_any D0 lo hi v w hr hh)
  · exact lawExactDbSum_big0 v0 D0 w hA0 (by omega)

set_option maxRecDepth 100000 in
theorem ExactDbSum_lifted (os : Os) (started : os.Started) (H : Type) (enc : TypeId × Value → H) :
    ReturnsInHanded {} Try.checked os 10 .any (Rows.fnExactDbSumSpec.pre6 enc Try.prog Try.f10 Rows.fnExactDbSumRow.domain false) (Rows.fnExactDbSumSpec.post enc Try.prog Try.f10 false true false false) := by
  refine returnsInHanded_of_change (C := Try.checked) Try.own started (by kernel_rfl) Try.func10
    (ChangeSpec.witness6 (enc := enc) (C := Try.checked) false ⟨#[], #[.agg #[.slice none 0 0]], []⟩ 8 (by kernel_rfl) (by kernel_rfl) (by kernel_rfl) (by kernel_rfl)) ?_
  intro W base args ds gs before hval0 hW _ _
  have hval : ∀ (j : Nat) t v, Try.f10.params[j]? = some t → args[j]? = some v → Value.okWide Try.prog W .any base t v := hval0
  have hW' := hW
  obtain ⟨p, q, hA0, _, _, _, _⟩ := hW
  have hA : DataW.TrodAll enc Try.prog W 0 (fun _ => true) true Try.f10.params.toList args.toList ds p := hA0
  rw [Try.params10] at hA hval
  obtain ⟨v0, d0, rfl, rfl, h0⟩ := trodAll_one hA
  obtain ⟨u0, D0, rfl, A0⟩ := open_Db (hval 0 40 v0 rfl rfl) h0
  refine (lawDbSum u0 D0 W A0).mono fun e W' ⟨he, hw⟩ => ⟨_, he, law_post Try.laidOut (fun u hu => ?_) rfl rfl Try.underlying4 hW' rfl hw⟩
  rw [Try.params10] at hu
  simp at hu
  subst hu
  exact Try.read40

theorem ExactDbSum_holds : Rows.FnExactDbSumSaid :=
  OpenClaim.holds_of_wide 10 Try.f10 rfl rfl rfl rfl rfl rfl rfl ⟨rfl, rfl, rfl, rfl, rfl⟩ rfl rfl rfl rfl rfl (by kernel_rfl) Try.func10 (by kernel_rfl)
    (of_decide_eq_true (by kernel_rfl)) (by unfold Func.isWrapper; first | (rw [if_pos (by decide +kernel)]; kernel_rfl) | (rw [if_neg (by decide +kernel)]; exact ⟨rfl, rfl⟩))
    (fun os started H enc _ => ExactDbSum_lifted os started H enc)

end Go.Proofs.Ytfpafjdakipccaa
