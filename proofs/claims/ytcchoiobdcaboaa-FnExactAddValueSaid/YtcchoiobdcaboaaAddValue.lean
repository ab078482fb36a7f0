/- 'laws.FnExactAddValue' answers true for every histogram, of whatever size, and every number, and leaves its argument as it was; what the program returns is memory of its own. No condition. -/
import Derived.Test.YtcchoiobdcaboaaLAddValue
import Derived.Test.YtcchoiobdcaboaaS11b
import Derived.Test.YtcchoiobdcaboaaOpen
namespace Go.Proofs.Ytcchoiobdcaboaa
open Go.ChangeShapes Go.WideShapes Go.ChangeAt Go.RowKit Go.Joins


theorem lawAddValue (s : Value) (t : Int) (D : List Int) (num : Int) (w : World) (hA : TArg w s D) (ht : I64 t) (_hnum : I64 num) :
    Calls Try.prog 7 #[.agg #[s, .int .i64 t], .int .i64 num] w fun e w' => e = .returned (.bool true) ∧ Below w.heap.size w w' := by
  by_cases hd : D.length ≤ 1048576
  · exact lawExactAddValue_fit s t num D.length D w hA rfl hd (adC D t num).length (adS D t num) (adC D t num) (adB D t num) (by have := adC_len D t num; omega) (fun lo hi v w hr hh => sadd_any0 lo hi _ v t D w hr hh ht num) (fun lo hi v w hr hh => iadd_any0 lo hi _ v t D w hr hh ht num)
  · exact lawExactAddValue_big s t num D.length D w hA rfl (by omega)

set_option maxRecDepth 100000 in
theorem ExactAddValue_lifted (os : Os) (started : os.Started) (H : Type) (enc : TypeId × Value → H) :
    ReturnsInHanded {} Try.checked os 7 .any (Rows.fnExactAddValueSpec.pre6 enc Try.prog Try.f7 Rows.fnExactAddValueRow.domain false) (Rows.fnExactAddValueSpec.post enc Try.prog Try.f7 false true false false) := by
  refine returnsInHanded_of_change (C := Try.checked) Try.own started (by kernel_rfl) Try.func7
    (ChangeSpec.witness6 (enc := enc) (C := Try.checked) false ⟨#[], #[.agg #[.slice none 0 0, .int .i64 0], .int .i64 0], []⟩ 8 (by kernel_rfl) (by kernel_rfl) (by kernel_rfl) (by kernel_rfl)) ?_
  intro W base args ds gs before hval0 hW _ _
  have hval : ∀ (j : Nat) t v, Try.f7.params[j]? = some t → args[j]? = some v → Value.okWide Try.prog W .any base t v := hval0
  have hW' := hW
  obtain ⟨p, q, hA0, _, _, _, _⟩ := hW
  have hA : DataW.TrodAll enc Try.prog W 0 (fun _ => true) true Try.f7.params.toList args.toList ds p := hA0
  rw [Try.params7] at hA hval
  obtain ⟨v0, v1, d0, d1, p0, p1, rfl, rfl, rfl, h0, h1⟩ := trodAll_two hA
  obtain ⟨s0, t0, D0, rfl, A0, it0⟩ := open_Hist (hval 0 39 v0 rfl rfl) h0
  obtain ⟨a1, rfl, ha1, hb1⟩ := open_num (hval 1 3 v1 rfl rfl) h1
  refine (lawAddValue s0 t0 D0 a1 W A0 it0 ⟨ha1, hb1⟩).mono fun e W' ⟨he, hw⟩ => ⟨_, he, law_post Try.laidOut (fun u hu => ?_) rfl rfl Try.underlying4 hW' rfl hw⟩
  rw [Try.params7] at hu
  simp at hu
  rcases hu with rfl | rfl
  · exact Try.read39
  · exact Try.read3

theorem ExactAddValue_holds : Rows.FnExactAddValueSaid :=
  OpenClaim.holds_of_wide 7 Try.f7 rfl rfl rfl rfl rfl rfl rfl ⟨rfl, rfl, rfl, rfl, rfl⟩ rfl rfl rfl rfl rfl (by kernel_rfl) Try.func7 (by kernel_rfl)
    (of_decide_eq_true (by kernel_rfl)) (by unfold Func.isWrapper; first | (rw [if_pos (by decide +kernel)]; kernel_rfl) | (rw [if_neg (by decide +kernel)]; exact ⟨rfl, rfl⟩))
    (fun os started H enc _ => ExactAddValue_lifted os started H enc)

end Go.Proofs.Ytcchoiobdcaboaa
