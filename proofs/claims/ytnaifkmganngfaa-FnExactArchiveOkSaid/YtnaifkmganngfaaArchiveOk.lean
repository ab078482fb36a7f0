/- 'laws.FnExactArchiveOk' answers true for every archive, of whatever size, and leaves its argument as it was. No condition. -/
import Derived.Test.YtnaifkmganngfaaLArchiveOk
import Derived.Test.YtnaifkmganngfaaS5
import Derived.Test.YtnaifkmganngfaaKo
namespace Go.Proofs.Ytnaifkmganngfaa
open Go.ChangeShapes Go.WideShapes Go.ChangeAt Go.RowKit Go.Joins


theorem lawArchiveOk (s : Value) (t : Int) (D : List (List Rw)) (w : World) (hA : TArg w s D) (_ht : I64 t) :
    Calls Try.prog 4 #[.agg #[s, .int .i64 t]] w fun e w' => e = .returned (.bool true) ∧ Below w.heap.size w w' := by
  by_cases hd : ttot D ≤ 1048576
  · exact lawExactArchiveOk_fit s t D.length D w hA rfl hd (arB t D) (fun lo hi v w hr hh => saok_any lo hi _ v t D w hr hh) (fun lo hi v w hr hh => iaok_any lo hi _ v t D w hr hh)
  · exact lawExactArchiveOk_big s t D.length D w hA rfl (by omega)

set_option maxRecDepth 100000 in
theorem ExactArchiveOk_lifted (os : Os) (started : os.Started) (H : Type) (enc : TypeId × Value → H) :
    ReturnsInHanded {} Try.checked os 4 .any (Rows.fnExactArchiveOkSpec.pre6 enc Try.prog Try.f4 Rows.fnExactArchiveOkRow.domain false) (Rows.fnExactArchiveOkSpec.post enc Try.prog Try.f4 false true false false) := by
  refine returnsInHanded_of_change (C := Try.checked) Try.own started (by kernel_rfl) Try.func4
    (ChangeSpec.witness6 (enc := enc) (C := Try.checked) false ⟨#[], #[.agg #[.slice none 0 0, .int .i64 0]], []⟩ 8 (by kernel_rfl) (by kernel_rfl) (by kernel_rfl) (by kernel_rfl)) ?_
  intro W base args ds gs before hval0 hW _ _
  have hval : ∀ (j : Nat) t v, Try.f4.params[j]? = some t → args[j]? = some v → Value.okWide Try.prog W .any base t v := hval0
  have hW' := hW
  obtain ⟨p, q, hA0, _, _, _, _⟩ := hW
  have hA : DataW.TrodAll enc Try.prog W 0 (fun _ => true) true Try.f4.params.toList args.toList ds p := hA0
  rw [Try.params4] at hA hval
  obtain ⟨v0, d0, rfl, rfl, h0⟩ := trodAll_one hA
  obtain ⟨s0, t0, D0, rfl, A0, it0⟩ := open_Archive (hval 0 38 v0 rfl rfl) h0
  refine (lawArchiveOk s0 t0 D0 W A0 it0).mono fun e W' ⟨he, hw⟩ => ⟨_, he, law_post Try.laidOut (fun u hu => ?_) rfl rfl Try.underlying4 hW' rfl hw⟩
  rw [Try.params4] at hu
  simp at hu
  subst hu
  exact Try.read38

theorem ExactArchiveOk_holds : Rows.FnExactArchiveOkSaid :=
  OpenClaim.holds_of_wide 4 Try.f4 rfl rfl rfl rfl rfl rfl rfl ⟨rfl, rfl, rfl, rfl, rfl⟩ rfl rfl rfl rfl rfl (by kernel_rfl) Try.func4 (by kernel_rfl)
    (of_decide_eq_true (by kernel_rfl)) (by unfold Func.isWrapper; first | (rw [if_pos (by decide +kernel)]; kernel_rfl) | (rw [if_neg (by decide +kernel)]; exact ⟨rfl, rfl⟩))
    (fun os started H enc _ => ExactArchiveOk_lifted os started H enc)

end Go.Proofs.Ytnaifkmganngfaa
