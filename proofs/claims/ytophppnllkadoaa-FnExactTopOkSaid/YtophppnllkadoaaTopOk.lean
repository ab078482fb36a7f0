/- 'laws.FnExactTopOk' answers true for every list of heavy hitters, of whatever length, and leaves its argument as it was. No condition. -/
import Derived.Test.YtophppnllkadoaaLTopOk
import Derived.Test.YtophppnllkadoaaS5
import Derived.Test.YtophppnllkadoaaS6
import Derived.Test.YtophppnllkadoaaOpen
namespace Go.Proofs.Ytophppnllkadoaa
open Go.ChangeShapes Go.WideShapes Go.ChangeAt Go.RowKit Go.Joins


theorem lawTopOk (v : Value) (n : Nat) (Z : Nat → Int) (w : World) (hA : Arg 3 w v n Z) :
    Calls Try.prog 11 #[.agg #[v]] w fun e w' => e = .returned (.bool true) ∧ Below w.heap.size w w' := by
  by_cases hn : n ≤ 1048576
  · have e : zs Z n 3 = flat (eds Z n) := (flat_eds Z n).symm
    exact lawExactTopOk_fit v n Z w hA hn (topB (eds Z n)) (fun lo hi v w hr hh => stop_any lo hi n v (eds Z n) w (eds_len Z n) (e ▸ hr) hh) (fun lo hi v w hr hh => itop_any lo hi n v (eds Z n) w (eds_len Z n) (e ▸ hr) hh)
  · exact lawExactTopOk_big0 v n Z w hA (by omega)

set_option maxRecDepth 100000 in
theorem ExactTopOk_lifted (os : Os) (started : os.Started) (H : Type) (enc : TypeId × Value → H) :
    ReturnsInHanded {} Try.checked os 11 .any (Rows.fnExactTopOkSpec.pre6 enc Try.prog Try.f11 Rows.fnExactTopOkRow.domain false) (Rows.fnExactTopOkSpec.post enc Try.prog Try.f11 false true false false) := by
  refine returnsInHanded_of_change (C := Try.checked) Try.own started (by kernel_rfl) Try.func11
    (ChangeSpec.witness6 (enc := enc) (C := Try.checked) false ⟨#[], #[.agg #[.slice none 0 0]], []⟩ 8 (by kernel_rfl) (by kernel_rfl) (by kernel_rfl) (by kernel_rfl)) ?_
  intro W base args ds gs before hval0 hW _ _
  have hval : ∀ (j : Nat) t v, Try.f11.params[j]? = some t → args[j]? = some v → Value.okWide Try.prog W .any base t v := hval0
  have hW' := hW
  obtain ⟨p, q, hA0, _, _, _, _⟩ := hW
  have hA : DataW.TrodAll enc Try.prog W 0 (fun _ => true) true Try.f11.params.toList args.toList ds p := hA0
  rw [Try.params11] at hA hval
  obtain ⟨v0, d0, rfl, rfl, h0⟩ := trodAll_one hA
  obtain ⟨s0, n0, Z0, rfl, A0⟩ := open_Top (hval 0 61 v0 rfl rfl) h0
  refine (lawTopOk s0 n0 Z0 W A0).mono fun e W' ⟨he, hw⟩ => ⟨_, he, law_post Try.laidOut (fun u hu => ?_) rfl rfl Try.underlying4 hW' rfl hw⟩
  rw [Try.params11] at hu
  simp at hu
  subst hu
  exact Try.read61

theorem ExactTopOk_holds : Rows.FnExactTopOkSaid :=
  OpenClaim.holds_of_wide 11 Try.f11 rfl rfl rfl rfl rfl rfl rfl ⟨rfl, rfl, rfl, rfl, rfl⟩ rfl rfl rfl rfl rfl (by kernel_rfl) Try.func11 (by kernel_rfl)
    (of_decide_eq_true (by kernel_rfl)) (by unfold Func.isWrapper; first | (rw [if_pos (by decide +kernel)]; kernel_rfl) | (rw [if_neg (by decide +kernel)]; exact ⟨rfl, rfl⟩))
    (fun os started H enc _ => ExactTopOk_lifted os started H enc)

end Go.Proofs.Ytophppnllkadoaa
