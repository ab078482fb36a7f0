/- 'laws.FnExactHistOf' answers true for every list of numbers, of whatever length, and leaves its argument as it was; what the program returns is memory of its own. No condition. -/
import Derived.Test.YtcchoiobdcaboaaLHistOf
import Derived.Test.YtcchoiobdcaboaaS12
import Derived.Test.YtcchoiobdcaboaaOpen
namespace Go.Proofs.Ytcchoiobdcaboaa
open Go.ChangeShapes Go.WideShapes Go.ChangeAt Go.RowKit Go.Joins


theorem hoC_len (D : List Int) : (hoC D).length ≤ 1100000 := by
  unfold hoC
  split
  · rw [hC_len]; omega
  · simp
theorem lawHistOf (v : Value) (D : List Int) (w : World) (hA : TArg w v D) :
    Calls Try.prog 8 #[v] w fun e w' => e = .returned (.bool true) ∧ Below w.heap.size w w' := by
  by_cases hd : D.length ≤ 1048576
  · exact lawExactHistOf_fit v D.length D w hA rfl hd (hoC D).length (hoS D) (hoC D) (hoB D) (hoC_len D) (fun lo hi v w hr hh => sho_any lo hi _ v D w hr hh) (fun lo hi v w hr hh => iho_any lo hi _ v D w hr hh)
  · exact lawExactHistOf_big v D w hA (by omega)

set_option maxRecDepth 100000 in
theorem ExactHistOf_lifted (os : Os) (started : os.Started) (H : Type) (enc : TypeId × Value → H) :
    ReturnsInHanded {} Try.checked os 8 .any (Rows.fnExactHistOfSpec.pre6 enc Try.prog Try.f8 Rows.fnExactHistOfRow.domain false) (Rows.fnExactHistOfSpec.post enc Try.prog Try.f8 false true false false) := by
  refine returnsInHanded_of_change (C := Try.checked) Try.own started (by kernel_rfl) Try.func8
    (ChangeSpec.witness6 (enc := enc) (C := Try.checked) false ⟨#[], #[.slice none 0 0], []⟩ 8 (by kernel_rfl) (by kernel_rfl) (by kernel_rfl) (by kernel_rfl)) ?_
  intro W base args ds gs before hval0 hW _ _
  have hval : ∀ (j : Nat) t v, Try.f8.params[j]? = some t → args[j]? = some v → Value.okWide Try.prog W .any base t v := hval0
  have hW' := hW
  obtain ⟨p, q, hA0, _, _, _, _⟩ := hW
  have hA : DataW.TrodAll enc Try.prog W 0 (fun _ => true) true Try.f8.params.toList args.toList ds p := hA0
  rw [Try.params8] at hA hval
  obtain ⟨v0, d0, rfl, rfl, h0⟩ := trodAll_one hA
  obtain ⟨D0, A0⟩ := open_Ints (hval 0 24 v0 rfl rfl) h0
  refine (lawHistOf v0 D0 W A0).mono fun e W' ⟨he, hw⟩ => ⟨_, he, law_post Try.laidOut (fun u hu => ?_) rfl rfl Try.underlying4 hW' rfl hw⟩
  rw [Try.params8] at hu
  simp at hu
  subst hu
  exact Try.read24

theorem ExactHistOf_holds : Rows.FnExactHistOfSaid :=
  OpenClaim.holds_of_wide 8 Try.f8 rfl rfl rfl rfl rfl rfl rfl ⟨rfl, rfl, rfl, rfl, rfl⟩ rfl rfl rfl rfl rfl (by kernel_rfl) Try.func8 (by kernel_rfl)
    (of_decide_eq_true (by kernel_rfl)) (by unfold Func.isWrapper; first | (rw [if_pos (by decide +kernel)]; kernel_rfl) | (rw [if_neg (by decide +kernel)]; exact ⟨rfl, rfl⟩))
    (fun os started H enc _ => ExactHistOf_lifted os started H enc)

end Go.Proofs.Ytcchoiobdcaboaa
