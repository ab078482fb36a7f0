/- 'laws.FnExactQuantile' answers true for every histogram, of whatever size, and every number, and leaves its argument as it was. No condition. -/
import Derived.Test.YtcchoiobdcaboaaLQuantile
import Derived.Test.YtcchoiobdcaboaaS4
import Derived.Test.YtcchoiobdcaboaaOpen
namespace Go.Proofs.Ytcchoiobdcaboaa
open Go.ChangeShapes Go.WideShapes Go.ChangeAt Go.RowKit Go.Joins


theorem lawQuantile (s : Value) (t : Int) (D : List Int) (per : Int) (w : World) (hA : TArg w s D) (ht : I64 t) (_hper : I64 per) :
    Calls Try.prog 11 #[.agg #[s, .int .i64 t], .int .i64 per] w fun e w' => e = .returned (.bool true) ∧ Below w.heap.size w w' := by
  by_cases hd : D.length ≤ 1048576
  · exact lawExactQuantile_fit s t per D.length D w hA rfl hd (quaL D t per) (quaH D t per) (fun lo hi v w hr hh => squa_any lo hi _ v t D w hr hh ht per) (fun lo hi v w hr hh => iqua_any lo hi _ v t D w hr hh ht per)
  · exact lawExactQuantile_big s t per D.length D w hA rfl (by omega)

set_option maxRecDepth 100000 in
theorem ExactQuantile_lifted (os : Os) (started : os.Started) (H : Type) (enc : TypeId × Value → H) :
    ReturnsInHanded {} Try.checked os 11 .any (Rows.fnExactQuantileSpec.pre6 enc Try.prog Try.f11 Rows.fnExactQuantileRow.domain false) (Rows.fnExactQuantileSpec.post enc Try.prog Try.f11 false true false false) := by
  refine returnsInHanded_of_change (C := Try.checked) Try.own started (by kernel_rfl) Try.func11
    (ChangeSpec.witness6 (enc := enc) (C := Try.checked) false ⟨#[], #[.agg #[.slice none 0 0, .int .i64 0], .int .i64 0], []⟩ 8 (by kernel_rfl) (by kernel_rfl) (by kernel_rfl) (by kernel_rfl)) ?_
  intro W base args ds gs before hval0 hW _ _
  have hval : ∀ (j : Nat) t v, Try.f11.params[j]? = some t → args[j]? = some v → Value.okWide Try.prog W .any base t v := hval0
  have hW' := hW
  obtain ⟨p, q, hA0, _, _, _, _⟩ := hW
  have hA : DataW.TrodAll enc Try.prog W 0 (fun _ => true) true Try.f11.params.toList args.toList ds p := hA0
  rw [Try.params11] at hA hval
  obtain ⟨v0, v1, d0, d1, p0, p1, rfl, rfl, rfl, h0, h1⟩ := trodAll_two hA
  obtain ⟨s0, t0, D0, rfl, A0, it0⟩ := open_Hist (hval 0 39 v0 rfl rfl) h0
  obtain ⟨a1, rfl, ha1, hb1⟩ := open_num (hval 1 3 v1 rfl rfl) h1
  refine (lawQuantile s0 t0 D0 a1 W A0 it0 ⟨ha1, hb1⟩).mono fun e W' ⟨he, hw⟩ => ⟨_, he, law_post Try.laidOut (fun u hu => ?_) rfl rfl Try.underlying4 hW' rfl hw⟩
  rw [Try.params11] at hu
  simp at hu
  rcases hu with rfl | rfl
  · exact Try.read39
  · exact Try.read3

theorem ExactQuantile_holds : Rows.FnExactQuantileSaid :=
  OpenClaim.holds_of_wide 11 Try.f11 rfl rfl rfl rfl rfl rfl rfl ⟨rfl, rfl, rfl, rfl, rfl⟩ rfl rfl rfl rfl rfl (by kernel_rfl) Try.func11 (by kernel_rfl)
    (of_decide_eq_true (by kernel_rfl)) (by unfold Func.isWrapper; first | (rw [if_pos (by decide +kernel)]; kernel_rfl) | (rw [if_neg (by decide +kernel)]; exact ⟨rfl, rfl⟩))
    (fun os started H enc _ => ExactQuantile_lifted os started H enc)

end Go.Proofs.Ytcchoiobdcaboaa
