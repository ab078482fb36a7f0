/- 'laws.FnExactLessHist' answers true for every two histograms, of whatever size, and leaves its arguments as they were; what the program returns is memory of its own. No condition. -/
import Derived.Test.YtcchoiobdcaboaaLLessHist
import Derived.Test.YtcchoiobdcaboaaKLessHist
import Derived.Test.YtcchoiobdcaboaaS9
import Derived.Test.YtcchoiobdcaboaaS8b
import Derived.Test.YtcchoiobdcaboaaOpen
namespace Go.Proofs.Ytcchoiobdcaboaa
open Go.ChangeShapes Go.WideShapes Go.ChangeAt Go.RowKit Go.Joins


theorem lawLessHist (s0 : Value) (t0 : Int) (A0 : List Int) (s1 : Value) (t1 : Int) (A1 : List Int) (w : World) (hA : TArg w s0 A0) (ht : I64 t0) (hB : TArg w s1 A1) (hu : I64 t1) :
    Calls Try.prog 13 #[.agg #[s0, .int .i64 t0], .agg #[s1, .int .i64 t1]] w fun e w' => e = .returned (.bool true) ∧ Below w.heap.size w w' := by
  by_cases hd : A0.length ≤ 1048576
  · by_cases he : A0.length + A1.length ≤ 1048576
    · exact lawExactLessHist_fit s0 s1 t0 t1 A0.length A1.length A0 A1 w hA hB rfl rfl he A0.length (cmS A0 t0 A1 t1 (-1)) (cmC A0 t0 A1 t1 (-1)) (cmB A0 t0 A1 t1 (-1)) (by omega) (fun la ha lb hb va vb w h1 h2 h3 h4 => sles_any la ha _ lb hb _ va vb t0 t1 A0 A1 w h1 h2 h3 h4 ht hu) (fun la ha lb hb va vb w h1 h2 h3 h4 => iles_any la ha _ lb hb _ va vb t0 t1 A0 A1 w h1 h2 h3 h4 ht hu)
    · exact lawExactLessHist_over s0 s1 t0 t1 A0.length A1.length A0 A1 w hA hB rfl rfl hd (by omega)
  · exact lawExactLessHist_big s0 s1 t0 t1 A0.length A1.length A0 A1 w hA hB rfl rfl (by omega)

set_option maxRecDepth 100000 in
theorem ExactLessHist_lifted (os : Os) (started : os.Started) (H : Type) (enc : TypeId × Value → H) :
    ReturnsInHanded {} Try.checked os 13 .any (Rows.fnExactLessHistSpec.pre6 enc Try.prog Try.f13 Rows.fnExactLessHistRow.domain false) (Rows.fnExactLessHistSpec.post enc Try.prog Try.f13 false true false false) := by
  refine returnsInHanded_of_change (C := Try.checked) Try.own started (by kernel_rfl) Try.func13
    (ChangeSpec.witness6 (enc := enc) (C := Try.checked) false ⟨#[], #[.agg #[.slice none 0 0, .int .i64 0], .agg #[.slice none 0 0, .int .i64 0]], []⟩ 8 (by kernel_rfl) (by kernel_rfl) (by kernel_rfl) (by kernel_rfl)) ?_
  intro W base args ds gs before hval0 hW _ _
  have hval : ∀ (j : Nat) t v, Try.f13.params[j]? = some t → args[j]? = some v → Value.okWide Try.prog W .any base t v := hval0
  have hW' := hW
  obtain ⟨p, q, hA0, _, _, _, _⟩ := hW
  have hA : DataW.TrodAll enc Try.prog W 0 (fun _ => true) true Try.f13.params.toList args.toList ds p := hA0
  rw [Try.params13] at hA hval
  obtain ⟨v0, v1, d0, d1, p0, p1, rfl, rfl, rfl, h0, h1⟩ := trodAll_two hA
  obtain ⟨s0, t0, D0, rfl, A0, it0⟩ := open_Hist (hval 0 39 v0 rfl rfl) h0
  obtain ⟨s1, t1, D1, rfl, A1, it1⟩ := open_Hist (hval 1 39 v1 rfl rfl) h1
  refine (lawLessHist s0 t0 D0 s1 t1 D1 W A0 it0 A1 it1).mono fun e W' ⟨he, hw⟩ => ⟨_, he, law_post Try.laidOut (fun u hu => ?_) rfl rfl Try.underlying4 hW' rfl hw⟩
  rw [Try.params13] at hu
  simp at hu
  subst hu
  exact Try.read39

theorem ExactLessHist_holds : Rows.FnExactLessHistSaid :=
  OpenClaim.holds_of_wide 13 Try.f13 rfl rfl rfl rfl rfl rfl rfl ⟨rfl, rfl, rfl, rfl, rfl⟩ rfl rfl rfl rfl rfl (by kernel_rfl) Try.func13 (by kernel_rfl)
    (of_decide_eq_true (by kernel_rfl)) (by unfold Func.isWrapper; first | (rw [if_pos (by decide +kernel)]; kernel_rfl) | (rw [if_neg (by decide +kernel)]; exact ⟨rfl, rfl⟩))
    (fun os started H enc _ => ExactLessHist_lifted os started H enc)

end Go.Proofs.Ytcchoiobdcaboaa
