/- 'laws.FnExactMergeSketch' answers true for every two sketches, of whatever size, and leaves its arguments as they were; what the program returns is memory of its own. No condition. -/
import Derived.Test.YtophppnllkadoaaLMergeSketch
import Derived.Test.YtophppnllkadoaaKe
import Derived.Test.YtophppnllkadoaaK19
import Derived.Test.YtophppnllkadoaaKo
namespace Go.Proofs.Ytophppnllkadoaa
open Go.ChangeShapes Go.WideShapes Go.ChangeAt Go.RowKit Go.Joins


theorem mgD_tot {ta tb : Int} {DA DB : List (List Int)} (hd : ttot DA ≤ 1048576) : rtot (mgD ta DA tb DB) ≤ 1100000 := by
  unfold mgD
  split
  · exact rtot_mat _
  · unfold ttot at hd; omega
theorem lawMergeSketch (s0 : Value) (t0 : Int) (A0 : List (List Int)) (s1 : Value) (t1 : Int) (A1 : List (List Int)) (w : World) (hA : TArg w s0 A0) (ht : I64 t0) (hB : TArg w s1 A1) (hu : I64 t1) :
    Calls Try.prog 10 #[.agg #[s0, .int .i64 t0], .agg #[s1, .int .i64 t1]] w fun e w' => e = .returned (.bool true) ∧ Below w.heap.size w w' := by
  by_cases hd : ttot A0 ≤ 1048576
  · by_cases he : ttot A0 + ttot A1 ≤ 1048576
    · exact lawExactMergeSketch_fit s0 s1 t0 t1 A0.length A1.length A0 A1 w hA hB rfl rfl he (mgD t0 A0 t1 A1).length (mgT t0 A0 t1 A1) (mgD t0 A0 t1 A1) (mgB t0 A0 t1 A1) (mgD_tot hd) (fun la ha lb hb va vb w h1 h2 h3 h4 => smerge_any la ha _ lb hb _ va vb t0 t1 A0 A1 w h1 h2 h3 h4 ht hu) (fun la ha lb hb va vb w h1 h2 h3 h4 => imerge_any la ha _ lb hb _ va vb t0 t1 A0 A1 w h1 h2 h3 h4 ht hu)
    · exact lawExactMergeSketch_over s0 s1 t0 t1 A0.length A1.length A0 A1 w hA hB rfl rfl hd (by omega)
  · exact lawExactMergeSketch_big s0 s1 t0 t1 A0.length A1.length A0 A1 w hA hB rfl rfl (by omega)

set_option maxRecDepth 100000 in
theorem ExactMergeSketch_lifted (os : Os) (started : os.Started) (H : Type) (enc : TypeId × Value → H) :
    ReturnsInHanded {} Try.checked os 10 .any (Rows.fnExactMergeSketchSpec.pre6 enc Try.prog Try.f10 Rows.fnExactMergeSketchRow.domain false) (Rows.fnExactMergeSketchSpec.post enc Try.prog Try.f10 false true false false) := by
  refine returnsInHanded_of_change (C := Try.checked) Try.own started (by kernel_rfl) Try.func10
    (ChangeSpec.witness6 (enc := enc) (C := Try.checked) false ⟨#[], #[.agg #[.slice none 0 0, .int .i64 0], .agg #[.slice none 0 0, .int .i64 0]], []⟩ 8 (by kernel_rfl) (by kernel_rfl) (by kernel_rfl) (by kernel_rfl)) ?_
  intro W base args ds gs before hval0 hW _ _
  have hval : ∀ (j : Nat) t v, Try.f10.params[j]? = some t → args[j]? = some v → Value.okWide Try.prog W .any base t v := hval0
  have hW' := hW
  obtain ⟨p, q, hA0, _, _, _, _⟩ := hW
  have hA : DataW.TrodAll enc Try.prog W 0 (fun _ => true) true Try.f10.params.toList args.toList ds p := hA0
  rw [Try.params10] at hA hval
  obtain ⟨v0, v1, d0, d1, p0, p1, rfl, rfl, rfl, h0, h1⟩ := trodAll_two hA
  obtain ⟨s0, t0, D0, rfl, A0, it0⟩ := open_Sketch (hval 0 49 v0 rfl rfl) h0
  obtain ⟨s1, t1, D1, rfl, A1, it1⟩ := open_Sketch (hval 1 49 v1 rfl rfl) h1
  refine (lawMergeSketch s0 t0 D0 s1 t1 D1 W A0 it0 A1 it1).mono fun e W' ⟨he, hw⟩ => ⟨_, he, law_post Try.laidOut (fun u hu => ?_) rfl rfl Try.underlying4 hW' rfl hw⟩
  rw [Try.params10] at hu
  simp at hu
  subst hu
  exact Try.read49

theorem ExactMergeSketch_holds : Rows.FnExactMergeSketchSaid :=
  OpenClaim.holds_of_wide 10 Try.f10 rfl rfl rfl rfl rfl rfl rfl ⟨rfl, rfl, rfl, rfl, rfl⟩ rfl rfl rfl rfl rfl (by kernel_rfl) Try.func10 (by kernel_rfl)
    (of_decide_eq_true (by kernel_rfl)) (by unfold Func.isWrapper; first | (rw [if_pos (by decide +kernel)]; kernel_rfl) | (rw [if_neg (by decide +kernel)]; exact ⟨rfl, rfl⟩))
    (fun os started H enc _ => ExactMergeSketch_lifted os started H enc)

end Go.Proofs.Ytophppnllkadoaa
