/- 'laws.FnExactGaps' answers true for every list of samples, of whatever length, and every number, and leaves its argument as it was; what the program returns is memory of its own. No condition. -/
import Derived.Test.YtadanckhmjgphaaLGaps
import Derived.Test.YtadanckhmjgphaaS5
import Derived.Test.YtadanckhmjgphaaOpen
namespace Go.Proofs.Ytadanckhmjgphaa
open Go.ChangeShapes Go.WideShapes Go.ChangeAt Go.RowKit Go.Joins


theorem lawGaps (v : Value) (n : Nat) (Z : Nat → Int) (m : Int) (w : World) (hA : Arg 3 w v n Z) (_hm : I64 m) :
    Calls Try.prog 11 #[v, .int .i64 m] w fun e w' => e = .returned (.bool true) ∧ Below w.heap.size w w' := by
  by_cases hn : n ≤ 1048576
  · have e : zs Z n 3 = flat (eds Z n) := (flat_eds Z n).symm
    have hl := gapL_len (eds Z n) m
    exact lawExactGaps_fit v n Z m w hA hn (gapL (eds Z n) m).length (gapL (eds Z n) m) (by omega) (fun lo hi v w hr hh => sgaps_any lo hi n v (eds Z n) w (eds_len Z n) (e ▸ hr) hh m) (fun lo hi v w hr hh => igaps_any lo hi n v (eds Z n) w (eds_len Z n) (e ▸ hr) hh m)
  · exact lawExactGaps_big0 v n Z m w hA (by omega)

set_option maxRecDepth 100000 in
theorem ExactGaps_lifted (os : Os) (started : os.Started) (H : Type) (enc : TypeId × Value → H) :
    ReturnsInHanded {} Try.checked os 11 .any (Rows.fnExactGapsSpec.pre6 enc Try.prog Try.f11 Rows.fnExactGapsRow.domain false) (Rows.fnExactGapsSpec.post enc Try.prog Try.f11 false true false false) := by
  refine returnsInHanded_of_change (C := Try.checked) Try.own started (by kernel_rfl) Try.func11
    (ChangeSpec.witness6 (enc := enc) (C := Try.checked) false ⟨#[], #[.slice none 0 0, .int .i64 0], []⟩ 8 (by kernel_rfl) (by kernel_rfl) (by kernel_rfl) (by kernel_rfl)) ?_
  intro W base args ds gs before hval0 hW _ _
  have hval : ∀ (j : Nat) t v, Try.f11.params[j]? = some t → args[j]? = some v → Value.okWide Try.prog W .any base t v := hval0
  have hW' := hW
  obtain ⟨p, q, hA0, _, _, _, _⟩ := hW
  have hA : DataW.TrodAll enc Try.prog W 0 (fun _ => true) true Try.f11.params.toList args.toList ds p := hA0
  rw [Try.params11] at hA hval
  obtain ⟨v0, v1, d0, d1, p0, p1, rfl, rfl, rfl, h0, h1⟩ := trodAll_two hA
  obtain ⟨n0, Z0, A0⟩ := open_SampleS (hval 0 38 v0 rfl rfl) h0
  obtain ⟨a1, rfl, ha1, hb1⟩ := open_num (hval 1 3 v1 rfl rfl) h1
  refine (lawGaps v0 n0 Z0 a1 W A0 ⟨ha1, hb1⟩).mono fun e W' ⟨he, hw⟩ => ⟨_, he, law_post Try.laidOut (fun u hu => ?_) rfl rfl Try.underlying4 hW' rfl hw⟩
  rw [Try.params11] at hu
  simp at hu
  rcases hu with rfl | rfl
  · exact Try.read38
  · exact Try.read3

theorem ExactGaps_holds : Rows.FnExactGapsSaid :=
  OpenClaim.holds_of_wide 11 Try.f11 rfl rfl rfl rfl rfl rfl rfl ⟨rfl, rfl, rfl, rfl, rfl⟩ rfl rfl rfl rfl rfl (by kernel_rfl) Try.func11 (by kernel_rfl)
    (of_decide_eq_true (by kernel_rfl)) (by unfold Func.isWrapper; first | (rw [if_pos (by decide +kernel)]; kernel_rfl) | (rw [if_neg (by decide +kernel)]; exact ⟨rfl, rfl⟩))
    (fun os started H enc _ => ExactGaps_lifted os started H enc)

end Go.Proofs.Ytadanckhmjgphaa
