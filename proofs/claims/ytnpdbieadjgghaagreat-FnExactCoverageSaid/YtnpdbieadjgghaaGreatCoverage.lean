/- 'laws.FnExactCoverage' answers true for every graph, and leaves its argument as it was. No condition. -/
import Derived.Test.YtnpdbieadjgghaaGreatLCoverage
import Derived.Test.YtnpdbieadjgghaaGreatCi
import Derived.Test.YtnpdbieadjgghaaGreatOpen
namespace Go.Proofs.YtnpdbieadjgghaaGreat
open Go.ChangeShapes Go.WideShapes Go.ChangeAt Go.RowKit Go.Joins


theorem lawCoverage (x : Int) (v : Value) (n : Nat) (Z : Nat → Int) (w : World) (_hx : I64 x) (hA : Arg 3 w v n Z) :
    Calls Tryz.prog 3 #[.agg #[.int .i64 x, v]] w fun e w' => e = .returned (.bool true) ∧ Below w.heap.size w w' := by
  by_cases hn : n ≤ 1048576
  · have e : zs Z n 3 = flat (eds Z n) := (flat_eds Z n).symm
    exact lawExactCoverage_fit x v n Z w hA hn (covH x (eds Z n) : Int) (covA x (eds Z n) : Int) (fun lo hi v w hr hh => scov_any x lo hi n v (eds Z n) w (eds_len Z n) (e ▸ hr) hh) (fun lo hi v w hr hh => icov_any x lo hi n v (eds Z n) w (eds_len Z n) (e ▸ hr) hh)
  · exact lawExactCoverage_big0 x v n Z w hA (by omega)

set_option maxRecDepth 100000 in
theorem ExactCoverage_lifted (os : Os) (started : os.Started) (H : Type) (enc : TypeId × Value → H) :
    ReturnsInHanded {} Tryz.checked os 3 .any (Rows.fnExactCoverageSpec.pre6 enc Tryz.prog Tryz.f3 Rows.fnExactCoverageRow.domain false) (Rows.fnExactCoverageSpec.post enc Tryz.prog Tryz.f3 false true false false) := by
  refine returnsInHanded_of_change (C := Tryz.checked) Tryz.own started (by kernel_rfl) Tryz.func3
    (ChangeSpec.witness6 (enc := enc) (C := Tryz.checked) false ⟨#[], #[.agg #[.int .i64 0, .slice none 0 0]], []⟩ 8 (by kernel_rfl) (by kernel_rfl) (by kernel_rfl) (by kernel_rfl)) ?_
  intro W base args ds gs before hval0 hW _ _
  have hval : ∀ (j : Nat) t v, Tryz.f3.params[j]? = some t → args[j]? = some v → Value.okWide Tryz.prog W .any base t v := hval0
  have hW' := hW
  obtain ⟨p, q, hA0, _, _, _, _⟩ := hW
  have hA : DataW.TrodAll enc Tryz.prog W 0 (fun _ => true) true Tryz.f3.params.toList args.toList ds p := hA0
  rw [Tryz.params3] at hA hval
  obtain ⟨v0, d0, rfl, rfl, h0⟩ := trodAll_one hA
  obtain ⟨x0, s0, n0, Z0, rfl, hx0, A0⟩ := open_Graph (hval 0 24 v0 rfl rfl) h0
  refine (lawCoverage x0 s0 n0 Z0 W hx0 A0).mono fun e W' ⟨he, hw⟩ => ⟨_, he, law_post Tryz.laidOut (fun u hu => ?_) rfl rfl Tryz.underlying4 hW' rfl hw⟩
  rw [Tryz.params3] at hu
  simp at hu
  subst hu
  exact Tryz.read24

theorem ExactCoverage_holds : Rows.FnExactCoverageSaid :=
  OpenClaim.holds_of_wide 3 Tryz.f3 rfl rfl rfl rfl rfl rfl rfl ⟨rfl, rfl, rfl, rfl, rfl⟩ rfl rfl rfl rfl rfl (by kernel_rfl) Tryz.func3 (by kernel_rfl)
    (of_decide_eq_true (by kernel_rfl)) (by unfold Func.isWrapper; first | (rw [if_pos (by decide +kernel)]; kernel_rfl) | (rw [if_neg (by decide +kernel)]; exact ⟨rfl, rfl⟩))
    (fun os started H enc _ => ExactCoverage_lifted os started H enc)

end Go.Proofs.YtnpdbieadjgghaaGreat
