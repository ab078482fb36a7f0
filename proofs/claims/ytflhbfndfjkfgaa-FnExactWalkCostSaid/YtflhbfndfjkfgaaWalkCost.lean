/- 'laws.FnExactWalkCost' answers true for every graph and every way, of whatever lengths, and leaves its arguments as they were. No condition. -/
import Derived.Test.YtflhbfndfjkfgaaQLWayCost
import Derived.Test.YtflhbfndfjkfgaaQWc
import Derived.Test.YtflhbfndfjkfgaaQOpen
namespace Go.Proofs.Ytflhbfndfjkfgaa
open Go.ChangeShapes Go.WideShapes Go.ChangeAt Go.RowKit Go.Joins


theorem zs_one (Z : Nat → Int) (n : Nat) : zs Z n 1 = (List.range n).map Z := by unfold zs; rw [Nat.mul_one]
theorem lawWalkCost (x : Int) (v : Value) (n : Nat) (Z : Nat → Int) (v1 : Value) (n1 : Nat) (Z1 : Nat → Int) (w : World) (_hx : I64 x) (hA : Arg 3 w v n Z) (hA1 : Arg 1 w v1 n1 Z1) :
    Calls Try.prog 4 #[.agg #[.int .i64 x, v], v1] w fun e w' => e = .returned (.bool true) ∧ Below w.heap.size w w' := by
  by_cases hn1 : n1 ≤ 1048576
  · by_cases hn : n ≤ 1048576
    · have e : zs Z n 3 = flat (eds Z n) := (flat_eds Z n).symm
      exact lawExactWayCost_fit x v n Z v1 n1 Z1 w hA hA1 hn hn1 (wcM x (eds Z n) (zs Z1 n1 1)) (fun lo hi v lo1 hi1 v1 w hr hh hr1 hh1 => swk_any x lo hi n v (eds Z n) lo1 hi1 n1 v1 _ w (eds_len Z n) (e ▸ hr) hh hr1 hh1) (fun lo hi v lo1 hi1 v1 w hr hh hr1 hh1 => iwk_any x lo hi n v (eds Z n) lo1 hi1 n1 v1 _ w (eds_len Z n) (e ▸ hr) hh hr1 hh1)
    · exact lawExactWayCost_big0 x v n Z v1 n1 Z1 w hA hA1 hn1 (by omega)
  · exact lawExactWayCost_big1 x v n Z v1 n1 Z1 w hA hA1 (by omega)

set_option maxRecDepth 100000 in
theorem ExactWalkCost_lifted (os : Os) (started : os.Started) (H : Type) (enc : TypeId × Value → H) :
    ReturnsInHanded {} Try.checked os 4 .any (Rows.fnExactWalkCostSpec.pre6 enc Try.prog Try.f4 Rows.fnExactWalkCostRow.domain false) (Rows.fnExactWalkCostSpec.post enc Try.prog Try.f4 false true false false) := by
  refine returnsInHanded_of_change (C := Try.checked) Try.own started (by kernel_rfl) Try.func4
    (ChangeSpec.witness6 (enc := enc) (C := Try.checked) false ⟨#[], #[.agg #[.int .i64 0, .slice none 0 0], .slice none 0 0], []⟩ 8 (by kernel_rfl) (by kernel_rfl) (by kernel_rfl) (by kernel_rfl)) ?_
  intro W base args ds gs before hval0 hW _ _
  have hval : ∀ (j : Nat) t v, Try.f4.params[j]? = some t → args[j]? = some v → Value.okWide Try.prog W .any base t v := hval0
  have hW' := hW
  obtain ⟨p, q, hA0, _, _, _, _⟩ := hW
  have hA : DataW.TrodAll enc Try.prog W 0 (fun _ => true) true Try.f4.params.toList args.toList ds p := hA0
  rw [Try.params4] at hA hval
  obtain ⟨v0, v1, d0, d1, p0, p1, rfl, rfl, rfl, h0, h1⟩ := trodAll_two hA
  obtain ⟨x0, s0, n0, Z0, rfl, hx0, A0⟩ := open_Graph (hval 0 36 v0 rfl rfl) h0
  obtain ⟨n1, Z1, A1⟩ := open_intS (hval 1 24 v1 rfl rfl) h1
  refine (lawWalkCost x0 s0 n0 Z0 v1 n1 Z1 W hx0 A0 A1).mono fun e W' ⟨he, hw⟩ => ⟨_, he, law_post Try.laidOut (fun u hu => ?_) rfl rfl Try.underlying4 hW' rfl hw⟩
  rw [Try.params4] at hu
  simp at hu
  rcases hu with rfl | rfl
  · exact Try.read36
  · exact Try.read24

theorem ExactWalkCost_holds : Rows.FnExactWalkCostSaid :=
  OpenClaim.holds_of_wide 4 Try.f4 rfl rfl rfl rfl rfl rfl rfl ⟨rfl, rfl, rfl, rfl, rfl⟩ rfl rfl rfl rfl rfl (by kernel_rfl) Try.func4 (by kernel_rfl)
    (of_decide_eq_true (by kernel_rfl)) (by unfold Func.isWrapper; first | (rw [if_pos (by decide +kernel)]; kernel_rfl) | (rw [if_neg (by decide +kernel)]; exact ⟨rfl, rfl⟩))
    (fun os started H enc _ => ExactWalkCost_lifted os started H enc)

end Go.Proofs.Ytflhbfndfjkfgaa
