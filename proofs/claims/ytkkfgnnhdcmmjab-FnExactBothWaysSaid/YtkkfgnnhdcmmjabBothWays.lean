/- 'laws.FnExactBothWays' answers true for every graph, of whatever number of nodes and edges, and leaves its argument as it was; what the program returns is memory of its own. No condition. -/
import Derived.Test.YtkkfgnnhdcmmjabLBothWays
import Derived.Test.YtkkfgnnhdcmmjabW13
import Derived.Test.YtkkfgnnhdcmmjabOpen
namespace Go.Proofs.Ytkkfgnnhdcmmjab
open Go.ChangeShapes Go.WideShapes Go.ChangeAt Go.RowKit Go.Joins


theorem lawBothWays (x : Int) (v : Value) (n : Nat) (Z : Nat → Int) (w : World) (_hx : I64 x) (hA : Arg 3 w v n Z) :
    Calls Try.prog 7 #[.agg #[.int .i64 x, v]] w fun e w' => e = .returned (.bool true) ∧ Below w.heap.size w w' := by
  by_cases hn : n ≤ 1048576
  · have e : zs Z n 3 = flat (eds Z n) := (flat_eds Z n).symm
    by_cases hG : gok x (eds Z n) = true
    · have hl : ((eds Z n).filter (bwP (eds Z n))).length ≤ 1100000 := by have h1 := List.length_filter_le (bwP (eds Z n)) (eds Z n); rw [eds_len] at h1; omega
      exact lawExactBothWays_fit x v n Z w hA hn x _ (flat ((eds Z n).filter (bwP (eds Z n)))) true hl (fun lo hi v w hr hh => sbw_yes x lo hi n v (eds Z n) w (eds_len Z n) (e ▸ hr) hh hG) (fun lo hi v w hr hh => ibw_yes x lo hi n v (eds Z n) w (eds_len Z n) (e ▸ hr) hh hG)
    · rw [Bool.not_eq_true] at hG
      exact lawExactBothWays_fit x v n Z w hA hn 0 0 (flat []) false (by omega) (fun lo hi v w hr hh => sbw_no x lo hi n v (eds Z n) w (eds_len Z n) (e ▸ hr) hh hG) (fun lo hi v w hr hh => ibw_no x lo hi n v (eds Z n) w (eds_len Z n) (e ▸ hr) hh hG)
  · exact lawExactBothWays_big0 x v n Z w hA (by omega)

set_option maxRecDepth 100000 in
theorem ExactBothWays_lifted (os : Os) (started : os.Started) (H : Type) (enc : TypeId × Value → H) :
    ReturnsInHanded {} Try.checked os 7 .any (Rows.fnExactBothWaysSpec.pre6 enc Try.prog Try.f7 Rows.fnExactBothWaysRow.domain false) (Rows.fnExactBothWaysSpec.post enc Try.prog Try.f7 false true false false) := by
  refine returnsInHanded_of_change (C := Try.checked) Try.own started (by kernel_rfl) Try.func7
    (ChangeSpec.witness6 (enc := enc) (C := Try.checked) false ⟨#[], #[.agg #[.int .i64 0, .slice none 0 0]], []⟩ 8 (by kernel_rfl) (by kernel_rfl) (by kernel_rfl) (by kernel_rfl)) ?_
  intro W base args ds gs before hval0 hW _ _
  have hval : ∀ (j : Nat) t v, Try.f7.params[j]? = some t → args[j]? = some v → Value.okWide Try.prog W .any base t v := hval0
  have hW' := hW
  obtain ⟨p, q, hA0, _, _, _, _⟩ := hW
  have hA : DataW.TrodAll enc Try.prog W 0 (fun _ => true) true Try.f7.params.toList args.toList ds p := hA0
  rw [Try.params7] at hA hval
  obtain ⟨v0, d0, rfl, rfl, h0⟩ := trodAll_one hA
  obtain ⟨x0, s0, n0, Z0, rfl, hx0, A0⟩ := open_Graph (hval 0 24 v0 rfl rfl) h0
  refine (lawBothWays x0 s0 n0 Z0 W hx0 A0).mono fun e W' ⟨he, hw⟩ => ⟨_, he, law_post Try.laidOut (fun u hu => ?_) rfl rfl Try.underlying4 hW' rfl hw⟩
  rw [Try.params7] at hu
  simp at hu
  subst hu
  exact Try.read24

theorem ExactBothWays_holds : Rows.FnExactBothWaysSaid :=
  OpenClaim.holds_of_wide 7 Try.f7 rfl rfl rfl rfl rfl rfl rfl ⟨rfl, rfl, rfl, rfl, rfl⟩ rfl rfl rfl rfl rfl (by kernel_rfl) Try.func7 (by kernel_rfl)
    (of_decide_eq_true (by kernel_rfl)) (by unfold Func.isWrapper; first | (rw [if_pos (by decide +kernel)]; kernel_rfl) | (rw [if_neg (by decide +kernel)]; exact ⟨rfl, rfl⟩))
    (fun os started H enc _ => ExactBothWays_lifted os started H enc)

end Go.Proofs.Ytkkfgnnhdcmmjab
