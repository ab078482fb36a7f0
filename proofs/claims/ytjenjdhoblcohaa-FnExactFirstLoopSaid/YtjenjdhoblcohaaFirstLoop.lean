/- 'laws.FnExactFirstLoop' answers true for every two graphs, every list of numbers, of whatever lengths, and every number, and leaves its arguments as they were. No condition. -/
import Derived.Test.YtjenjdhoblcohaaLFirstLoop
import Derived.Test.YtjenjdhoblcohaaPd
import Derived.Test.YtjenjdhoblcohaaOb
namespace Go.Proofs.Ytjenjdhoblcohaa
open Go.ChangeShapes Go.WideShapes Go.ChangeAt Go.RowKit Go.Joins


theorem lawFirstLoop (x : Int) (v : Value) (n : Nat) (Z : Nat → Int) (x1 : Int) (v1 : Value) (n1 : Nat) (Z1 : Nat → Int) (v2 : Value) (n2 : Nat) (Z2 : Nat → Int) (d : Int) (w : World) (_hx : I64 x) (hA : Arg 3 w v n Z) (_hx1 : I64 x1) (hA1 : Arg 3 w v1 n1 Z1) (hA2 : Arg 1 w v2 n2 Z2) (_hd : I64 d) :
    Calls Try.prog 7 #[.agg #[.int .i64 x, v], .agg #[.int .i64 x1, v1], v2, .int .i64 d] w fun e w' => e = .returned (.bool true) ∧ Below w.heap.size w w' := by
  by_cases hn2 : n2 ≤ 1048576
  · by_cases hn : n ≤ 1048576
    · by_cases hn1 : n + n1 ≤ 1048576
      · have e : zs Z n 3 = flat (eds Z n) := (flat_eds Z n).symm
        have e1 : zs Z1 n1 3 = flat (eds Z1 n1) := (flat_eds Z1 n1).symm
        exact lawExactFirstLoop_fit x v n Z x1 v1 n1 Z1 v2 n2 Z2 d w hA hA1 hA2 hn1 hn2 (fstL x (eds Z n) x1 (eds Z1 n1) (zs Z2 n2 1) d) (fun lo hi v lo1 hi1 v1 lo2 hi2 v2 w hr hh hr1 hh1 hr2 hh2 hc => sfst_any x x1 lo hi n lo1 hi1 n1 v v1 (eds Z n) (eds Z1 n1) v2 lo2 hi2 n2 _ d w (eds_len Z n) (eds_len Z1 n1) (e ▸ hr) (e1 ▸ hr1) hh hh1 hc hr2 hh2) (fun lo hi v lo1 hi1 v1 lo2 hi2 v2 w hr hh hr1 hh1 hr2 hh2 hc => ifst_any x x1 lo hi n lo1 hi1 n1 v v1 (eds Z n) (eds Z1 n1) v2 lo2 hi2 n2 _ d w (eds_len Z n) (eds_len Z1 n1) (e ▸ hr) (e1 ▸ hr1) hh hh1 hc hr2 hh2)
      · exact lawExactFirstLoop_big2 x v n Z x1 v1 n1 Z1 v2 n2 Z2 d w hA hA1 hA2 hn (by omega) hn2
    · exact lawExactFirstLoop_big1 x v n Z x1 v1 n1 Z1 v2 n2 Z2 d w hA hA1 hA2 (by omega) hn2
  · exact lawExactFirstLoop_big0 x v n Z x1 v1 n1 Z1 v2 n2 Z2 d w hA hA1 hA2 (by omega)

set_option maxRecDepth 100000 in
theorem ExactFirstLoop_lifted (os : Os) (started : os.Started) (H : Type) (enc : TypeId × Value → H) :
    ReturnsInHanded {} Try.checked os 7 .any (Rows.fnExactFirstLoopSpec.pre6 enc Try.prog Try.f7 Rows.fnExactFirstLoopRow.domain false) (Rows.fnExactFirstLoopSpec.post enc Try.prog Try.f7 false true false false) := by
  refine returnsInHanded_of_change (C := Try.checked) Try.own started (by kernel_rfl) Try.func7
    (ChangeSpec.witness6 (enc := enc) (C := Try.checked) false ⟨#[], #[.agg #[.int .i64 0, .slice none 0 0], .agg #[.int .i64 0, .slice none 0 0], .slice none 0 0, .int .i64 0], []⟩ 8 (by kernel_rfl) (by kernel_rfl) (by kernel_rfl) (by kernel_rfl)) ?_
  intro W base args ds gs before hval0 hW _ _
  have hval : ∀ (j : Nat) t v, Try.f7.params[j]? = some t → args[j]? = some v → Value.okWide Try.prog W .any base t v := hval0
  have hW' := hW
  obtain ⟨p, q, hA0, _, _, _, _⟩ := hW
  have hA : DataW.TrodAll enc Try.prog W 0 (fun _ => true) true Try.f7.params.toList args.toList ds p := hA0
  rw [Try.params7] at hA hval
  obtain ⟨v0, v1, v2, v3, d0, d1, d2, d3, p0, p1, p2, p3, rfl, rfl, rfl, h0, h1, h2, h3⟩ := trodAll_four hA
  obtain ⟨x0, s0, n0, Z0, rfl, hx0, A0⟩ := open_Graph (hval 0 24 v0 rfl rfl) h0
  obtain ⟨x1, s1, n1, Z1, rfl, hx1, A1⟩ := open_Graph (hval 1 24 v1 rfl rfl) h1
  obtain ⟨n2, Z2, A2⟩ := open_intS (hval 2 33 v2 rfl rfl) h2
  obtain ⟨a3, rfl, ha3, hb3⟩ := open_num (hval 3 3 v3 rfl rfl) h3
  refine (lawFirstLoop x0 s0 n0 Z0 x1 s1 n1 Z1 v2 n2 Z2 a3 W hx0 A0 hx1 A1 A2 ⟨ha3, hb3⟩).mono fun e W' ⟨he, hw⟩ => ⟨_, he, law_post Try.laidOut (fun u hu => ?_) rfl rfl Try.underlying4 hW' rfl hw⟩
  rw [Try.params7] at hu
  simp at hu
  rcases hu with rfl | rfl | rfl
  · exact Try.read24
  · exact Try.read33
  · exact Try.read3

theorem ExactFirstLoop_holds : Rows.FnExactFirstLoopSaid :=
  OpenClaim.holds_of_wide 7 Try.f7 rfl rfl rfl rfl rfl rfl rfl ⟨rfl, rfl, rfl, rfl, rfl⟩ rfl rfl rfl rfl rfl (by kernel_rfl) Try.func7 (by kernel_rfl)
    (of_decide_eq_true (by kernel_rfl)) (by unfold Func.isWrapper; first | (rw [if_pos (by decide +kernel)]; kernel_rfl) | (rw [if_neg (by decide +kernel)]; exact ⟨rfl, rfl⟩))
    (fun os started H enc _ => ExactFirstLoop_lifted os started H enc)

end Go.Proofs.Ytjenjdhoblcohaa
