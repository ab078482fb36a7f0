/- 'laws.FnExactCountBad' answers true for every two graphs and every number, and leaves its arguments as they were. No condition. -/
import Derived.Test.YtjenjdhoblcohaaLCountBad
import Derived.Test.YtjenjdhoblcohaaPk
import Derived.Test.YtjenjdhoblcohaaOb
namespace Go.Proofs.Ytjenjdhoblcohaa
open Go.ChangeShapes Go.WideShapes Go.ChangeAt Go.RowKit Go.Joins


theorem lawCountBad (x : Int) (v : Value) (n : Nat) (Z : Nat → Int) (x1 : Int) (v1 : Value) (n1 : Nat) (Z1 : Nat → Int) (d : Int) (w : World) (_hx : I64 x) (hA : Arg 3 w v n Z) (_hx1 : I64 x1) (hA1 : Arg 3 w v1 n1 Z1) (_hd : I64 d) :
    Calls Try.prog 8 #[.agg #[.int .i64 x, v], .agg #[.int .i64 x1, v1], .int .i64 d] w fun e w' => e = .returned (.bool true) ∧ Below w.heap.size w w' := by
  by_cases hn : n ≤ 1048576
  · by_cases hn1 : n + n1 ≤ 1048576
    · have e : zs Z n 3 = flat (eds Z n) := (flat_eds Z n).symm
      have e1 : zs Z1 n1 3 = flat (eds Z1 n1) := (flat_eds Z1 n1).symm
      exact lawExactCountBad_fit x v n Z x1 v1 n1 Z1 d w hA hA1 hn1 (cntV x (eds Z n) x1 (eds Z1 n1) d) (fun lo hi v lo1 hi1 v1 w hr hh hr1 hh1 => scnt2_any x x1 lo hi n lo1 hi1 n1 v v1 (eds Z n) (eds Z1 n1) d w (eds_len Z n) (eds_len Z1 n1) (e ▸ hr) (e1 ▸ hr1) hh hh1) (fun lo hi v lo1 hi1 v1 w hr hh hr1 hh1 => icnt2_any x x1 lo hi n lo1 hi1 n1 v v1 (eds Z n) (eds Z1 n1) d w (eds_len Z n) (eds_len Z1 n1) (e ▸ hr) (e1 ▸ hr1) hh hh1)
    · exact lawExactCountBad_big1 x v n Z x1 v1 n1 Z1 d w hA hA1 hn (by omega)
  · exact lawExactCountBad_big0 x v n Z x1 v1 n1 Z1 d w hA hA1 (by omega)

set_option maxRecDepth 100000 in
theorem ExactCountBad_lifted (os : Os) (started : os.Started) (H : Type) (enc : TypeId × Value → H) :
    ReturnsInHanded {} Try.checked os 8 .any (Rows.fnExactCountBadSpec.pre6 enc Try.prog Try.f8 Rows.fnExactCountBadRow.domain false) (Rows.fnExactCountBadSpec.post enc Try.prog Try.f8 false true false false) := by
  refine returnsInHanded_of_change (C := Try.checked) Try.own started (by kernel_rfl) Try.func8
    (ChangeSpec.witness6 (enc := enc) (C := Try.checked) false ⟨#[], #[.agg #[.int .i64 0, .slice none 0 0], .agg #[.int .i64 0, .slice none 0 0], .int .i64 0], []⟩ 8 (by kernel_rfl) (by kernel_rfl) (by kernel_rfl) (by kernel_rfl)) ?_
  intro W base args ds gs before hval0 hW _ _
  have hval : ∀ (j : Nat) t v, Try.f8.params[j]? = some t → args[j]? = some v → Value.okWide Try.prog W .any base t v := hval0
  have hW' := hW
  obtain ⟨p, q, hA0, _, _, _, _⟩ := hW
  have hA : DataW.TrodAll enc Try.prog W 0 (fun _ => true) true Try.f8.params.toList args.toList ds p := hA0
  rw [Try.params8] at hA hval
  obtain ⟨v0, v1, v2, d0, d1, d2, p0, p1, p2, rfl, rfl, rfl, h0, h1, h2⟩ := trodAll_three hA
  obtain ⟨x0, s0, n0, Z0, rfl, hx0, A0⟩ := open_Graph (hval 0 24 v0 rfl rfl) h0
  obtain ⟨x1, s1, n1, Z1, rfl, hx1, A1⟩ := open_Graph (hval 1 24 v1 rfl rfl) h1
  obtain ⟨a2, rfl, ha2, hb2⟩ := open_num (hval 2 3 v2 rfl rfl) h2
  refine (lawCountBad x0 s0 n0 Z0 x1 s1 n1 Z1 a2 W hx0 A0 hx1 A1 ⟨ha2, hb2⟩).mono fun e W' ⟨he, hw⟩ => ⟨_, he, law_post Try.laidOut (fun u hu => ?_) rfl rfl Try.underlying4 hW' rfl hw⟩
  rw [Try.params8] at hu
  simp at hu
  rcases hu with rfl | rfl
  · exact Try.read24
  · exact Try.read3

theorem ExactCountBad_holds : Rows.FnExactCountBadSaid :=
  OpenClaim.holds_of_wide 8 Try.f8 rfl rfl rfl rfl rfl rfl rfl ⟨rfl, rfl, rfl, rfl, rfl⟩ rfl rfl rfl rfl rfl (by kernel_rfl) Try.func8 (by kernel_rfl)
    (of_decide_eq_true (by kernel_rfl)) (by unfold Func.isWrapper; first | (rw [if_pos (by decide +kernel)]; kernel_rfl) | (rw [if_neg (by decide +kernel)]; exact ⟨rfl, rfl⟩))
    (fun os started H enc _ => ExactCountBad_lifted os started H enc)

end Go.Proofs.Ytjenjdhoblcohaa
