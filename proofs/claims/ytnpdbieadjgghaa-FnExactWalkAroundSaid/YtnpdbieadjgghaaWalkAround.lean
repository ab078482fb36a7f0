/- 'laws.FnExactWalkAround' answers true for every graph and all three numbers, and leaves its argument as it was; what the program returns is memory of its own. No condition. -/
import Derived.Test.YtnpdbieadjgghaaLWalkAround
import Derived.Test.YtnpdbieadjgghaaWi2
import Derived.Test.YtnpdbieadjgghaaOpen
namespace Go.Proofs.Ytnpdbieadjgghaa
open Go.ChangeShapes Go.WideShapes Go.ChangeAt Go.RowKit Go.Joins


theorem lawWalkAround (x : Int) (v : Value) (n : Nat) (Z : Nat → Int) (a b c : Int) (w : World) (_hx : I64 x) (hA : Arg 3 w v n Z) (_ha : I64 a) (_hb : I64 b) (_hc : I64 c) :
    Calls Try.prog 7 #[.agg #[.int .i64 x, v], .int .i64 a, .int .i64 b, .int .i64 c] w fun e w' => e = .returned (.bool true) ∧ Below w.heap.size w w' := by
  by_cases hn : n ≤ 1048576
  · have e : zs Z n 3 = flat (eds Z n) := (flat_eds Z n).symm
    have hln := eds_len Z n
    rcases bst_cases x (eds Z n) a b c with h | ⟨M, s, y, d, rfl, rfl, rfl, h, hG, hs, hy, hd, hf⟩
    · exact lawExactWalkAround_fit x v n Z a b c w hA hn 0 [] false (by omega) (fun lo hi v w hr hh => swa_no x lo hi n v (eds Z n) a b c w hln (e ▸ hr) hh h) (fun lo hi v w hr hh => iwa_no x lo hi n v (eds Z n) a b c w hln (e ▸ hr) hh h)
    · obtain ⟨l, hl⟩ := WayP.ex hG ⟨by omega, by omega⟩ ⟨by omega, by omega⟩ hf
      have hlen := hl.len hG ⟨by omega, by omega⟩
      have hM := (gok_parts hG).2.1
      exact lawExactWalkAround_fit (M : Int) v n Z (s : Int) b (d : Int) w hA hn (1 + (l.length + 1)) ((s : Int) :: (y : Int) :: l) true (by omega) (fun lo hi v w hr hh => swa_yes M s y d lo hi n v (eds Z n) b w hln (e ▸ hr) hh hG hy hd h l hl) (fun lo hi v w hr hh => iwa_yes M s y d lo hi n v (eds Z n) b w hln (e ▸ hr) hh hG hy hd h l hl)
  · exact lawExactWalkAround_big0 x v n Z a b c w hA (by omega)

set_option maxRecDepth 100000 in
theorem ExactWalkAround_lifted (os : Os) (started : os.Started) (H : Type) (enc : TypeId × Value → H) :
    ReturnsInHanded {} Try.checked os 7 .any (Rows.fnExactWalkAroundSpec.pre6 enc Try.prog Try.f7 Rows.fnExactWalkAroundRow.domain false) (Rows.fnExactWalkAroundSpec.post enc Try.prog Try.f7 false true false false) := by
  refine returnsInHanded_of_change (C := Try.checked) Try.own started (by kernel_rfl) Try.func7
    (ChangeSpec.witness6 (enc := enc) (C := Try.checked) false ⟨#[], #[.agg #[.int .i64 0, .slice none 0 0], .int .i64 0, .int .i64 0, .int .i64 0], []⟩ 8 (by kernel_rfl) (by kernel_rfl) (by kernel_rfl) (by kernel_rfl)) ?_
  intro W base args ds gs before hval0 hW _ _
  have hval : ∀ (j : Nat) t v, Try.f7.params[j]? = some t → args[j]? = some v → Value.okWide Try.prog W .any base t v := hval0
  have hW' := hW
  obtain ⟨p, q, hA0, _, _, _, _⟩ := hW
  have hA : DataW.TrodAll enc Try.prog W 0 (fun _ => true) true Try.f7.params.toList args.toList ds p := hA0
  rw [Try.params7] at hA hval
  obtain ⟨v0, v1, v2, v3, d0, d1, d2, d3, p0, p1, p2, p3, rfl, rfl, rfl, h0, h1, h2, h3⟩ := trodAll_four hA
  obtain ⟨x0, s0, n0, Z0, rfl, hx0, A0⟩ := open_Graph (hval 0 24 v0 rfl rfl) h0
  obtain ⟨a1, rfl, ha1, hb1⟩ := open_num (hval 1 3 v1 rfl rfl) h1
  obtain ⟨a2, rfl, ha2, hb2⟩ := open_num (hval 2 3 v2 rfl rfl) h2
  obtain ⟨a3, rfl, ha3, hb3⟩ := open_num (hval 3 3 v3 rfl rfl) h3
  refine (lawWalkAround x0 s0 n0 Z0 a1 a2 a3 W hx0 A0 ⟨ha1, hb1⟩ ⟨ha2, hb2⟩ ⟨ha3, hb3⟩).mono fun e W' ⟨he, hw⟩ => ⟨_, he, law_post Try.laidOut (fun u hu => ?_) rfl rfl Try.underlying4 hW' rfl hw⟩
  rw [Try.params7] at hu
  simp at hu
  rcases hu with rfl | rfl
  · exact Try.read24
  · exact Try.read3

theorem ExactWalkAround_holds : Rows.FnExactWalkAroundSaid :=
  OpenClaim.holds_of_wide 7 Try.f7 rfl rfl rfl rfl rfl rfl rfl ⟨rfl, rfl, rfl, rfl, rfl⟩ rfl rfl rfl rfl rfl (by kernel_rfl) Try.func7 (by kernel_rfl)
    (of_decide_eq_true (by kernel_rfl)) (by unfold Func.isWrapper; first | (rw [if_pos (by decide +kernel)]; kernel_rfl) | (rw [if_neg (by decide +kernel)]; exact ⟨rfl, rfl⟩))
    (fun os started H enc _ => ExactWalkAround_lifted os started H enc)

end Go.Proofs.Ytnpdbieadjgghaa
