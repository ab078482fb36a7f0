/- 'laws.FnExactWalk' answers true for every list of tables and all numbers, and leaves its arguments as they were. No condition. -/
import Derived.Test.YtflhbfndfjkfgaaLWalk
import Derived.Test.YtflhbfndfjkfgaaIs
import Derived.Test.YtflhbfndfjkfgaaOpen
import Derived.Carry
namespace Go.Proofs.Ytflhbfndfjkfgaa
open Go.ChangeShapes Go.WideShapes Go.ChangeAt Go.RowKit Go.Joins


theorem lawWalk (v0 : Value) (D0 : List (List Rt)) (a1 : Int) (a2 : Int) (a3 : Int) (w : World) (hA0 : TArg w v0 D0) (_h1 : -9223372036854775808 ≤ a1 ∧ a1 ≤ 9223372036854775807) (_h2 : -9223372036854775808 ≤ a2 ∧ a2 ≤ 9223372036854775807) (_h3 : -9223372036854775808 ≤ a3 ∧ a3 ≤ 9223372036854775807) :
    Calls Try.prog 3 #[v0, .int .i64 a1, .int .i64 a2, .int .i64 a3] w fun e w' => e = .returned (.bool true) ∧ Below w.heap.size w w' := by
  by_cases hn : ttot D0 ≤ 1048576
  · exact lawExactWalk_fit v0 D0 a1 a2 a3 w hA0 hn (walkV D0 a1 a2 a3).1.length (walkV D0 a1 a2 a3).1 (walkV D0 a1 a2 a3).2 (by have := walkV_len D0 a1 a2 a3; omega) (fun lo hi v w hr hh => swalk_any D0 lo hi v a1 a2 a3 w hr hh) (fun lo hi v w hr hh => iwalk_any D0 lo hi v a1 a2 a3 w hr hh)
  · exact lawExactWalk_big0 v0 D0 a1 a2 a3 w hA0 (by omega)

set_option maxRecDepth 100000 in
theorem ExactWalk_lifted (os : Os) (started : os.Started) (H : Type) (enc : TypeId × Value → H) :
    ReturnsInHanded {} Try.checked os 3 .any (Rows.fnExactWalkSpec.pre6 enc Try.prog Try.f3 Rows.fnExactWalkRow.domain false) (Rows.fnExactWalkSpec.post enc Try.prog Try.f3 false true false false) := by
  refine returnsInHanded_of_change (C := Try.checked) Try.own started (by kernel_rfl) Try.func3
    (ChangeSpec.witness6 (enc := enc) (C := Try.checked) false ⟨#[], #[.slice none 0 0, .int .i64 0, .int .i64 0, .int .i64 0], []⟩ 8 (by kernel_rfl) (by kernel_rfl) (by kernel_rfl) (by kernel_rfl)) ?_
  intro W base args ds gs before hval0 hW _ _
  have hval : ∀ (j : Nat) t v, Try.f3.params[j]? = some t → args[j]? = some v → Value.okWide Try.prog W .any base t v := hval0
  have hW' := hW
  obtain ⟨p, q, hA0, _, _, _, _⟩ := hW
  have hA : DataW.TrodAll enc Try.prog W 0 (fun _ => true) true Try.f3.params.toList args.toList ds p := hA0
  rw [Try.params3] at hA hval
  obtain ⟨v0, v1, v2, v3, d0, d1, d2, d3, p0, p1, p2, p3, rfl, rfl, rfl, h0, h1, h2, h3⟩ := trodAll_four hA
  obtain ⟨D0, A0⟩ := open_TableS (hval 0 22 v0 rfl rfl) h0
  obtain ⟨a1, rfl, ha1, hb1⟩ := open_num (hval 1 3 v1 rfl rfl) h1
  obtain ⟨a2, rfl, ha2, hb2⟩ := open_num (hval 2 3 v2 rfl rfl) h2
  obtain ⟨a3, rfl, ha3, hb3⟩ := open_num (hval 3 3 v3 rfl rfl) h3
  refine (lawWalk v0 D0 a1 a2 a3 W A0 ⟨ha1, hb1⟩ ⟨ha2, hb2⟩ ⟨ha3, hb3⟩).mono fun e W' ⟨he, hw⟩ => ⟨_, he, law_post Try.laidOut (fun u hu => ?_) rfl rfl Try.underlying4 hW' rfl hw⟩
  rw [Try.params3] at hu
  simp at hu
  rcases hu with rfl | rfl
  · exact Try.read22
  · exact Try.read3

theorem ExactWalk_holds : Rows.FnExactWalkSaid :=
  OpenClaim.holds_of_wide 3 Try.f3 rfl rfl rfl rfl rfl rfl rfl ⟨rfl, rfl, rfl, rfl, rfl⟩ rfl rfl rfl rfl rfl (by kernel_rfl) Try.func3 (by kernel_rfl)
    (of_decide_eq_true (by kernel_rfl)) (by unfold Func.isWrapper; first | (rw [if_pos (by decide +kernel)]; kernel_rfl) | (rw [if_neg (by decide +kernel)]; exact ⟨rfl, rfl⟩))
    (fun os started H enc _ => ExactWalk_lifted os started H enc)

end Go.Proofs.Ytflhbfndfjkfgaa
