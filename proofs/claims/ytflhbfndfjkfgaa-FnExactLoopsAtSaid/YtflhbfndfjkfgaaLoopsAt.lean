/- 'laws.FnExactLoopsAt' answers true for every list of tables and all numbers, and leaves its arguments as they were. No condition. -/
import Derived.Test.YtflhbfndfjkfgaaLLoopsAt
import Derived.Test.YtflhbfndfjkfgaaIs
import Derived.Test.YtflhbfndfjkfgaaOpen
import Derived.Carry
namespace Go.Proofs.Ytflhbfndfjkfgaa
open Go.ChangeShapes Go.WideShapes Go.ChangeAt Go.RowKit Go.Joins


theorem lawLoopsAt (v0 : Value) (D0 : List (List Rt)) (a1 : Int) (w : World) (hA0 : TArg w v0 D0) (_h1 : -9223372036854775808 ≤ a1 ∧ a1 ≤ 9223372036854775807) :
    Calls Try.prog 6 #[v0, .int .i64 a1] w fun e w' => e = .returned (.bool true) ∧ Below w.heap.size w w' := by
  by_cases hn : ttot D0 ≤ 1048576
  · exact lawExactLoopsAt_fit v0 D0 a1 w hA0 hn (startsV D0 a1 16 2).length (startsV D0 a1 16 2) (by have := st_len D0 a1 16 2; omega) (fun lo hi v w hr hh => sloops_any D0 lo hi v a1 w hr hh) (fun lo hi v w hr hh => iloops_any D0 lo hi v a1 w hr hh)
  · exact lawExactLoopsAt_big0 v0 D0 a1 w hA0 (by omega)

set_option maxRecDepth 100000 in
theorem ExactLoopsAt_lifted (os : Os) (started : os.Started) (H : Type) (enc : TypeId × Value → H) :
    ReturnsInHanded {} Try.checked os 6 .any (Rows.fnExactLoopsAtSpec.pre6 enc Try.prog Try.f6 Rows.fnExactLoopsAtRow.domain false) (Rows.fnExactLoopsAtSpec.post enc Try.prog Try.f6 false true false false) := by
  refine returnsInHanded_of_change (C := Try.checked) Try.own started (by kernel_rfl) Try.func6
    (ChangeSpec.witness6 (enc := enc) (C := Try.checked) false ⟨#[], #[.slice none 0 0, .int .i64 0], []⟩ 8 (by kernel_rfl) (by kernel_rfl) (by kernel_rfl) (by kernel_rfl)) ?_
  intro W base args ds gs before hval0 hW _ _
  have hval : ∀ (j : Nat) t v, Try.f6.params[j]? = some t → args[j]? = some v → Value.okWide Try.prog W .any base t v := hval0
  have hW' := hW
  obtain ⟨p, q, hA0, _, _, _, _⟩ := hW
  have hA : DataW.TrodAll enc Try.prog W 0 (fun _ => true) true Try.f6.params.toList args.toList ds p := hA0
  rw [Try.params6] at hA hval
  obtain ⟨v0, v1, d0, d1, p0, p1, rfl, rfl, rfl, h0, h1⟩ := trodAll_two hA
  obtain ⟨D0, A0⟩ := open_TableS (hval 0 22 v0 rfl rfl) h0
  obtain ⟨a1, rfl, ha1, hb1⟩ := open_num (hval 1 3 v1 rfl rfl) h1
  refine (lawLoopsAt v0 D0 a1 W A0 ⟨ha1, hb1⟩).mono fun e W' ⟨he, hw⟩ => ⟨_, he, law_post Try.laidOut (fun u hu => ?_) rfl rfl Try.underlying4 hW' rfl hw⟩
  rw [Try.params6] at hu
  simp at hu
  rcases hu with rfl | rfl
  · exact Try.read22
  · exact Try.read3

theorem ExactLoopsAt_holds : Rows.FnExactLoopsAtSaid :=
  OpenClaim.holds_of_wide 6 Try.f6 rfl rfl rfl rfl rfl rfl rfl ⟨rfl, rfl, rfl, rfl, rfl⟩ rfl rfl rfl rfl rfl (by kernel_rfl) Try.func6 (by kernel_rfl)
    (of_decide_eq_true (by kernel_rfl)) (by unfold Func.isWrapper; first | (rw [if_pos (by decide +kernel)]; kernel_rfl) | (rw [if_neg (by decide +kernel)]; exact ⟨rfl, rfl⟩))
    (fun os started H enc _ => ExactLoopsAt_lifted os started H enc)

end Go.Proofs.Ytflhbfndfjkfgaa
