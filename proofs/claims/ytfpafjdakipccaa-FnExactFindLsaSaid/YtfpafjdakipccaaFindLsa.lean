/- 'laws.FnExactFindLsa' answers true for every database and every number, and leaves its arguments as they were. No condition. -/
import Derived.Test.YtfpafjdakipccaaLFindLsa
import Derived.Test.YtfpafjdakipccaaFi
import Derived.Test.YtfpafjdakipccaaOpen
namespace Go.Proofs.Ytfpafjdakipccaa
open Go.ChangeShapes Go.WideShapes Go.ChangeAt Go.RowKit Go.Joins


theorem flv_len (D : List Ls) (x : Int) : (flv D x).K.length ≤ 10 ∧ (flv D x).T.length ≤ 6 := by
  unfold flv
  cases e : flo D x with
  | none => exact ⟨Nat.zero_le _, Nat.zero_le _⟩
  | some l =>
    unfold flo at e
    split at e
    · rename_i hv
      have h := Ls.ok_bd (flo_len hv e).2
      exact ⟨h.2.2.2.2.2.2.1, h.2.2.2.2.2.2.2⟩
    · cases e

theorem lawFindLsa (v0 : Value) (D0 : List Ls) (a1 : Int) (w : World) (hA0 : DArg w v0 D0) (_h1 : -9223372036854775808 ≤ a1 ∧ a1 ≤ 9223372036854775807) :
    Calls Try.prog 5 #[.agg #[v0], .int .i64 a1] w fun e w' => e = .returned (.bool true) ∧ Below w.heap.size w w' := by
  by_cases hn : dtot D0 ≤ 1048576
  · have hl := flv_len D0 a1
    exact lawExactFindLsa_fit v0 D0 a1 w hA0 hn (flv D0 a1).o (flv D0 a1).s (flv D0 a1).g (flv D0 a1).K.length (flv D0 a1).T.length (flat2 (flv D0 a1).K) (flat (flv D0 a1).T) (flo D0 a1).isSome (by omega) (by omega) (fun lo hi v w hr hh => sfind_any D0 a1 lo hi v w hr hh) (fun lo hi v w hr hh => ifind_any D0 a1 lo hi v w hr hh)
  · exact lawExactFindLsa_big0 v0 D0 a1 w hA0 (by omega)

set_option maxRecDepth 100000 in
theorem ExactFindLsa_lifted (os : Os) (started : os.Started) (H : Type) (enc : TypeId × Value → H) :
    ReturnsInHanded {} Try.checked os 5 .any (Rows.fnExactFindLsaSpec.pre6 enc Try.prog Try.f5 Rows.fnExactFindLsaRow.domain false) (Rows.fnExactFindLsaSpec.post enc Try.prog Try.f5 false true false false) := by
  refine returnsInHanded_of_change (C := Try.checked) Try.own started (by kernel_rfl) Try.func5
    (ChangeSpec.witness6 (enc := enc) (C := Try.checked) false ⟨#[], #[.agg #[.slice none 0 0], .int .i64 0], []⟩ 8 (by kernel_rfl) (by kernel_rfl) (by kernel_rfl) (by kernel_rfl)) ?_
  intro W base args ds gs before hval0 hW _ _
  have hval : ∀ (j : Nat) t v, Try.f5.params[j]? = some t → args[j]? = some v → Value.okWide Try.prog W .any base t v := hval0
  have hW' := hW
  obtain ⟨p, q, hA0, _, _, _, _⟩ := hW
  have hA : DataW.TrodAll enc Try.prog W 0 (fun _ => true) true Try.f5.params.toList args.toList ds p := hA0
  rw [Try.params5] at hA hval
  obtain ⟨v0, v1, d0, d1, p0, p1, rfl, rfl, rfl, h0, h1⟩ := trodAll_two hA
  obtain ⟨u0, D0, rfl, A0⟩ := open_Db (hval 0 40 v0 rfl rfl) h0
  obtain ⟨a1, rfl, ha1, hb1⟩ := open_num (hval 1 3 v1 rfl rfl) h1
  refine (lawFindLsa u0 D0 a1 W A0 ⟨ha1, hb1⟩).mono fun e W' ⟨he, hw⟩ => ⟨_, he, law_post Try.laidOut (fun u hu => ?_) rfl rfl Try.underlying4 hW' rfl hw⟩
  rw [Try.params5] at hu
  simp at hu
  rcases hu with rfl | rfl
  · exact Try.read40
  · exact Try.read3

theorem ExactFindLsa_holds : Rows.FnExactFindLsaSaid :=
  OpenClaim.holds_of_wide 5 Try.f5 rfl rfl rfl rfl rfl rfl rfl ⟨rfl, rfl, rfl, rfl, rfl⟩ rfl rfl rfl rfl rfl (by kernel_rfl) Try.func5 (by kernel_rfl)
    (of_decide_eq_true (by kernel_rfl)) (by unfold Func.isWrapper; first | (rw [if_pos (by decide +kernel)]; kernel_rfl) | (rw [if_neg (by decide +kernel)]; exact ⟨rfl, rfl⟩))
    (fun os started H enc _ => ExactFindLsa_lifted os started H enc)

end Go.Proofs.Ytfpafjdakipccaa
