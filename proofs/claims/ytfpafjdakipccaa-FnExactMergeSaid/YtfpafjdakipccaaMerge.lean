/- 'laws.FnExactMerge' answers true for every two databases, and leaves its arguments as they were. No condition. -/
import Derived.Test.YtfpafjdakipccaaLMerge
import Derived.Test.YtfpafjdakipccaaMc
import Derived.Test.YtfpafjdakipccaaMs
import Derived.Test.YtfpafjdakipccaaOpen
namespace Go.Proofs.Ytfpafjdakipccaa
open Go.ChangeShapes Go.WideShapes Go.ChangeAt Go.RowKit Go.Joins
theorem mtot_fit {D : List Ls} (h : dtot D <= 1048576) : mtot D <= 5000000 := by have := mtot_le D; omega
theorem merg_fit {A B : List Ls} (h : dtot A <= 1048576) : mtot (merg A B) <= 5000000 := by
  unfold merg
  split
  · rename_i q
    exact mtot_fit (dtot_ok (fold_ok B A q.1))
  · exact mtot_fit h
theorem lawMerge (v0 : Value) (D0 : List Ls) (v1 : Value) (D1 : List Ls) (w : World) (hA0 : DArg w v0 D0) (hA1 : DArg w v1 D1) :
    Calls Try.prog 9 #[.agg #[v0], .agg #[v1]] w fun e w' => e = .returned (.bool true) /\ Below w.heap.size w w' := by
  by_cases h0 : dtot D0 <= 1048576
  · by_cases hn : dtot D0 + dtot D1 <= 1048576
    · exact lawExactMerge_fit v0 D0 v1 D1 w hA0 hA1 hn (merg D0 D1) (mokB D0 D1) (merg_fit h0) (fun lo hi v lo2 hi2 v2 w hr hh hr2 hh2 => smer_any D0 D1 lo hi lo2 hi2 v v2 w hr hr2 hh hh2 h0) (fun lo hi v lo2 hi2 v2 w hr hh hr2 hh2 => imer_any D0 D1 lo hi lo2 hi2 v v2 w hr hr2 hh hh2 h0)
    · exact lawExactMerge_big1 v0 D0 v1 D1 w hA0 hA1 h0 (by omega)
  · exact lawExactMerge_big0 v0 D0 v1 D1 w hA0 hA1 (by omega)
set_option maxRecDepth 100000 in
theorem ExactMerge_lifted (os : Os) (started : os.Started) (H : Type) (enc : TypeId × Value -> H) :
    ReturnsInHanded {} Try.checked os 9 .any (Rows.fnExactMergeSpec.pre6 enc Try.prog Try.f9 Rows.fnExactMergeRow.domain false) (Rows.fnExactMergeSpec.post enc Try.prog Try.f9 false true false false) := by
  refine returnsInHanded_of_change (C := Try.checked) Try.own started (by kernel_rfl) Try.func9
    (ChangeSpec.witness6 (enc := enc) (C := Try.checked) false ⟨#[], #[.agg #[.slice none 0 0], .agg #[.slice none 0 0]], []⟩ 8 (by kernel_rfl) (by kernel_rfl) (by kernel_rfl) (by kernel_rfl)) ?_
  intro W base args ds gs before hval0 hW _ _
  have hval : ∀ (j : Nat) t v, Try.f9.params[j]? = some t -> args[j]? = some v -> Value.okWide Try.prog W .any base t v := hval0
  have hW' := hW
  obtain ⟨p, q, hA0, _, _, _, _⟩ := hW
  have hA : DataW.TrodAll enc Try.prog W 0 (fun _ => true) true Try.f9.params.toList args.toList ds p := hA0
  rw [Try.params9] at hA hval
  obtain ⟨v0, v1, d0, d1, p0, p1, rfl, rfl, rfl, h0, h1⟩ := trodAll_two hA
  obtain ⟨u0, D0, rfl, A0⟩ := open_Db (hval 0 40 v0 rfl rfl) h0
  obtain ⟨u1, D1, rfl, A1⟩ := open_Db (hval 1 40 v1 rfl rfl) h1
  refine (lawMerge u0 D0 u1 D1 W A0 A1).mono fun e W' ⟨he, hw⟩ => ⟨_, he, law_post Try.laidOut (fun u hu => ?_) rfl rfl Try.underlying4 hW' rfl hw⟩
  rw [Try.params9] at hu
  simp at hu
  subst hu
  exact Try.read40
theorem ExactMerge_holds : Rows.FnExactMergeSaid :=
  OpenClaim.holds_of_wide 9 Try.f9 rfl rfl rfl rfl rfl rfl rfl ⟨rfl, rfl, rfl, rfl, rfl⟩ rfl rfl rfl rfl rfl (by kernel_rfl) Try.func9 (by kernel_rfl)
    (of_decide_eq_true (by kernel_rfl)) (by unfold Func.isWrapper; first | (rw [if_pos (by decide +kernel)]; kernel_rfl) | (rw [if_neg (by decide +kernel)]; exact ⟨rfl, rfl⟩))
    (fun os started H enc _ => ExactMerge_lifted os started H enc)
end Go.Proofs.Ytfpafjdakipccaa
