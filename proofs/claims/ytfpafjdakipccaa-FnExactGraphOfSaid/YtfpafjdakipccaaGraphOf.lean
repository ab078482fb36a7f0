/- 'laws.FnExactGraphOf' answers true for every database, and leaves its argument as it was. No condition. -/
import Derived.Test.YtfpafjdakipccaaLGraphOf
import Derived.Test.YtfpafjdakipccaaIg
import Derived.Test.YtfpafjdakipccaaHg
import Derived.Test.YtfpafjdakipccaaOpen
namespace Go.Proofs.Ytfpafjdakipccaa
open Go.ChangeShapes Go.WideShapes Go.ChangeAt Go.RowKit Go.Joins


theorem igraph_any (D : List Ls) (lo hi : Nat) (v : Value) (w : World) (hr : DRow w lo hi v D) (hh : hi ≤ w.heap.size) : Calls Try.prog 43 #[.agg #[v]] w fun e w' => GPost D w e w' := by
  cases hv : dokB D
  · exact igraph_1 D lo hi v w hr hh hv
  · exact igraph_2 D lo hi v w hr hh hv
theorem sgraph_any (D : List Ls) (lo hi : Nat) (v : Value) (w : World) (hr : DRow w lo hi v D) (hh : hi ≤ w.heap.size) : Calls Try.prog 42 #[.agg #[v]] w fun e w' => GPost D w e w' := by
  cases hv : dokB D
  · exact sgraph_1 D lo hi v w hr hh hv
  · exact sgraph_2 D lo hi v w hr hh hv
theorem gfE_len (D : List Ls) : (gfE D).length ≤ 1100000 := by
  unfold gfE
  split
  · rename_i q
    unfold gfO at q
    rw [Bool.and_eq_true] at q
    have := of_decide_eq_true q.2
    omega
  · exact Nat.zero_le _
theorem lawGraphOf (v0 : Value) (D0 : List Ls) (w : World) (hA0 : DArg w v0 D0) :
    Calls Try.prog 11 #[.agg #[v0]] w fun e w' => e = .returned (.bool true) ∧ Below w.heap.size w w' := by
  by_cases hn : dtot D0 ≤ 1048576
  · exact lawExactGraphOf_fit v0 D0 w hA0 hn (gfN D0) (gfE D0).length (flat (gfE D0)) (gfO D0) (gfE_len D0) (fun lo hi v w hr hh => sgraph_any D0 lo hi v w hr hh) (fun lo hi v w hr hh => igraph_any D0 lo hi v w hr hh)
  · exact lawExactGraphOf_big v0 D0 w hA0 (by omega)

set_option maxRecDepth 100000 in
theorem ExactGraphOf_lifted (os : Os) (started : os.Started) (H : Type) (enc : TypeId × Value → H) :
    ReturnsInHanded {} Try.checked os 11 .any (Rows.fnExactGraphOfSpec.pre6 enc Try.prog Try.f11 Rows.fnExactGraphOfRow.domain false) (Rows.fnExactGraphOfSpec.post enc Try.prog Try.f11 false true false false) := by
  refine returnsInHanded_of_change (C := Try.checked) Try.own started (by kernel_rfl) Try.func11
    (ChangeSpec.witness6 (enc := enc) (C := Try.checked) false ⟨#[], #[.agg #[.slice none 0 0]], []⟩ 8 (by kernel_rfl) (by kernel_rfl) (by kernel_rfl) (by kernel_rfl)) ?_
  intro W base args ds gs before hval0 hW _ _
  have hval : ∀ (j : Nat) t v, Try.f11.params[j]? = some t → args[j]? = some v → Value.okWide Try.prog W .any base t v := hval0
  have hW' := hW
  obtain ⟨p, q, hA0, _, _, _, _⟩ := hW
  have hA : DataW.TrodAll enc Try.prog W 0 (fun _ => true) true Try.f11.params.toList args.toList ds p := hA0
  rw [Try.params11] at hA hval
  obtain ⟨v0, d0, rfl, rfl, h0⟩ := trodAll_one hA
  obtain ⟨u0, D0, rfl, A0⟩ := open_Db (hval 0 40 v0 rfl rfl) h0
  refine (lawGraphOf u0 D0 W A0).mono fun e W' ⟨he, hw⟩ => ⟨_, he, law_post Try.laidOut (fun u hu => ?_) rfl rfl Try.underlying4 hW' rfl hw⟩
  rw [Try.params11] at hu
  simp at hu
  subst hu
  exact Try.read40

theorem ExactGraphOf_holds : Rows.FnExactGraphOfSaid :=
  OpenClaim.holds_of_wide 11 Try.f11 rfl rfl rfl rfl rfl rfl rfl ⟨rfl, rfl, rfl, rfl, rfl⟩ rfl rfl rfl rfl rfl (by kernel_rfl) Try.func11 (by kernel_rfl)
    (of_decide_eq_true (by kernel_rfl)) (by unfold Func.isWrapper; first | (rw [if_pos (by decide +kernel)]; kernel_rfl) | (rw [if_neg (by decide +kernel)]; exact ⟨rfl, rfl⟩))
    (fun os started H enc _ => ExactGraphOf_lifted os started H enc)

end Go.Proofs.Ytfpafjdakipccaa
