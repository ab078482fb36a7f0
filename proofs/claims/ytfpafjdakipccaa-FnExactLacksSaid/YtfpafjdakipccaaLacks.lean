/- 'laws.FnExactLacks' answers true for every two databases, and leaves its arguments as they were. No condition. -/
import Derived.Test.YtfpafjdakipccaaLLacks
import Derived.Test.YtfpafjdakipccaaLk
import Derived.Test.YtfpafjdakipccaaLl
import Derived.Test.YtfpafjdakipccaaOpen
namespace Go.Proofs.Ytfpafjdakipccaa
open Go.ChangeShapes Go.WideShapes Go.ChangeAt Go.RowKit Go.Joins


theorem slack_any (DA DB : List Ls) (lo hi lo2 hi2 : Nat) (v v2 : Value) (w : World) (hr : DRow w lo hi v DA) (hr2 : DRow w lo2 hi2 v2 DB) (hh : hi ≤ w.heap.size) (hh2 : hi2 ≤ w.heap.size) (hd : dtot DA ≤ 1048576) :
    Calls Try.prog 38 #[.agg #[v], .agg #[v2]] w fun e w' => ∃ rv, e = .returned rv ∧ Row 1 w' w.heap.size w'.heap.size rv (lks_ DA DB).length (lks_ DA DB) ∧ Below w.heap.size w w' := by
  cases ha : dokB DA
  · exact slack_1 DA DB lo hi lo2 hi2 v v2 w hr hr2 hh hh2 ha
  · cases hb : dokB DB
    · exact slack_2 DA DB lo hi lo2 hi2 v v2 w hr hr2 hh hh2 ha hb
    · exact slack_3 DA DB lo hi lo2 hi2 v v2 w hr hr2 hh hh2 hd ha hb

theorem ilack_any (DA DB : List Ls) (lo hi lo2 hi2 : Nat) (v v2 : Value) (w : World) (hr : DRow w lo hi v DA) (hr2 : DRow w lo2 hi2 v2 DB) (hh : hi ≤ w.heap.size) (hh2 : hi2 ≤ w.heap.size)  :
    Calls Try.prog 39 #[.agg #[v], .agg #[v2]] w fun e w' => ∃ rv, e = .returned rv ∧ Row 1 w' w.heap.size w'.heap.size rv (lks_ DA DB).length (lks_ DA DB) ∧ Below w.heap.size w w' := by
  cases ha : dokB DA
  · exact ilack_1 DA DB lo hi lo2 hi2 v v2 w hr hr2 hh hh2 ha
  · cases hb : dokB DB
    · exact ilack_2 DA DB lo hi lo2 hi2 v v2 w hr hr2 hh hh2 ha hb
    · exact ilack_3 DA DB lo hi lo2 hi2 v v2 w hr hr2 hh hh2 ha hb

theorem lks__len (A B : List Ls) : (lks_ A B).length ≤ B.length := by
  unfold lks_
  split
  · exact lkL_len A B
  · exact Nat.zero_le _

theorem lawLacks (v0 : Value) (D0 : List Ls) (v1 : Value) (D1 : List Ls) (w : World) (hA0 : DArg w v0 D0) (hA1 : DArg w v1 D1) :
    Calls Try.prog 8 #[.agg #[v0], .agg #[v1]] w fun e w' => e = .returned (.bool true) ∧ Below w.heap.size w w' := by
  by_cases h0 : dtot D0 ≤ 1048576
  · by_cases hn : dtot D0 + dtot D1 ≤ 1048576
    · have hl := lks__len D0 D1
      have hd := dtot_eq D1
      exact lawExactLacks_fit v0 D0 v1 D1 w hA0 hA1 hn (lks_ D0 D1).length (lks_ D0 D1) (by omega) (fun lo hi v lo2 hi2 v2 w hr hh hr2 hh2 => slack_any D0 D1 lo hi lo2 hi2 v v2 w hr hr2 hh hh2 (by omega)) (fun lo hi v lo2 hi2 v2 w hr hh hr2 hh2 => ilack_any D0 D1 lo hi lo2 hi2 v v2 w hr hr2 hh hh2)
    · exact lawExactLacks_big1 v0 D0 v1 D1 w hA0 hA1 h0 (by omega)
  · exact lawExactLacks_big0 v0 D0 v1 D1 w hA0 hA1 (by omega)

set_option maxRecDepth 100000 in
theorem ExactLacks_lifted (os : Os) (started : os.Started) (H : Type) (enc : TypeId × Value → H) :
    ReturnsInHanded {} Try.checked os 8 .any (Rows.fnExactLacksSpec.pre6 enc Try.prog Try.f8 Rows.fnExactLacksRow.domain false) (Rows.fnExactLacksSpec.post enc Try.prog Try.f8 false true false false) := by
  refine returnsInHanded_of_change (C := Try.checked) Try.own started (by kernel_rfl) Try.func8
    (ChangeSpec.witness6 (enc := enc) (C := Try.checked) false ⟨#[], #[.agg #[.slice none 0 0], .agg #[.slice none 0 0]], []⟩ 8 (by kernel_rfl) (by kernel_rfl) (by kernel_rfl) (by kernel_rfl)) ?_
  intro W base args ds gs before hval0 hW _ _
  have hval : ∀ (j : Nat) t v, Try.f8.params[j]? = some t → args[j]? = some v → Value.okWide Try.prog W .any base t v := hval0
  have hW' := hW
  obtain ⟨p, q, hA0, _, _, _, _⟩ := hW
  have hA : DataW.TrodAll enc Try.prog W 0 (fun _ => true) true Try.f8.params.toList args.toList ds p := hA0
  rw [Try.params8] at hA hval
  obtain ⟨v0, v1, d0, d1, p0, p1, rfl, rfl, rfl, h0, h1⟩ := trodAll_two hA
  obtain ⟨u0, D0, rfl, A0⟩ := open_Db (hval 0 40 v0 rfl rfl) h0
  obtain ⟨u1, D1, rfl, A1⟩ := open_Db (hval 1 40 v1 rfl rfl) h1
  refine (lawLacks u0 D0 u1 D1 W A0 A1).mono fun e W' ⟨he, hw⟩ => ⟨_, he, law_post Try.laidOut (fun u hu => ?_) rfl rfl Try.underlying4 hW' rfl hw⟩
  rw [Try.params8] at hu
  simp at hu
  subst hu
  exact Try.read40

theorem ExactLacks_holds : Rows.FnExactLacksSaid :=
  OpenClaim.holds_of_wide 8 Try.f8 rfl rfl rfl rfl rfl rfl rfl ⟨rfl, rfl, rfl, rfl, rfl⟩ rfl rfl rfl rfl rfl (by kernel_rfl) Try.func8 (by kernel_rfl)
    (of_decide_eq_true (by kernel_rfl)) (by unfold Func.isWrapper; first | (rw [if_pos (by decide +kernel)]; kernel_rfl) | (rw [if_neg (by decide +kernel)]; exact ⟨rfl, rfl⟩))
    (fun os started H enc _ => ExactLacks_lifted os started H enc)

end Go.Proofs.Ytfpafjdakipccaa
