/- 'laws.FnExactNearOk' answers true for every adjacency, and leaves its argument as it was. No condition. -/
import Derived.Test.YthcbdnlolonngaaWb
import Derived.Test.YthcbdnlolonngaaOpen
namespace Go.Proofs.Ythcbdnlolonngaa
open Go.ChangeShapes Go.WideShapes Go.ChangeAt Go.RowKit Go.Joins

set_option maxHeartbeats 400000 in
theorem lawNearOk (s l k : Int) (w : World) :
    Calls Try.prog 3 #[.agg #[.int .i64 s, .int .i64 l, .int .i64 k]] w fun e w' => e = .returned (.bool true) ∧ Below w.heap.size w w' := by
  have hK0 := Below.refl (w.alloc (.cells #[.int .i64 s, .int .i64 l, .int .i64 k] 23)).heap.size (w.alloc (.cells #[.int .i64 s, .int .i64 l, .int .i64 k] 23))
  go_enter Try.func3, Try.ntmps3
  go_wp2_with (first
    | (go_at_call 6; refine (toN_any _ _ _ _).mono ?_; rintro e w2 ⟨rfl, hb⟩; have hK := chain (W0 := (w.alloc (.cells #[.int .i64 s, .int .i64 l, .int .i64 k] 23))) (by assumption) hb; clear hb; obtain ⟨hc2, hf2⟩ := bcell hK)
    | (go_at_call 5; refine (snok_any _ _ _ _).mono ?_; rintro e w2 ⟨rfl, hb⟩; have hK := chain (W0 := (w.alloc (.cells #[.int .i64 s, .int .i64 l, .int .i64 k] 23))) (by assumption) hb; clear hb; obtain ⟨hc2, hf2⟩ := bcell hK)
    | (go_at_call 7; refine (inok_any _ _ _ _).mono ?_; rintro e w2 ⟨rfl, hb⟩; have hK := chain (W0 := (w.alloc (.cells #[.int .i64 s, .int .i64 l, .int .i64 k] 23))) (by assumption) hb; clear hb; obtain ⟨hc2, hf2⟩ := bcell hK))
  go_ret
  exact ⟨rfl, unbox (by assumption)⟩

set_option maxRecDepth 100000 in
theorem nearOk_lifted (os : Os) (started : os.Started) (H : Type) (enc : TypeId × Value → H) :
    ReturnsInHanded {} Try.checked os 3 .any (Rows.fnExactNearOkSpec.pre6 enc Try.prog Try.f3 Rows.fnExactNearOkRow.domain false) (Rows.fnExactNearOkSpec.post enc Try.prog Try.f3 false true false false) := by
  refine returnsInHanded_of_change (C := Try.checked) Try.own started (by kernel_rfl) Try.func3
    (ChangeSpec.witness6 (enc := enc) (C := Try.checked) false ⟨#[], #[.agg #[.int .i64 0, .int .i64 0, .int .i64 0]], []⟩ 8 (by kernel_rfl) (by kernel_rfl) (by kernel_rfl) (by kernel_rfl)) ?_
  intro W base args ds gs before hval0 hW _ _
  have hval : ∀ (j : Nat) t v, Try.f3.params[j]? = some t → args[j]? = some v → Value.okWide Try.prog W .any base t v := hval0
  have hW' := hW
  obtain ⟨p, q, hA0, _, _, _, _⟩ := hW
  have hA : DataW.TrodAll enc Try.prog W 0 (fun _ => true) true Try.f3.params.toList args.toList ds p := hA0
  rw [Try.params3] at hA hval
  obtain ⟨v0, d0, rfl, rfl, h0⟩ := trodAll_one hA
  obtain ⟨s, l, k, rfl⟩ := open_near (hval 0 23 v0 rfl rfl) h0
  refine (lawNearOk s l k W).mono fun e W' ⟨he, hw⟩ => ⟨_, he, law_post Try.laidOut (fun u hu => ?_) rfl rfl Try.underlying4 hW' rfl hw⟩
  rw [Try.params3] at hu
  simp at hu
  subst hu
  exact Try.read23

theorem nearOk_holds : Rows.FnExactNearOkSaid :=
  OpenClaim.holds_of_wide 3 Try.f3 rfl rfl rfl rfl rfl rfl rfl ⟨rfl, rfl, rfl, rfl, rfl⟩ rfl rfl rfl rfl rfl (by kernel_rfl) Try.func3 (by kernel_rfl)
    (of_decide_eq_true (by kernel_rfl)) (by unfold Func.isWrapper; first | (rw [if_pos (by decide +kernel)]; kernel_rfl) | (rw [if_neg (by decide +kernel)]; exact ⟨rfl, rfl⟩))
    (fun os started H enc _ => nearOk_lifted os started H enc)

end Go.Proofs.Ythcbdnlolonngaa
