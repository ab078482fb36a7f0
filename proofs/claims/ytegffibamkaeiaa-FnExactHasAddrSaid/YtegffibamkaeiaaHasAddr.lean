/- 'laws.FnExactHasAddr' answers true for every prefix and every number, and leaves its arguments as they were. No condition. -/
import Derived.Test.YtegffibamkaeiaaWc
import Derived.Test.YtegffibamkaeiaaOpen
namespace Go.Proofs.Ytegffibamkaeiaa
open Go.ChangeShapes Go.WideShapes Go.ChangeAt Go.RowKit Go.Joins

set_option maxHeartbeats 400000 in
theorem lawHasAddr (net n a : Int) (w : World) :
    Calls Try.prog 4 #[.agg #[.int .i64 net, .int .i64 n], .int .i64 a] w fun e w' => e = .returned (.bool true) ∧ Below w.heap.size w w' := by
  have hK0 := Below.refl (w.alloc (.cells #[.int .i64 net, .int .i64 n] 23)).heap.size (w.alloc (.cells #[.int .i64 net, .int .i64 n] 23))
  go_enter Try.func4, Try.ntmps4
  go_wp2_with (first | (go_at_call 10; refine (toP_any _ _ _).mono ?_; rintro e w2 ⟨rfl, hb⟩; have hK := chain (W0 := (w.alloc (.cells #[.int .i64 net, .int .i64 n] 23))) (by assumption) hb; clear hb; obtain ⟨hc2, hf2⟩ := bcell hK) | (go_at_call 12; refine (sphas_any _ _ _ _).mono ?_; rintro e w2 ⟨rfl, hb⟩; have hK := chain (W0 := (w.alloc (.cells #[.int .i64 net, .int .i64 n] 23))) (by assumption) hb; clear hb; obtain ⟨hc2, hf2⟩ := bcell hK) | (go_at_call 13; refine (has_any _ _ _ _).mono ?_; rintro e w2 ⟨rfl, hb⟩; have hK := chain (W0 := (w.alloc (.cells #[.int .i64 net, .int .i64 n] 23))) (by assumption) hb; clear hb; obtain ⟨hc2, hf2⟩ := bcell hK))
  go_ret
  exact ⟨rfl, unbox (by assumption)⟩

set_option maxRecDepth 100000 in
theorem HasAddr_lifted (os : Os) (started : os.Started) (H : Type) (enc : TypeId × Value → H) :
    ReturnsInHanded {} Try.checked os 4 .any (Rows.fnExactHasAddrSpec.pre6 enc Try.prog Try.f4 Rows.fnExactHasAddrRow.domain false) (Rows.fnExactHasAddrSpec.post enc Try.prog Try.f4 false true false false) := by
  refine returnsInHanded_of_change (C := Try.checked) Try.own started (by kernel_rfl) Try.func4
    (ChangeSpec.witness6 (enc := enc) (C := Try.checked) false ⟨#[], #[.agg #[.int .i64 0, .int .i64 0], .int .i64 0], []⟩ 8 (by kernel_rfl) (by kernel_rfl) (by kernel_rfl) (by kernel_rfl)) ?_
  intro W base args ds gs before hval0 hW _ _
  have hval : ∀ (j : Nat) t v, Try.f4.params[j]? = some t → args[j]? = some v → Value.okWide Try.prog W .any base t v := hval0
  have hW' := hW
  obtain ⟨p, q, hA0, _, _, _, _⟩ := hW
  have hA : DataW.TrodAll enc Try.prog W 0 (fun _ => true) true Try.f4.params.toList args.toList ds p := hA0
  rw [Try.params4] at hA hval
  obtain ⟨v0, v1, d0, d1, p0, p1, rfl, rfl, rfl, h0, h1⟩ := trodAll_two hA
  obtain ⟨a0, b0, rfl, _, _, _, _⟩ := open_prefix (hval 0 23 v0 rfl rfl) h0
  obtain ⟨a1, rfl, ha1, hb1⟩ := open_num (hval 1 3 v1 rfl rfl) h1
  refine (lawHasAddr a0 b0 a1 W).mono fun e W' ⟨he, hw⟩ => ⟨_, he, law_post Try.laidOut (fun u hu => ?_) rfl rfl Try.underlying4 hW' rfl hw⟩
  rw [Try.params4] at hu
  simp at hu
  rcases hu with rfl | rfl
  · exact Try.read23
  · exact Try.read3

theorem hasAddr_holds : Rows.FnExactHasAddrSaid :=
  OpenClaim.holds_of_wide 4 Try.f4 rfl rfl rfl rfl rfl rfl rfl ⟨rfl, rfl, rfl, rfl, rfl⟩ rfl rfl rfl rfl rfl (by kernel_rfl) Try.func4 (by kernel_rfl)
    (of_decide_eq_true (by kernel_rfl)) (by unfold Func.isWrapper; first | (rw [if_pos (by decide +kernel)]; kernel_rfl) | (rw [if_neg (by decide +kernel)]; exact ⟨rfl, rfl⟩))
    (fun os started H enc _ => HasAddr_lifted os started H enc)

end Go.Proofs.Ytegffibamkaeiaa
