/- 'laws.FnExactSibling' answers true for every prefix, and leaves its argument as it was. No condition. -/
import Derived.Test.YtegffibamkaeiaaWf
import Derived.Test.YtegffibamkaeiaaOpen
namespace Go.Proofs.Ytegffibamkaeiaa
open Go.ChangeShapes Go.WideShapes Go.ChangeAt Go.RowKit Go.Joins

set_option maxHeartbeats 1000000 in
theorem lawSibling_yes (net n : Int) (w : World) (h : pokB net n = true) (hn : 0 < n) :
    Calls Try.prog 7 #[.agg #[.int .i64 net, .int .i64 n]] w fun e w' => e = .returned (.bool true) ∧ Below w.heap.size w w' := by
  go_enter Try.func7, Try.ntmps7
  go_wp2_with fail
  go_at_call 10; refine (toP_any _ _ _).mono ?_; rintro e w1 ⟨rfl, hb1⟩
  obtain ⟨hc1, hf1⟩ := bcell hb1
  have hz1 := hb1.size
  try simp at hz1
  have hB1 : Below w.heap.size w w1 := Below.trans (by go_grown) (hb1.mono (by first | omega | (simp <;> omega)))
  have k1_0_0 := hc1 (w.heap.size) 0 (by first | omega | (simp <;> omega))
  simp [go_sem] at k1_0_0
  have k1_0_1 := hc1 (w.heap.size) 1 (by first | omega | (simp <;> omega))
  simp [go_sem] at k1_0_1
  clear hc1 hf1 hb1
  go_wp2_with fail
  go_at_call 19; refine (spsib_yes _ _ _ h hn).mono ?_; rintro e w2 ⟨rfl, hb2⟩
  obtain ⟨hc2, hf2⟩ := bcell hb2
  have hz2 := hb2.size
  try simp at hz2
  have hB2 : Below w.heap.size w w2 := Below.trans (by go_grown) (hb2.mono (by first | omega | (simp <;> omega)))
  have k2_0_0 := hc2 (w.heap.size) 0 (by first | omega | (simp <;> omega))
  rw [k1_0_0] at k2_0_0
  have k2_0_1 := hc2 (w.heap.size) 1 (by first | omega | (simp <;> omega))
  rw [k1_0_1] at k2_0_1
  clear k1_0_0 k1_0_1
  clear hc2 hf2 hb2
  have d2_0 : w.heap.size < w2.heap.size := by omega
  have e2_0 : w.heap.size ≠ w2.heap.size := by omega
  go_wp2_with fail
  go_at_call 10; refine (toP_any _ _ _).mono ?_; rintro e w3 ⟨rfl, hb3⟩
  obtain ⟨hc3, hf3⟩ := bcell hb3
  have hz3 := hb3.size
  try simp at hz3
  have hB3 : Below w.heap.size w w3 := Below.trans (by go_grown) (hb3.mono (by first | omega | (simp <;> omega)))
  have k3_0_0 := hc3 (w.heap.size) 0 (by first | omega | (simp <;> omega))
  rw [World.cell?_alloc_lt _ _ _ (by first | omega | (simp <;> omega)), k2_0_0] at k3_0_0
  have k3_0_1 := hc3 (w.heap.size) 1 (by first | omega | (simp <;> omega))
  rw [World.cell?_alloc_lt _ _ _ (by first | omega | (simp <;> omega)), k2_0_1] at k3_0_1
  clear k2_0_0 k2_0_1
  have k3_1_0 := hc3 (w2.heap.size) 0 (by first | omega | (simp <;> omega))
  simp [go_sem] at k3_1_0
  have k3_1_1 := hc3 (w2.heap.size) 1 (by first | omega | (simp <;> omega))
  simp [go_sem] at k3_1_1
  clear hc3 hf3 hb3
  go_wp2_with fail
  go_at_call 20; refine (sib_yes _ _ _ h hn).mono ?_; rintro e w4 ⟨rfl, hb4⟩
  obtain ⟨hc4, hf4⟩ := bcell hb4
  have hz4 := hb4.size
  try simp at hz4
  have hB4 : Below w.heap.size w w4 := Below.trans (by go_grown) (hb4.mono (by first | omega | (simp <;> omega)))
  have k4_0_0 := hc4 (w.heap.size) 0 (by first | omega | (simp <;> omega))
  rw [k3_0_0] at k4_0_0
  have k4_0_1 := hc4 (w.heap.size) 1 (by first | omega | (simp <;> omega))
  rw [k3_0_1] at k4_0_1
  clear k3_0_0 k3_0_1
  have k4_1_0 := hc4 (w2.heap.size) 0 (by first | omega | (simp <;> omega))
  rw [k3_1_0] at k4_1_0
  have k4_1_1 := hc4 (w2.heap.size) 1 (by first | omega | (simp <;> omega))
  rw [k3_1_1] at k4_1_1
  clear k3_1_0 k3_1_1
  clear hc4 hf4 hb4
  have d4_0 : w.heap.size < w4.heap.size := by omega
  have e4_0 : w.heap.size ≠ w4.heap.size := by omega
  have d4_1 : w2.heap.size < w4.heap.size := by omega
  have e4_1 : w2.heap.size ≠ w4.heap.size := by omega
  go_wp2_with fail
  go_at_call 18; refine (eqP_same _ _ _).mono ?_; rintro e w5 ⟨rfl, hb5⟩
  obtain ⟨hc5, hf5⟩ := bcell hb5
  have hz5 := hb5.size
  try simp at hz5
  have hB5 : Below w.heap.size w w5 := Below.trans (by go_grown) (hb5.mono (by first | omega | (simp <;> omega)))
  have k5_0_0 := hc5 (w.heap.size) 0 (by first | omega | (simp <;> omega))
  rw [World.cell?_alloc_lt _ _ _ (by first | omega | (simp <;> omega)), k4_0_0] at k5_0_0
  have k5_0_1 := hc5 (w.heap.size) 1 (by first | omega | (simp <;> omega))
  rw [World.cell?_alloc_lt _ _ _ (by first | omega | (simp <;> omega)), k4_0_1] at k5_0_1
  clear k4_0_0 k4_0_1
  have k5_1_0 := hc5 (w2.heap.size) 0 (by first | omega | (simp <;> omega))
  rw [World.cell?_alloc_lt _ _ _ (by first | omega | (simp <;> omega)), k4_1_0] at k5_1_0
  have k5_1_1 := hc5 (w2.heap.size) 1 (by first | omega | (simp <;> omega))
  rw [World.cell?_alloc_lt _ _ _ (by first | omega | (simp <;> omega)), k4_1_1] at k5_1_1
  clear k4_1_0 k4_1_1
  have k5_2_0 := hc5 (w4.heap.size) 0 (by first | omega | (simp <;> omega))
  simp [go_sem] at k5_2_0
  have k5_2_1 := hc5 (w4.heap.size) 1 (by first | omega | (simp <;> omega))
  simp [go_sem] at k5_2_1
  clear hc5 hf5 hb5
  go_wp2_with fail
  go_ret
  exact ⟨rfl, by assumption⟩

set_option maxHeartbeats 1000000 in
theorem lawSibling_no (net n : Int) (w : World) (h : pokB net n = false ∨ n = 0) :
    Calls Try.prog 7 #[.agg #[.int .i64 net, .int .i64 n]] w fun e w' => e = .returned (.bool true) ∧ Below w.heap.size w w' := by
  have H := Lib.hid h
  clear h
  go_enter Try.func7, Try.ntmps7
  go_wp2_with fail
  go_at_call 10; refine (toP_any _ _ _).mono ?_; rintro e w1 ⟨rfl, hb1⟩
  obtain ⟨hc1, hf1⟩ := bcell hb1
  have hz1 := hb1.size
  try simp at hz1
  have hB1 : Below w.heap.size w w1 := Below.trans (by go_grown) (hb1.mono (by first | omega | (simp <;> omega)))
  have k1_0_0 := hc1 (w.heap.size) 0 (by first | omega | (simp <;> omega))
  simp [go_sem] at k1_0_0
  have k1_0_1 := hc1 (w.heap.size) 1 (by first | omega | (simp <;> omega))
  simp [go_sem] at k1_0_1
  clear hc1 hf1 hb1
  go_wp2_with fail
  go_at_call 19; refine (spsib_no _ _ _ H.out).mono ?_; rintro e w2 ⟨rfl, hb2⟩
  obtain ⟨hc2, hf2⟩ := bcell hb2
  have hz2 := hb2.size
  try simp at hz2
  have hB2 : Below w.heap.size w w2 := Below.trans (by go_grown) (hb2.mono (by first | omega | (simp <;> omega)))
  have k2_0_0 := hc2 (w.heap.size) 0 (by first | omega | (simp <;> omega))
  rw [k1_0_0] at k2_0_0
  have k2_0_1 := hc2 (w.heap.size) 1 (by first | omega | (simp <;> omega))
  rw [k1_0_1] at k2_0_1
  clear k1_0_0 k1_0_1
  clear hc2 hf2 hb2
  have d2_0 : w.heap.size < w2.heap.size := by omega
  have e2_0 : w.heap.size ≠ w2.heap.size := by omega
  go_wp2_with fail
  go_at_call 10; refine (toP_any _ _ _).mono ?_; rintro e w3 ⟨rfl, hb3⟩
  obtain ⟨hc3, hf3⟩ := bcell hb3
  have hz3 := hb3.size
  try simp at hz3
  have hB3 : Below w.heap.size w w3 := Below.trans (by go_grown) (hb3.mono (by first | omega | (simp <;> omega)))
  have k3_0_0 := hc3 (w.heap.size) 0 (by first | omega | (simp <;> omega))
  rw [World.cell?_alloc_lt _ _ _ (by first | omega | (simp <;> omega)), k2_0_0] at k3_0_0
  have k3_0_1 := hc3 (w.heap.size) 1 (by first | omega | (simp <;> omega))
  rw [World.cell?_alloc_lt _ _ _ (by first | omega | (simp <;> omega)), k2_0_1] at k3_0_1
  clear k2_0_0 k2_0_1
  have k3_1_0 := hc3 (w2.heap.size) 0 (by first | omega | (simp <;> omega))
  simp [go_sem] at k3_1_0
  have k3_1_1 := hc3 (w2.heap.size) 1 (by first | omega | (simp <;> omega))
  simp [go_sem] at k3_1_1
  clear hc3 hf3 hb3
  go_wp2_with fail
  go_at_call 20; refine (sib_no _ _ _ H.out).mono ?_; rintro e w4 ⟨rfl, hb4⟩
  obtain ⟨hc4, hf4⟩ := bcell hb4
  have hz4 := hb4.size
  try simp at hz4
  have hB4 : Below w.heap.size w w4 := Below.trans (by go_grown) (hb4.mono (by first | omega | (simp <;> omega)))
  have k4_0_0 := hc4 (w.heap.size) 0 (by first | omega | (simp <;> omega))
  rw [k3_0_0] at k4_0_0
  have k4_0_1 := hc4 (w.heap.size) 1 (by first | omega | (simp <;> omega))
  rw [k3_0_1] at k4_0_1
  clear k3_0_0 k3_0_1
  have k4_1_0 := hc4 (w2.heap.size) 0 (by first | omega | (simp <;> omega))
  rw [k3_1_0] at k4_1_0
  have k4_1_1 := hc4 (w2.heap.size) 1 (by first | omega | (simp <;> omega))
  rw [k3_1_1] at k4_1_1
  clear k3_1_0 k3_1_1
  clear hc4 hf4 hb4
  have d4_0 : w.heap.size < w4.heap.size := by omega
  have e4_0 : w.heap.size ≠ w4.heap.size := by omega
  have d4_1 : w2.heap.size < w4.heap.size := by omega
  have e4_1 : w2.heap.size ≠ w4.heap.size := by omega
  go_wp2_with fail
  go_at_call 18; refine (eqP_same _ _ _).mono ?_; rintro e w5 ⟨rfl, hb5⟩
  obtain ⟨hc5, hf5⟩ := bcell hb5
  have hz5 := hb5.size
  try simp at hz5
  have hB5 : Below w.heap.size w w5 := Below.trans (by go_grown) (hb5.mono (by first | omega | (simp <;> omega)))
  have k5_0_0 := hc5 (w.heap.size) 0 (by first | omega | (simp <;> omega))
  rw [World.cell?_alloc_lt _ _ _ (by first | omega | (simp <;> omega)), k4_0_0] at k5_0_0
  have k5_0_1 := hc5 (w.heap.size) 1 (by first | omega | (simp <;> omega))
  rw [World.cell?_alloc_lt _ _ _ (by first | omega | (simp <;> omega)), k4_0_1] at k5_0_1
  clear k4_0_0 k4_0_1
  have k5_1_0 := hc5 (w2.heap.size) 0 (by first | omega | (simp <;> omega))
  rw [World.cell?_alloc_lt _ _ _ (by first | omega | (simp <;> omega)), k4_1_0] at k5_1_0
  have k5_1_1 := hc5 (w2.heap.size) 1 (by first | omega | (simp <;> omega))
  rw [World.cell?_alloc_lt _ _ _ (by first | omega | (simp <;> omega)), k4_1_1] at k5_1_1
  clear k4_1_0 k4_1_1
  have k5_2_0 := hc5 (w4.heap.size) 0 (by first | omega | (simp <;> omega))
  simp [go_sem] at k5_2_0
  have k5_2_1 := hc5 (w4.heap.size) 1 (by first | omega | (simp <;> omega))
  simp [go_sem] at k5_2_1
  clear hc5 hf5 hb5
  go_wp2_with fail
  go_ret
  exact ⟨rfl, by assumption⟩

theorem lawSibling (net n : Int) (w : World) :
    Calls Try.prog 7 #[.agg #[.int .i64 net, .int .i64 n]] w fun e w' => e = .returned (.bool true) ∧ Below w.heap.size w w' := by
  by_cases h : pokB net n = true
  · by_cases hn : 0 < n
    · exact lawSibling_yes net n w h hn
    · exact lawSibling_no net n w (.inr (by have := pokB_true h; omega))
  · exact lawSibling_no net n w (.inl (by simpa using h))

set_option maxRecDepth 100000 in
theorem Sibling_lifted (os : Os) (started : os.Started) (H : Type) (enc : TypeId × Value → H) :
    ReturnsInHanded {} Try.checked os 7 .any (Rows.fnExactSiblingSpec.pre6 enc Try.prog Try.f7 Rows.fnExactSiblingRow.domain false) (Rows.fnExactSiblingSpec.post enc Try.prog Try.f7 false true false false) := by
  refine returnsInHanded_of_change (C := Try.checked) Try.own started (by kernel_rfl) Try.func7
    (ChangeSpec.witness6 (enc := enc) (C := Try.checked) false ⟨#[], #[.agg #[.int .i64 0, .int .i64 0]], []⟩ 8 (by kernel_rfl) (by kernel_rfl) (by kernel_rfl) (by kernel_rfl)) ?_
  intro W base args ds gs before hval0 hW _ _
  have hval : ∀ (j : Nat) t v, Try.f7.params[j]? = some t → args[j]? = some v → Value.okWide Try.prog W .any base t v := hval0
  have hW' := hW
  obtain ⟨p, q, hA0, _, _, _, _⟩ := hW
  have hA : DataW.TrodAll enc Try.prog W 0 (fun _ => true) true Try.f7.params.toList args.toList ds p := hA0
  rw [Try.params7] at hA hval
  obtain ⟨v0, d0, rfl, rfl, h0⟩ := trodAll_one hA
  obtain ⟨a0, b0, rfl, _, _, _, _⟩ := open_prefix (hval 0 23 v0 rfl rfl) h0
  refine (lawSibling a0 b0 W).mono fun e W' ⟨he, hw⟩ => ⟨_, he, law_post Try.laidOut (fun u hu => ?_) rfl rfl Try.underlying4 hW' rfl hw⟩
  rw [Try.params7] at hu
  simp at hu
  subst hu
  exact Try.read23

theorem sibling_holds : Rows.FnExactSiblingSaid :=
  OpenClaim.holds_of_wide 7 Try.f7 rfl rfl rfl rfl rfl rfl rfl ⟨rfl, rfl, rfl, rfl, rfl⟩ rfl rfl rfl rfl rfl (by kernel_rfl) Try.func7 (by kernel_rfl)
    (of_decide_eq_true (by kernel_rfl)) (by unfold Func.isWrapper; first | (rw [if_pos (by decide +kernel)]; kernel_rfl) | (rw [if_neg (by decide +kernel)]; exact ⟨rfl, rfl⟩))
    (fun os started H enc _ => Sibling_lifted os started H enc)

end Go.Proofs.Ytegffibamkaeiaa
