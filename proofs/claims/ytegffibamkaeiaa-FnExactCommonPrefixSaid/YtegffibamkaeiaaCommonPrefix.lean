/- 'laws.FnExactCommonPrefix' answers true for any two numbers. No condition. -/
import Derived.Test.YtegffibamkaeiaaWh
import Derived.Test.YtegffibamkaeiaaOpen
namespace Go.Proofs.Ytegffibamkaeiaa
open Go.ChangeShapes Go.WideShapes Go.ChangeAt Go.RowKit Go.Joins

set_option maxHeartbeats 1000000 in
theorem lawCommon_yes (a b : Int) (w : World) (ha : 0 ≤ a) (ha' : a ≤ 65535) (hb : 0 ≤ b) (hb' : b ≤ 65535) :
    Calls Try.prog 8 #[.int .i64 a, .int .i64 b] w fun e w' => e = .returned (.bool true) ∧ Below w.heap.size w w' := by
  go_enter Try.func8, Try.ntmps8
  go_wp2_with fail
  go_at_call 21; refine (spcom_yes _ _ _ ha ha' hb hb').mono ?_; rintro e w1 ⟨rfl, hb1⟩
  obtain ⟨hc1, hf1⟩ := bcell hb1
  have hz1 := hb1.size
  try simp at hz1
  have hB1 : Below w.heap.size w w1 := Below.trans (by go_grown) (hb1.mono (by first | omega | (simp <;> omega)))
  clear hc1 hf1 hb1
  go_wp2_with fail
  go_at_call 22; refine (com_yes _ _ _ ha ha' hb hb').mono ?_; rintro e w2 ⟨rfl, hb2⟩
  obtain ⟨hc2, hf2⟩ := bcell hb2
  have hz2 := hb2.size
  try simp at hz2
  have hB2 : Below w.heap.size w w2 := Below.trans (by go_grown) (hb2.mono (by first | omega | (simp <;> omega)))
  have k2_0_0 := hc2 (w1.heap.size) 0 (by first | omega | (simp <;> omega))
  simp [go_sem] at k2_0_0
  have k2_0_1 := hc2 (w1.heap.size) 1 (by first | omega | (simp <;> omega))
  simp [go_sem] at k2_0_1
  clear hc2 hf2 hb2
  have d2_0 : w1.heap.size < w2.heap.size := by omega
  have e2_0 : w1.heap.size ≠ w2.heap.size := by omega
  go_wp2_with fail
  go_at_call 18; refine (eqP_same _ _ _).mono ?_; rintro e w3 ⟨rfl, hb3⟩
  obtain ⟨hc3, hf3⟩ := bcell hb3
  have hz3 := hb3.size
  try simp at hz3
  have hB3 : Below w.heap.size w w3 := Below.trans (by go_grown) (hb3.mono (by first | omega | (simp <;> omega)))
  have k3_0_0 := hc3 (w1.heap.size) 0 (by first | omega | (simp <;> omega))
  rw [World.cell?_alloc_lt _ _ _ (by first | omega | (simp <;> omega)), k2_0_0] at k3_0_0
  have k3_0_1 := hc3 (w1.heap.size) 1 (by first | omega | (simp <;> omega))
  rw [World.cell?_alloc_lt _ _ _ (by first | omega | (simp <;> omega)), k2_0_1] at k3_0_1
  clear k2_0_0 k2_0_1
  have k3_1_0 := hc3 (w2.heap.size) 0 (by first | omega | (simp <;> omega))
  simp [go_sem] at k3_1_0
  have k3_1_1 := hc3 (w2.heap.size) 1 (by first | omega | (simp <;> omega))
  simp [go_sem] at k3_1_1
  clear hc3 hf3 hb3
  go_wp2_with fail
  go_ret
  exact ⟨rfl, by assumption⟩

set_option maxHeartbeats 1000000 in
theorem lawCommon_no (a b : Int) (w : World) (h : inB a 0 65535 = false ∨ inB b 0 65535 = false) :
    Calls Try.prog 8 #[.int .i64 a, .int .i64 b] w fun e w' => e = .returned (.bool true) ∧ Below w.heap.size w w' := by
  have H := Lib.hid h
  clear h
  go_enter Try.func8, Try.ntmps8
  go_wp2_with fail
  go_at_call 21; refine (spcom_no _ _ _ H.out).mono ?_; rintro e w1 ⟨rfl, hb1⟩
  obtain ⟨hc1, hf1⟩ := bcell hb1
  have hz1 := hb1.size
  try simp at hz1
  have hB1 : Below w.heap.size w w1 := Below.trans (by go_grown) (hb1.mono (by first | omega | (simp <;> omega)))
  clear hc1 hf1 hb1
  go_wp2_with fail
  go_at_call 22; refine (com_no _ _ _ H.out).mono ?_; rintro e w2 ⟨rfl, hb2⟩
  obtain ⟨hc2, hf2⟩ := bcell hb2
  have hz2 := hb2.size
  try simp at hz2
  have hB2 : Below w.heap.size w w2 := Below.trans (by go_grown) (hb2.mono (by first | omega | (simp <;> omega)))
  have k2_0_0 := hc2 (w1.heap.size) 0 (by first | omega | (simp <;> omega))
  simp [go_sem] at k2_0_0
  have k2_0_1 := hc2 (w1.heap.size) 1 (by first | omega | (simp <;> omega))
  simp [go_sem] at k2_0_1
  clear hc2 hf2 hb2
  have d2_0 : w1.heap.size < w2.heap.size := by omega
  have e2_0 : w1.heap.size ≠ w2.heap.size := by omega
  go_wp2_with fail
  go_at_call 18; refine (eqP_same _ _ _).mono ?_; rintro e w3 ⟨rfl, hb3⟩
  obtain ⟨hc3, hf3⟩ := bcell hb3
  have hz3 := hb3.size
  try simp at hz3
  have hB3 : Below w.heap.size w w3 := Below.trans (by go_grown) (hb3.mono (by first | omega | (simp <;> omega)))
  have k3_0_0 := hc3 (w1.heap.size) 0 (by first | omega | (simp <;> omega))
  rw [World.cell?_alloc_lt _ _ _ (by first | omega | (simp <;> omega)), k2_0_0] at k3_0_0
  have k3_0_1 := hc3 (w1.heap.size) 1 (by first | omega | (simp <;> omega))
  rw [World.cell?_alloc_lt _ _ _ (by first | omega | (simp <;> omega)), k2_0_1] at k3_0_1
  clear k2_0_0 k2_0_1
  have k3_1_0 := hc3 (w2.heap.size) 0 (by first | omega | (simp <;> omega))
  simp [go_sem] at k3_1_0
  have k3_1_1 := hc3 (w2.heap.size) 1 (by first | omega | (simp <;> omega))
  simp [go_sem] at k3_1_1
  clear hc3 hf3 hb3
  go_wp2_with fail
  go_ret
  exact ⟨rfl, by assumption⟩

theorem lawCommonPrefix (a b : Int) (w : World) :
    Calls Try.prog 8 #[.int .i64 a, .int .i64 b] w fun e w' => e = .returned (.bool true) ∧ Below w.heap.size w w' := by
  by_cases ha : 0 ≤ a ∧ a ≤ 65535
  · by_cases hb : 0 ≤ b ∧ b ≤ 65535
    · exact lawCommon_yes a b w ha.1 ha.2 hb.1 hb.2
    · exact lawCommon_no a b w (.inr (inB_false hb))
  · exact lawCommon_no a b w (.inl (inB_false ha))

set_option maxRecDepth 100000 in
theorem CommonPrefix_lifted (os : Os) (started : os.Started) (H : Type) (enc : TypeId × Value → H) :
    ReturnsInHanded {} Try.checked os 8 .any (Rows.fnExactCommonPrefixSpec.pre6 enc Try.prog Try.f8 Rows.fnExactCommonPrefixRow.domain false) (Rows.fnExactCommonPrefixSpec.post enc Try.prog Try.f8 false true false false) := by
  refine returnsInHanded_of_change (C := Try.checked) Try.own started (by kernel_rfl) Try.func8
    (ChangeSpec.witness6 (enc := enc) (C := Try.checked) false ⟨#[], #[.int .i64 0, .int .i64 0], []⟩ 8 (by kernel_rfl) (by kernel_rfl) (by kernel_rfl) (by kernel_rfl)) ?_
  intro W base args ds gs before hval0 hW _ _
  have hval : ∀ (j : Nat) t v, Try.f8.params[j]? = some t → args[j]? = some v → Value.okWide Try.prog W .any base t v := hval0
  have hW' := hW
  obtain ⟨p, q, hA0, _, _, _, _⟩ := hW
  have hA : DataW.TrodAll enc Try.prog W 0 (fun _ => true) true Try.f8.params.toList args.toList ds p := hA0
  rw [Try.params8] at hA hval
  obtain ⟨v0, v1, d0, d1, p0, p1, rfl, rfl, rfl, h0, h1⟩ := trodAll_two hA
  obtain ⟨a0, rfl, ha0, hb0⟩ := open_num (hval 0 3 v0 rfl rfl) h0
  obtain ⟨a1, rfl, ha1, hb1⟩ := open_num (hval 1 3 v1 rfl rfl) h1
  refine (lawCommonPrefix a0 a1 W).mono fun e W' ⟨he, hw⟩ => ⟨_, he, law_post Try.laidOut (fun u hu => ?_) rfl rfl Try.underlying4 hW' rfl hw⟩
  rw [Try.params8] at hu
  simp at hu
  subst hu
  exact Try.read3

theorem commonPrefix_holds : Rows.FnExactCommonPrefixSaid :=
  OpenClaim.holds_of_wide 8 Try.f8 rfl rfl rfl rfl rfl rfl rfl ⟨rfl, rfl, rfl, rfl, rfl⟩ rfl rfl rfl rfl rfl (by kernel_rfl) Try.func8 (by kernel_rfl)
    (of_decide_eq_true (by kernel_rfl)) (by unfold Func.isWrapper; first | (rw [if_pos (by decide +kernel)]; kernel_rfl) | (rw [if_neg (by decide +kernel)]; exact ⟨rfl, rfl⟩))
    (fun os started H enc _ => CommonPrefix_lifted os started H enc)

end Go.Proofs.Ytegffibamkaeiaa
