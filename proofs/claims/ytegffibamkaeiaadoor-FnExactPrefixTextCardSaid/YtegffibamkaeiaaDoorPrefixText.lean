/- 'laws.FnExactPrefixText' answers true for every prefix, and leaves its argument as it was. No condition but what the program's text itself ties: strconv's table of powers of ten holds what it is written with. -/
import Derived.Test.YtegffibamkaeiaaDoorWt
import Derived.Test.YtegffibamkaeiaaDoorOpen
import Derived.Test.YtegffibamkaeiaaDoorCards
import Derived.Test.YtegffibamkaeiaaDoorTie
import Derived.OpenShut
import Derived.Deep.DeepHandedRow
import Derived.Lib.LaidTab
import Derived.LaidMore
import Derived.LaidSub
import Derived.Deep.DeepWitnessRowRef
import Derived.Stop.Joined
namespace Go.Proofs.YtegffibamkaeiaaDoor
open Go.ChangeShapes Go.WideShapes Go.ChangeAt Go.RowKit Go.Joins

set_option maxHeartbeats 1000000 in
theorem lawText_yes (net n : Int) (w : World) (h : pokB net n = true) (ht : Lib.TabIs Tryd.prog w "internal/strconv.uint64pow10" .u64 Lib.pow10Tab) :
    Calls Tryd.prog 3 #[.agg #[.int .i64 net, .int .i64 n]] w fun e w' => e = .returned (.bool true) ∧ Below w.heap.size w w' := by
  go_enter Tryd.func3, Tryd.ntmps3
  go_wp2_with fail
  go_at_call 6; refine (toP_any _ _ _).mono ?_; rintro e w1 ⟨rfl, hb1⟩
  obtain ⟨hc1, hf1⟩ := bcell hb1
  have hz1 := hb1.size
  try simp at hz1
  have hB1 : Below w.heap.size w w1 := Below.trans (by go_grown) (hb1.mono (by first | omega | (simp <;> omega)))
  have k1_0_0 := hc1 (w.heap.size) 0 (by first | omega | (simp <;> omega))
  simp [go_sem] at k1_0_0
  have k1_0_1 := hc1 (w.heap.size) 1 (by first | omega | (simp <;> omega))
  simp [go_sem] at k1_0_1
  clear hc1 hf1 hb1
  go_wp2_with fail
  go_at_call 5; refine (sptext_yes _ _ _ h).mono ?_; rintro e w2 ⟨rfl, hb2⟩
  obtain ⟨hc2, hf2⟩ := bcell hb2
  have hz2 := hb2.size
  try simp at hz2
  have hB2 : Below w.heap.size w w2 := Below.trans (by go_grown) (hb2.mono (by first | omega | (simp <;> omega)))
  have k2_0_0 := hc2 (w.heap.size) 0 (by first | omega | (simp <;> omega))
  rw [k1_0_0] at k2_0_0
  have k2_0_1 := hc2 (w.heap.size) 1 (by first | omega | (simp <;> omega))
  rw [k1_0_1] at k2_0_1
  clear k1_0_0 k1_0_1
  clear hc2 hf2 hb2
  go_wp2_with fail
  go_at_call 6; refine (toP_any _ _ _).mono ?_; rintro e w3 ⟨rfl, hb3⟩
  obtain ⟨hc3, hf3⟩ := bcell hb3
  have hz3 := hb3.size
  try simp at hz3
  have hB3 : Below w.heap.size w w3 := Below.trans (by go_grown) (hb3.mono (by first | omega | (simp <;> omega)))
  have k3_0_0 := hc3 (w.heap.size) 0 (by first | omega | (simp <;> omega))
  rw [k2_0_0] at k3_0_0
  have k3_0_1 := hc3 (w.heap.size) 1 (by first | omega | (simp <;> omega))
  rw [k2_0_1] at k3_0_1
  clear k2_0_0 k2_0_1
  clear hc3 hf3 hb3
  go_wp2_with fail
  go_at_call 7; refine (text_yes _ _ _ h (Joins.tab_stays Tryd.gPow ht hB3 (Nat.le_refl _))).mono ?_; rintro e w4 ⟨rfl, hb4⟩
  obtain ⟨hc4, hf4⟩ := bcell hb4
  have hz4 := hb4.size
  try simp at hz4
  have hB4 : Below w.heap.size w w4 := Below.trans (by go_grown) (hb4.mono (by first | omega | (simp <;> omega)))
  have k4_0_0 := hc4 (w.heap.size) 0 (by first | omega | (simp <;> omega))
  rw [k3_0_0] at k4_0_0
  have k4_0_1 := hc4 (w.heap.size) 1 (by first | omega | (simp <;> omega))
  rw [k3_0_1] at k4_0_1
  clear k3_0_0 k3_0_1
  clear hc4 hf4 hb4
  go_wp2_with fail
  go_ret
  exact ⟨rfl, by assumption⟩

set_option maxHeartbeats 1000000 in
theorem lawText_no (net n : Int) (w : World) (h : pokB net n = false) :
    Calls Tryd.prog 3 #[.agg #[.int .i64 net, .int .i64 n]] w fun e w' => e = .returned (.bool true) ∧ Below w.heap.size w w' := by
  go_enter Tryd.func3, Tryd.ntmps3
  go_wp2_with fail
  go_at_call 6; refine (toP_any _ _ _).mono ?_; rintro e w1 ⟨rfl, hb1⟩
  obtain ⟨hc1, hf1⟩ := bcell hb1
  have hz1 := hb1.size
  try simp at hz1
  have hB1 : Below w.heap.size w w1 := Below.trans (by go_grown) (hb1.mono (by first | omega | (simp <;> omega)))
  have k1_0_0 := hc1 (w.heap.size) 0 (by first | omega | (simp <;> omega))
  simp [go_sem] at k1_0_0
  have k1_0_1 := hc1 (w.heap.size) 1 (by first | omega | (simp <;> omega))
  simp [go_sem] at k1_0_1
  clear hc1 hf1 hb1
  go_wp2_with fail
  go_at_call 5; refine (sptext_no _ _ _ h).mono ?_; rintro e w2 ⟨rfl, hb2⟩
  obtain ⟨hc2, hf2⟩ := bcell hb2
  have hz2 := hb2.size
  try simp at hz2
  have hB2 : Below w.heap.size w w2 := Below.trans (by go_grown) (hb2.mono (by first | omega | (simp <;> omega)))
  have k2_0_0 := hc2 (w.heap.size) 0 (by first | omega | (simp <;> omega))
  rw [k1_0_0] at k2_0_0
  have k2_0_1 := hc2 (w.heap.size) 1 (by first | omega | (simp <;> omega))
  rw [k1_0_1] at k2_0_1
  clear k1_0_0 k1_0_1
  clear hc2 hf2 hb2
  go_wp2_with fail
  go_at_call 6; refine (toP_any _ _ _).mono ?_; rintro e w3 ⟨rfl, hb3⟩
  obtain ⟨hc3, hf3⟩ := bcell hb3
  have hz3 := hb3.size
  try simp at hz3
  have hB3 : Below w.heap.size w w3 := Below.trans (by go_grown) (hb3.mono (by first | omega | (simp <;> omega)))
  have k3_0_0 := hc3 (w.heap.size) 0 (by first | omega | (simp <;> omega))
  rw [k2_0_0] at k3_0_0
  have k3_0_1 := hc3 (w.heap.size) 1 (by first | omega | (simp <;> omega))
  rw [k2_0_1] at k3_0_1
  clear k2_0_0 k2_0_1
  clear hc3 hf3 hb3
  go_wp2_with fail
  go_at_call 7; refine (text_no _ _ _ h).mono ?_; rintro e w4 ⟨rfl, hb4⟩
  obtain ⟨hc4, hf4⟩ := bcell hb4
  have hz4 := hb4.size
  try simp at hz4
  have hB4 : Below w.heap.size w w4 := Below.trans (by go_grown) (hb4.mono (by first | omega | (simp <;> omega)))
  have k4_0_0 := hc4 (w.heap.size) 0 (by first | omega | (simp <;> omega))
  rw [k3_0_0] at k4_0_0
  have k4_0_1 := hc4 (w.heap.size) 1 (by first | omega | (simp <;> omega))
  rw [k3_0_1] at k4_0_1
  clear k3_0_0 k3_0_1
  clear hc4 hf4 hb4
  go_wp2_with fail
  go_ret
  exact ⟨rfl, by assumption⟩

theorem lawPrefixText (net n : Int) (w : World) (ht : Lib.TabIs Tryd.prog w "internal/strconv.uint64pow10" .u64 Lib.pow10Tab) :
    Calls Tryd.prog 3 #[.agg #[.int .i64 net, .int .i64 n]] w fun e w' => e = .returned (.bool true) ∧ Below w.heap.size w w' := by
  by_cases h : pokB net n = true
  · exact lawText_yes net n w h ht
  · exact lawText_no net n w (by simpa using h)

theorem Tryd.gPowType : (Tryd.prog.globals[3]?).map (·.type) = some 73 := by kernel_rfl
theorem Tryd.cells73 : Tryd.prog.cellsOf 73 = 20 := by kernel_rfl
theorem Tryd.cells60 : Tryd.prog.cellsOf 60 = 1 := by kernel_rfl
theorem pow_data : (Rows.laid_internal_strconv_uint64pow10 : DataW Unit) = Lib.tabData .u64 Lib.pow10Tab := by kernel_rfl

/-- WHAT THE ROW's LIST GIVES: strconv's table holds the powers of ten. -/
theorem pow_of_laid {W : World} (h : laidMetH Tryd.prog Rows.fnExactPrefixTextRow.laid W) : Lib.TabIs Tryd.prog W "internal/strconv.uint64pow10" .u64 Lib.pow10Tab := by
  have h2 := h.filter (fun x => x.1 == "internal/strconv.uint64pow10")
  rw [MakeChecks.laidMetH_plain _ _ _ (by kernel_rfl)] at h2
  have e : (Rows.fnExactPrefixTextRow.laid.filter fun x => x.1 == "internal/strconv.uint64pow10") = [("internal/strconv.uint64pow10", Rows.laid_internal_strconv_uint64pow10)] := by kernel_rfl
  rw [e, pow_data] at h2
  exact Lib.tabIs_of_head (rest := []) Tryd.gPow Tryd.gPowType Tryd.underlying73 Tryd.underlying60 Tryd.cells60 Tryd.cells73 h2

theorem contract (H : Type) (enc : TypeId × Value → H) (W : World) (base : Nat) (args : Array Value) (ds gs : List (DataW H)) (before : List MemPlace)
    (hval : ∀ (j : Nat) t v, Tryd.f3.params[j]? = some t → args[j]? = some v → Value.okWide Tryd.prog W .any base t v)
    (hW : DataW.Whole enc Tryd.prog Tryd.f3.params.toList Rows.fnExactPrefixTextSpec.vars false W args.toList ds gs before) (hL : laidMetH Tryd.prog Rows.fnExactPrefixTextRow.laid W) :
    Calls Tryd.prog 3 args W fun e W' => ∃ v, e = .returned v ∧ Rows.fnExactPrefixTextSpec.post enc Tryd.prog Tryd.f3 false true false false W args v W' := by
  have hW' := hW
  obtain ⟨p, q, hA0, _, _, _, _⟩ := hW
  have hA : DataW.TrodAll enc Tryd.prog W 0 (fun _ => true) true Tryd.f3.params.toList args.toList ds p := hA0
  rw [Tryd.params3] at hA hval
  obtain ⟨v0, d0, rfl, rfl, h0⟩ := trodAll_one hA
  obtain ⟨net, n, rfl, _, _, _, _⟩ := open_prefix (hval 0 23 v0 rfl rfl) h0
  refine (lawPrefixText net n W (pow_of_laid hL)).mono fun e W' ⟨he, hw⟩ => ⟨_, he, law_post Tryd.laidOut (fun u hu => ?_) rfl rfl Tryd.underlying4 hW' rfl hw⟩
  rw [Tryd.params3] at hu
  simp at hu
  subst hu
  exact Tryd.read23

theorem door_met (os : Os) : laidMetH Tryd.prog Rows.fnExactPrefixTextRow.laid ((World.doorLaid Tryd.prog 2000 os).forCall (fun _ _ => 0) ⟨#[], #[.agg #[.int .i64 0, .int .i64 0]], []⟩).memory :=
  laidMetH_of_parts3 (fuel := 8) (laidMet_of_run' 8 (by kernel_rfl) (by kernel_rfl)) (by kernel_rfl) (by kernel_rfl)
theorem reads (os : Os) {H : Type} (enc : TypeId × Value → H) : ∃ places, DataW.whole enc Tryd.prog ((World.doorLaid Tryd.prog 2000 os).forCall (fun _ _ => 0) ⟨#[], #[.agg #[.int .i64 0, .int .i64 0]], []⟩).memory Tryd.f3.params.toList Rows.fnExactPrefixTextSpec.vars false #[Value.agg #[.int .i64 0, .int .i64 0]].toList 8 = some ([.agg [.lit (.int .i64 0), .lit (.int .i64 0)]], [], places) :=
  ⟨[], by kernel_rfl⟩

set_option maxRecDepth 100000 in
theorem lifted (os : Os) (started : os.Started) (H : Type) (enc : TypeId × Value → H) (F : Stop.Interp) :
    ReturnsInHanded {} Tryd.checked os 3 .any ((OpenSpec.ofChange Rows.fnExactPrefixTextSpec).preRow enc Tryd.prog Tryd.f3 Rows.fnExactPrefixTextRow.domain false Rows.fnExactPrefixTextRow.laid) (((OpenSpec.ofChange Rows.fnExactPrefixTextSpec).at F).post enc Tryd.prog Tryd.f3 false true false false) := by
  obtain ⟨places, hx⟩ := reads os enc
  refine returnsInHanded_of_row (C := Tryd.checked) (s := OpenSpec.ofChange Rows.fnExactPrefixTextSpec) Tryd.own started (by kernel_rfl) Tryd.func3
    (witness_row_atRef (enc := enc) (C := Tryd.checked) false (World.doorLaid Tryd.prog 2000 os) #[.agg #[.int .i64 0, .int .i64 0]] rfl (by kernel_rfl) (by kernel_rfl) (by kernel_rfl)
      (OpenSpec.preRow_of_cond 8 hx (by kernel_rfl) (fun k hk => by cases hk) (by kernel_rfl) (door_met os))) ?_
  intro W base args ds gs before hval hW _ _ _ hL _ _
  exact contract H enc W base args ds gs before hval hW hL

theorem said : Rows.FnExactPrefixTextSaid :=
  OpenClaim.holds_of_cond 3 Tryd.f3 rfl rfl rfl rfl rfl rfl rfl ⟨rfl, rfl, rfl, rfl, rfl⟩ rfl rfl rfl rfl rfl (by kernel_rfl) Tryd.func3 (by kernel_rfl)
    (of_decide_eq_true (by kernel_rfl)) (by unfold Func.isWrapper; first | (rw [if_pos (by decide +kernel)]; kernel_rfl) | (rw [if_neg (by decide +kernel)]; exact ⟨rfl, rfl⟩))
    (fun os started H enc _ F => by rw [OpenClaim.pre_eq_preRow]; exact lifted os started H enc F)

theorem plain (f : FuncId) (fn : Func) (hf : Tryd.pinned.checked.prog.funcNamed "loop.example/g00681/laws.FnExactPrefixText" = some f) (hfn : Tryd.pinned.checked.prog.funcs[f]? = some fn) :
    true = Tryd.pinned.checked.prog.looks [] ∧ ∀ (j : Nat) t, fn.params[j]? = some t → Tryd.pinned.checked.prog.wantsStandIn t = false := by
  obtain rfl : f = 3 := Option.some.inj ((show Tryd.prog.funcNamed "loop.example/g00681/laws.FnExactPrefixText" = some 3 by kernel_rfl).symm.trans hf) |>.symm
  obtain rfl : fn = Tryd.f3 := (Option.some.inj (Tryd.func3.symm.trans hfn)).symm
  refine ⟨by kernel_rfl, fun j t ht => ?_⟩
  rw [Tryd.params3] at ht
  obtain rfl : t = 23 := by simpa using Array.mem_of_getElem? ht
  exact (show Tryd.prog.wantsStandIn 23 = false by kernel_rfl)

theorem prefixText_card : Rows.FnExactPrefixTextCardSaid :=
  Claim7.holds_tied_plain_at .later [] _ _ _ _ said (fun _ h => by cases h) (by kernel_rfl) (fun _ h => by cases h) fnExactPrefixText_row_tie rfl ⟨rfl, rfl⟩ (by kernel_rfl) rfl plain (by kernel_rfl)

end Go.Proofs.YtegffibamkaeiaaDoor
