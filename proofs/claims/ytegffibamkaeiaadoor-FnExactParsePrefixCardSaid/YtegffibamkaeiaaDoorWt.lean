/- PrefixText of the model and of the program as contracts. -/
import Derived.Test.YtegffibamkaeiaaDoorWn
import Derived.Test.YtegffibamkaeiaaDoorShelf
import Derived.Lib.SmallJoins
import Derived.Lib.AppendIntMem
namespace Go.Proofs.YtegffibamkaeiaaDoor
open Go.RowKit

theorem len20 (u : Nat) (h : u < 10000000000000000000) : (Lib.decDigits u).length ≤ 20 := by
  rw [Lib.decDigits_length]; exact Lib.nDigits_le20 u (by omega)
/-- The text of a valid prefix. -/
def ptext (net n : Int) : ByteArray := ⟨(Lib.decDigits (net / 256).toNat).toArray⟩ ++ ⟨#[46]⟩ ++ ⟨(Lib.decDigits (net % 256).toNat).toArray⟩ ++ ⟨#[47]⟩ ++ ⟨(Lib.decDigits n.toNat).toArray⟩

theorem box_keep1 {w w2 : World} {c0 c1 : Value} {T : TypeId} (h : Below (w.alloc (.cells #[c0, c1] T)).heap.size (w.alloc (.cells #[c0, c1] T)) w2) :
    w2.cell? ⟨w.heap.size, 0, none⟩ = some c0 ∧ w2.cell? ⟨w.heap.size, 1, none⟩ = some c1 ∧ w.heap.size < w2.heap.size ∧ Below w.heap.size w w2 := by
  obtain ⟨hc, hf⟩ := bcell h
  have hz := h.size
  simp at hz
  exact ⟨by rw [hc _ _ (by simp)]; simp, by rw [hc _ _ (by simp)]; simp, by omega, unbox h⟩
theorem box_drew {w w2 : World} {c0 c1 : Value}
    (h : w2.cell? ⟨w.heap.size, 0, none⟩ = some c0 ∧ w2.cell? ⟨w.heap.size, 1, none⟩ = some c1 ∧ w.heap.size < w2.heap.size ∧ Below w.heap.size w w2) :
    w2.drew.cell? ⟨w.heap.size, 0, none⟩ = some c0 ∧ w2.drew.cell? ⟨w.heap.size, 1, none⟩ = some c1 ∧ w.heap.size < w2.drew.heap.size ∧ Below w.heap.size w w2.drew := ⟨h.1, h.2.1, h.2.2.1, h.2.2.2.drew⟩

set_option maxHeartbeats 400000 in
theorem num_zero (w : World) : Calls Tryd.prog 12 #[.int .i64 0] w fun e w' => e = .returned (.string ⟨#[48]⟩) ∧ Below w.heap.size w w' := by
  go_enter Tryd.func12, Tryd.ntmps12
  go_wp2
  go_ret
  exact ⟨rfl, Below.refl _ _⟩

/-- l01Num at a number that is not negative. -/
theorem num_int (x : Int) (h0 : 0 ≤ x) (h1 : x ≤ 9223372036854775807) (w : World) :
    Calls Tryd.prog 12 #[.int .i64 x] w fun e w' => e = .returned (.string ⟨(Lib.decDigits x.toNat).toArray⟩) ∧ Below w.heap.size w w' := by
  obtain ⟨u, rfl⟩ := Int.eq_ofNat_of_zero_le h0
  rw [Int.toNat_natCast]
  by_cases hu : 0 < u
  · exact num_pos u hu h1 w
  · obtain rfl : u = 0 := by omega
    exact (num_zero w).mono fun e w' ⟨he, hb⟩ => ⟨by rw [he, Lib.decDigits]; rfl, hb⟩

theorem Tryd.gPow : Tryd.prog.globalNamed "internal/strconv.uint64pow10" = some 3 := by kernel_rfl
/-- strconv.Itoa at a number that is not negative. -/
theorem itoa_int (x : Int) (h0 : 0 ≤ x) (h1 : x ≤ 9223372036854775807) (w : World) (htab : Lib.TabIs Tryd.prog w "internal/strconv.uint64pow10" .u64 Lib.pow10Tab) :
    Calls Tryd.prog 14 #[.int .i64 x] w fun e w' => e = .returned (.string ⟨(Lib.decDigits x.toNat).toArray⟩) ∧ Below w.heap.size w w' := by
  refine (Tryd.strconv_Itoa x (by omega) h1 w htab).mono fun e w' ⟨he, k, os, hw⟩ => ⟨?_, ?_⟩
  · rw [he]; unfold Lib.itoa; rw [if_neg (by omega)]
  · rw [hw]; exact Lib.below_grow _ _ (Nat.le_refl _) _ _

set_option maxHeartbeats 1000000 in
theorem sptext_no (net n : Int) (w : World) (h : pokB net n = false) :
    Calls Tryd.prog 5 #[.agg #[.int .i64 net, .int .i64 n]] w fun e w' => e = .returned (.string ⟨#[]⟩) ∧ Below w.heap.size w w' := by
  have hK0 := Below.refl (w.alloc (.cells #[.int .i64 net, .int .i64 n] 25)).heap.size (w.alloc (.cells #[.int .i64 net, .int .i64 n] 25))
  go_enter Tryd.func5, Tryd.ntmps5
  go_wp2_with (go_at_call 11; refine (spok_any _ _ _).mono ?_; rintro e w2 ⟨rfl, hb⟩; have hK := chain (W0 := (w.alloc (.cells #[.int .i64 net, .int .i64 n] 25))) (by assumption) hb; have hS := box_keep1 hK; clear hb)
  go_ret
  exact ⟨rfl, unbox (by assumption)⟩

set_option maxHeartbeats 2000000 in
theorem sptext_yes (net n : Int) (w : World) (h : pokB net n = true) :
    Calls Tryd.prog 5 #[.agg #[.int .i64 net, .int .i64 n]] w fun e w' => e = .returned (.string (ptext net n)) ∧ Below w.heap.size w w' := by
  have hK0 := Below.refl (w.alloc (.cells #[.int .i64 net, .int .i64 n] 25)).heap.size (w.alloc (.cells #[.int .i64 net, .int .i64 n] 25))
  obtain ⟨h0, h1, h2, h3, _⟩ := pokB_true h
  have d1 : net.tdiv 256 = net / 256 := Int.tdiv_eq_ediv_of_nonneg h2
  have d2 : net.tmod 256 = net % 256 := Int.tmod_eq_emod_of_nonneg h2
  have d3 : IntKind.i64.wrap (net / 256) = net / 256 := IntWalk.i64_in _ (by omega)
  have q1 : 0 ≤ net / 256 := by omega
  have q2 : net / 256 ≤ 9223372036854775807 := by omega
  have q3 : 0 ≤ net % 256 := by omega
  have q4 : net % 256 ≤ 9223372036854775807 := by omega
  have q5 : n ≤ 9223372036854775807 := by omega
  have l1 : (Lib.decDigits (net / 256).toNat).length ≤ 20 := len20 _ (by omega)
  have l2 : (Lib.decDigits (net % 256).toNat).length ≤ 20 := len20 _ (by omega)
  have l3 : (Lib.decDigits n.toNat).length ≤ 20 := len20 _ (by omega)
  have c1 : ¬ (9223372036854775807 < (Lib.decDigits (net / 256).toNat).length + 1) := by omega
  have c2 : ¬ (9223372036854775807 < (Lib.decDigits (net / 256).toNat).length + 1 + (Lib.decDigits (net % 256).toNat).length) := by omega
  have c3 : ¬ (9223372036854775807 < (Lib.decDigits (net / 256).toNat).length + 1 + (Lib.decDigits (net % 256).toNat).length + 1) := by omega
  have c4 : ¬ (9223372036854775807 < (Lib.decDigits (net / 256).toNat).length + 1 + (Lib.decDigits (net % 256).toNat).length + 1 + (Lib.decDigits n.toNat).length) := by omega
  clear l1 l2 l3
  unfold ptext
  go_enter Tryd.func5, Tryd.ntmps5
  go_wp2_with (go_at_call 11; refine (spok_any _ _ _).mono ?_; rintro e w2 ⟨rfl, hb⟩; have hK := chain (W0 := (w.alloc (.cells #[.int .i64 net, .int .i64 n] 25))) (by assumption) hb; have hS := box_keep1 hK; clear hb)
  go_region_held3 (fun w' => w'.cell? ⟨w.heap.size, 0, none⟩ = some (.int .i64 net) ∧ w'.cell? ⟨w.heap.size, 1, none⟩ = some (.int .i64 n) ∧ w.heap.size < w'.heap.size ∧ Below w.heap.size w w') (first | assumption | exact box_keep0 _ _ _ _ | exact box_drew (by assumption) | exact box_keep (by assumption) (by assumption))
    (first | (go_at_call 12; ((with_reducible refine (num_int (net / 256) q1 q2 _).mono ?_); rintro e w2 ⟨rfl, hb⟩)) | (go_at_call 12; ((with_reducible refine (num_int (net % 256) q3 q4 _).mono ?_); rintro e w2 ⟨rfl, hb⟩)) | (go_at_call 12; ((with_reducible refine (num_int n h0 q5 _).mono ?_); rintro e w2 ⟨rfl, hb⟩)))
  go_wp2_with fail
  go_ret
  exact ⟨rfl, box_below (by assumption)⟩

theorem tbox_drew {w w2 : World} {c0 c1 : Value}
    (h : w2.cell? ⟨w.heap.size, 0, none⟩ = some c0 ∧ w2.cell? ⟨w.heap.size, 1, none⟩ = some c1 ∧ w.heap.size < w2.heap.size ∧ Below w.heap.size w w2) (ht : Lib.TabIs Tryd.prog w2 "internal/strconv.uint64pow10" .u64 Lib.pow10Tab) :
    w2.drew.cell? ⟨w.heap.size, 0, none⟩ = some c0 ∧ w2.drew.cell? ⟨w.heap.size, 1, none⟩ = some c1 ∧ w.heap.size < w2.drew.heap.size ∧ Below w.heap.size w w2.drew ∧ Lib.TabIs Tryd.prog w2.drew "internal/strconv.uint64pow10" .u64 Lib.pow10Tab := ⟨h.1, h.2.1, h.2.2.1, h.2.2.2.drew, ht⟩
theorem tbox_keep {w w1 w2 : World} {c0 c1 : Value}
    (h : w1.cell? ⟨w.heap.size, 0, none⟩ = some c0 ∧ w1.cell? ⟨w.heap.size, 1, none⟩ = some c1 ∧ w.heap.size < w1.heap.size ∧ Below w.heap.size w w1 ∧ Lib.TabIs Tryd.prog w1 "internal/strconv.uint64pow10" .u64 Lib.pow10Tab)
    (hb : Below w1.heap.size w1 w2) :
    w2.cell? ⟨w.heap.size, 0, none⟩ = some c0 ∧ w2.cell? ⟨w.heap.size, 1, none⟩ = some c1 ∧ w.heap.size < w2.heap.size ∧ Below w.heap.size w w2 ∧ Lib.TabIs Tryd.prog w2 "internal/strconv.uint64pow10" .u64 Lib.pow10Tab := by
  obtain ⟨h0, h1, h2, h3, h4⟩ := h
  obtain ⟨a, b, c, d⟩ := box_keep ⟨h0, h1, h2, h3⟩ hb
  exact ⟨a, b, c, d, Joins.tab_stays Tryd.gPow h4 hb (Nat.le_refl _)⟩
theorem tbox_tab {w w2 : World} {c0 c1 : Value}
    (h : w2.cell? ⟨w.heap.size, 0, none⟩ = some c0 ∧ w2.cell? ⟨w.heap.size, 1, none⟩ = some c1 ∧ w.heap.size < w2.heap.size ∧ Below w.heap.size w w2 ∧ Lib.TabIs Tryd.prog w2 "internal/strconv.uint64pow10" .u64 Lib.pow10Tab) : Lib.TabIs Tryd.prog w2 "internal/strconv.uint64pow10" .u64 Lib.pow10Tab := h.2.2.2.2
theorem tbox_below {w w2 : World} {c0 c1 : Value}
    (h : w2.cell? ⟨w.heap.size, 0, none⟩ = some c0 ∧ w2.cell? ⟨w.heap.size, 1, none⟩ = some c1 ∧ w.heap.size < w2.heap.size ∧ Below w.heap.size w w2 ∧ Lib.TabIs Tryd.prog w2 "internal/strconv.uint64pow10" .u64 Lib.pow10Tab) : Below w.heap.size w w2 := h.2.2.2.1

set_option maxHeartbeats 1000000 in
theorem text_no (net n : Int) (w : World) (h : pokB net n = false) :
    Calls Tryd.prog 7 #[.agg #[.int .i64 net, .int .i64 n]] w fun e w' => e = .returned (.string ⟨#[]⟩) ∧ Below w.heap.size w w' := by
  have hK0 := Below.refl (w.alloc (.cells #[.int .i64 net, .int .i64 n] 25)).heap.size (w.alloc (.cells #[.int .i64 net, .int .i64 n] 25))
  go_enter Tryd.func7, Tryd.ntmps7
  go_wp2_with (go_at_call 13; refine (pok_any _ _ _).mono ?_; rintro e w2 ⟨rfl, hb⟩; have hK := chain (W0 := (w.alloc (.cells #[.int .i64 net, .int .i64 n] 25))) (by assumption) hb; have hS := box_keep1 hK; clear hb)
  go_ret
  exact ⟨rfl, unbox (by assumption)⟩

set_option maxHeartbeats 2000000 in
theorem text_yes (net n : Int) (w : World) (h : pokB net n = true) (ht : Lib.TabIs Tryd.prog w "internal/strconv.uint64pow10" .u64 Lib.pow10Tab) :
    Calls Tryd.prog 7 #[.agg #[.int .i64 net, .int .i64 n]] w fun e w' => e = .returned (.string (ptext net n)) ∧ Below w.heap.size w w' := by
  have hK0 := Below.refl (w.alloc (.cells #[.int .i64 net, .int .i64 n] 25)).heap.size (w.alloc (.cells #[.int .i64 net, .int .i64 n] 25))
  obtain ⟨h0, h1, h2, h3, _⟩ := pokB_true h
  have d1 : net.tdiv 256 = net / 256 := Int.tdiv_eq_ediv_of_nonneg h2
  have d2 : net.tmod 256 = net % 256 := Int.tmod_eq_emod_of_nonneg h2
  have d3 : IntKind.i64.wrap (net / 256) = net / 256 := IntWalk.i64_in _ (by omega)
  have q1 : 0 ≤ net / 256 := by omega
  have q2 : net / 256 ≤ 9223372036854775807 := by omega
  have q3 : 0 ≤ net % 256 := by omega
  have q4 : net % 256 ≤ 9223372036854775807 := by omega
  have q5 : n ≤ 9223372036854775807 := by omega
  have l1 : (Lib.decDigits (net / 256).toNat).length ≤ 20 := len20 _ (by omega)
  have l2 : (Lib.decDigits (net % 256).toNat).length ≤ 20 := len20 _ (by omega)
  have l3 : (Lib.decDigits n.toNat).length ≤ 20 := len20 _ (by omega)
  have c1 : ¬ (9223372036854775807 < (Lib.decDigits (net / 256).toNat).length + 1) := by omega
  have c2 : ¬ (9223372036854775807 < (Lib.decDigits (net / 256).toNat).length + 1 + (Lib.decDigits (net % 256).toNat).length) := by omega
  have c3 : ¬ (9223372036854775807 < (Lib.decDigits (net / 256).toNat).length + 1 + (Lib.decDigits (net % 256).toNat).length + 1) := by omega
  have c4 : ¬ (9223372036854775807 < (Lib.decDigits (net / 256).toNat).length + 1 + (Lib.decDigits (net % 256).toNat).length + 1 + (Lib.decDigits n.toNat).length) := by omega
  clear l1 l2 l3
  unfold ptext
  go_enter Tryd.func7, Tryd.ntmps7
  go_wp2_with (go_at_call 13; refine (pok_any _ _ _).mono ?_; rintro e w2 ⟨rfl, hb⟩; have hK := chain (W0 := (w.alloc (.cells #[.int .i64 net, .int .i64 n] 25))) (by assumption) hb; have hS := box_keep1 hK; have hT := Joins.tab_stays Tryd.gPow ht hS.2.2.2 (Nat.le_refl _); clear hb)
  go_region_held3 (fun w' => w'.cell? ⟨w.heap.size, 0, none⟩ = some (.int .i64 net) ∧ w'.cell? ⟨w.heap.size, 1, none⟩ = some (.int .i64 n) ∧ w.heap.size < w'.heap.size ∧ Below w.heap.size w w' ∧ Lib.TabIs Tryd.prog w' "internal/strconv.uint64pow10" .u64 Lib.pow10Tab) (first | assumption | exact tbox_drew (by assumption) (by assumption) | exact tbox_keep (by assumption) (by assumption))
    (first | (go_at_call 14; ((with_reducible refine (itoa_int (net / 256) q1 q2 _ (tbox_tab (by assumption))).mono ?_); rintro e w2 ⟨rfl, hb⟩)) | (go_at_call 14; ((with_reducible refine (itoa_int (net % 256) q3 q4 _ (tbox_tab (by assumption))).mono ?_); rintro e w2 ⟨rfl, hb⟩)) | (go_at_call 14; ((with_reducible refine (itoa_int n h0 q5 _ (tbox_tab (by assumption))).mono ?_); rintro e w2 ⟨rfl, hb⟩)))
  go_wp2_with fail
  go_ret
  exact ⟨rfl, tbox_below (by assumption)⟩

end Go.Proofs.YtegffibamkaeiaaDoor
