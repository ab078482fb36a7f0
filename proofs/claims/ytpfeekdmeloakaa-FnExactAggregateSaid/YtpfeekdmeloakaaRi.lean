/- The ranges of a list of prefixes and the count of its addresses, of the program, as contracts. -/
import Derived.Test.YtpfeekdmeloakaaRh
import Derived.Test.YtpfeekdmeloakaaSn
namespace Go.Proofs.Ytpfeekdmeloakaa
open Go.RowKit

set_option maxRecDepth 100000 in
set_option maxHeartbeats 2000000 in
theorem ranges_none (lo hi : Nat) (v : Value) (w : World) (hr : Row 2 w lo hi v 0 []) (hh : hi ≤ w.heap.size) :
    Calls Try.prog 80 #[v] w fun e w' => e = .returned (.slice none 0 0) ∧ Below w.heap.size w w' := by
  have HC := Lib.hid (clone_any lo hi 0 v [] w hr hh (by omega))
  obtain ⟨va, vc, rfl⟩ := hr.slice
  clear hr
  go_enter Try.func80, Try.ntmps80
  go_wp2_with fail
  go_at_call 112
  refine HC.out.mono ?_
  rintro e w1 ⟨v1, rfl, hr1, hB1⟩
  obtain ⟨a1, c1, rfl⟩ := hr1.slice
  clear hr1 HC
  go_wp2_with (go_at_call 113; refine (sortP_none _ _ _ _).mono ?_; rintro e w2 ⟨rfl, rfl⟩)
  go_loop [4, 6, 7, 14] (fun v _ _ i => v = .slice none 0 0 ∧ i = .int .i64 0) (fun _ _ _ i => (intOf i).toNat)
  case atStart => exact ⟨rfl, rfl⟩
  case round =>
    obtain ⟨rfl, rfl⟩ := hrel
    go_wp2
    go_ret
    exact ⟨rfl, hB1⟩

theorem ranges_any (lo hi n : Nat) (v : Value) (L : List Pf) (w : World) (hL : L.length = n) (hr : Row 2 w lo hi v n (flat2 L)) (hh : hi ≤ w.heap.size) (hn : n ≤ 300) (hok : ∀ p ∈ L, pokB p.1 p.2 = true) :
    Calls Try.prog 80 #[v] w fun e w' => ∃ v', e = .returned v' ∧ ∃ M : List Pf, L.Perm M ∧ M.Pairwise (fun p q => p.1 ≤ q.1) ∧ Row 2 w' w.heap.size w'.heap.size v' (mrgs M).length (flat2 (mrgs M)) ∧ Below w.heap.size w w' := by
  by_cases h0 : n = 0
  · subst h0
    have : L = [] := List.eq_nil_of_length_eq_zero hL
    subst this
    exact (ranges_none lo hi v w hr hh).mono fun _ _ ⟨he, hB⟩ => ⟨_, he, [], List.Perm.refl _, List.Pairwise.nil, Row.empty _ _ _ _ _ _, hB⟩
  · exact ranges_some lo hi n v L w hL (by omega) hr hh hn hok

set_option maxHeartbeats 1000000 in
theorem rsize_any (fr tt : Int) (w : World) (h0 : 0 ≤ fr) (h1 : fr ≤ tt) (h2 : tt ≤ 65535) :
    Calls Try.prog 82 #[.agg #[.int .i64 fr, .int .i64 tt]] w fun e w' => e = .returned (.int .i64 (tt - fr + 1)) ∧ Below w.heap.size w w' := by
  have e1 : IntKind.i64.wrap (tt - fr) = tt - fr := IntWalk.i64_in _ (by omega)
  have e2 : IntKind.i64.wrap (tt - fr + 1) = tt - fr + 1 := IntWalk.i64_in _ (by omega)
  go_enter Try.func82, Try.ntmps82
  go_wp2_with fail
  go_ret
  exact ⟨rfl, by go_grown⟩
theorem sumR_take {R : List Pf} {k : Nat} {r : Pf} (h : R[k]? = some r) : sumR (R.take (k + 1)) = sumR (R.take k) + (r.2 - r.1 + 1) := by
  rw [List.take_add_one, h]; exact sumR_snoc _ _

set_option maxRecDepth 100000 in
set_option maxHeartbeats 4000000 in
theorem icount_yes (lo hi n : Nat) (v : Value) (L : List Pf) (w : World) (hL : L.length = n) (hr : Row 2 w lo hi v n (flat2 L)) (hh : hi ≤ w.heap.size) (hn : n ≤ 300) (hok : ∀ p ∈ L, pokB p.1 p.2 = true) :
    Calls Try.prog 41 #[v] w fun e w' => e = .returned (.int .i64 (cntP L : Nat)) ∧ Below w.heap.size w w' := by
  have HP := prefixesOk_any lo hi n v L w hL hr hh (by omega)
  have ha : allOk L = true := by unfold allOk; rw [hL, decide_eq_true hn, Bool.true_and, List.all_eq_true]; exact hok
  rw [ha] at HP
  have HP' := Lib.hid HP
  have HR := Lib.hid (fun w1 (hb : Below w.heap.size w w1) => ranges_any lo hi n v L w1 hL (hr.below hb hh) (Nat.le_trans hh hb.size) hn hok)
  have Hok := Lib.hid hok
  obtain ⟨va, vc, rfl⟩ := hr.slice
  clear HP hok hr ha hL
  go_enter Try.func41, Try.ntmps41
  go_wp2_with fail
  go_at_call 79
  refine HP'.out.mono ?_
  rintro e w1 ⟨rfl, hB1⟩
  go_wp2_with fail
  go_at_call 80
  refine (HR.out _ hB1).mono ?_
  rintro e w2 ⟨v2, rfl, M, hp, hs, hr2, hB2⟩
  have hsum := sum_mrgs L M (fun p hpm => Hok.out p hpm) hp hs
  have hrg := (mrgs_inv M (fun p hpm => Hok.out p (hp.mem_iff.2 hpm)) hs).1.1
  have hml := mrgs_len M
  have hcnt : cntP L ≤ 65536 := cnt_le _ _
  rw [← hp.length_eq] at hml
  have HB := Lib.hid (chain hB1 hB2)
  obtain ⟨R, hR⟩ : ∃ R, R = mrgs M := ⟨_, rfl⟩
  rw [← hR] at hsum hrg hml hr2
  obtain ⟨m, hm⟩ : ∃ m, m = R.length := ⟨_, rfl⟩
  rw [← hm] at hr2 hml
  have Hm := Lib.hid hm.symm
  have Hrg := Lib.hid hrg
  have Hsum := Lib.hid hsum
  clear hp hs hB1 hB2 HP' HR Hok hR hm hrg hsum hml
  rcases hr2.2 with ⟨rfl, a2, c2, rfl⟩ | ⟨g, cap, rfl, h1, h2, h3, h4, h5⟩
  · have h0 : R = [] := List.eq_nil_of_length_eq_zero Hm.out
    have e0 : ((cntP L : Nat) : Int) = 0 := by rw [← Hsum.out, h0]; rfl
    have He0 := Lib.hid e0
    clear hr2 e0
    go_wp2_with fail
    go_loop [3, 5, 12] (fun s _ i => s = .int .i64 0 ∧ i = .int .i64 0) (fun _ _ i => (intOf i).toNat)
    case atStart => exact ⟨rfl, rfl⟩
    case round =>
      obtain ⟨rfl, rfl⟩ := hrel
      go_wp2
      go_ret
      exact ⟨ret_int He0.out.symm, HB.out⟩
  · have H4 := Lib.hid h4
    clear h4 h5 hr2
    go_wp2_with fail
    go_loopw [3, 5, 12] (fun s _ i wr => ∃ k : Nat, k ≤ m ∧ i = .int .i64 (k : Int) ∧ ∃ z : Int, s = .int .i64 z ∧ 0 ≤ z ∧ z ≤ (k : Int) * 65536 ∧ Hid (z = sumR (R.take k) ∧ Below w2.heap.size w2 wr)) (fun _ _ i _ => m - (intOf i).toNat)
    case atStart => exact ⟨0, Nat.zero_le _, rfl, 0, rfl, by omega, by omega, rfl, Below.refl _ _⟩
    case round =>
      obtain ⟨k, hk, rfl, z, rfl, z0, z1, hR⟩ := hrel
      by_cases hlt : k < m
      · obtain ⟨r, hrk⟩ : ∃ r, R[k]? = some r := ⟨R[k]'(by rw [Hm.out]; exact hlt), List.getElem?_eq_getElem _⟩
        obtain ⟨fr, tt⟩ := r
        obtain ⟨r0, r1⟩ := flat2_at R k _ hrk
        obtain ⟨p0, p1, p2⟩ := Hrg.out (fr, tt) (List.mem_of_getElem? hrk)
        simp only at p0 p1 p2
        have k1 : wr.cell? ⟨g, k * 2, none⟩ = some (.int .i64 fr) := by rw [hR.out.2.cell (p := ⟨g, k * 2, none⟩) h2]; exact H4.out _ _ r0
        have k2 : wr.cell? ⟨g, k * 2 + 1, none⟩ = some (.int .i64 tt) := by rw [hR.out.2.cell (p := ⟨g, k * 2 + 1, none⟩) h2]; exact H4.out _ _ r1
        have Ht := Lib.hid (sumR_take hrk)
        clear r0 r1 hrk
        have q0 : (0 : Int) ≤ (k : Int) := by omega
        have q1 : (k : Int) < (m : Int) := by omega
        have e1 : IntKind.i64.wrap (z + (tt - fr + 1)) = z + (tt - fr + 1) := IntWalk.i64_in _ (by omega)
        go_wp2_with (go_at_call 82; refine (rsize_any fr tt _ p0 p1 p2).mono ?_; rintro e w3 ⟨rfl, hb3⟩; have HB3 := Lib.hid (chain hR.out.2 (unbox hb3)); clear hb3)
        go_roundw
        case rel => exact ⟨k + 1, by omega, by go_num, z + (tt - fr + 1), rfl, by omega, by push_cast; omega, by rw [hR.out.1]; exact Ht.out.symm, HB3.out⟩
        case measure => simp [intOf]; omega
      · have hge : ¬ ((k : Int) < (m : Int)) := by omega
        obtain rfl : k = m := by omega
        have hfin : z = ((cntP L : Nat) : Int) := by rw [hR.out.1, List.take_of_length_le (by rw [Hm.out]; exact Nat.le_refl _), Hsum.out]
        have HBf := Lib.hid (chain HB.out hR.out.2)
        have Hf := Lib.hid hfin
        clear hfin
        go_wp2
        go_ret
        exact ⟨ret_int Hf.out, HBf.out⟩

set_option maxHeartbeats 1000000 in
theorem icount_no (lo hi n : Nat) (v : Value) (L : List Pf) (w : World) (hL : L.length = n) (hr : Row 2 w lo hi v n (flat2 L)) (hh : hi ≤ w.heap.size) (hn : n ≤ 1100000) (hno : allOk L = false) :
    Calls Try.prog 41 #[v] w fun e w' => e = .returned (.int .i64 (-1)) ∧ Below w.heap.size w w' := by
  have HP := prefixesOk_any lo hi n v L w hL hr hh hn
  rw [hno] at HP
  have HP' := Lib.hid HP
  obtain ⟨va, vc, rfl⟩ := hr.slice
  clear HP hr
  go_enter Try.func41, Try.ntmps41
  go_wp2_with fail
  go_at_call 79
  refine HP'.out.mono ?_
  rintro e w1 ⟨rfl, hB1⟩
  have HB := Lib.hid hB1
  clear hB1
  go_wp2
  go_ret
  exact ⟨rfl, HB.out⟩

theorem icount_any (lo hi n : Nat) (v : Value) (L : List Pf) (w : World) (hL : L.length = n) (hr : Row 2 w lo hi v n (flat2 L)) (hh : hi ≤ w.heap.size) (hl : n ≤ 1100000) :
    Calls Try.prog 41 #[v] w fun e w' => e = .returned (.int .i64 (if allOk L = true then (cntP L : Int) else -1)) ∧ Below w.heap.size w w' := by
  by_cases ha : allOk L = true
  · rw [if_pos ha]
    unfold allOk at ha
    rw [Bool.and_eq_true, decide_eq_true_eq, List.all_eq_true] at ha
    exact icount_yes lo hi n v L w hL hr hh (by omega) ha.2
  · rw [if_neg ha]
    exact icount_no lo hi n v L w hL hr hh hl (by simpa using ha)
end Go.Proofs.Ytpfeekdmeloakaa
