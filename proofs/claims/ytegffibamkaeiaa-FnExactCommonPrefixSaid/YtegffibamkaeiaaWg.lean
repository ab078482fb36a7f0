/- CommonPrefix of the model as contracts. -/
import Derived.Test.YtegffibamkaeiaaWe
import Derived.Test.YtegffibamkaeiaaMb
namespace Go.Proofs.Ytegffibamkaeiaa
open Go.RowKit

/-- The one result cell of a call, as it stands in a later world. -/
def OneRes (w wr : World) : Prop := wr.cell? ⟨w.heap.size, 0, none⟩ = some (.int .i64 0) ∧ wr.cell? ⟨w.heap.size, 1, none⟩ = some (.int .i64 0) ∧ wr.frozen? ⟨w.heap.size, 0, none⟩ = false ∧ wr.frozen? ⟨w.heap.size, 1, none⟩ = false ∧ Below w.heap.size w wr
theorem OneRes.start (w : World) (T : TypeId) : OneRes w (w.alloc (.cells #[.int .i64 0, .int .i64 0] T)) := ⟨by simp, by simp, by simp, by simp, (Below.refl _ _).alloc (Nat.le_refl _) _⟩
theorem OneRes.drewN {w wr : World} (h : OneRes w wr) (q : Nat) : OneRes w (wr.drewN q) := ⟨by simp [h.1], by simp [h.2.1], by simp [h.2.2.1], by simp [h.2.2.2.1], below_drewN h.2.2.2.2 q⟩

set_option maxHeartbeats 1000000 in
theorem spcom_no (a b : Int) (w : World) (h : inB a 0 65535 = false ∨ inB b 0 65535 = false) :
    Calls Try.prog 21 #[.int .i64 a, .int .i64 b] w fun e w' => e = .returned (.tuple #[.agg #[.int .i64 0, .int .i64 0], .bool false]) ∧ Below w.heap.size w w' := by
  by_cases ha : inB a 0 65535 = true
  · have hb : inB b 0 65535 = false := by rcases h with h | h; (rw [ha] at h; cases h); exact h
    clear h
    go_enter Try.func21, Try.ntmps21
    go_wp2_with (go_at_call 24; refine (addr_any _ _).mono ?_; rintro e w' ⟨rfl, rfl⟩)
    go_returns
    exact ⟨rfl, by go_grown⟩
  · rw [Bool.not_eq_true] at ha
    clear h
    go_enter Try.func21, Try.ntmps21
    go_wp2_with (go_at_call 24; refine (addr_any _ _).mono ?_; rintro e w' ⟨rfl, rfl⟩)
    go_returns
    exact ⟨rfl, by go_grown⟩

set_option maxHeartbeats 1000000 in
theorem spcom_yes (a b : Int) (w : World) (ha : 0 ≤ a) (ha' : a ≤ 65535) (hb : 0 ≤ b) (hb' : b ≤ 65535) :
    Calls Try.prog 21 #[.int .i64 a, .int .i64 b] w fun e w' => e = .returned (.tuple #[.agg #[.int .i64 (a - a % psz (cplN a b)), .int .i64 (cplN a b)], .bool true]) ∧ Below w.heap.size w w' := by
  have ia := inB_true ha ha'
  have ib := inB_true hb hb'
  have hst := OneRes.start w 25
  have hcr := cplN_range a b ha ha' hb hb'
  go_enter Try.func21, Try.ntmps21
  go_wp2_with (go_at_call 24; refine (addr_any _ _).mono ?_; rintro e w' ⟨rfl, rfl⟩)
  clear ia ib
  go_loopw [6] (fun v wr => ∃ n : Int, cplN a b ≤ n ∧ n ≤ 16 ∧ v = .int .i64 n ∧ OneRes w wr) (fun v _ => (intOf v).toNat)
  case atStart => exact ⟨16, hcr.2, by omega, rfl, hst⟩
  case round =>
    obtain ⟨n, hn, hn', rfl, hO⟩ := hrel
    have h0 : 0 ≤ n := by omega
    have hp := psz_pos n h0 hn'
    have hq := psz_le n h0 hn'
    have hz : ¬ (psz n = 0) := by omega
    have ta : a.tdiv (psz n) = a / psz n := Int.tdiv_eq_ediv_of_nonneg ha
    have tb : b.tdiv (psz n) = b / psz n := Int.tdiv_eq_ediv_of_nonneg hb
    have na : 0 ≤ a / psz n := Int.ediv_nonneg ha (by omega)
    have nb : 0 ≤ b / psz n := Int.ediv_nonneg hb (by omega)
    have la : a / psz n ≤ a := Int.ediv_le_self _ ha
    have lb : b / psz n ≤ b := Int.ediv_le_self _ hb
    have wa : wrap64 (a / psz n) = a / psz n := w_in (by omega) (by omega)
    have wb : wrap64 (b / psz n) = b / psz n := w_in (by omega) (by omega)
    have hcf := cplN_iff a b n ha ha' hb hb' h0 hn'
    by_cases hc : n ≤ cplN a b
    · have ht : (a / psz n != b / psz n) = false := by simpa using hcf.2 hc
      clear hcf
      obtain rfl : n = cplN a b := by omega
      obtain ⟨c0, c1, f0, f1, hB⟩ := hO
      have ma : 0 ≤ a % psz (cplN a b) := Int.emod_nonneg _ hz
      have mb : a % psz (cplN a b) < psz (cplN a b) := Int.emod_lt_of_pos _ (by omega)
      go_wp2_with fail
      go_quiet (first | ((go_at_call 25; exact quiet_same (spsize_any _ _ h0 hn'))))
      go_wp2_with (go_at_call 25; refine (spsize_any _ _ h0 hn').mono ?_; rintro e w' ⟨rfl, rfl⟩)
      refine bodyPost_ret (v := .tuple #[.agg #[.int .i64 (a - a % psz (cplN a b)), .int .i64 (cplN a b)], .bool true]) (by simp [results, Try.results21, go_sem, *]) rfl ⟨rfl, ?_⟩
      exact ((below_drewN hB _).setCell (by simp) _).setCell (by simp) _
    · have ht : (a / psz n != b / psz n) = true := by simp; intro h; exact hc (hcf.1 h)
      clear hcf
      go_wp2_with fail
      go_quiet (first | ((go_at_call 25; exact quiet_same (spsize_any _ _ h0 hn'))))
      go_wp2_with fail
      go_roundw
      case rel => exact ⟨n - 1, by omega, by omega, by go_num, hO.drewN _⟩
      case measure => simp [intOf]; omega

end Go.Proofs.Ytegffibamkaeiaa
