/- The helpers of the laws over slices of numbers. -/
import Derived.Test.YtophppnllkadoaaRows
import Derived.Test.YtophppnllkadoaaGa
import Derived.WalkSpells
import Derived.WalkLawsBesides
import Derived.BigQuiet
import Derived.Deep.QuietTactic
import Derived.Deep.RegionHeld3
import Derived.WalkSmall
import Derived.Handy
import Derived.Test.YtophppnllkadoaaGo0
namespace Go.Proofs.Ytophppnllkadoaa
open Go.RowKit


theorem at_one {Z : List Int} {n i : Nat} (hZ : Z.length = n * 1) (hi : i < n) : ∃ z, Z[i]? = some z := ⟨Z[i]'(by omega), List.getElem?_eq_getElem _⟩
theorem Try.info3 : (Try.prog.info? 3).map (fun i => (i.zero, i.size, i.bytes)) = some (some (.int .i64 0), 1, 8) := by kernel_rfl

set_option maxHeartbeats 2000000 in
theorem eqIntS_row (n : Nat) (a a' : Option Addr) (c c' : Nat) (Z : List Int) (w : World) (hn : Z.length = n * 1) (hl : n ≤ 1100000)
    (h : 0 < n → ∃ g, a = some ⟨g, 0, none⟩ ∧ g < w.heap.size ∧ ∀ q z, Z[q]? = some z → w.cell? ⟨g, q, none⟩ = some (.int .i64 z))
    (h' : 0 < n → ∃ g, a' = some ⟨g, 0, none⟩ ∧ g < w.heap.size ∧ ∀ q z, Z[q]? = some z → w.cell? ⟨g, q, none⟩ = some (.int .i64 z)) :
    Calls Try.prog 91 #[.slice a n c, .slice a' n c'] w fun e w' => e = .returned (.bool true) ∧ Below w.heap.size w w' := by
  have Hn := Lib.hid hn
  have H := Lib.hid h
  have H' := Lib.hid h'
  clear h h' hn
  go_enter Try.func91, Try.ntmps91
  go_wp2
  go_loopw [5] (fun i wr => ∃ k : Nat, k ≤ n ∧ i = .int .i64 (k : Int) ∧ Hid (Below w.heap.size w wr)) (fun i _ => n - (intOf i).toNat)
  case atStart => exact ⟨0, Nat.zero_le _, rfl, Below.refl _ _⟩
  case round =>
    obtain ⟨k, hk, rfl, hB⟩ := hrel
    by_cases hlt : k < n
    · obtain ⟨g, rfl, hg, hc⟩ := H.out (by omega)
      obtain ⟨g', rfl, hg', hc'⟩ := H'.out (by omega)
      obtain ⟨z, hz⟩ := at_one Hn.out hlt
      have d0 : wr.cell? ⟨g, k, none⟩ = some (.int .i64 z) := by rw [hB.out.cell (p := ⟨g, k, none⟩) hg]; exact hc _ _ hz
      have d1 : wr.cell? ⟨g', k, none⟩ = some (.int .i64 z) := by rw [hB.out.cell (p := ⟨g', k, none⟩) hg']; exact hc' _ _ hz
      clear hc hc' hz
      have hk0 : (0 : Int) ≤ (k : Int) := by omega
      have hk1 : (k : Int) < (n : Int) := by omega
      go_wp2_with fail
      go_quiet (fail)
      go_wp2_with fail
      go_roundw
      case rel => exact ⟨k + 1, by omega, by go_num, below_drewN hB.out _⟩
      case measure => simp [intOf]; omega
    · have hge : ¬ ((k : Int) < (n : Int)) := by omega
      go_wp2
      go_ret
      exact ⟨rfl, hB.out⟩
theorem eqIntS_same (Z : List Int) (n lo hi lo' hi' : Nat) (v v' : Value) (w : World) (hr : Row 1 w lo hi v n Z) (hr' : Row 1 w lo' hi' v' n Z) (hh : hi ≤ w.heap.size) (hh' : hi' ≤ w.heap.size) :
    Calls Try.prog 91 #[v, v'] w fun e w' => e = .returned (.bool true) ∧ Below w.heap.size w w' := by
  have h0 := hr.1
  obtain ⟨a, c, rfl, hn, hc⟩ := hr.opened
  obtain ⟨a', c', rfl, _, hc'⟩ := hr'.opened
  refine eqIntS_row n a a' c c' Z w h0 hn (fun h => ?_) (fun h => ?_)
  · obtain ⟨g, h1, h2, h3⟩ := hc h; exact ⟨g, h1, by omega, h3⟩
  · obtain ⟨g, h1, h2, h3⟩ := hc' h; exact ⟨g, h1, by omega, h3⟩

set_option maxHeartbeats 2000000 in
theorem markIntS_nil (a : Option Addr) (c : Nat) (k : Int) (w : World) :
    Calls Try.prog 92 #[.slice a 0 c, .int .i64 k] w fun e w' => e = .returned (.int .i64 k) ∧ w = w' := by
  go_enter Try.func92, Try.ntmps92
  go_wp2
  go_loop [1, 5] (fun q i => q = .int .i64 k ∧ i = .int .i64 0) (fun _ i => (intOf i).toNat)
  case atStart => exact ⟨rfl, rfl⟩
  case round =>
    obtain ⟨rfl, rfl⟩ := hrel
    go_wp2
    go_ret
    exact ⟨rfl, rfl⟩

set_option maxHeartbeats 2000000 in
theorem markIntS_some (g n cap : Nat) (Z : List Int) (k : Int) (w : World) (hn : Z.length = n * 1) (hl : n ≤ 1100000) (hk0 : 0 ≤ k) (hk1 : k ≤ 1000000000)
    (h : ∀ q z, Z[q]? = some z → w.cell? ⟨g, q, none⟩ = some (.int .i64 z)) (hf : ∀ o, w.frozen? ⟨g, o, none⟩ = false) :
    Calls Try.prog 92 #[.slice (some ⟨g, 0, none⟩) n cap, .int .i64 k] w fun e w' => e = .returned (.int .i64 (k + ((n * 1 : Nat) : Int))) ∧ Marked w w' g Z k (n * 1) := by
  have Hn := Lib.hid hn
  have H0 : Hid (Marked w w g Z k 0) := ⟨Only.refl _ _, hf, fun j hj => absurd hj (by omega), fun j p _ hp => h j p hp⟩
  clear h hn hf
  go_enter Try.func92, Try.ntmps92
  go_wp2
  go_loopw [1, 5] (fun q i wr => ∃ j : Nat, j ≤ n ∧ i = .int .i64 (j : Int) ∧ q = .int .i64 (k + (j : Int)) ∧ Hid (Marked w wr g Z k j)) (fun _ i _ => n - (intOf i).toNat)
  case atStart => exact ⟨0, Nat.zero_le _, rfl, by simp, H0⟩
  case round =>
    obtain ⟨j, hj, rfl, rfl, hM⟩ := hrel
    by_cases hlt : j < n
    · obtain ⟨y, p⟩ := at_one Hn.out hlt
      have HS := Lib.hid (hM.out.one p (u := k + (j : Int)) rfl)
      have c0 := hM.out.2.2.2 j _ (by omega) p
      have f0 := hM.out.2.1 j
      clear p hM
      have q0 : (0 : Int) ≤ (j : Int) := by omega
      have q1 : (j : Int) < (n : Int) := by omega
      go_wp2
      go_roundw
      case rel => exact ⟨j + 1, by omega, by go_num, by go_num, HS⟩
      case measure => simp [intOf]; omega
    · have hge : ¬ ((j : Int) < (n : Int)) := by omega
      obtain rfl : j = n := by omega
      go_wp2
      go_ret
      exact ⟨ret_int (by push_cast; omega), hM.out⟩

set_option maxHeartbeats 2000000 in
theorem heldIntS_row (n : Nat) (a : Option Addr) (c : Nat) (k : Int) (w : World) (hl : n ≤ 1100000) (hk0 : 0 ≤ k) (hk1 : k ≤ 1000000000)
    (h : 0 < n → ∃ g, a = some ⟨g, 0, none⟩ ∧ ∀ q, q < n → w.cell? ⟨g, q, none⟩ = some (.int .i64 (k + (q : Int)))) :
    Calls Try.prog 93 #[.slice a n c, .int .i64 k] w fun e w' => e = .returned (.int .i64 (k + ((n * 1 : Nat) : Int))) ∧ w = w' := by
  have H := Lib.hid h
  clear h
  go_enter Try.func93, Try.ntmps93
  go_wp2
  go_loop [1, 5] (fun q i => ∃ j : Nat, j ≤ n ∧ i = .int .i64 (j : Int) ∧ q = .int .i64 (k + (j : Int))) (fun _ i => n - (intOf i).toNat)
  case atStart => exact ⟨0, Nat.zero_le _, rfl, by simp⟩
  case round =>
    obtain ⟨j, hj, rfl, rfl⟩ := hrel
    by_cases hlt : j < n
    · obtain ⟨g, rfl, hc⟩ := H.out (by omega)
      have c0 := hc j hlt
      clear hc
      have q0 : (0 : Int) ≤ (j : Int) := by omega
      have q1 : (j : Int) < (n : Int) := by omega
      go_wp2
      go_round
      case rel => exact ⟨j + 1, by omega, by go_num, by go_num⟩
      case measure => simp [intOf]; omega
    · have hge : ¬ ((j : Int) < (n : Int)) := by omega
      obtain rfl : j = n := by omega
      go_wp2
      go_ret
      exact ⟨ret_int (by push_cast; omega), rfl⟩
theorem markIntS_K (K : Int) (Z : List Int) (n lo hi : Nat) (v : Value) (w : World) (hK : K = 1 + ((n * 1 : Nat) : Int)) (hr : Row 1 w lo hi v n Z) (hl : n ≤ 1100000) :
    Calls Try.prog 92 #[v, .int .i64 1] w fun e w' => e = .returned (.int .i64 K) ∧ Row 1 w' lo hi v n (marks 1 (n * 1)) ∧ Turned lo hi w w' := by
  subst hK
  obtain ⟨h0, hr⟩ := hr
  rcases hr with ⟨hL, a, c, rfl⟩ | ⟨g, cap, rfl, h1, h2, h3, h4, h5⟩
  · subst hL
    exact (markIntS_nil a c 1 w).mono fun _ _ ⟨h1, h2⟩ => by subst h2; exact ⟨by rw [h1]; simp, ⟨by simp [marks_len], .inl ⟨rfl, a, c, rfl⟩⟩, Turned.of_only (g := 0) (Only.refl _ _) (.inr rfl)⟩
  · refine (markIntS_some g n cap Z 1 w h0 h3 (by omega) (by omega) h4 h5).mono fun e w' ⟨he, hM⟩ => ⟨he, ⟨marks_len _ _, .inr ⟨g, cap, rfl, h1, h2, h3, fun q z hz => ?_, hM.2.1⟩⟩, Turned.of_only hM.1 (.inl ⟨h1, h2⟩)⟩
    have hq : q < n * 1 := by have := (List.getElem?_eq_some_iff.1 hz).1; rwa [marks_len] at this
    rw [marks_at _ _ _ hq] at hz
    obtain rfl := Option.some.inj hz
    exact hM.2.2.1 q hq
theorem heldIntS_K (K : Int) (n lo hi : Nat) (v : Value) (w : World) (hK : K = 1 + ((n * 1 : Nat) : Int)) (hr : Row 1 w lo hi v n (marks 1 (n * 1))) (hl : n ≤ 1100000) :
    Calls Try.prog 93 #[v, .int .i64 1] w fun e w' => e = .returned (.int .i64 K) ∧ w = w' := by
  subst hK
  obtain ⟨a, c, rfl, hn, hc⟩ := hr.opened
  refine heldIntS_row n a c 1 w hl (by omega) (by omega) fun h => ?_
  obtain ⟨g, h1, _, h3⟩ := hc h
  exact ⟨g, h1, fun q hq => h3 q _ (marks_at _ _ _ (by omega))⟩

end Go.Proofs.Ytophppnllkadoaa
