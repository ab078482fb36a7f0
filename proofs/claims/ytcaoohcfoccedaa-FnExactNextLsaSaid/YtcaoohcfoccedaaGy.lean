/- The helpers of the laws over slices of bytes. -/
import Derived.Test.YtcaoohcfoccedaaRows
import Derived.Test.YtcaoohcfoccedaaGa
import Derived.Test.YtcaoohcfoccedaaGx
import Derived.WalkSpells
import Derived.WalkLawsBesides
import Derived.BigQuiet
import Derived.Deep.QuietTactic
import Derived.Deep.RegionHeld3
import Derived.WalkSmall
import Derived.Handy
namespace Go.Proofs.Ytcaoohcfoccedaa
open Go.RowKit


set_option maxHeartbeats 1000000 in
theorem eqByteS_nil (a a' : Option Addr) (c c' : Nat) (w : World) :
    Calls Try.prog 18 #[.slice a 0 c, .slice a' 0 c'] w fun e w' => e = .returned (.bool true) ∧ w = w' := by
  go_enter Try.func18, Try.ntmps18
  go_wp2
  go_loop [5] (fun i => i = .int .i64 0) (fun i => (intOf i).toNat)
  case atStart => exact rfl
  case round =>
    subst hrel
    go_wp2
    go_ret
    exact ⟨rfl, rfl⟩

set_option maxHeartbeats 2000000 in
theorem eqByteS_some (g g' n cap cap' : Nat) (Z : List Int) (w : World) (hn : Z.length = n) (hl : n ≤ 1100000)
    (h : ∀ q z, Z[q]? = some z → w.cell? ⟨g, q, none⟩ = some (.int .u8 z)) (h' : ∀ q z, Z[q]? = some z → w.cell? ⟨g', q, none⟩ = some (.int .u8 z)) :
    Calls Try.prog 18 #[.slice (some ⟨g, 0, none⟩) n cap, .slice (some ⟨g', 0, none⟩) n cap'] w fun e w' => e = .returned (.bool true) ∧ ∃ q, w' = w.drewN q := by
  have Hn := Lib.hid hn
  have H := Lib.hid h
  have H' := Lib.hid h'
  clear h h' hn
  go_enter Try.func18, Try.ntmps18
  go_wp2
  go_loopw [5] (fun i wr => ∃ k q : Nat, k ≤ n ∧ i = .int .i64 (k : Int) ∧ wr = w.drewN q) (fun i _ => n - (intOf i).toNat)
  case atStart => exact ⟨0, 0, Nat.zero_le _, rfl, rfl⟩
  case round =>
    obtain ⟨k, q, hk, rfl, rfl⟩ := hrel
    by_cases hlt : k < n
    · obtain ⟨x, p⟩ : ∃ x, Z[k]? = some x := ⟨Z[k]'(by rw [Hn.out]; exact hlt), List.getElem?_eq_getElem _⟩
      have c0 := H.out _ _ p
      have d0 := H'.out _ _ p
      clear p
      have hk0 : (0 : Int) ≤ (k : Int) := by omega
      have hk1 : (k : Int) < (n : Int) := by omega
      go_wp2_with fail
      go_quiet (fail)
      go_wp2_with fail
      go_roundw
      case rel => exact ⟨k + 1, _, by omega, by go_num, rfl⟩
      case measure => simp [intOf]; omega
    · have hge : ¬ ((k : Int) < (n : Int)) := by omega
      go_wp2
      go_ret
      exact ⟨rfl, q, rfl⟩
theorem drewN_below (w : World) (q : Nat) : Below w.heap.size w (w.drewN q) := ⟨rfl, rfl, rfl, Nat.le_refl _, fun _ _ => rfl⟩
theorem eqByteS_same (Z : List Int) (n lo hi lo' hi' : Nat) (v v' : Value) (w : World) (hr : BRow 1 w lo hi v n Z) (hr' : BRow 1 w lo' hi' v' n Z) (_hh : hi ≤ w.heap.size) (_hh' : hi' ≤ w.heap.size) :
    Calls Try.prog 18 #[v, v'] w fun e w' => e = .returned (.bool true) ∧ Below w.heap.size w w' := by
  obtain ⟨h0, hr⟩ := hr
  obtain ⟨_, hr'⟩ := hr'
  rcases hr with ⟨hL, a, c, rfl⟩ | ⟨g, cap, rfl, h1, h2, h3, h4, h5⟩
  · rcases hr' with ⟨_, a', c', rfl⟩ | ⟨g', cap', rfl, h1', h2', h3', h4', h5'⟩
    · exact (eqByteS_nil a a' c c' w).mono fun _ _ ⟨h1, h2⟩ => ⟨h1, h2 ▸ Below.refl _ _⟩
    · subst hL
      exact (eqByteS_nil a _ c cap' w).mono fun _ _ ⟨h1, h2⟩ => ⟨h1, h2 ▸ Below.refl _ _⟩
  · rcases hr' with ⟨hL, a', c', rfl⟩ | ⟨g', cap', rfl, h1', h2', h3', h4', h5'⟩
    · subst hL
      exact (eqByteS_nil _ a' cap c' w).mono fun _ _ ⟨h1, h2⟩ => ⟨h1, h2 ▸ Below.refl _ _⟩
    · exact (eqByteS_some g g' n cap cap' Z w (by omega) h3 h4 h4').mono fun _ _ ⟨h1, q, h2⟩ => ⟨h1, h2 ▸ drewN_below _ q⟩

set_option maxHeartbeats 1000000 in
theorem markByteS_nil (a : Option Addr) (c : Nat) (k : Int) (w : World) :
    Calls Try.prog 20 #[.slice a 0 c, .int .i64 k] w fun e w' => e = .returned (.int .i64 k) ∧ w = w' := by
  go_enter Try.func20, Try.ntmps20
  go_wp2
  go_loop [1, 5] (fun q i => q = .int .i64 k ∧ i = .int .i64 0) (fun _ i => (intOf i).toNat)
  case atStart => exact ⟨rfl, rfl⟩
  case round =>
    obtain ⟨rfl, rfl⟩ := hrel
    go_wp2
    go_ret
    exact ⟨rfl, rfl⟩

set_option maxHeartbeats 2000000 in
theorem markByteS_some (g n cap : Nat) (Z : List Int) (k : Int) (w : World) (hn : Z.length = n) (hl : n ≤ 1100000) (hk0 : 0 ≤ k) (hk1 : k ≤ 1000000000)
    (h : ∀ q z, Z[q]? = some z → w.cell? ⟨g, q, none⟩ = some (.int .u8 z)) (hf : ∀ o, w.frozen? ⟨g, o, none⟩ = false) :
    Calls Try.prog 20 #[.slice (some ⟨g, 0, none⟩) n cap, .int .i64 k] w fun e w' => e = .returned (.int .i64 (k + (n : Int))) ∧ BMarked w w' g Z k n := by
  have Hn := Lib.hid hn
  have H0 : BMarked w w g Z k 0 := ⟨Only.refl _ _, hf, fun j hj => absurd hj (by omega), fun j p _ hp => h j p hp⟩
  clear h hn hf
  go_enter Try.func20, Try.ntmps20
  go_wp2
  go_loopw [1, 5] (fun q i wr => ∃ j : Nat, j ≤ n ∧ i = .int .i64 (j : Int) ∧ q = .int .i64 (k + (j : Int)) ∧ BMarked w wr g Z k j) (fun _ i _ => n - (intOf i).toNat)
  case atStart => exact ⟨0, Nat.zero_le _, rfl, by simp, H0⟩
  case round =>
    obtain ⟨j, hj, rfl, rfl, hM⟩ := hrel
    by_cases hlt : j < n
    · obtain ⟨y, p⟩ : ∃ x, Z[j]? = some x := ⟨Z[j]'(by rw [Hn.out]; exact hlt), List.getElem?_eq_getElem _⟩
      have hS := hM.one p (u := (k + (j : Int)) % 256) rfl
      have c0 := hM.2.2.2 j _ (by omega) p
      have f0 := hM.2.1 j
      have Hs := Lib.hid hS
      clear hS p hM
      have q0 : (0 : Int) ≤ (j : Int) := by omega
      have q1 : (j : Int) < (n : Int) := by omega
      go_wp2
      go_roundw
      case rel => exact ⟨j + 1, by omega, by go_num, by go_num, Hs.out⟩
      case measure => simp [intOf]; omega
    · have hge : ¬ ((j : Int) < (n : Int)) := by omega
      obtain rfl : j = n := by omega
      have Hm := Lib.hid hM
      clear hM
      go_wp2
      go_ret
      exact ⟨rfl, Hm.out⟩

set_option maxHeartbeats 1000000 in
theorem heldByteS_nil (a : Option Addr) (c : Nat) (k : Int) (w : World) :
    Calls Try.prog 21 #[.slice a 0 c, .int .i64 k] w fun e w' => e = .returned (.int .i64 k) ∧ w = w' := by
  go_enter Try.func21, Try.ntmps21
  go_wp2
  go_loop [1, 5] (fun q i => q = .int .i64 k ∧ i = .int .i64 0) (fun _ i => (intOf i).toNat)
  case atStart => exact ⟨rfl, rfl⟩
  case round =>
    obtain ⟨rfl, rfl⟩ := hrel
    go_wp2
    go_ret
    exact ⟨rfl, rfl⟩

set_option maxHeartbeats 2000000 in
theorem heldByteS_some (g n cap : Nat) (k : Int) (w : World) (hl : n ≤ 1100000) (hk0 : 0 ≤ k) (hk1 : k ≤ 1000000000)
    (h : ∀ q, q < n → w.cell? ⟨g, q, none⟩ = some (.int .u8 ((k + (q : Int)) % 256))) :
    Calls Try.prog 21 #[.slice (some ⟨g, 0, none⟩) n cap, .int .i64 k] w fun e w' => e = .returned (.int .i64 (k + (n : Int))) ∧ w = w' := by
  have H := Lib.hid h
  clear h
  go_enter Try.func21, Try.ntmps21
  go_wp2
  go_loop [1, 5] (fun q i => ∃ j : Nat, j ≤ n ∧ i = .int .i64 (j : Int) ∧ q = .int .i64 (k + (j : Int))) (fun _ i => n - (intOf i).toNat)
  case atStart => exact ⟨0, Nat.zero_le _, rfl, by simp⟩
  case round =>
    obtain ⟨j, hj, rfl, rfl⟩ := hrel
    by_cases hlt : j < n
    · have c0 := H.out j hlt
      have q0 : (0 : Int) ≤ (j : Int) := by omega
      have q1 : (j : Int) < (n : Int) := by omega
      go_wp2
      go_round
      case rel => exact ⟨j + 1, by omega, by go_num, by go_num⟩
      case measure => simp [intOf]; omega
    · have hge : ¬ ((j : Int) < (n : Int)) := by omega
      obtain rfl : j = n := by omega
      go_wp2
      go_ret
      exact ⟨rfl, rfl⟩

/-- mark over a slice that holds Z, and what it then holds. -/
theorem markByteS (Z : List Int) (n lo hi : Nat) (v : Value) (k : Int) (w : World) (hr : BRow 1 w lo hi v n Z) (hl : n ≤ 1100000) (hk0 : 0 ≤ k) (hk1 : k ≤ 1000000000) :
    Calls Try.prog 20 #[v, .int .i64 k] w fun e w' => e = .returned (.int .i64 (k + (n : Int))) ∧ BRow 1 w' lo hi v n (bmarks k n) ∧ Tur lo hi w w' := by
  obtain ⟨h0, hr⟩ := hr
  rcases hr with ⟨hL, a, c, rfl⟩ | ⟨g, cap, rfl, h1, h2, h3, h4, h5⟩
  · subst hL
    exact (markByteS_nil a c k w).mono fun _ _ ⟨h1, h2⟩ => by subst h2; exact ⟨by rw [h1]; simp, ⟨by simp [bmarks_len], .inl ⟨rfl, a, c, rfl⟩⟩, .refl _ _ _⟩
  · refine (markByteS_some g n cap Z k w (by omega) h3 hk0 hk1 h4 h5).mono fun e w' ⟨he, hM⟩ => ⟨he, ⟨by rw [bmarks_len]; omega, .inr ⟨g, cap, rfl, h1, h2, h3, fun q z hz => ?_, hM.2.1⟩⟩, .of (Turned.of_only hM.1 (.inl ⟨h1, h2⟩))⟩
    have hq : q < n := by have := (List.getElem?_eq_some_iff.1 hz).1; rwa [bmarks_len] at this
    rw [bmarks_at _ _ _ hq] at hz
    obtain rfl := Option.some.inj hz
    exact hM.2.2.1 q hq
theorem heldByteS (n lo hi : Nat) (v : Value) (k : Int) (w : World) (hr : BRow 1 w lo hi v n (bmarks k n)) (_hl : n ≤ 1100000) (hk0 : 0 ≤ k) (hk1 : k ≤ 1000000000) :
    Calls Try.prog 21 #[v, .int .i64 k] w fun e w' => e = .returned (.int .i64 (k + (n : Int))) ∧ w = w' := by
  obtain ⟨h0, hr⟩ := hr
  rcases hr with ⟨hL, a, c, rfl⟩ | ⟨g, cap, rfl, h1, h2, h3, h4, h5⟩
  · subst hL
    exact (heldByteS_nil a c k w).mono fun _ _ ⟨h1, h2⟩ => ⟨by rw [h1]; simp, h2⟩
  · exact heldByteS_some g n cap k w h3 hk0 hk1 fun q hq => h4 q _ (bmarks_at _ _ _ hq)
theorem markByteS_K (K : Int) (Z : List Int) (n lo hi : Nat) (v : Value) (w : World) (hK : K = 1 + (n : Int)) (hr : BRow 1 w lo hi v n Z) (hl : n ≤ 1100000) :
    Calls Try.prog 20 #[v, .int .i64 1] w fun e w' => e = .returned (.int .i64 K) ∧ BRow 1 w' lo hi v n (bmarks 1 n) ∧ Tur lo hi w w' := by
  subst hK
  exact markByteS Z n lo hi v 1 w hr hl (by omega) (by omega)
theorem heldByteS_K (K : Int) (n lo hi : Nat) (v : Value) (w : World) (hK : K = 1 + (n : Int)) (hr : BRow 1 w lo hi v n (bmarks 1 n)) (hl : n ≤ 1100000) :
    Calls Try.prog 21 #[v, .int .i64 1] w fun e w' => e = .returned (.int .i64 K) ∧ w = w' := by
  subst hK
  exact heldByteS n lo hi v 1 w hr hl (by omega) (by omega)

end Go.Proofs.Ytcaoohcfoccedaa
