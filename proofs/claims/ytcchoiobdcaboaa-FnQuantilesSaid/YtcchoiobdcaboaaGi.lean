/- The helpers of the laws over slices of numbers. -/
import Derived.Test.YtcchoiobdcaboaaRows
import Derived.Test.YtcchoiobdcaboaaGa
import Derived.WalkSpells
import Derived.WalkLawsBesides
import Derived.BigQuiet
import Derived.Deep.QuietTactic
import Derived.Deep.RegionHeld3
import Derived.WalkSmall
import Derived.Handy
import Derived.Test.YtcchoiobdcaboaaGo0
namespace Go.Proofs.Ytcchoiobdcaboaa
open Go.RowKit


theorem at_one {Z : List Int} {n i : Nat} (hZ : Z.length = n * 1) (hi : i < n) : ∃ z, Z[i]? = some z := ⟨Z[i]'(by omega), List.getElem?_eq_getElem _⟩
theorem Try.info3 : (Try.prog.info? 3).map (fun i => (i.zero, i.size, i.bytes)) = some (some (.int .i64 0), 1, 8) := by kernel_rfl

set_option maxHeartbeats 2000000 in
theorem toIntS_any (v : Value) (n : Nat) (Z : Nat → Int) (w : World) (hA : Arg 1 w v n Z) (hn : n ≤ 1048576) :
    Calls Try.prog 38 #[v] w fun e w' => ∃ rv, e = .returned rv ∧ Row 1 w' w.heap.size w'.heap.size rv n ((List.range (n * 1)).map Z) ∧ Below w.heap.size w w' := by
  obtain ⟨hI, _, hA⟩ := hA
  obtain ⟨i39, hi, hz0, hz1, hz2⟩ := info_parts Try.info3
  obtain ⟨a, c, rfl, hcell⟩ : ∃ a c, v = .slice a n c ∧ ∀ q, q < n * 1 → ∃ b off, a = some ⟨b, off, none⟩ ∧ b < w.heap.size ∧ ∀ q, q < n * 1 → w.cell? ⟨b, off + q, none⟩ = some (.int .i64 (Z q)) := by
    rcases hA with ⟨rfl, a, c, rfl⟩ | ⟨b, off, cap, rfl, hb, hc⟩
    · exact ⟨a, c, rfl, fun q hq => by omega⟩
    · exact ⟨_, cap, rfl, fun q hq => ⟨b, off, rfl, hb, hc⟩⟩
  have HC := Lib.hid hcell
  clear hI hcell hA
  go_enter Try.func38, Try.ntmps38
  go_wp2_with (at_make; refine wpList_make_full _ rfl _ _ 24 rfl w.heap.size 3 i39 (.int .i64 0) 1 Try.underlying24 hi hz0 hz1 .i64 .i64 _ _ n rfl rfl rfl rfl ?b2 ?b3 ?b4 ?_)
  case b2 => rw [hz2]; omega
  case b3 => unfold maxLen; omega
  case b4 => exact Nat.le_refl _
  intro w1 hown hgr
  have HF := Lib.hid (Fill.start (F := Z) hown hgr)
  clear hi hz0 hz1 hz2 hown hgr
  go_wp2
  go_loopw [4] (fun i wr => ∃ j : Nat, j ≤ n ∧ i = .int .i64 (j : Int) ∧ Hid (Fill w wr w.heap.size (n * 1) j Z)) (fun i _ => n - (intOf i).toNat)
  case atStart => exact ⟨0, Nat.zero_le _, rfl, HF⟩
  case round =>
    obtain ⟨j, hj, rfl, hF⟩ := hrel
    by_cases hlt : j < n
    · obtain ⟨b, off, rfl, hb, hc⟩ := HC.out j (by omega)
      have c0 := hc j (by omega)
      have d0 : wr.cell? ⟨b, off + j, none⟩ = some (.int .i64 (Z j)) := by rw [hF.out.1.cell (p := ⟨b, off + j, none⟩) hb]; exact c0
      obtain ⟨u0, e0⟩ := hF.out.2.2.2.2.2 j (by omega)
      have f0 := hF.out.2.2.2.1 j
      have HS := Lib.hid (hF.out.one (u := Z j) (by omega) rfl)
      clear hc c0 hF
      have q0 : (0 : Int) ≤ (j : Int) := by omega
      have q1 : (j : Int) < (n : Int) := by omega
      go_wp2
      go_roundw
      case rel => exact ⟨j + 1, by omega, by go_num, HS⟩
      case measure => simp [intOf]; omega
    · have hge : ¬ ((j : Int) < (n : Int)) := by omega
      obtain rfl : j = n := by omega
      have HF2 : ∀ cap, Hid (Row 1 wr w.heap.size wr.heap.size (.slice (some ⟨w.heap.size, 0, none⟩) j cap) j ((List.range j).map Z)) := fun cap => by
        have h2 : Fill w wr w.heap.size (j * 1) (j * 1) Z := by rw [Nat.mul_one]; have := hF.out; rwa [Nat.mul_one] at this
        have := h2.row (cap := cap) (by omega)
        rw [Nat.mul_one] at this
        exact this
      have HB2 : Hid (Below w.heap.size w wr) := hF.out.1
      clear hF
      go_wp2
      go_ret
      exact ⟨_, rfl, (HF2 _).out, HB2.out⟩

set_option maxHeartbeats 2000000 in
theorem eqIntS_row (n : Nat) (a a' : Option Addr) (c c' : Nat) (Z : List Int) (w : World) (hn : Z.length = n * 1) (hl : n ≤ 1100000)
    (h : 0 < n → ∃ g, a = some ⟨g, 0, none⟩ ∧ g < w.heap.size ∧ ∀ q z, Z[q]? = some z → w.cell? ⟨g, q, none⟩ = some (.int .i64 z))
    (h' : 0 < n → ∃ g, a' = some ⟨g, 0, none⟩ ∧ g < w.heap.size ∧ ∀ q z, Z[q]? = some z → w.cell? ⟨g, q, none⟩ = some (.int .i64 z)) :
    Calls Try.prog 39 #[.slice a n c, .slice a' n c'] w fun e w' => e = .returned (.bool true) ∧ Below w.heap.size w w' := by
  have Hn := Lib.hid hn
  have H := Lib.hid h
  have H' := Lib.hid h'
  clear h h' hn
  go_enter Try.func39, Try.ntmps39
  go_wp2
  go_loopw [5] (fun i wr => ∃ k : Nat, k ≤ n ∧ i = .int .i64 (k : Int) ∧ Hid (Below w.heap.size w wr)) (fun i _ => n - (intOf i).toNat)
  case atStart => exact ⟨0, Nat.zero_le _, rfl, Below.refl _ _⟩
  case round =>
    obtain ⟨k, hk, rfl, hB⟩ := hrel
    by_cases hlt : k < n
    · obtain ⟨g, rfl, hg, hc⟩ := H.out (by omega)
      obtain ⟨g', rfl, hg', hc'⟩ := H'.out (by omega)
      obtain ⟨z, hz⟩ := at_one Hn.out hlt
      have d0 : wr.cell? ⟨g, k, none⟩ = some (.int .i64 z) := by rw [hB.out.cell (p := ⟨g, k, none⟩) hg]; exact hc _ _ hz
      have d1 : wr.cell? ⟨g', k, none⟩ = some (.int .i64 z) := by rw [hB.out.cell (p := ⟨g', k, none⟩) hg']; exact hc' _ _ hz
      clear hc hc' hz
      have hk0 : (0 : Int) ≤ (k : Int) := by omega
      have hk1 : (k : Int) < (n : Int) := by omega
      go_wp2_with fail
      go_quiet (fail)
      go_wp2_with fail
      go_roundw
      case rel => exact ⟨k + 1, by omega, by go_num, below_drewN hB.out _⟩
      case measure => simp [intOf]; omega
    · have hge : ¬ ((k : Int) < (n : Int)) := by omega
      go_wp2
      go_ret
      exact ⟨rfl, hB.out⟩
theorem eqIntS_same (Z : List Int) (n lo hi lo' hi' : Nat) (v v' : Value) (w : World) (hr : Row 1 w lo hi v n Z) (hr' : Row 1 w lo' hi' v' n Z) (hh : hi ≤ w.heap.size) (hh' : hi' ≤ w.heap.size) :
    Calls Try.prog 39 #[v, v'] w fun e w' => e = .returned (.bool true) ∧ Below w.heap.size w w' := by
  have h0 := hr.1
  obtain ⟨a, c, rfl, hn, hc⟩ := hr.opened
  obtain ⟨a', c', rfl, _, hc'⟩ := hr'.opened
  refine eqIntS_row n a a' c c' Z w h0 hn (fun h => ?_) (fun h => ?_)
  · obtain ⟨g, h1, h2, h3⟩ := hc h; exact ⟨g, h1, by omega, h3⟩
  · obtain ⟨g, h1, h2, h3⟩ := hc' h; exact ⟨g, h1, by omega, h3⟩

set_option maxHeartbeats 2000000 in
theorem markIntS_nil (a : Option Addr) (c : Nat) (k : Int) (w : World) :
    Calls Try.prog 40 #[.slice a 0 c, .int .i64 k] w fun e w' => e = .returned (.int .i64 k) ∧ w = w' := by
  go_enter Try.func40, Try.ntmps40
  go_wp2
  go_loop [1, 5] (fun q i => q = .int .i64 k ∧ i = .int .i64 0) (fun _ i => (intOf i).toNat)
  case atStart => exact ⟨rfl, rfl⟩
  case round =>
    obtain ⟨rfl, rfl⟩ := hrel
    go_wp2
    go_ret
    exact ⟨rfl, rfl⟩

set_option maxHeartbeats 2000000 in
theorem markIntS_some (g n cap : Nat) (Z : List Int) (k : Int) (w : World) (hn : Z.length = n * 1) (hl : n ≤ 1100000) (hk0 : 0 ≤ k) (hk1 : k ≤ 1000000000)
    (h : ∀ q z, Z[q]? = some z → w.cell? ⟨g, q, none⟩ = some (.int .i64 z)) (hf : ∀ o, w.frozen? ⟨g, o, none⟩ = false) :
    Calls Try.prog 40 #[.slice (some ⟨g, 0, none⟩) n cap, .int .i64 k] w fun e w' => e = .returned (.int .i64 (k + ((n * 1 : Nat) : Int))) ∧ Marked w w' g Z k (n * 1) := by
  have Hn := Lib.hid hn
  have H0 : Hid (Marked w w g Z k 0) := ⟨Only.refl _ _, hf, fun j hj => absurd hj (by omega), fun j p _ hp => h j p hp⟩
  clear h hn hf
  go_enter Try.func40, Try.ntmps40
  go_wp2
  go_loopw [1, 5] (fun q i wr => ∃ j : Nat, j ≤ n ∧ i = .int .i64 (j : Int) ∧ q = .int .i64 (k + (j : Int)) ∧ Hid (Marked w wr g Z k j)) (fun _ i _ => n - (intOf i).toNat)
  case atStart => exact ⟨0, Nat.zero_le _, rfl, by simp, H0⟩
  case round =>
    obtain ⟨j, hj, rfl, rfl, hM⟩ := hrel
    by_cases hlt : j < n
    · obtain ⟨y, p⟩ := at_one Hn.out hlt
      have HS := Lib.hid (hM.out.one p (u := k + (j : Int)) rfl)
      have c0 := hM.out.2.2.2 j _ (by omega) p
      have f0 := hM.out.2.1 j
      clear p hM
      have q0 : (0 : Int) ≤ (j : Int) := by omega
      have q1 : (j : Int) < (n : Int) := by omega
      go_wp2
      go_roundw
      case rel => exact ⟨j + 1, by omega, by go_num, by go_num, HS⟩
      case measure => simp [intOf]; omega
    · have hge : ¬ ((j : Int) < (n : Int)) := by omega
      obtain rfl : j = n := by omega
      go_wp2
      go_ret
      exact ⟨ret_int (by push_cast; omega), hM.out⟩

set_option maxHeartbeats 2000000 in
theorem heldIntS_row (n : Nat) (a : Option Addr) (c : Nat) (k : Int) (w : World) (hl : n ≤ 1100000) (hk0 : 0 ≤ k) (hk1 : k ≤ 1000000000)
    (h : 0 < n → ∃ g, a = some ⟨g, 0, none⟩ ∧ ∀ q, q < n → w.cell? ⟨g, q, none⟩ = some (.int .i64 (k + (q : Int)))) :
    Calls Try.prog 58 #[.slice a n c, .int .i64 k] w fun e w' => e = .returned (.int .i64 (k + ((n * 1 : Nat) : Int))) ∧ w = w' := by
  have H := Lib.hid h
  clear h
  go_enter Try.func58, Try.ntmps58
  go_wp2
  go_loop [1, 5] (fun q i => ∃ j : Nat, j ≤ n ∧ i = .int .i64 (j : Int) ∧ q = .int .i64 (k + (j : Int))) (fun _ i => n - (intOf i).toNat)
  case atStart => exact ⟨0, Nat.zero_le _, rfl, by simp⟩
  case round =>
    obtain ⟨j, hj, rfl, rfl⟩ := hrel
    by_cases hlt : j < n
    · obtain ⟨g, rfl, hc⟩ := H.out (by omega)
      have c0 := hc j hlt
      clear hc
      have q0 : (0 : Int) ≤ (j : Int) := by omega
      have q1 : (j : Int) < (n : Int) := by omega
      go_wp2
      go_round
      case rel => exact ⟨j + 1, by omega, by go_num, by go_num⟩
      case measure => simp [intOf]; omega
    · have hge : ¬ ((j : Int) < (n : Int)) := by omega
      obtain rfl : j = n := by omega
      go_wp2
      go_ret
      exact ⟨ret_int (by push_cast; omega), rfl⟩
theorem markIntS_K (K : Int) (Z : List Int) (n lo hi : Nat) (v : Value) (w : World) (hK : K = 1 + ((n * 1 : Nat) : Int)) (hr : Row 1 w lo hi v n Z) (hl : n ≤ 1100000) :
    Calls Try.prog 40 #[v, .int .i64 1] w fun e w' => e = .returned (.int .i64 K) ∧ Row 1 w' lo hi v n (marks 1 (n * 1)) ∧ Turned lo hi w w' := by
  subst hK
  obtain ⟨h0, hr⟩ := hr
  rcases hr with ⟨hL, a, c, rfl⟩ | ⟨g, cap, rfl, h1, h2, h3, h4, h5⟩
  · subst hL
    exact (markIntS_nil a c 1 w).mono fun _ _ ⟨h1, h2⟩ => by subst h2; exact ⟨by rw [h1]; simp, ⟨by simp [marks_len], .inl ⟨rfl, a, c, rfl⟩⟩, Turned.of_only (g := 0) (Only.refl _ _) (.inr rfl)⟩
  · refine (markIntS_some g n cap Z 1 w h0 h3 (by omega) (by omega) h4 h5).mono fun e w' ⟨he, hM⟩ => ⟨he, ⟨marks_len _ _, .inr ⟨g, cap, rfl, h1, h2, h3, fun q z hz => ?_, hM.2.1⟩⟩, Turned.of_only hM.1 (.inl ⟨h1, h2⟩)⟩
    have hq : q < n * 1 := by have := (List.getElem?_eq_some_iff.1 hz).1; rwa [marks_len] at this
    rw [marks_at _ _ _ hq] at hz
    obtain rfl := Option.some.inj hz
    exact hM.2.2.1 q hq
theorem heldIntS_K (K : Int) (n lo hi : Nat) (v : Value) (w : World) (hK : K = 1 + ((n * 1 : Nat) : Int)) (hr : Row 1 w lo hi v n (marks 1 (n * 1))) (hl : n ≤ 1100000) :
    Calls Try.prog 58 #[v, .int .i64 1] w fun e w' => e = .returned (.int .i64 K) ∧ w = w' := by
  subst hK
  obtain ⟨a, c, rfl, hn, hc⟩ := hr.opened
  refine heldIntS_row n a c 1 w hl (by omega) (by omega) fun h => ?_
  obtain ⟨g, h1, _, h3⟩ := hc h
  exact ⟨g, h1, fun q hq => h3 q _ (marks_at _ _ _ (by omega))⟩

theorem szIntS_fit (a : Option Addr) (n c : Nat) (l : Int) (w : World) (hn : n ≤ maxLen) (h1 : l ≤ 1048576) (h0 : (n : Int) ≤ l) :
    Calls Try.prog 55 #[.slice a n c, .int .i64 l] w fun e w' => e = .returned (.int .i64 (l - (n : Int))) ∧ w = w' := by
  unfold maxLen at hn
  go_enter Try.func55, Try.ntmps55
  go_wp2
  go_ret
  exact ⟨rfl, rfl⟩
theorem szIntS_big (a : Option Addr) (n c : Nat) (l : Int) (w : World) (hn : n ≤ maxLen) (h1 : l ≤ 1048576) (h0 : 0 ≤ l) (h2 : l < (n : Int)) :
    Calls Try.prog 55 #[.slice a n c, .int .i64 l] w fun e w' => e = .returned (.int .i64 (-1)) ∧ w = w' := by
  unfold maxLen at hn
  go_enter Try.func55, Try.ntmps55
  go_wp2
  go_ret
  exact ⟨rfl, rfl⟩
theorem markIntS_S (s K : Int) (hs0 : 0 ≤ s) (hs1 : s ≤ 1000000000) (Z : List Int) (n lo hi : Nat) (v : Value) (w : World) (hK : K = s + ((n * 1 : Nat) : Int)) (hr : Row 1 w lo hi v n Z) (hl : n ≤ 1100000) :
    Calls Try.prog 40 #[v, .int .i64 s] w fun e w' => e = .returned (.int .i64 K) ∧ Row 1 w' lo hi v n (marks s (n * 1)) ∧ Turned lo hi w w' := by
  subst hK
  obtain ⟨h0, hr⟩ := hr
  rcases hr with ⟨hL, a, c, rfl⟩ | ⟨g, cap, rfl, h1, h2, h3, h4, h5⟩
  · subst hL
    exact (markIntS_nil a c s w).mono fun _ _ ⟨h1, h2⟩ => by subst h2; exact ⟨by rw [h1]; simp, ⟨by simp [marks_len], .inl ⟨rfl, a, c, rfl⟩⟩, Turned.of_only (g := 0) (Only.refl _ _) (.inr rfl)⟩
  · refine (markIntS_some g n cap Z s w h0 h3 hs0 hs1 h4 h5).mono fun e w' ⟨he, hM⟩ => ⟨he, ⟨marks_len _ _, .inr ⟨g, cap, rfl, h1, h2, h3, fun q z hz => ?_, hM.2.1⟩⟩, Turned.of_only hM.1 (.inl ⟨h1, h2⟩)⟩
    have hq : q < n * 1 := by have := (List.getElem?_eq_some_iff.1 hz).1; rwa [marks_len] at this
    rw [marks_at _ _ _ hq] at hz
    obtain rfl := Option.some.inj hz
    exact hM.2.2.1 q hq

end Go.Proofs.Ytcchoiobdcaboaa
