/- What the law on quantiles calls besides. -/
import Derived.Test.YtcchoiobdcaboaaS12
import Derived.Test.YtcchoiobdcaboaaDv
namespace Go.Proofs.Ytcchoiobdcaboaa
open Go.RowKit

set_option maxHeartbeats 2000000 in
theorem same_row (n : Nat) (a a' : Option Addr) (c c' : Nat) (Z : List Int) (w : World) (hn : Z.length = n * 1) (hl : n ≤ 1100000)
    (h : 0 < n → ∃ g, a = some ⟨g, 0, none⟩ ∧ g < w.heap.size ∧ ∀ q z, Z[q]? = some z → w.cell? ⟨g, q, none⟩ = some (.int .i64 z))
    (h' : 0 < n → ∃ g, a' = some ⟨g, 0, none⟩ ∧ g < w.heap.size ∧ ∀ q z, Z[q]? = some z → w.cell? ⟨g, q, none⟩ = some (.int .i64 z)) :
    Calls Try.prog 18 #[.slice a n c, .slice a' n c'] w fun e w' => e = .returned (.bool true) ∧ Below w.heap.size w w' := by
  have Hn := Lib.hid hn
  have H := Lib.hid h
  have H' := Lib.hid h'
  clear h h' hn
  go_enter Try.func18, Try.ntmps18
  go_wp2
  go_loopw [5] (fun i wr => ∃ k : Nat, k ≤ n ∧ i = .int .i64 (k : Int) ∧ Hid (Below w.heap.size w wr)) (fun i _ => n - (intOf i).toNat)
  case atStart => exact ⟨0, Nat.zero_le _, rfl, Below.refl _ _⟩
  case round =>
    obtain ⟨k, hk, rfl, hB⟩ := hrel
    by_cases hlt : k < n
    · obtain ⟨g, rfl, hg, hc⟩ := H.out (by omega)
      obtain ⟨g', rfl, hg', hc'⟩ := H'.out (by omega)
      obtain ⟨z, hz⟩ := at_one Hn.out hlt
      have d0 : wr.cell? ⟨g, k, none⟩ = some (.int .i64 z) := by rw [hB.out.cell (p := ⟨g, k, none⟩) hg]; exact hc _ _ hz
      have d1 : wr.cell? ⟨g', k, none⟩ = some (.int .i64 z) := by rw [hB.out.cell (p := ⟨g', k, none⟩) hg']; exact hc' _ _ hz
      clear hc hc' hz
      have hk0 : (0 : Int) ≤ (k : Int) := by omega
      have hk1 : (k : Int) < (n : Int) := by omega
      go_wp2_with fail
      go_quiet (fail)
      go_wp2_with fail
      go_roundw
      case rel => exact ⟨k + 1, by omega, by go_num, below_drewN hB.out _⟩
      case measure => simp [intOf]; omega
    · have hge : ¬ ((k : Int) < (n : Int)) := by omega
      go_wp2
      go_ret
      exact ⟨rfl, hB.out⟩
theorem same_same (Z : List Int) (n lo hi lo' hi' : Nat) (v v' : Value) (w : World) (hr : Row 1 w lo hi v n Z) (hr' : Row 1 w lo' hi' v' n Z) (hh : hi ≤ w.heap.size) (hh' : hi' ≤ w.heap.size) :
    Calls Try.prog 18 #[v, v'] w fun e w' => e = .returned (.bool true) ∧ Below w.heap.size w w' := by
  have h0 := hr.1
  obtain ⟨a, c, rfl, hn, hc⟩ := hr.opened
  obtain ⟨a', c', rfl, _, hc'⟩ := hr'.opened
  refine same_row n a a' c c' Z w h0 hn (fun h => ?_) (fun h => ?_)
  · obtain ⟨g, h1, h2, h3⟩ := hc h; exact ⟨g, h1, by omega, h3⟩
  · obtain ⟨g, h1, h2, h3⟩ := hc' h; exact ⟨g, h1, by omega, h3⟩


theorem big_any (a : Option Addr) (n cp : Nat) (w : World) : Calls Try.prog 14 #[.slice a n cp] w fun e w' => e = .returned (.bool (decide ((n : Int) > 1048576))) ∧ w = w' := by
  go_enter Try.func14, Try.ntmps14
  go_wp2_with fail
  go_ret
  exact ⟨rfl, rfl⟩
theorem at_any (a : Option Addr) (n cp i : Nat) (w : World) (hb : BytesAt w a n) (hn : n ≤ 1048576) (hi : i ≤ 1000) : Calls Try.prog 19 #[.slice a n cp, .int .i64 (i : Int)] w fun e w' => (∃ x : Int, e = .returned (.int .i64 x) ∧ 0 ≤ x ∧ x ≤ 255) ∧ w = w' := by
  by_cases h : i < n
  · have d : decide ((i : Int) < (n : Int)) = true := decide_eq_true (by omega)
    obtain ⟨b, off, rfl, _, hc⟩ := hb.2 (by omega)
    obtain ⟨z, hz, z0, z1⟩ := hc i h
    have hw : IntKind.i64.wrap z = z := IntWalk.i64_in _ (by omega)
    go_enter Try.func19, Try.ntmps19
    go_wp2_with fail
    go_ret
    exact ⟨⟨z, rfl, z0, z1⟩, rfl⟩
  · have d : decide ((i : Int) < (n : Int)) = false := decide_eq_false (by omega)
    have e1 : IntKind.i64.wrap ((i : Int) * 13) = (i : Int) * 13 := IntWalk.i64_in _ (by omega)
    have e2 : IntKind.i64.wrap ((n : Int) * 5) = (n : Int) * 5 := IntWalk.i64_in _ (by omega)
    have e3 : IntKind.i64.wrap ((i : Int) * 13 + (n : Int) * 5) = (i : Int) * 13 + (n : Int) * 5 := IntWalk.i64_in _ (by omega)
    go_enter Try.func19, Try.ntmps19
    go_wp2_with fail
    go_ret
    exact ⟨⟨_, rfl, by omega, by omega⟩, rfl⟩
theorem BytesAt.below {w w' : World} {a : Option Addr} {n : Nat} (h : BytesAt w a n) (hb : Below w.heap.size w w') : BytesAt w' a n := by
  refine ⟨h.1, fun h0 => ?_⟩
  obtain ⟨b, off, e, h1, h2⟩ := h.2 h0
  have := hb.size
  refine ⟨b, off, e, by omega, fun q hq => ?_⟩
  obtain ⟨z, hz, z0⟩ := h2 q hq
  exact ⟨z, by rw [hb.cell (p := ⟨b, off + q, none⟩) h1]; exact hz, z0⟩
set_option maxRecDepth 100000 in
set_option maxHeartbeats 8000000 in
theorem iho_off (ad : Option Addr) (n cp : Nat) (L : List Int) (w : World) (hl : L.length = n) (hn : n ≤ 1100000) (hc : 0 < n → ∃ g o, ad = some ⟨g, o, none⟩ ∧ g < w.heap.size ∧ ∀ q z, L[q]? = some z → w.cell? ⟨g, o + q, none⟩ = some (.int .i64 z)) :
    Calls Try.prog 16 #[.slice ad n cp] w (HBPost (hoC L) (hoS L) (hoB L) (hoC L).length w) := by
  have HC := Lib.hid hc
  have HL := Lib.hid hl
  clear hc
  by_cases h300 : n > 300
  case pos =>
    have e : hoB L = false := by unfold hoB; rw [decide_eq_false (by omega)]; rfl
    rw [(ho_no e).1, (ho_no e).2, List.length_nil]
    have E := Lib.hid e
    have h3 : (n : Int) > 300 := by omega
    clear e hl
    go_enter Try.func16, Try.ntmps16
    go_upto_region 2 with fail
    obtain ⟨q1, hq1⟩ : ∃ q, q = (w.alloc (.cells #[.slice none 0 0, .int .i64 0] 27)) := ⟨_, rfl⟩
    have hb1 : Below w.heap.size w q1 := by rw [hq1]; go_grown
    have sz1 : w.heap.size + 1 ≤ q1.heap.size := by rw [hq1]; simp
    have c1_0 : q1.cell? ⟨w.heap.size, 0, none⟩ = some (.slice none 0 0) := by rw [hq1, new_at (by simp)]; rfl
    have c1_1 : q1.cell? ⟨w.heap.size, 1, none⟩ = some (.int .i64 0) := by rw [hq1, new_at (by simp)]; rfl
    have g1_0 : q1.frozen? ⟨w.heap.size, 0, none⟩ = false := by rw [hq1, new_frz (by simp)]
    have g1_1 : q1.frozen? ⟨w.heap.size, 1, none⟩ = false := by rw [hq1, new_frz (by simp)]
    have B1 : Hid (Below w.heap.size w q1) := Lib.hid hb1
    rw [← hq1]
    have d1_0 : w.heap.size < q1.heap.size := by omega
    have e1_0 : w.heap.size ≠ q1.heap.size := by omega
    clear hq1 hb1
    have r0 : ((q1.setCell ⟨w.heap.size, 0, none⟩ (.slice none 0 0)).setCell ⟨w.heap.size, 1, none⟩ (.int .i64 (0))).cell? ⟨w.heap.size, 0, none⟩ = some (.slice none 0 0) := by rw [World.cell?_setCell_other _ _ _ _ (by simp)]; exact World.cell?_setCell_same' _ _ _ (by rw [c1_0]; rfl)
    have r1 : ((q1.setCell ⟨w.heap.size, 0, none⟩ (.slice none 0 0)).setCell ⟨w.heap.size, 1, none⟩ (.int .i64 (0))).cell? ⟨w.heap.size, 1, none⟩ = some (.int .i64 (0)) := World.cell?_setCell_same' _ _ _ (by rw [World.cell?_setCell_other _ _ _ _ (by simp), c1_1]; rfl)
    go_wp2_with fail
    refine bodyPost_ret (v := .tuple #[.agg #[.slice none 0 0, .int .i64 (0)], .bool false]) (by simp [results, Try.results16, go_sem, r0, r1]) rfl ?_
    rw [E.out]
    refine ⟨_, rfl, ?_, ?_⟩
    · exact (((Row.empty 1 q1 q1.heap.size q1.heap.size none 0).setCell (p := ⟨w.heap.size, 0, none⟩) (.inl (by show w.heap.size < _; omega)) _).setCell (p := ⟨w.heap.size, 1, none⟩) (.inl (by show w.heap.size < _; omega)) _).wide (by omega) (by first | (simp [World.setCell]; done) | (simp [World.setCell]; omega))
    · exact ((B1.out.setCell (p := ⟨w.heap.size, 0, none⟩) (by show _ ≤ w.heap.size; omega) _).setCell (p := ⟨w.heap.size, 1, none⟩) (by show _ ≤ w.heap.size; omega) _)
  case neg =>
  have h3 : ¬ (n : Int) > 300 := by omega
  clear hl
  go_enter Try.func16, Try.ntmps16
  go_upto_region 3 with fail
  obtain ⟨q1, hq1⟩ : ∃ q, q = (w.alloc (.cells #[.slice none 0 0, .int .i64 0] 27)) := ⟨_, rfl⟩
  have hb1 : Below w.heap.size w q1 := by rw [hq1]; go_grown
  have sz1 : w.heap.size + 1 ≤ q1.heap.size := by rw [hq1]; simp
  have c1_0 : q1.cell? ⟨w.heap.size, 0, none⟩ = some (.slice none 0 0) := by rw [hq1, new_at (by simp)]; rfl
  have c1_1 : q1.cell? ⟨w.heap.size, 1, none⟩ = some (.int .i64 0) := by rw [hq1, new_at (by simp)]; rfl
  have g1_0 : q1.frozen? ⟨w.heap.size, 0, none⟩ = false := by rw [hq1, new_frz (by simp)]
  have g1_1 : q1.frozen? ⟨w.heap.size, 1, none⟩ = false := by rw [hq1, new_frz (by simp)]
  have B1 : Hid (Below w.heap.size w q1) := Lib.hid hb1
  rw [← hq1]
  have d1_0 : w.heap.size < q1.heap.size := by omega
  have e1_0 : w.heap.size ≠ q1.heap.size := by omega
  clear hq1 hb1
  go_wp2_with fail
  go_at_call 47
  refine (inew_any _).mono ?_
  rintro e v2 ⟨rv1, rfl, hr, hb2⟩
  have sz2 : q1.heap.size ≤ v2.heap.size := hb2.size
  have st2 : Below q1.heap.size q1 v2 := hb2
  have c2_0 : v2.cell? ⟨w.heap.size, 0, none⟩ = some (.slice none 0 0) := by rw [(bcell st2).1 _ _ (by omega)]; exact c1_0
  have c2_1 : v2.cell? ⟨w.heap.size, 1, none⟩ = some (.int .i64 0) := by rw [(bcell st2).1 _ _ (by omega)]; exact c1_1
  have g2_0 : v2.frozen? ⟨w.heap.size, 0, none⟩ = false := by rw [(bcell st2).2 _ _ (by omega)]; exact g1_0
  have g2_1 : v2.frozen? ⟨w.heap.size, 1, none⟩ = false := by rw [(bcell st2).2 _ _ (by omega)]; exact g1_1
  have B2 : Hid (Below w.heap.size w v2) := B1.out.trans (st2.mono (by omega))
  have R2_0 : Hid (Row 1 v2 (q1.heap.size) (v2.heap.size) rv1 21 H0) := hr
  have d2_0 : w.heap.size < v2.heap.size := by omega
  have e2_0 : w.heap.size ≠ v2.heap.size := by omega
  clear d1_0 e1_0 c1_0 c1_1 g1_0 g1_1 B1 st2 hr hb2
  go_wp2_with fail
  go_at_call 47
  refine (inew_any _).mono ?_
  rintro e v3 ⟨rv2, rfl, hr, hb3⟩
  have sz3 : v2.heap.size ≤ v3.heap.size := hb3.size
  have st3 : Below v2.heap.size v2 v3 := hb3
  have c3_0 : v3.cell? ⟨w.heap.size, 0, none⟩ = some (.slice none 0 0) := by rw [(bcell st3).1 _ _ (by omega)]; exact c2_0
  have c3_1 : v3.cell? ⟨w.heap.size, 1, none⟩ = some (.int .i64 0) := by rw [(bcell st3).1 _ _ (by omega)]; exact c2_1
  have g3_0 : v3.frozen? ⟨w.heap.size, 0, none⟩ = false := by rw [(bcell st3).2 _ _ (by omega)]; exact g2_0
  have g3_1 : v3.frozen? ⟨w.heap.size, 1, none⟩ = false := by rw [(bcell st3).2 _ _ (by omega)]; exact g2_1
  have B3 : Hid (Below w.heap.size w v3) := B2.out.trans (st3.mono (by omega))
  have R3_0 : Hid (Row 1 v3 (q1.heap.size) (v2.heap.size) rv1 21 H0) := R2_0.out.below st3 (by omega)
  have R3_1 : Hid (Row 1 v3 (v2.heap.size) (v3.heap.size) rv2 21 H0) := hr
  have d3_0 : w.heap.size < v3.heap.size := by omega
  have e3_0 : w.heap.size ≠ v3.heap.size := by omega
  clear d2_0 e2_0 c2_0 c2_1 g2_0 g2_1 B2 st3 R2_0 hr hb3
  obtain ⟨ra1, c1, rfl⟩ := R3_0.out.slice
  obtain ⟨G1, rfl, g1a, g1b, g1c, g1d, _⟩ := R3_0.out.own21
  obtain ⟨ra2, c2, rfl⟩ := R3_1.out.slice
  obtain ⟨G2, rfl, g2a, g2b, g2c, g2d, _⟩ := R3_1.out.own21
  have K1 := Lib.hid (And.intro g1c g1d)
  have K2 := Lib.hid (And.intro g2c g2d)
  clear g1c g1d g2c g2d R3_0 R3_1
  go_upto_region 4 with fail
  have HH1 : Hid (∀ q z, H0[q]? = some z → ((v3.alloc (.cells #[.slice (some ⟨G1, 0, none⟩) 21 c1, .int .i64 0] 27)).alloc (.cells #[.slice (some ⟨G2, 0, none⟩) 21 c2, .int .i64 0] 27)).cell? ⟨G1, q, none⟩ = some (.int .i64 z)) := fun q z hz => by rw [old_box (by simp; omega), old_box (by omega)]; exact K1.out.1 q z hz
  have HF1 : Hid (∀ o, ((v3.alloc (.cells #[.slice (some ⟨G1, 0, none⟩) 21 c1, .int .i64 0] 27)).alloc (.cells #[.slice (some ⟨G2, 0, none⟩) 21 c2, .int .i64 0] 27)).frozen? ⟨G1, o, none⟩ = false) := fun o => by rw [old_frz (by simp; omega), old_frz (by omega)]; exact K1.out.2 o
  have HH2 : Hid (∀ q z, H0[q]? = some z → ((v3.alloc (.cells #[.slice (some ⟨G1, 0, none⟩) 21 c1, .int .i64 0] 27)).alloc (.cells #[.slice (some ⟨G2, 0, none⟩) 21 c2, .int .i64 0] 27)).cell? ⟨G2, q, none⟩ = some (.int .i64 z)) := fun q z hz => by rw [old_box (by simp; omega), old_box (by omega)]; exact K2.out.1 q z hz
  have HF2 : Hid (∀ o, ((v3.alloc (.cells #[.slice (some ⟨G1, 0, none⟩) 21 c1, .int .i64 0] 27)).alloc (.cells #[.slice (some ⟨G2, 0, none⟩) 21 c2, .int .i64 0] 27)).frozen? ⟨G2, o, none⟩ = false) := fun o => by rw [old_frz (by simp; omega), old_frz (by omega)]; exact K2.out.2 o
  have HX1 : Hid (∀ o, ((v3.alloc (.cells #[.slice (some ⟨G1, 0, none⟩) 21 c1, .int .i64 0] 27)).alloc (.cells #[.slice (some ⟨G2, 0, none⟩) 21 c2, .int .i64 0] 27)).frozen? ⟨v3.heap.size, o, none⟩ = false) := fun o => by rw [old_frz (by simp)]; exact new_frz rfl
  have HX2 : Hid (∀ o, ((v3.alloc (.cells #[.slice (some ⟨G1, 0, none⟩) 21 c1, .int .i64 0] 27)).alloc (.cells #[.slice (some ⟨G2, 0, none⟩) 21 c2, .int .i64 0] 27)).frozen? ⟨v3.heap.size + 1, o, none⟩ = false) := fun o => new_frz (by simp)
  clear K1 K2
  obtain ⟨q4, hq4⟩ : ∃ q, q = ((v3.alloc (.cells #[.slice (some ⟨G1, 0, none⟩) 21 c1, .int .i64 0] 27)).alloc (.cells #[.slice (some ⟨G2, 0, none⟩) 21 c2, .int .i64 0] 27)) := ⟨_, rfl⟩
  have hb4 : Below v3.heap.size v3 q4 := by rw [hq4]; go_grown
  have sz4 : v3.heap.size + 2 ≤ q4.heap.size := by rw [hq4]; simp
  have c4_0 : q4.cell? ⟨w.heap.size, 0, none⟩ = some (.slice none 0 0) := by rw [(bcell hb4).1 _ _ (by omega)]; exact c3_0
  have c4_1 : q4.cell? ⟨w.heap.size, 1, none⟩ = some (.int .i64 0) := by rw [(bcell hb4).1 _ _ (by omega)]; exact c3_1
  have c4_2 : q4.cell? ⟨v3.heap.size, 0, none⟩ = some (.slice (some ⟨G1, 0, none⟩) 21 c1) := by rw [hq4, old_box (by simp <;> omega), new_at (by simp)]; rfl
  have c4_3 : q4.cell? ⟨v3.heap.size, 1, none⟩ = some (.int .i64 0) := by rw [hq4, old_box (by simp <;> omega), new_at (by simp)]; rfl
  have c4_4 : q4.cell? ⟨v3.heap.size + 1, 0, none⟩ = some (.slice (some ⟨G2, 0, none⟩) 21 c2) := by rw [hq4, new_at (by simp)]; rfl
  have c4_5 : q4.cell? ⟨v3.heap.size + 1, 1, none⟩ = some (.int .i64 0) := by rw [hq4, new_at (by simp)]; rfl
  have g4_0 : q4.frozen? ⟨w.heap.size, 0, none⟩ = false := by rw [(bcell hb4).2 _ _ (by omega)]; exact g3_0
  have g4_1 : q4.frozen? ⟨w.heap.size, 1, none⟩ = false := by rw [(bcell hb4).2 _ _ (by omega)]; exact g3_1
  have g4_2 : q4.frozen? ⟨v3.heap.size, 0, none⟩ = false := by rw [hq4, old_frz (by simp <;> omega), new_frz (by simp)]
  have g4_3 : q4.frozen? ⟨v3.heap.size, 1, none⟩ = false := by rw [hq4, old_frz (by simp <;> omega), new_frz (by simp)]
  have g4_4 : q4.frozen? ⟨v3.heap.size + 1, 0, none⟩ = false := by rw [hq4, new_frz (by simp)]
  have g4_5 : q4.frozen? ⟨v3.heap.size + 1, 1, none⟩ = false := by rw [hq4, new_frz (by simp)]
  have B4 : Hid (Below w.heap.size w q4) := Lib.hid (B3.out.trans (hb4.mono (by omega)))
  rw [← hq4] at HH1 HF1 HH2 HF2 HX1 HX2 ⊢
  have d4_0 : w.heap.size < q4.heap.size := by omega
  have e4_0 : w.heap.size ≠ q4.heap.size := by omega
  have d4_1 : v3.heap.size < q4.heap.size := by omega
  have e4_1 : v3.heap.size ≠ q4.heap.size := by omega
  have d4_2 : v3.heap.size + 1 < q4.heap.size := by omega
  have e4_2 : v3.heap.size + 1 ≠ q4.heap.size := by omega
  clear hq4 hb4 d3_0 e3_0 c3_0 c3_1 g3_0 g3_1 B3
  have HB1 : Hid (HBx q4 (v3.heap.size) G1 c1 H0 0) := ⟨c4_2, c4_3, HX1.out, HH1.out, HF1.out, H0_len, by omega, by omega, by omega⟩
  have HB2 : Hid (HBx q4 (v3.heap.size + 1) G2 c2 H0 0) := ⟨c4_4, c4_5, HX2.out, HH2.out, HF2.out, H0_len, by omega, by omega, by omega⟩
  clear HH1 HF1 HH2 HF2 HX1 HX2 c4_2 c4_3 c4_4 c4_5 g4_2 g4_3 g4_4 g4_5 d4_0 e4_0 d4_1 e4_1 d4_2 e4_2
  obtain ⟨X1, hX1⟩ : ∃ X, X = v3.heap.size := ⟨_, rfl⟩
  obtain ⟨X2, hX2⟩ : ∃ X, X = v3.heap.size + 1 := ⟨_, rfl⟩
  rw [← hX1] at HB1
  rw [← hX2] at HB2
  rw [← hX2, ← hX1]
  have HK0 : Hid (HoK w q4 X1 G1 X2 G2 c1 c2 L 0 q4) := ⟨HB1.out, ⟨_, _, HB2.out⟩, Below.refl _ _, rfl, by omega, by omega⟩
  clear hX1 hX2 HB1 HB2
  have HR0 := Lib.hid c4_0
  have HR1 := Lib.hid c4_1
  have HG0 := Lib.hid g4_0
  have HG1 := Lib.hid g4_1
  clear c4_0 c4_1 g4_0 g4_1
  go_wp2_with fail
  go_loopw [16] (fun i wr => ∃ k : Nat, k ≤ n ∧ i = .int .i64 (k : Int) ∧ Hid (HoK w q4 X1 G1 X2 G2 c1 c2 L k wr)) (fun i _ => n - (intOf i).toNat)
  case atStart => exact ⟨0, by omega, rfl, HK0⟩
  case round =>
    clear HK0
    obtain ⟨k, hk, rfl, hK⟩ := hrel
    have hlow := hK.out.low
    have hRw : w.heap.size < q4.heap.size := by omega
    have e0 : wr.cell? ⟨w.heap.size, 0, none⟩ = some (.slice none 0 0) := by rw [hlow.cell (p := ⟨w.heap.size, 0, none⟩) (by show w.heap.size < _; omega)]; exact HR0.out
    have e1 : wr.cell? ⟨w.heap.size, 1, none⟩ = some (.int .i64 0) := by rw [hlow.cell (p := ⟨w.heap.size, 1, none⟩) (by show w.heap.size < _; omega)]; exact HR1.out
    have g0 : wr.frozen? ⟨w.heap.size, 0, none⟩ = false := by rw [hlow.frozen (p := ⟨w.heap.size, 0, none⟩) (by show w.heap.size < _; omega)]; exact HG0.out
    have g1 : wr.frozen? ⟨w.heap.size, 1, none⟩ = false := by rw [hlow.frozen (p := ⟨w.heap.size, 1, none⟩) (by show w.heap.size < _; omega)]; exact HG1.out
    have HBw : Hid (Below w.heap.size w wr) := B4.out.trans (hlow.mono (by omega))
    have hsz := HBw.out.size
    have hszq := hlow.size
    have hRs : w.heap.size < wr.heap.size := by omega
    by_cases hlt : k < n
    case neg =>
      obtain rfl : k = n := by omega
      have hge : ¬ ((k : Int) < (k : Int)) := by omega
      have ht : L.take k = L := List.take_of_length_le (by rw [HL.out]; exact Nat.le_refl _)
      have hb : hoB L = true := by unfold hoB; rw [decide_eq_true (by rw [HL.out]; omega)]; have := hK.out.val; rw [ht] at this; rw [this]; rfl
      have E := Lib.hid hb
      have hone := hK.out.one
      rw [ht] at hone
      have HO := Lib.hid hone
      have hc0 := hone.c0
      have hc1 := hone.c1
      have n2 := hK.out.n2
      have hlG := hone.lg
      obtain ⟨S, hS⟩ : ∃ S, S = hS L := ⟨_, rfl⟩
      rw [← hS] at hc1 HO
      have ES := Lib.hid hS
      clear hK hlow ht hb hone hS
      have r0 : ((wr.setCell ⟨w.heap.size, 0, none⟩ (.slice (some ⟨G1, 0, none⟩) 21 c1)).setCell ⟨w.heap.size, 1, none⟩ (.int .i64 (S))).cell? ⟨w.heap.size, 0, none⟩ = some (.slice (some ⟨G1, 0, none⟩) 21 c1) := by rw [World.cell?_setCell_other _ _ _ _ (by simp)]; exact World.cell?_setCell_same' _ _ _ (by rw [e0]; rfl)
      have r1 : ((wr.setCell ⟨w.heap.size, 0, none⟩ (.slice (some ⟨G1, 0, none⟩) 21 c1)).setCell ⟨w.heap.size, 1, none⟩ (.int .i64 (S))).cell? ⟨w.heap.size, 1, none⟩ = some (.int .i64 (S)) := World.cell?_setCell_same' _ _ _ (by rw [World.cell?_setCell_other _ _ _ _ (by simp), e1]; rfl)
      go_wp2_with fail
      refine bodyPost_ret (v := .tuple #[.agg #[.slice (some ⟨G1, 0, none⟩) 21 c1, .int .i64 (S)], .bool true]) (by simp [results, Try.results16, go_sem, r0, r1]) rfl ?_
      rw [E.out, (ho_yes E.out).1, (ho_yes E.out).2, ← ES.out, hC_len]
      refine ⟨_, rfl, ?_, ?_⟩
      · exact (((HO.out.row (lo := G1) (hi := G1 + 1) (Nat.le_refl _) (Nat.lt_succ_self _)).setCell (p := ⟨w.heap.size, 0, none⟩) (.inl (by show w.heap.size < _; omega)) _).setCell (p := ⟨w.heap.size, 1, none⟩) (.inl (by show w.heap.size < _; omega)) _).wide (by omega) (by first | (simp [World.setCell]; done) | (simp [World.setCell]; omega))
      · exact ((HBw.out.setCell (p := ⟨w.heap.size, 0, none⟩) (by show _ ≤ w.heap.size; omega) _).setCell (p := ⟨w.heap.size, 1, none⟩) (by show _ ≤ w.heap.size; omega) _)
    case pos =>
    obtain ⟨g, og, rfl, hg, hcell⟩ := HC.out (by omega)
    obtain ⟨x, hx⟩ : ∃ x, L[k]? = some x := ⟨_, List.getElem?_eq_getElem (by rw [HL.out]; exact hlt)⟩
    have d0 : wr.cell? ⟨g, og + k, none⟩ = some (.int .i64 x) := by rw [HBw.out.cell (p := ⟨g, og + k, none⟩) (by show g < _; omega)]; exact hcell k x hx
    have k0 : (0 : Int) ≤ (k : Int) := by omega
    have k1 : (k : Int) < (n : Int) := by omega
    clear hcell
    cases hv : vB x with
    | false =>
      have hb : hoB L = false := by unfold hoB; rw [hV_at hx hv, Bool.and_false]
      have E := Lib.hid hb
      clear hK hlow hb hx HC
      go_upto_region 7 with fail
      go_wp2_with (go_at_call 48; refine (vok_any x _).mono ?_; rw [hv]; rintro e w3 ⟨rfl, rfl⟩)
      have r0 : ((wr.setCell ⟨w.heap.size, 0, none⟩ (.slice none 0 0)).setCell ⟨w.heap.size, 1, none⟩ (.int .i64 (0))).cell? ⟨w.heap.size, 0, none⟩ = some (.slice none 0 0) := by rw [World.cell?_setCell_other _ _ _ _ (by simp)]; exact World.cell?_setCell_same' _ _ _ (by rw [e0]; rfl)
      have r1 : ((wr.setCell ⟨w.heap.size, 0, none⟩ (.slice none 0 0)).setCell ⟨w.heap.size, 1, none⟩ (.int .i64 (0))).cell? ⟨w.heap.size, 1, none⟩ = some (.int .i64 (0)) := World.cell?_setCell_same' _ _ _ (by rw [World.cell?_setCell_other _ _ _ _ (by simp), e1]; rfl)
      go_wp2_with fail
      refine bodyPost_ret (v := .tuple #[.agg #[.slice none 0 0, .int .i64 (0)], .bool false]) (by simp [results, Try.results16, go_sem, r0, r1]) rfl ?_
      rw [E.out, (ho_no E.out).1, (ho_no E.out).2, List.length_nil]
      refine ⟨_, rfl, ?_, ?_⟩
      · exact (((Row.empty 1 wr wr.heap.size wr.heap.size none 0).setCell (p := ⟨w.heap.size, 0, none⟩) (.inl (by show w.heap.size < _; omega)) _).setCell (p := ⟨w.heap.size, 1, none⟩) (.inl (by show w.heap.size < _; omega)) _).wide (by omega) (by first | (simp [World.setCell]; done) | (simp [World.setCell]; omega))
      · exact ((HBw.out.setCell (p := ⟨w.heap.size, 0, none⟩) (by show _ ≤ w.heap.size; omega) _).setCell (p := ⟨w.heap.size, 1, none⟩) (by show _ ≤ w.heap.size; omega) _)
    | true =>
      obtain ⟨t1, t2, t3⟩ := hC_take hx
      rw [hK.out.val, hv] at t3
      obtain ⟨C2, s2, htwo⟩ := hK.out.two
      have HT := Lib.hid htwo
      have HO := Lib.hid hK.out.one
      have hbd := hK.out.bounds (by omega)
      have HBD := Lib.hid hbd
      obtain ⟨m1, m2, m3, m4⟩ := hK.out.n1
      obtain ⟨p1, p2, p3, p4, p5⟩ := hK.out.n2
      have HLow := Lib.hid hlow
      have HVal := Lib.hid t3
      have HTk := Lib.hid (And.intro t1 t2)
      have hlx := HO.out.lx
      have hlg := HO.out.lg
      have HV := Lib.hid hv
      have hxv := vB_iff.1 hv
      have HXV := Lib.hid hxv
      have hb21 := (bl_in hxv.1 hxv.2).1
      have HBL := Lib.hid hb21
      clear htwo hK hlow t1 t2 t3 hbd hx hxv hb21 e0 e1 g0 g1
      go_upto_region 7 with fail
      go_wp2_with (go_at_call 48; refine (vok_any x _).mono ?_; rw [hv]; rintro e w3 ⟨rfl, rfl⟩)
      clear hv d0
      go_at_call 49
      refine (ibec_any X2 G2 c2 C2 s2 x wr HT.out HV.out).mono ?_
      rintro e wa ⟨rfl, hA, hTa⟩
      have HA := Lib.hid hA
      have HTa := Lib.hid hTa
      have HO2 : Hid (HBx wa X1 G1 c1 (hC (L.take k)) (hS (L.take k))) := HO.out.two hTa m1 m2 m3 m4
      have ha0 := hA.c0
      have ha1 := hA.c1
      have hlga := hA.lg
      have hsza := hTa.size
      clear hA hTa HO HT
      obtain ⟨D, hD⟩ : ∃ D, D = inc H0 (bl x) := ⟨_, rfl⟩
      rw [← hD] at HA
      have HDD := Lib.hid hD
      clear hD
      go_wp2_with fail
      go_at_call 50
      refine (iadd_any X1 G1 c1 G2 (G2 + 1) _ (hC (L.take k)) D (hS (L.take k)) x 1 wa HO2.out (HA.out.row (Nat.le_refl _) (Nat.lt_succ_self _)) (by omega) (by omega) (by omega) HBD.out.1 (by rw [HDD.out]; exact one_in HV.out) (.inl rfl) HBD.out.2 (by have := HXV.out; omega)).mono ?_
      rintro e wb ⟨rfl, hB, hTb⟩
      have HN : Hid (HoK w q4 X1 G1 X2 G2 c1 c2 L (k + 1) wb) := by
        refine ⟨?_, ⟨_, _, HA.out.two hTb m1.symm m3.symm m2.symm m4.symm⟩, ?_, HVal.out, ⟨m1, m2, m3, m4⟩, ⟨p1, p2, p3, p4, p5⟩⟩
        · rw [HTk.out.1, HTk.out.2]
          have h := hB
          rw [HDD.out, comb_one _ _ (hC_len _) HBL.out, Int.one_mul] at h
          exact h
        · exact (HLow.out.trans (HTa.out.below (by omega) (by omega) (by omega))).trans (hTb.below (by omega) (by omega) (by omega))
      clear hB hTb HO2 HA HTa ha0 ha1 HBD HLow HTk HDD
      go_wp2_with fail
      go_roundw
      case rel => exact ⟨k + 1, by omega, by go_num, HN⟩
      case measure => simp [intOf]; omega

end Go.Proofs.Ytcchoiobdcaboaa
