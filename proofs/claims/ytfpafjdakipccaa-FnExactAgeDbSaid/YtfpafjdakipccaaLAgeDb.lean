/- The law of AgeDb over contracts. -/
import Derived.Deep.DeepCutAuto
import Derived.Test.YtfpafjdakipccaaGw
import Derived.Test.YtfpafjdakipccaaGy
import Derived.Test.YtfpafjdakipccaaGk
import Derived.Test.YtfpafjdakipccaaGu
import Derived.Test.YtfpafjdakipccaaGn
import Derived.Test.YtfpafjdakipccaaGi
namespace Go.Proofs.Ytfpafjdakipccaa
open Go.RowKit


theorem ra4_keep {w w1 w2 : World} {b0 b1 b2 b3 o0 o1 o2 o3 : Nat} {v0 v1 v2 v3 : Value} (l0 : b0 < w.heap.size) (l1 : b1 < w.heap.size) (l2 : b2 < w.heap.size) (l3 : b3 < w.heap.size) (hb : Below w1.heap.size w1 w2) (h : w1.cell? ⟨b0, o0, none⟩ = some v0 ∧ w1.cell? ⟨b1, o1, none⟩ = some v1 ∧ w1.cell? ⟨b2, o2, none⟩ = some v2 ∧ w1.cell? ⟨b3, o3, none⟩ = some v3 ∧ w.heap.size ≤ w1.heap.size ∧ Below w.heap.size w w1) : w2.cell? ⟨b0, o0, none⟩ = some v0 ∧ w2.cell? ⟨b1, o1, none⟩ = some v1 ∧ w2.cell? ⟨b2, o2, none⟩ = some v2 ∧ w2.cell? ⟨b3, o3, none⟩ = some v3 ∧ w.heap.size ≤ w2.heap.size ∧ Below w.heap.size w w2 := by
  obtain ⟨h0, h1, h2, h3, hs, hB⟩ := h
  obtain ⟨hc, hf⟩ := bcell hb
  have hz := hb.size
  exact ⟨by rw [hc _ _ (by omega)]; exact h0, by rw [hc _ _ (by omega)]; exact h1, by rw [hc _ _ (by omega)]; exact h2, by rw [hc _ _ (by omega)]; exact h3, by omega, hB.trans (hb.mono (by omega))⟩
theorem ra4_drew {w w1 : World} {b0 b1 b2 b3 o0 o1 o2 o3 : Nat} {v0 v1 v2 v3 : Value} (h : w1.cell? ⟨b0, o0, none⟩ = some v0 ∧ w1.cell? ⟨b1, o1, none⟩ = some v1 ∧ w1.cell? ⟨b2, o2, none⟩ = some v2 ∧ w1.cell? ⟨b3, o3, none⟩ = some v3 ∧ w.heap.size ≤ w1.heap.size ∧ Below w.heap.size w w1) : w1.drew.cell? ⟨b0, o0, none⟩ = some v0 ∧ w1.drew.cell? ⟨b1, o1, none⟩ = some v1 ∧ w1.drew.cell? ⟨b2, o2, none⟩ = some v2 ∧ w1.drew.cell? ⟨b3, o3, none⟩ = some v3 ∧ w.heap.size ≤ w1.drew.heap.size ∧ Below w.heap.size w w1.drew := by
  obtain ⟨h0, h1, h2, h3, hs, hB⟩ := h
  exact ⟨h0, h1, h2, h3, hs, hB.drew⟩
theorem ra4_start {w : World} {b0 b1 b2 b3 o0 o1 o2 o3 : Nat} {v0 v1 v2 v3 : Value} (h0 : w.cell? ⟨b0, o0, none⟩ = some v0) (h1 : w.cell? ⟨b1, o1, none⟩ = some v1) (h2 : w.cell? ⟨b2, o2, none⟩ = some v2) (h3 : w.cell? ⟨b3, o3, none⟩ = some v3) : w.drew.cell? ⟨b0, o0, none⟩ = some v0 ∧ w.drew.cell? ⟨b1, o1, none⟩ = some v1 ∧ w.drew.cell? ⟨b2, o2, none⟩ = some v2 ∧ w.drew.cell? ⟨b3, o3, none⟩ = some v3 ∧ w.heap.size ≤ w.drew.heap.size ∧ Below w.heap.size w w.drew := ⟨h0, h1, h2, h3, Nat.le_refl _, (Below.refl _ _).drew⟩
theorem ra4_box {w w1 : World} {o : Obj} {b0 b1 b2 b3 o0 o1 o2 o3 : Nat} {v0 v1 v2 v3 : Value} (l0 : b0 < w.heap.size) (l1 : b1 < w.heap.size) (l2 : b2 < w.heap.size) (l3 : b3 < w.heap.size) (h : w1.cell? ⟨b0, o0, none⟩ = some v0 ∧ w1.cell? ⟨b1, o1, none⟩ = some v1 ∧ w1.cell? ⟨b2, o2, none⟩ = some v2 ∧ w1.cell? ⟨b3, o3, none⟩ = some v3 ∧ w.heap.size ≤ w1.heap.size ∧ Below w.heap.size w w1) : (w1.alloc o).cell? ⟨b0, o0, none⟩ = some v0 ∧ (w1.alloc o).cell? ⟨b1, o1, none⟩ = some v1 ∧ (w1.alloc o).cell? ⟨b2, o2, none⟩ = some v2 ∧ (w1.alloc o).cell? ⟨b3, o3, none⟩ = some v3 ∧ w.heap.size ≤ (w1.alloc o).heap.size ∧ Below w.heap.size w (w1.alloc o) :=
  ra4_keep l0 l1 l2 l3 ((Below.refl _ _).alloc (Nat.le_refl _) o) h
theorem ra4_out {w w1 : World} {b0 b1 b2 b3 o0 o1 o2 o3 : Nat} {v0 v1 v2 v3 : Value} (h : w1.cell? ⟨b0, o0, none⟩ = some v0 ∧ w1.cell? ⟨b1, o1, none⟩ = some v1 ∧ w1.cell? ⟨b2, o2, none⟩ = some v2 ∧ w1.cell? ⟨b3, o3, none⟩ = some v3 ∧ w.heap.size ≤ w1.heap.size ∧ Below w.heap.size w w1) : w.heap.size ≤ w1.heap.size ∧ Below w.heap.size w w1 := h.2.2.2.2

theorem markIntS_G (k0 K : Int) (h0 : 0 ≤ k0) (h1 : k0 ≤ 100000000) (Z : List Int) (n lo hi : Nat) (v : Value) (w : World) (hK : K = k0 + ((n * 1 : Nat) : Int)) (hr : Row 1 w lo hi v n Z) (hl : n ≤ 1100000) :
    Calls Try.prog 36 #[v, .int .i64 k0] w fun e w' => e = .returned (.int .i64 K) ∧ Row 1 w' lo hi v n (marks k0 (n * 1)) ∧ Tur lo hi w w' := by
  subst hK
  obtain ⟨h00, hr⟩ := hr
  rcases hr with ⟨hL, a, c, rfl⟩ | ⟨g, cap, rfl, h1', h2, h3, h4, h5⟩
  · subst hL
    exact (markIntS_nil a c k0 w).mono fun _ _ ⟨q1, q2⟩ => by subst q2; exact ⟨by rw [q1]; simp, ⟨by simp [marks_len], .inl ⟨rfl, a, c, rfl⟩⟩, Tur.refl _ _ _⟩
  · refine (markIntS_some g n cap Z k0 w h00 h3 h0 (by omega) h4 h5).mono fun e w' ⟨he, hM⟩ => ⟨he, ⟨marks_len _ _, .inr ⟨g, cap, rfl, h1', h2, h3, fun q z hz => ?_, hM.2.1⟩⟩, Tur.of (Turned.of_only hM.1 (.inl ⟨h1', h2⟩))⟩
    have hq : q < n * 1 := by have := (List.getElem?_eq_some_iff.1 hz).1; rwa [marks_len] at this
    rw [marks_at _ _ _ hq] at hz
    obtain rfl := Option.some.inj hz
    exact hM.2.2.1 q hq
theorem heldIntS_G (k0 K : Int) (h0 : 0 ≤ k0) (h1 : k0 ≤ 100000000) (n lo hi : Nat) (v : Value) (w : World) (hK : K = k0 + ((n * 1 : Nat) : Int)) (hr : Row 1 w lo hi v n (marks k0 (n * 1))) (hl : n ≤ 1100000) :
    Calls Try.prog 37 #[v, .int .i64 k0] w fun e w' => e = .returned (.int .i64 K) ∧ w = w' := by
  subst hK
  obtain ⟨a, c, rfl, hn, hc⟩ := hr.opened
  refine heldIntS_row n a c k0 w hl h0 (by omega) fun h => ?_
  obtain ⟨g, h1', _, h3⟩ := hc h
  exact ⟨g, h1', fun q hq => h3 q _ (marks_at _ _ _ (by omega))⟩

set_option maxRecDepth 100000 in
set_option maxHeartbeats 8000000 in
theorem lawExactAgeDb_fit (v0 : Value) (D0 : List Ls) (a1 : Int) (w : World) (hA0 : DArg w v0 D0) (hn : dtot D0 ≤ 1048576) (DR : List Ls) (ng : Nat) (ZG : List Int) (hDR : mtot DR ≤ 5000000) (hng : ng ≤ 1100000)
    (hs : ∀ (lo0 hi0 : Nat) (v0 : Value) (w : World), DRow w lo0 hi0 v0 D0 → hi0 ≤ w.heap.size → Calls Try.prog 33 #[.agg #[v0], .int .i64 a1] w fun e w' => ∃ rv gv, e = .returned (.tuple #[.agg #[rv], gv]) ∧ DRow w' w.heap.size w'.heap.size rv DR ∧ Row 1 w' w.heap.size w'.heap.size gv ng ZG ∧ Below w.heap.size w w')
    (hi : ∀ (lo0 hi0 : Nat) (v0 : Value) (w : World), DRow w lo0 hi0 v0 D0 → hi0 ≤ w.heap.size → Calls Try.prog 34 #[.agg #[v0], .int .i64 a1] w fun e w' => ∃ rv gv mid, e = .returned (.tuple #[.agg #[rv], gv]) ∧ DRow w' mid w'.heap.size rv DR ∧ Row 1 w' w.heap.size mid gv ng ZG ∧ (w.heap.size ≤ mid ∧ mid ≤ w'.heap.size) ∧ Below w.heap.size w w') :
    Calls Try.prog 7 #[.agg #[v0], .int .i64 a1] w fun e w' => e = .returned (.bool true) ∧ Below w.heap.size w w' := by
  have HA0 := Lib.hid hA0
  obtain ⟨ad0, cp0, rfl⟩ := hA0.slice
  clear hA0
  have Hs := Lib.hid hs
  have Hi := Lib.hid hi
  clear hs hi
  have hmt0 := mtot_le D0
  obtain ⟨KX0, hKX0⟩ : ∃ K : Int, K = 1 + ((mtot D0 : Nat) : Int) := ⟨_, rfl⟩
  have hKX00 : 0 ≤ KX0 := by omega
  have hKX01 : ¬ (KX0 < 0) := by omega
  have hKX0b : KX0 ≤ 100000000 := by omega
  have HKX0 := Lib.hid hKX0
  clear hKX0
  obtain ⟨KD, hKD⟩ : ∃ K : Int, K = 1 + ((mtot DR : Nat) : Int) := ⟨_, rfl⟩
  have hKD0 : 0 ≤ KD := by omega
  have hKD1 : ¬ (KD < 0) := by omega
  have hKDb : KD ≤ 100000000 := by omega
  have HKD := Lib.hid hKD
  clear hKD
  obtain ⟨KG, hKG⟩ : ∃ K : Int, K = KD + ((ng * 1 : Nat) : Int) := ⟨_, rfl⟩
  have hKG0 : 0 ≤ KG := by omega
  have hKG1 : ¬ (KG < 0) := by omega
  have hKGb : KG ≤ 200000000 := by omega
  have HKG := Lib.hid hKG
  clear hKG
  have hneg0 : ¬ ((1048576 : Int) - (dtot D0 : Int) < 0) := by omega
  go_enter Try.func7, Try.ntmps7
  go_wp2_with fail
  go_at_call 18
  refine (szDb_fit _ D0 (1048576) _ (HA0.out.below (Below.trans (Below.refl _ _) (by go_grown))) (by omega) (by omega)).mono ?_
  rintro e w1 ⟨rfl, hb1⟩
  have sz1 : w.heap.size + 1 ≤ w1.heap.size := by have hh := hb1.size; simp at hh; omega
  have st1 : Below w.heap.size w w1 := Below.trans (by go_grown) (hb1.mono (by simp))
  have c1_0_0 : w1.cell? ⟨w.heap.size, 0, none⟩ = some (.slice ad0 D0.length cp0) := by rw [(bcell hb1).1 _ _ (by simp), new_at (by simp)]; rfl
  have B1 : Hid (Below w.heap.size w w1) := st1
  have d1_0 : w.heap.size < w1.heap.size := by omega
  have e1_0 : w.heap.size ≠ w1.heap.size := by omega
  clear st1 hb1
  go_wp2_with fail
  go_at_call 19
  refine (toDb_any _ D0 _ (HA0.out.below B1.out) (by omega)).mono ?_
  rintro e w2 ⟨xs0, rfl, hr, hb2⟩
  have sz2 : w1.heap.size ≤ w2.heap.size := hb2.size
  have st2 : Below w1.heap.size w1 w2 := hb2
  have c2_0_0 : w2.cell? ⟨w.heap.size, 0, none⟩ = some (.slice ad0 D0.length cp0) := by rw [(bcell st2).1 _ _ (by omega)]; exact c1_0_0
  have B2 : Hid (Below w.heap.size w w2) := B1.out.trans (st2.mono (by omega))
  have R2_s0 : Hid (DRow w2 (w1.heap.size) (w2.heap.size) xs0 D0) := Lib.hid (hr)
  have d2_0 : w.heap.size < w2.heap.size := by omega
  have e2_0 : w.heap.size ≠ w2.heap.size := by omega
  clear d1_0 e1_0 c1_0_0 B1 st2 hr hb2
  go_wp2_with fail
  go_at_call 33
  refine (Hs.out _ _ xs0 _ R2_s0.out (by first | omega | (simp; omega) | simp)).mono ?_
  rintro e w3 ⟨Wv, Wg, rfl, hr, hg, hb3⟩
  have sz3 : w2.heap.size ≤ w3.heap.size := hb3.size
  have st3 : Below w2.heap.size w2 w3 := hb3
  have c3_0_0 : w3.cell? ⟨w.heap.size, 0, none⟩ = some (.slice ad0 D0.length cp0) := by rw [(bcell st3).1 _ _ (by omega)]; exact c2_0_0
  have B3 : Hid (Below w.heap.size w w3) := B2.out.trans (st3.mono (by omega))
  have R3_s0 : Hid (DRow w3 (w1.heap.size) (w2.heap.size) xs0 D0) := Lib.hid (R2_s0.out.below st3 (by omega))
  have R3_RW : Hid (DRow w3 (w2.heap.size) (w3.heap.size) Wv DR) := Lib.hid (hr)
  have R3_SW : Hid (Row 1 w3 (w2.heap.size) (w3.heap.size) Wg ng ZG) := Lib.hid (hg)
  have d3_0 : w.heap.size < w3.heap.size := by omega
  have e3_0 : w.heap.size ≠ w3.heap.size := by omega
  clear d2_0 e2_0 c2_0_0 R2_s0 B2 st3 hr hg hb3
  obtain ⟨Wva, Wvc, rfl⟩ := R3_RW.out.slice
  obtain ⟨Wga, Wgc, rfl⟩ := R3_SW.out.slice
  go_wp2_with fail
  go_at_call 19
  refine (toDb_any _ D0 _ (HA0.out.below (Below.trans B3.out (by go_grown))) (by omega)).mono ?_
  rintro e w4 ⟨xx0, rfl, hr, hb4⟩
  have sz4 : w3.heap.size + 1 ≤ w4.heap.size := by have hh := hb4.size; simp at hh; omega
  have st4 : Below w3.heap.size w3 w4 := Below.trans (by go_grown) (hb4.mono (by simp))
  have c4_0_0 : w4.cell? ⟨w.heap.size, 0, none⟩ = some (.slice ad0 D0.length cp0) := by rw [(bcell st4).1 _ _ (by omega)]; exact c3_0_0
  have c4_1_0 : w4.cell? ⟨w3.heap.size, 0, none⟩ = some (.slice Wva DR.length Wvc) := by rw [(bcell hb4).1 _ _ (by simp), new_at (by simp)]; rfl
  have B4 : Hid (Below w.heap.size w w4) := B3.out.trans (st4.mono (by omega))
  have R4_RW : Hid (DRow w4 (w2.heap.size) (w3.heap.size) (.slice Wva DR.length Wvc) DR) := Lib.hid (R3_RW.out.below st4 (by omega))
  have R4_SW : Hid (Row 1 w4 (w2.heap.size) (w3.heap.size) (.slice Wga ng Wgc) ng ZG) := Lib.hid (R3_SW.out.below st4 (by omega))
  have R4_x0 : Hid (DRow w4 (w3.heap.size + 1) (w4.heap.size) xx0 D0) := Lib.hid (hr.wide (by simp) (Nat.le_refl _))
  have d4_0 : w.heap.size < w4.heap.size := by omega
  have e4_0 : w.heap.size ≠ w4.heap.size := by omega
  have d4_1 : w3.heap.size < w4.heap.size := by omega
  have e4_1 : w3.heap.size ≠ w4.heap.size := by omega
  clear d3_0 e3_0 c3_0_0 R3_RW R3_SW B3 st4 hb4
  obtain ⟨xx0a, xx0c, rfl⟩ := R4_x0.out.slice
  go_wp2_with fail
  go_at_call 34
  refine (Hi.out _ _ (.slice xx0a D0.length xx0c) _ (R4_x0.out.below (B := w4.heap.size) (by go_grown) (by omega)) (by first | omega | (simp; omega) | simp)).mono ?_
  rintro e w5 ⟨Gv, Gg, mdG, rfl, hr, hg, ⟨hq1, hq2⟩, hb5⟩
  have sz5 : w4.heap.size + 1 ≤ w5.heap.size := by have hh := hb5.size; simp at hh; omega
  have st5 : Below w4.heap.size w4 w5 := Below.trans (by go_grown) (hb5.mono (by simp))
  have c5_0_0 : w5.cell? ⟨w.heap.size, 0, none⟩ = some (.slice ad0 D0.length cp0) := by rw [(bcell st5).1 _ _ (by omega)]; exact c4_0_0
  have c5_1_0 : w5.cell? ⟨w3.heap.size, 0, none⟩ = some (.slice Wva DR.length Wvc) := by rw [(bcell st5).1 _ _ (by omega)]; exact c4_1_0
  have c5_2_0 : w5.cell? ⟨w4.heap.size, 0, none⟩ = some ((.slice xx0a D0.length xx0c)) := by rw [(bcell hb5).1 _ _ (by simp), new_at (by simp)]; rfl
  have B5 : Hid (Below w.heap.size w w5) := B4.out.trans (st5.mono (by omega))
  have R5_RW : Hid (DRow w5 (w2.heap.size) (w3.heap.size) (.slice Wva DR.length Wvc) DR) := Lib.hid (R4_RW.out.below st5 (by omega))
  have R5_SW : Hid (Row 1 w5 (w2.heap.size) (w3.heap.size) (.slice Wga ng Wgc) ng ZG) := Lib.hid (R4_SW.out.below st5 (by omega))
  have R5_x0 : Hid (DRow w5 (w3.heap.size + 1) (w4.heap.size) (.slice xx0a D0.length xx0c) D0) := Lib.hid (R4_x0.out.below st5 (by omega))
  have R5_RG : Hid (DRow w5 (mdG) (w5.heap.size) Gv DR) := Lib.hid (hr)
  have R5_SG : Hid (Row 1 w5 (w4.heap.size + 1) (mdG) Gg ng ZG) := Lib.hid (hg.wide (by simp) (Nat.le_refl _))
  have d5_0 : w.heap.size < w5.heap.size := by omega
  have e5_0 : w.heap.size ≠ w5.heap.size := by omega
  have d5_1 : w3.heap.size < w5.heap.size := by omega
  have e5_1 : w3.heap.size ≠ w5.heap.size := by omega
  have d5_2 : w4.heap.size < w5.heap.size := by omega
  have e5_2 : w4.heap.size ≠ w5.heap.size := by omega
  clear d4_0 e4_0 d4_1 e4_1 c4_0_0 c4_1_0 R4_RW R4_SW R4_x0 B4 st5 hr hb5
  have hqG : w4.heap.size + 1 ≤ mdG := by have h := hq1; simp at h; omega
  clear hq1 hg
  have hrG := hq2
  clear hq2
  obtain ⟨Gva, Gvc, rfl⟩ := R5_RG.out.slice
  obtain ⟨Gga, Ggc, rfl⟩ := R5_SG.out.slice
  go_wp2_with fail
  go_at_call 21
  refine (eqDb_same DR _ _ _ _ _ _ _ (R5_RG.out.below (B := w5.heap.size) (by go_grown) (by omega)) (R5_RW.out.below (B := w5.heap.size) (by go_grown) (by omega)) (by first | omega | (simp; omega) | simp) (by first | omega | (simp; omega) | simp)).mono ?_
  rintro e w6 ⟨rfl, hb6⟩
  have sz6 : w5.heap.size + 1 ≤ w6.heap.size := by have hh := hb6.size; simp at hh; omega
  have st6 : Below w5.heap.size w5 w6 := Below.trans (by go_grown) (hb6.mono (by simp))
  have c6_0_0 : w6.cell? ⟨w.heap.size, 0, none⟩ = some (.slice ad0 D0.length cp0) := by rw [(bcell st6).1 _ _ (by omega)]; exact c5_0_0
  have c6_1_0 : w6.cell? ⟨w3.heap.size, 0, none⟩ = some (.slice Wva DR.length Wvc) := by rw [(bcell st6).1 _ _ (by omega)]; exact c5_1_0
  have c6_2_0 : w6.cell? ⟨w4.heap.size, 0, none⟩ = some ((.slice xx0a D0.length xx0c)) := by rw [(bcell st6).1 _ _ (by omega)]; exact c5_2_0
  have c6_3_0 : w6.cell? ⟨w5.heap.size, 0, none⟩ = some (.slice Gva DR.length Gvc) := by rw [(bcell hb6).1 _ _ (by simp), new_at (by simp)]; rfl
  have B6 : Hid (Below w.heap.size w w6) := B5.out.trans (st6.mono (by omega))
  have R6_RW : Hid (DRow w6 (w2.heap.size) (w3.heap.size) (.slice Wva DR.length Wvc) DR) := Lib.hid (R5_RW.out.below st6 (by omega))
  have R6_SW : Hid (Row 1 w6 (w2.heap.size) (w3.heap.size) (.slice Wga ng Wgc) ng ZG) := Lib.hid (R5_SW.out.below st6 (by omega))
  have R6_x0 : Hid (DRow w6 (w3.heap.size + 1) (w4.heap.size) (.slice xx0a D0.length xx0c) D0) := Lib.hid (R5_x0.out.below st6 (by omega))
  have R6_RG : Hid (DRow w6 (mdG) (w5.heap.size) (.slice Gva DR.length Gvc) DR) := Lib.hid (R5_RG.out.below st6 (by omega))
  have R6_SG : Hid (Row 1 w6 (w4.heap.size + 1) (mdG) (.slice Gga ng Ggc) ng ZG) := Lib.hid (R5_SG.out.below st6 (by omega))
  have d6_0 : w.heap.size < w6.heap.size := by omega
  have e6_0 : w.heap.size ≠ w6.heap.size := by omega
  have d6_1 : w3.heap.size < w6.heap.size := by omega
  have e6_1 : w3.heap.size ≠ w6.heap.size := by omega
  have d6_2 : w4.heap.size < w6.heap.size := by omega
  have e6_2 : w4.heap.size ≠ w6.heap.size := by omega
  have d6_3 : w5.heap.size < w6.heap.size := by omega
  have e6_3 : w5.heap.size ≠ w6.heap.size := by omega
  clear d5_0 e5_0 d5_1 e5_1 d5_2 e5_2 c5_0_0 c5_1_0 c5_2_0 R5_RW R5_SW R5_x0 R5_RG R5_SG B5 st6 hb6
  go_wp2_with fail
  go_at_call 35
  refine (eqIntS_same ZG ng _ _ _ _ _ _ _ R6_SG.out R6_SW.out (by first | omega | (simp; omega) | simp) (by first | omega | (simp; omega) | simp)).mono ?_
  rintro e w7 ⟨rfl, hb7⟩
  have sz7 : w6.heap.size ≤ w7.heap.size := hb7.size
  have st7 : Below w6.heap.size w6 w7 := hb7
  have c7_0_0 : w7.cell? ⟨w.heap.size, 0, none⟩ = some (.slice ad0 D0.length cp0) := by rw [(bcell st7).1 _ _ (by omega)]; exact c6_0_0
  have c7_1_0 : w7.cell? ⟨w3.heap.size, 0, none⟩ = some (.slice Wva DR.length Wvc) := by rw [(bcell st7).1 _ _ (by omega)]; exact c6_1_0
  have c7_2_0 : w7.cell? ⟨w4.heap.size, 0, none⟩ = some ((.slice xx0a D0.length xx0c)) := by rw [(bcell st7).1 _ _ (by omega)]; exact c6_2_0
  have c7_3_0 : w7.cell? ⟨w5.heap.size, 0, none⟩ = some (.slice Gva DR.length Gvc) := by rw [(bcell st7).1 _ _ (by omega)]; exact c6_3_0
  have B7 : Hid (Below w.heap.size w w7) := B6.out.trans (st7.mono (by omega))
  have R7_RW : Hid (DRow w7 (w2.heap.size) (w3.heap.size) (.slice Wva DR.length Wvc) DR) := Lib.hid (R6_RW.out.below st7 (by omega))
  have R7_SW : Hid (Row 1 w7 (w2.heap.size) (w3.heap.size) (.slice Wga ng Wgc) ng ZG) := Lib.hid (R6_SW.out.below st7 (by omega))
  have R7_x0 : Hid (DRow w7 (w3.heap.size + 1) (w4.heap.size) (.slice xx0a D0.length xx0c) D0) := Lib.hid (R6_x0.out.below st7 (by omega))
  have R7_RG : Hid (DRow w7 (mdG) (w5.heap.size) (.slice Gva DR.length Gvc) DR) := Lib.hid (R6_RG.out.below st7 (by omega))
  have R7_SG : Hid (Row 1 w7 (w4.heap.size + 1) (mdG) (.slice Gga ng Ggc) ng ZG) := Lib.hid (R6_SG.out.below st7 (by omega))
  have d7_0 : w.heap.size < w7.heap.size := by omega
  have e7_0 : w.heap.size ≠ w7.heap.size := by omega
  have d7_1 : w3.heap.size < w7.heap.size := by omega
  have e7_1 : w3.heap.size ≠ w7.heap.size := by omega
  have d7_2 : w4.heap.size < w7.heap.size := by omega
  have e7_2 : w4.heap.size ≠ w7.heap.size := by omega
  have d7_3 : w5.heap.size < w7.heap.size := by omega
  have e7_3 : w5.heap.size ≠ w7.heap.size := by omega
  clear d6_0 e6_0 d6_1 e6_1 d6_2 e6_2 d6_3 e6_3 c6_0_0 c6_1_0 c6_2_0 c6_3_0 R6_RW R6_SW R6_x0 R6_RG R6_SG B6 st7 hb7
  go_wp2_with fail
  go_region_held3 (fun w' => w'.cell? ⟨w.heap.size, 0, none⟩ = some (.slice ad0 D0.length cp0) ∧ w'.cell? ⟨w3.heap.size, 0, none⟩ = some (.slice Wva DR.length Wvc) ∧ w'.cell? ⟨w4.heap.size, 0, none⟩ = some ((.slice xx0a D0.length xx0c)) ∧ w'.cell? ⟨w5.heap.size, 0, none⟩ = some (.slice Gva DR.length Gvc) ∧ w7.heap.size ≤ w'.heap.size ∧ Below w7.heap.size w7 w') (first | assumption | exact ra4_start c7_0_0 c7_1_0 c7_2_0 c7_3_0 | exact ra4_drew (by assumption) | exact ra4_keep (by omega) (by omega) (by omega) (by omega) (by assumption) (by assumption))
    (first | (go_at_call 19; refine (toDb_any _ D0 _ (HA0.out.below (B7.out.trans ((ra4_out (by assumption)).2.mono (by omega)))) (by omega)).mono ?_; rintro e w8 ⟨xz0, rfl, ry0, hb⟩; have hz8 := hb.size) | (go_at_call 21; refine (eqDb_same D0 _ _ _ _ _ _ _ (R7_x0.out.below (ra4_out (by assumption)).2 (by omega)) ry0 (by have hq := ra4_out (by assumption); omega) (Nat.le_refl _)).mono ?_; rintro e w9 ⟨rfl, hb⟩))
  have hb9 : Below w7.heap.size w7 w9 := (ra4_out (by assumption)).2
  have sz9 : w7.heap.size ≤ w9.heap.size := hb9.size
  have st9 : Below w7.heap.size w7 w9 := hb9
  have c9_0_0 : w9.cell? ⟨w.heap.size, 0, none⟩ = some (.slice ad0 D0.length cp0) := by rw [(bcell st9).1 _ _ (by omega)]; exact c7_0_0
  have c9_1_0 : w9.cell? ⟨w3.heap.size, 0, none⟩ = some (.slice Wva DR.length Wvc) := by rw [(bcell st9).1 _ _ (by omega)]; exact c7_1_0
  have c9_2_0 : w9.cell? ⟨w4.heap.size, 0, none⟩ = some ((.slice xx0a D0.length xx0c)) := by rw [(bcell st9).1 _ _ (by omega)]; exact c7_2_0
  have c9_3_0 : w9.cell? ⟨w5.heap.size, 0, none⟩ = some (.slice Gva DR.length Gvc) := by rw [(bcell st9).1 _ _ (by omega)]; exact c7_3_0
  have B9 : Hid (Below w.heap.size w w9) := B7.out.trans (st9.mono (by omega))
  have R9_RW : Hid (DRow w9 (w2.heap.size) (w3.heap.size) (.slice Wva DR.length Wvc) DR) := Lib.hid (R7_RW.out.below st9 (by omega))
  have R9_SW : Hid (Row 1 w9 (w2.heap.size) (w3.heap.size) (.slice Wga ng Wgc) ng ZG) := Lib.hid (R7_SW.out.below st9 (by omega))
  have R9_x0 : Hid (DRow w9 (w3.heap.size + 1) (w4.heap.size) (.slice xx0a D0.length xx0c) D0) := Lib.hid (R7_x0.out.below st9 (by omega))
  have R9_RG : Hid (DRow w9 (mdG) (w5.heap.size) (.slice Gva DR.length Gvc) DR) := Lib.hid (R7_RG.out.below st9 (by omega))
  have R9_SG : Hid (Row 1 w9 (w4.heap.size + 1) (mdG) (.slice Gga ng Ggc) ng ZG) := Lib.hid (R7_SG.out.below st9 (by omega))
  have d9_0 : w.heap.size < w9.heap.size := by omega
  have e9_0 : w.heap.size ≠ w9.heap.size := by omega
  have d9_1 : w3.heap.size < w9.heap.size := by omega
  have e9_1 : w3.heap.size ≠ w9.heap.size := by omega
  have d9_2 : w4.heap.size < w9.heap.size := by omega
  have e9_2 : w4.heap.size ≠ w9.heap.size := by omega
  have d9_3 : w5.heap.size < w9.heap.size := by omega
  have e9_3 : w5.heap.size ≠ w9.heap.size := by omega
  clear d7_0 e7_0 d7_1 e7_1 d7_2 e7_2 d7_3 e7_3 c7_0_0 c7_1_0 c7_2_0 c7_3_0 R7_RW R7_SW R7_x0 R7_RG R7_SG B7 st9 hb9
  go_wp2_with fail
  go_at_call 25
  refine (markDb_K KX0 D0 _ _ _ _ HKX0.out R9_x0.out (by omega) (by first | omega | (simp; omega))).mono ?_
  rintro e w10 ⟨rfl, hr, hb10⟩
  have sz10 : w9.heap.size ≤ w10.heap.size := hb10.size
  have c10_0_0 : w10.cell? ⟨w.heap.size, 0, none⟩ = some (.slice ad0 D0.length cp0) := by rw [hb10.cell (by omega) (by omega)]; exact c9_0_0
  have c10_1_0 : w10.cell? ⟨w3.heap.size, 0, none⟩ = some (.slice Wva DR.length Wvc) := by rw [hb10.cell (by omega) (by omega)]; exact c9_1_0
  have c10_2_0 : w10.cell? ⟨w4.heap.size, 0, none⟩ = some ((.slice xx0a D0.length xx0c)) := by rw [hb10.cell (by omega) (by omega)]; exact c9_2_0
  have c10_3_0 : w10.cell? ⟨w5.heap.size, 0, none⟩ = some (.slice Gva DR.length Gvc) := by rw [hb10.cell (by omega) (by omega)]; exact c9_3_0
  have B10 : Hid (Below w.heap.size w w10) := B9.out.trans (hb10.below (by omega) (by omega))
  have R10_RW : Hid (DRow w10 (w2.heap.size) (w3.heap.size) (.slice Wva DR.length Wvc) DR) := Lib.hid (hb10.drow R9_RW.out (by omega) (by omega))
  have R10_SW : Hid (Row 1 w10 (w2.heap.size) (w3.heap.size) (.slice Wga ng Wgc) ng ZG) := Lib.hid (hb10.row R9_SW.out (by omega) (by omega))
  have R10_RG : Hid (DRow w10 (mdG) (w5.heap.size) (.slice Gva DR.length Gvc) DR) := Lib.hid (hb10.drow R9_RG.out (by omega) (by omega))
  have R10_SG : Hid (Row 1 w10 (w4.heap.size + 1) (mdG) (.slice Gga ng Ggc) ng ZG) := Lib.hid (hb10.row R9_SG.out (by omega) (by omega))
  have R10_x0 : Hid (DRow w10 (w3.heap.size + 1) (w4.heap.size) (.slice xx0a D0.length xx0c) (dmk D0)) := Lib.hid (hr)
  have d10_0 : w.heap.size < w10.heap.size := by omega
  have e10_0 : w.heap.size ≠ w10.heap.size := by omega
  have d10_1 : w3.heap.size < w10.heap.size := by omega
  have e10_1 : w3.heap.size ≠ w10.heap.size := by omega
  have d10_2 : w4.heap.size < w10.heap.size := by omega
  have e10_2 : w4.heap.size ≠ w10.heap.size := by omega
  have d10_3 : w5.heap.size < w10.heap.size := by omega
  have e10_3 : w5.heap.size ≠ w10.heap.size := by omega
  clear d9_0 e9_0 d9_1 e9_1 d9_2 e9_2 d9_3 e9_3 c9_0_0 c9_1_0 c9_2_0 c9_3_0 R9_RW R9_SW R9_x0 R9_RG R9_SG B9 hr hb10
  go_wp2_with fail
  go_at_call 21
  refine (eqDb_same DR _ _ _ _ _ _ _ R10_RG.out R10_RW.out (by first | omega | (simp; omega) | simp) (by first | omega | (simp; omega) | simp)).mono ?_
  rintro e w11 ⟨rfl, hb11⟩
  have sz11 : w10.heap.size ≤ w11.heap.size := hb11.size
  have st11 : Below w10.heap.size w10 w11 := hb11
  have c11_0_0 : w11.cell? ⟨w.heap.size, 0, none⟩ = some (.slice ad0 D0.length cp0) := by rw [(bcell st11).1 _ _ (by omega)]; exact c10_0_0
  have c11_1_0 : w11.cell? ⟨w3.heap.size, 0, none⟩ = some (.slice Wva DR.length Wvc) := by rw [(bcell st11).1 _ _ (by omega)]; exact c10_1_0
  have c11_2_0 : w11.cell? ⟨w4.heap.size, 0, none⟩ = some ((.slice xx0a D0.length xx0c)) := by rw [(bcell st11).1 _ _ (by omega)]; exact c10_2_0
  have c11_3_0 : w11.cell? ⟨w5.heap.size, 0, none⟩ = some (.slice Gva DR.length Gvc) := by rw [(bcell st11).1 _ _ (by omega)]; exact c10_3_0
  have B11 : Hid (Below w.heap.size w w11) := B10.out.trans (st11.mono (by omega))
  have R11_RW : Hid (DRow w11 (w2.heap.size) (w3.heap.size) (.slice Wva DR.length Wvc) DR) := Lib.hid (R10_RW.out.below st11 (by omega))
  have R11_SW : Hid (Row 1 w11 (w2.heap.size) (w3.heap.size) (.slice Wga ng Wgc) ng ZG) := Lib.hid (R10_SW.out.below st11 (by omega))
  have R11_RG : Hid (DRow w11 (mdG) (w5.heap.size) (.slice Gva DR.length Gvc) DR) := Lib.hid (R10_RG.out.below st11 (by omega))
  have R11_SG : Hid (Row 1 w11 (w4.heap.size + 1) (mdG) (.slice Gga ng Ggc) ng ZG) := Lib.hid (R10_SG.out.below st11 (by omega))
  have R11_x0 : Hid (DRow w11 (w3.heap.size + 1) (w4.heap.size) (.slice xx0a D0.length xx0c) (dmk D0)) := Lib.hid (R10_x0.out.below st11 (by omega))
  have d11_0 : w.heap.size < w11.heap.size := by omega
  have e11_0 : w.heap.size ≠ w11.heap.size := by omega
  have d11_1 : w3.heap.size < w11.heap.size := by omega
  have e11_1 : w3.heap.size ≠ w11.heap.size := by omega
  have d11_2 : w4.heap.size < w11.heap.size := by omega
  have e11_2 : w4.heap.size ≠ w11.heap.size := by omega
  have d11_3 : w5.heap.size < w11.heap.size := by omega
  have e11_3 : w5.heap.size ≠ w11.heap.size := by omega
  clear d10_0 e10_0 d10_1 e10_1 d10_2 e10_2 d10_3 e10_3 c10_0_0 c10_1_0 c10_2_0 c10_3_0 R10_RW R10_SW R10_RG R10_SG R10_x0 B10 st11 hb11
  go_wp2_with fail
  go_at_call 35
  refine (eqIntS_same ZG ng _ _ _ _ _ _ _ R11_SG.out R11_SW.out (by first | omega | (simp; omega) | simp) (by first | omega | (simp; omega) | simp)).mono ?_
  rintro e w12 ⟨rfl, hb12⟩
  have sz12 : w11.heap.size ≤ w12.heap.size := hb12.size
  have st12 : Below w11.heap.size w11 w12 := hb12
  have c12_0_0 : w12.cell? ⟨w.heap.size, 0, none⟩ = some (.slice ad0 D0.length cp0) := by rw [(bcell st12).1 _ _ (by omega)]; exact c11_0_0
  have c12_1_0 : w12.cell? ⟨w3.heap.size, 0, none⟩ = some (.slice Wva DR.length Wvc) := by rw [(bcell st12).1 _ _ (by omega)]; exact c11_1_0
  have c12_2_0 : w12.cell? ⟨w4.heap.size, 0, none⟩ = some ((.slice xx0a D0.length xx0c)) := by rw [(bcell st12).1 _ _ (by omega)]; exact c11_2_0
  have c12_3_0 : w12.cell? ⟨w5.heap.size, 0, none⟩ = some (.slice Gva DR.length Gvc) := by rw [(bcell st12).1 _ _ (by omega)]; exact c11_3_0
  have B12 : Hid (Below w.heap.size w w12) := B11.out.trans (st12.mono (by omega))
  have R12_RW : Hid (DRow w12 (w2.heap.size) (w3.heap.size) (.slice Wva DR.length Wvc) DR) := Lib.hid (R11_RW.out.below st12 (by omega))
  have R12_SW : Hid (Row 1 w12 (w2.heap.size) (w3.heap.size) (.slice Wga ng Wgc) ng ZG) := Lib.hid (R11_SW.out.below st12 (by omega))
  have R12_RG : Hid (DRow w12 (mdG) (w5.heap.size) (.slice Gva DR.length Gvc) DR) := Lib.hid (R11_RG.out.below st12 (by omega))
  have R12_SG : Hid (Row 1 w12 (w4.heap.size + 1) (mdG) (.slice Gga ng Ggc) ng ZG) := Lib.hid (R11_SG.out.below st12 (by omega))
  have R12_x0 : Hid (DRow w12 (w3.heap.size + 1) (w4.heap.size) (.slice xx0a D0.length xx0c) (dmk D0)) := Lib.hid (R11_x0.out.below st12 (by omega))
  have d12_0 : w.heap.size < w12.heap.size := by omega
  have e12_0 : w.heap.size ≠ w12.heap.size := by omega
  have d12_1 : w3.heap.size < w12.heap.size := by omega
  have e12_1 : w3.heap.size ≠ w12.heap.size := by omega
  have d12_2 : w4.heap.size < w12.heap.size := by omega
  have e12_2 : w4.heap.size ≠ w12.heap.size := by omega
  have d12_3 : w5.heap.size < w12.heap.size := by omega
  have e12_3 : w5.heap.size ≠ w12.heap.size := by omega
  clear d11_0 e11_0 d11_1 e11_1 d11_2 e11_2 d11_3 e11_3 c11_0_0 c11_1_0 c11_2_0 c11_3_0 R11_RW R11_SW R11_RG R11_SG R11_x0 B11 st12 hb12
  go_wp2_with fail
  go_at_call 25
  refine (markDb_K KD DR _ _ _ _ HKD.out R12_RG.out (by omega) (by first | omega | (simp; omega))).mono ?_
  rintro e w13 ⟨rfl, hr, hb13⟩
  have sz13 : w12.heap.size ≤ w13.heap.size := hb13.size
  have c13_0_0 : w13.cell? ⟨w.heap.size, 0, none⟩ = some (.slice ad0 D0.length cp0) := by rw [hb13.cell (by omega) (by omega)]; exact c12_0_0
  have c13_1_0 : w13.cell? ⟨w3.heap.size, 0, none⟩ = some (.slice Wva DR.length Wvc) := by rw [hb13.cell (by omega) (by omega)]; exact c12_1_0
  have c13_2_0 : w13.cell? ⟨w4.heap.size, 0, none⟩ = some ((.slice xx0a D0.length xx0c)) := by rw [hb13.cell (by omega) (by omega)]; exact c12_2_0
  have c13_3_0 : w13.cell? ⟨w5.heap.size, 0, none⟩ = some (.slice Gva DR.length Gvc) := by rw [hb13.cell (by omega) (by omega)]; exact c12_3_0
  have B13 : Hid (Below w.heap.size w w13) := B12.out.trans (hb13.below (by omega) (by omega))
  have R13_RW : Hid (DRow w13 (w2.heap.size) (w3.heap.size) (.slice Wva DR.length Wvc) DR) := Lib.hid (hb13.drow R12_RW.out (by omega) (by omega))
  have R13_SW : Hid (Row 1 w13 (w2.heap.size) (w3.heap.size) (.slice Wga ng Wgc) ng ZG) := Lib.hid (hb13.row R12_SW.out (by omega) (by omega))
  have R13_SG : Hid (Row 1 w13 (w4.heap.size + 1) (mdG) (.slice Gga ng Ggc) ng ZG) := Lib.hid (hb13.row R12_SG.out (by omega) (by omega))
  have R13_x0 : Hid (DRow w13 (w3.heap.size + 1) (w4.heap.size) (.slice xx0a D0.length xx0c) (dmk D0)) := Lib.hid (hb13.drow R12_x0.out (by omega) (by omega))
  have R13_RG : Hid (DRow w13 (mdG) (w5.heap.size) (.slice Gva DR.length Gvc) (dmk DR)) := Lib.hid (hr)
  have d13_0 : w.heap.size < w13.heap.size := by omega
  have e13_0 : w.heap.size ≠ w13.heap.size := by omega
  have d13_1 : w3.heap.size < w13.heap.size := by omega
  have e13_1 : w3.heap.size ≠ w13.heap.size := by omega
  have d13_2 : w4.heap.size < w13.heap.size := by omega
  have e13_2 : w4.heap.size ≠ w13.heap.size := by omega
  have d13_3 : w5.heap.size < w13.heap.size := by omega
  have e13_3 : w5.heap.size ≠ w13.heap.size := by omega
  clear d12_0 e12_0 d12_1 e12_1 d12_2 e12_2 d12_3 e12_3 c12_0_0 c12_1_0 c12_2_0 c12_3_0 R12_RW R12_SW R12_RG R12_SG R12_x0 B12 hr hb13
  go_wp2_with fail
  go_at_call 36
  refine (markIntS_G KD KG hKD0 hKDb ZG ng _ _ _ _ HKG.out R13_SG.out (by omega)).mono ?_
  rintro e w14 ⟨rfl, hr, hb14⟩
  have sz14 : w13.heap.size ≤ w14.heap.size := hb14.size
  have c14_0_0 : w14.cell? ⟨w.heap.size, 0, none⟩ = some (.slice ad0 D0.length cp0) := by rw [hb14.cell (by omega) (by omega)]; exact c13_0_0
  have c14_1_0 : w14.cell? ⟨w3.heap.size, 0, none⟩ = some (.slice Wva DR.length Wvc) := by rw [hb14.cell (by omega) (by omega)]; exact c13_1_0
  have c14_2_0 : w14.cell? ⟨w4.heap.size, 0, none⟩ = some ((.slice xx0a D0.length xx0c)) := by rw [hb14.cell (by omega) (by omega)]; exact c13_2_0
  have c14_3_0 : w14.cell? ⟨w5.heap.size, 0, none⟩ = some (.slice Gva DR.length Gvc) := by rw [hb14.cell (by omega) (by omega)]; exact c13_3_0
  have B14 : Hid (Below w.heap.size w w14) := B13.out.trans (hb14.below (by omega) (by omega))
  have R14_RW : Hid (DRow w14 (w2.heap.size) (w3.heap.size) (.slice Wva DR.length Wvc) DR) := Lib.hid (hb14.drow R13_RW.out (by omega) (by omega))
  have R14_SW : Hid (Row 1 w14 (w2.heap.size) (w3.heap.size) (.slice Wga ng Wgc) ng ZG) := Lib.hid (hb14.row R13_SW.out (by omega) (by omega))
  have R14_x0 : Hid (DRow w14 (w3.heap.size + 1) (w4.heap.size) (.slice xx0a D0.length xx0c) (dmk D0)) := Lib.hid (hb14.drow R13_x0.out (by omega) (by omega))
  have R14_RG : Hid (DRow w14 (mdG) (w5.heap.size) (.slice Gva DR.length Gvc) (dmk DR)) := Lib.hid (hb14.drow R13_RG.out (by omega) (by omega))
  have R14_SG : Hid (Row 1 w14 (w4.heap.size + 1) (mdG) (.slice Gga ng Ggc) ng (marks KD (ng * 1))) := Lib.hid (hr)
  have d14_0 : w.heap.size < w14.heap.size := by omega
  have e14_0 : w.heap.size ≠ w14.heap.size := by omega
  have d14_1 : w3.heap.size < w14.heap.size := by omega
  have e14_1 : w3.heap.size ≠ w14.heap.size := by omega
  have d14_2 : w4.heap.size < w14.heap.size := by omega
  have e14_2 : w4.heap.size ≠ w14.heap.size := by omega
  have d14_3 : w5.heap.size < w14.heap.size := by omega
  have e14_3 : w5.heap.size ≠ w14.heap.size := by omega
  clear d13_0 e13_0 d13_1 e13_1 d13_2 e13_2 d13_3 e13_3 c13_0_0 c13_1_0 c13_2_0 c13_3_0 R13_RW R13_SW R13_SG R13_x0 R13_RG B13 hr hb14
  go_wp2_with fail
  go_at_call 32
  refine (heldDb_K KD DR _ _ _ _ HKD.out R14_RG.out (by omega) (by first | omega | (simp; omega))).mono ?_
  rintro e w15 ⟨rfl, hb15⟩
  have sz15 : w14.heap.size ≤ w15.heap.size := hb15.size
  have st15 : Below w14.heap.size w14 w15 := hb15
  have c15_0_0 : w15.cell? ⟨w.heap.size, 0, none⟩ = some (.slice ad0 D0.length cp0) := by rw [(bcell st15).1 _ _ (by omega)]; exact c14_0_0
  have c15_1_0 : w15.cell? ⟨w3.heap.size, 0, none⟩ = some (.slice Wva DR.length Wvc) := by rw [(bcell st15).1 _ _ (by omega)]; exact c14_1_0
  have c15_2_0 : w15.cell? ⟨w4.heap.size, 0, none⟩ = some ((.slice xx0a D0.length xx0c)) := by rw [(bcell st15).1 _ _ (by omega)]; exact c14_2_0
  have c15_3_0 : w15.cell? ⟨w5.heap.size, 0, none⟩ = some (.slice Gva DR.length Gvc) := by rw [(bcell st15).1 _ _ (by omega)]; exact c14_3_0
  have B15 : Hid (Below w.heap.size w w15) := B14.out.trans (st15.mono (by omega))
  have R15_RW : Hid (DRow w15 (w2.heap.size) (w3.heap.size) (.slice Wva DR.length Wvc) DR) := Lib.hid (R14_RW.out.below st15 (by omega))
  have R15_SW : Hid (Row 1 w15 (w2.heap.size) (w3.heap.size) (.slice Wga ng Wgc) ng ZG) := Lib.hid (R14_SW.out.below st15 (by omega))
  have R15_x0 : Hid (DRow w15 (w3.heap.size + 1) (w4.heap.size) (.slice xx0a D0.length xx0c) (dmk D0)) := Lib.hid (R14_x0.out.below st15 (by omega))
  have R15_RG : Hid (DRow w15 (mdG) (w5.heap.size) (.slice Gva DR.length Gvc) (dmk DR)) := Lib.hid (R14_RG.out.below st15 (by omega))
  have R15_SG : Hid (Row 1 w15 (w4.heap.size + 1) (mdG) (.slice Gga ng Ggc) ng (marks KD (ng * 1))) := Lib.hid (R14_SG.out.below st15 (by omega))
  have d15_0 : w.heap.size < w15.heap.size := by omega
  have e15_0 : w.heap.size ≠ w15.heap.size := by omega
  have d15_1 : w3.heap.size < w15.heap.size := by omega
  have e15_1 : w3.heap.size ≠ w15.heap.size := by omega
  have d15_2 : w4.heap.size < w15.heap.size := by omega
  have e15_2 : w4.heap.size ≠ w15.heap.size := by omega
  have d15_3 : w5.heap.size < w15.heap.size := by omega
  have e15_3 : w5.heap.size ≠ w15.heap.size := by omega
  clear d14_0 e14_0 d14_1 e14_1 d14_2 e14_2 d14_3 e14_3 c14_0_0 c14_1_0 c14_2_0 c14_3_0 R14_RW R14_SW R14_x0 R14_RG R14_SG B14 st15 hb15
  go_wp2_with fail
  go_at_call 37
  refine (heldIntS_G KD KG hKD0 hKDb ng _ _ _ _ HKG.out R15_SG.out (by omega)).mono ?_
  rintro e w' ⟨rfl, rfl⟩
  go_wp2_with fail
  go_at_call 19
  refine (toDb_any _ D0 _ (HA0.out.below B15.out) (by omega)).mono ?_
  rintro e w16 ⟨xh0, rfl, hr, hb16⟩
  have sz16 : w15.heap.size ≤ w16.heap.size := hb16.size
  have st16 : Below w15.heap.size w15 w16 := hb16
  have c16_0_0 : w16.cell? ⟨w.heap.size, 0, none⟩ = some (.slice ad0 D0.length cp0) := by rw [(bcell st16).1 _ _ (by omega)]; exact c15_0_0
  have c16_1_0 : w16.cell? ⟨w3.heap.size, 0, none⟩ = some (.slice Wva DR.length Wvc) := by rw [(bcell st16).1 _ _ (by omega)]; exact c15_1_0
  have c16_2_0 : w16.cell? ⟨w4.heap.size, 0, none⟩ = some ((.slice xx0a D0.length xx0c)) := by rw [(bcell st16).1 _ _ (by omega)]; exact c15_2_0
  have c16_3_0 : w16.cell? ⟨w5.heap.size, 0, none⟩ = some (.slice Gva DR.length Gvc) := by rw [(bcell st16).1 _ _ (by omega)]; exact c15_3_0
  have B16 : Hid (Below w.heap.size w w16) := B15.out.trans (st16.mono (by omega))
  have R16_RW : Hid (DRow w16 (w2.heap.size) (w3.heap.size) (.slice Wva DR.length Wvc) DR) := Lib.hid (R15_RW.out.below st16 (by omega))
  have R16_SW : Hid (Row 1 w16 (w2.heap.size) (w3.heap.size) (.slice Wga ng Wgc) ng ZG) := Lib.hid (R15_SW.out.below st16 (by omega))
  have R16_x0 : Hid (DRow w16 (w3.heap.size + 1) (w4.heap.size) (.slice xx0a D0.length xx0c) (dmk D0)) := Lib.hid (R15_x0.out.below st16 (by omega))
  have R16_RG : Hid (DRow w16 (mdG) (w5.heap.size) (.slice Gva DR.length Gvc) (dmk DR)) := Lib.hid (R15_RG.out.below st16 (by omega))
  have R16_SG : Hid (Row 1 w16 (w4.heap.size + 1) (mdG) (.slice Gga ng Ggc) ng (marks KD (ng * 1))) := Lib.hid (R15_SG.out.below st16 (by omega))
  have R16_h0 : Hid (DRow w16 (w15.heap.size) (w16.heap.size) xh0 D0) := Lib.hid (hr)
  have d16_0 : w.heap.size < w16.heap.size := by omega
  have e16_0 : w.heap.size ≠ w16.heap.size := by omega
  have d16_1 : w3.heap.size < w16.heap.size := by omega
  have e16_1 : w3.heap.size ≠ w16.heap.size := by omega
  have d16_2 : w4.heap.size < w16.heap.size := by omega
  have e16_2 : w4.heap.size ≠ w16.heap.size := by omega
  have d16_3 : w5.heap.size < w16.heap.size := by omega
  have e16_3 : w5.heap.size ≠ w16.heap.size := by omega
  clear d15_0 e15_0 d15_1 e15_1 d15_2 e15_2 d15_3 e15_3 c15_0_0 c15_1_0 c15_2_0 c15_3_0 R15_RW R15_SW R15_x0 R15_RG R15_SG B15 st16 hr hb16
  go_wp2_with fail
  go_at_call 34
  refine (Hi.out _ _ xh0 _ R16_h0.out (by first | omega | (simp; omega) | simp)).mono ?_
  rintro e w17 ⟨Hv, Hg, mdH, rfl, hr, hg, ⟨hq1, hq2⟩, hb17⟩
  have sz17 : w16.heap.size ≤ w17.heap.size := hb17.size
  have st17 : Below w16.heap.size w16 w17 := hb17
  have c17_0_0 : w17.cell? ⟨w.heap.size, 0, none⟩ = some (.slice ad0 D0.length cp0) := by rw [(bcell st17).1 _ _ (by omega)]; exact c16_0_0
  have c17_1_0 : w17.cell? ⟨w3.heap.size, 0, none⟩ = some (.slice Wva DR.length Wvc) := by rw [(bcell st17).1 _ _ (by omega)]; exact c16_1_0
  have c17_2_0 : w17.cell? ⟨w4.heap.size, 0, none⟩ = some ((.slice xx0a D0.length xx0c)) := by rw [(bcell st17).1 _ _ (by omega)]; exact c16_2_0
  have c17_3_0 : w17.cell? ⟨w5.heap.size, 0, none⟩ = some (.slice Gva DR.length Gvc) := by rw [(bcell st17).1 _ _ (by omega)]; exact c16_3_0
  have B17 : Hid (Below w.heap.size w w17) := B16.out.trans (st17.mono (by omega))
  have R17_RW : Hid (DRow w17 (w2.heap.size) (w3.heap.size) (.slice Wva DR.length Wvc) DR) := Lib.hid (R16_RW.out.below st17 (by omega))
  have R17_SW : Hid (Row 1 w17 (w2.heap.size) (w3.heap.size) (.slice Wga ng Wgc) ng ZG) := Lib.hid (R16_SW.out.below st17 (by omega))
  have R17_x0 : Hid (DRow w17 (w3.heap.size + 1) (w4.heap.size) (.slice xx0a D0.length xx0c) (dmk D0)) := Lib.hid (R16_x0.out.below st17 (by omega))
  have R17_RG : Hid (DRow w17 (mdG) (w5.heap.size) (.slice Gva DR.length Gvc) (dmk DR)) := Lib.hid (R16_RG.out.below st17 (by omega))
  have R17_SG : Hid (Row 1 w17 (w4.heap.size + 1) (mdG) (.slice Gga ng Ggc) ng (marks KD (ng * 1))) := Lib.hid (R16_SG.out.below st17 (by omega))
  have R17_h0 : Hid (DRow w17 (w15.heap.size) (w16.heap.size) xh0 D0) := Lib.hid (R16_h0.out.below st17 (by omega))
  have R17_RH : Hid (DRow w17 (mdH) (w17.heap.size) Hv DR) := Lib.hid (hr)
  have R17_SH : Hid (Row 1 w17 (w16.heap.size) (mdH) Hg ng ZG) := Lib.hid (hg)
  have d17_0 : w.heap.size < w17.heap.size := by omega
  have e17_0 : w.heap.size ≠ w17.heap.size := by omega
  have d17_1 : w3.heap.size < w17.heap.size := by omega
  have e17_1 : w3.heap.size ≠ w17.heap.size := by omega
  have d17_2 : w4.heap.size < w17.heap.size := by omega
  have e17_2 : w4.heap.size ≠ w17.heap.size := by omega
  have d17_3 : w5.heap.size < w17.heap.size := by omega
  have e17_3 : w5.heap.size ≠ w17.heap.size := by omega
  clear d16_0 e16_0 d16_1 e16_1 d16_2 e16_2 d16_3 e16_3 c16_0_0 c16_1_0 c16_2_0 c16_3_0 R16_RW R16_SW R16_x0 R16_RG R16_SG R16_h0 B16 st17 hr hg hb17
  have hqH : w16.heap.size ≤ mdH := hq1
  clear hq1
  have hrH := hq2
  clear hq2
  obtain ⟨Hva, Hvc, rfl⟩ := R17_RH.out.slice
  obtain ⟨Hga, Hgc, rfl⟩ := R17_SH.out.slice
  go_wp2_with fail
  go_at_call 21
  refine (eqDb_same DR _ _ _ _ _ _ _ (R17_RH.out.below (B := w17.heap.size) (by go_grown) (by omega)) (R17_RW.out.below (B := w17.heap.size) (by go_grown) (by omega)) (by first | omega | (simp; omega) | simp) (by first | omega | (simp; omega) | simp)).mono ?_
  rintro e w18 ⟨rfl, hb18⟩
  have sz18 : w17.heap.size + 1 ≤ w18.heap.size := by have hh := hb18.size; simp at hh; omega
  have st18 : Below w17.heap.size w17 w18 := Below.trans (by go_grown) (hb18.mono (by simp))
  have c18_0_0 : w18.cell? ⟨w.heap.size, 0, none⟩ = some (.slice ad0 D0.length cp0) := by rw [(bcell st18).1 _ _ (by omega)]; exact c17_0_0
  have c18_1_0 : w18.cell? ⟨w3.heap.size, 0, none⟩ = some (.slice Wva DR.length Wvc) := by rw [(bcell st18).1 _ _ (by omega)]; exact c17_1_0
  have c18_2_0 : w18.cell? ⟨w4.heap.size, 0, none⟩ = some ((.slice xx0a D0.length xx0c)) := by rw [(bcell st18).1 _ _ (by omega)]; exact c17_2_0
  have c18_3_0 : w18.cell? ⟨w5.heap.size, 0, none⟩ = some (.slice Gva DR.length Gvc) := by rw [(bcell st18).1 _ _ (by omega)]; exact c17_3_0
  have c18_4_0 : w18.cell? ⟨w17.heap.size, 0, none⟩ = some (.slice Hva DR.length Hvc) := by rw [(bcell hb18).1 _ _ (by simp), new_at (by simp)]; rfl
  have B18 : Hid (Below w.heap.size w w18) := B17.out.trans (st18.mono (by omega))
  have R18_RW : Hid (DRow w18 (w2.heap.size) (w3.heap.size) (.slice Wva DR.length Wvc) DR) := Lib.hid (R17_RW.out.below st18 (by omega))
  have R18_SW : Hid (Row 1 w18 (w2.heap.size) (w3.heap.size) (.slice Wga ng Wgc) ng ZG) := Lib.hid (R17_SW.out.below st18 (by omega))
  have R18_x0 : Hid (DRow w18 (w3.heap.size + 1) (w4.heap.size) (.slice xx0a D0.length xx0c) (dmk D0)) := Lib.hid (R17_x0.out.below st18 (by omega))
  have R18_RG : Hid (DRow w18 (mdG) (w5.heap.size) (.slice Gva DR.length Gvc) (dmk DR)) := Lib.hid (R17_RG.out.below st18 (by omega))
  have R18_SG : Hid (Row 1 w18 (w4.heap.size + 1) (mdG) (.slice Gga ng Ggc) ng (marks KD (ng * 1))) := Lib.hid (R17_SG.out.below st18 (by omega))
  have R18_RH : Hid (DRow w18 (mdH) (w17.heap.size) (.slice Hva DR.length Hvc) DR) := Lib.hid (R17_RH.out.below st18 (by omega))
  have R18_SH : Hid (Row 1 w18 (w16.heap.size) (mdH) (.slice Hga ng Hgc) ng ZG) := Lib.hid (R17_SH.out.below st18 (by omega))
  have d18_0 : w.heap.size < w18.heap.size := by omega
  have e18_0 : w.heap.size ≠ w18.heap.size := by omega
  have d18_1 : w3.heap.size < w18.heap.size := by omega
  have e18_1 : w3.heap.size ≠ w18.heap.size := by omega
  have d18_2 : w4.heap.size < w18.heap.size := by omega
  have e18_2 : w4.heap.size ≠ w18.heap.size := by omega
  have d18_3 : w5.heap.size < w18.heap.size := by omega
  have e18_3 : w5.heap.size ≠ w18.heap.size := by omega
  have d18_4 : w17.heap.size < w18.heap.size := by omega
  have e18_4 : w17.heap.size ≠ w18.heap.size := by omega
  clear d17_0 e17_0 d17_1 e17_1 d17_2 e17_2 d17_3 e17_3 c17_0_0 c17_1_0 c17_2_0 c17_3_0 R17_RW R17_SW R17_x0 R17_RG R17_SG R17_RH R17_SH B17 st18 hb18
  go_wp2_with fail
  go_at_call 35
  refine (eqIntS_same ZG ng _ _ _ _ _ _ _ R18_SH.out R18_SW.out (by first | omega | (simp; omega) | simp) (by first | omega | (simp; omega) | simp)).mono ?_
  rintro e w19 ⟨rfl, hb19⟩
  have sz19 : w18.heap.size ≤ w19.heap.size := hb19.size
  have st19 : Below w18.heap.size w18 w19 := hb19
  have c19_0_0 : w19.cell? ⟨w.heap.size, 0, none⟩ = some (.slice ad0 D0.length cp0) := by rw [(bcell st19).1 _ _ (by omega)]; exact c18_0_0
  have c19_1_0 : w19.cell? ⟨w3.heap.size, 0, none⟩ = some (.slice Wva DR.length Wvc) := by rw [(bcell st19).1 _ _ (by omega)]; exact c18_1_0
  have c19_2_0 : w19.cell? ⟨w4.heap.size, 0, none⟩ = some ((.slice xx0a D0.length xx0c)) := by rw [(bcell st19).1 _ _ (by omega)]; exact c18_2_0
  have c19_3_0 : w19.cell? ⟨w5.heap.size, 0, none⟩ = some (.slice Gva DR.length Gvc) := by rw [(bcell st19).1 _ _ (by omega)]; exact c18_3_0
  have c19_4_0 : w19.cell? ⟨w17.heap.size, 0, none⟩ = some (.slice Hva DR.length Hvc) := by rw [(bcell st19).1 _ _ (by omega)]; exact c18_4_0
  have B19 : Hid (Below w.heap.size w w19) := B18.out.trans (st19.mono (by omega))
  have R19_RW : Hid (DRow w19 (w2.heap.size) (w3.heap.size) (.slice Wva DR.length Wvc) DR) := Lib.hid (R18_RW.out.below st19 (by omega))
  have R19_SW : Hid (Row 1 w19 (w2.heap.size) (w3.heap.size) (.slice Wga ng Wgc) ng ZG) := Lib.hid (R18_SW.out.below st19 (by omega))
  have R19_x0 : Hid (DRow w19 (w3.heap.size + 1) (w4.heap.size) (.slice xx0a D0.length xx0c) (dmk D0)) := Lib.hid (R18_x0.out.below st19 (by omega))
  have R19_RG : Hid (DRow w19 (mdG) (w5.heap.size) (.slice Gva DR.length Gvc) (dmk DR)) := Lib.hid (R18_RG.out.below st19 (by omega))
  have R19_SG : Hid (Row 1 w19 (w4.heap.size + 1) (mdG) (.slice Gga ng Ggc) ng (marks KD (ng * 1))) := Lib.hid (R18_SG.out.below st19 (by omega))
  have R19_RH : Hid (DRow w19 (mdH) (w17.heap.size) (.slice Hva DR.length Hvc) DR) := Lib.hid (R18_RH.out.below st19 (by omega))
  have R19_SH : Hid (Row 1 w19 (w16.heap.size) (mdH) (.slice Hga ng Hgc) ng ZG) := Lib.hid (R18_SH.out.below st19 (by omega))
  have d19_0 : w.heap.size < w19.heap.size := by omega
  have e19_0 : w.heap.size ≠ w19.heap.size := by omega
  have d19_1 : w3.heap.size < w19.heap.size := by omega
  have e19_1 : w3.heap.size ≠ w19.heap.size := by omega
  have d19_2 : w4.heap.size < w19.heap.size := by omega
  have e19_2 : w4.heap.size ≠ w19.heap.size := by omega
  have d19_3 : w5.heap.size < w19.heap.size := by omega
  have e19_3 : w5.heap.size ≠ w19.heap.size := by omega
  have d19_4 : w17.heap.size < w19.heap.size := by omega
  have e19_4 : w17.heap.size ≠ w19.heap.size := by omega
  clear d18_0 e18_0 d18_1 e18_1 d18_2 e18_2 d18_3 e18_3 d18_4 e18_4 c18_0_0 c18_1_0 c18_2_0 c18_3_0 c18_4_0 R18_RW R18_SW R18_x0 R18_RG R18_SG R18_RH R18_SH B18 st19 hb19
  go_wp2_with fail
  go_at_call 32
  refine (heldDb_K KD DR _ _ _ _ HKD.out R19_RG.out (by omega) (by first | omega | (simp; omega))).mono ?_
  rintro e w20 ⟨rfl, hb20⟩
  have sz20 : w19.heap.size ≤ w20.heap.size := hb20.size
  have st20 : Below w19.heap.size w19 w20 := hb20
  have c20_0_0 : w20.cell? ⟨w.heap.size, 0, none⟩ = some (.slice ad0 D0.length cp0) := by rw [(bcell st20).1 _ _ (by omega)]; exact c19_0_0
  have c20_1_0 : w20.cell? ⟨w3.heap.size, 0, none⟩ = some (.slice Wva DR.length Wvc) := by rw [(bcell st20).1 _ _ (by omega)]; exact c19_1_0
  have c20_2_0 : w20.cell? ⟨w4.heap.size, 0, none⟩ = some ((.slice xx0a D0.length xx0c)) := by rw [(bcell st20).1 _ _ (by omega)]; exact c19_2_0
  have c20_3_0 : w20.cell? ⟨w5.heap.size, 0, none⟩ = some (.slice Gva DR.length Gvc) := by rw [(bcell st20).1 _ _ (by omega)]; exact c19_3_0
  have c20_4_0 : w20.cell? ⟨w17.heap.size, 0, none⟩ = some (.slice Hva DR.length Hvc) := by rw [(bcell st20).1 _ _ (by omega)]; exact c19_4_0
  have B20 : Hid (Below w.heap.size w w20) := B19.out.trans (st20.mono (by omega))
  have R20_RW : Hid (DRow w20 (w2.heap.size) (w3.heap.size) (.slice Wva DR.length Wvc) DR) := Lib.hid (R19_RW.out.below st20 (by omega))
  have R20_SW : Hid (Row 1 w20 (w2.heap.size) (w3.heap.size) (.slice Wga ng Wgc) ng ZG) := Lib.hid (R19_SW.out.below st20 (by omega))
  have R20_x0 : Hid (DRow w20 (w3.heap.size + 1) (w4.heap.size) (.slice xx0a D0.length xx0c) (dmk D0)) := Lib.hid (R19_x0.out.below st20 (by omega))
  have R20_RG : Hid (DRow w20 (mdG) (w5.heap.size) (.slice Gva DR.length Gvc) (dmk DR)) := Lib.hid (R19_RG.out.below st20 (by omega))
  have R20_SG : Hid (Row 1 w20 (w4.heap.size + 1) (mdG) (.slice Gga ng Ggc) ng (marks KD (ng * 1))) := Lib.hid (R19_SG.out.below st20 (by omega))
  have R20_RH : Hid (DRow w20 (mdH) (w17.heap.size) (.slice Hva DR.length Hvc) DR) := Lib.hid (R19_RH.out.below st20 (by omega))
  have R20_SH : Hid (Row 1 w20 (w16.heap.size) (mdH) (.slice Hga ng Hgc) ng ZG) := Lib.hid (R19_SH.out.below st20 (by omega))
  have d20_0 : w.heap.size < w20.heap.size := by omega
  have e20_0 : w.heap.size ≠ w20.heap.size := by omega
  have d20_1 : w3.heap.size < w20.heap.size := by omega
  have e20_1 : w3.heap.size ≠ w20.heap.size := by omega
  have d20_2 : w4.heap.size < w20.heap.size := by omega
  have e20_2 : w4.heap.size ≠ w20.heap.size := by omega
  have d20_3 : w5.heap.size < w20.heap.size := by omega
  have e20_3 : w5.heap.size ≠ w20.heap.size := by omega
  have d20_4 : w17.heap.size < w20.heap.size := by omega
  have e20_4 : w17.heap.size ≠ w20.heap.size := by omega
  clear d19_0 e19_0 d19_1 e19_1 d19_2 e19_2 d19_3 e19_3 d19_4 e19_4 c19_0_0 c19_1_0 c19_2_0 c19_3_0 c19_4_0 R19_RW R19_SW R19_x0 R19_RG R19_SG R19_RH R19_SH B19 st20 hb20
  go_wp2_with fail
  go_at_call 37
  refine (heldIntS_G KD KG hKD0 hKDb ng _ _ _ _ HKG.out R20_SG.out (by omega)).mono ?_
  rintro e w' ⟨rfl, rfl⟩
  go_wp2_with fail
  go_ret
  exact ⟨rfl, B20.out⟩

set_option linter.unusedVariables false in
set_option maxHeartbeats 2000000 in
theorem lawExactAgeDb_big (v0 : Value) (D0 : List Ls) (a1 : Int) (w : World) (hA0 : DArg w v0 D0) (hn : 1048576 < dtot D0) :
    Calls Try.prog 7 #[.agg #[v0], .int .i64 a1] w fun e w' => e = .returned (.bool true) ∧ Below w.heap.size w w' := by
  have HA0 := Lib.hid hA0
  obtain ⟨ad0, cp0, rfl⟩ := hA0.slice
  clear hA0
  have hneg0 : ((1048576 : Int) - (dtot D0 : Int) < 0) := by omega
  go_enter Try.func7, Try.ntmps7
  go_wp2_with fail
  go_at_call 18
  refine (szDb_big _ D0 (1048576) _ (HA0.out.below (Below.trans (Below.refl _ _) (by go_grown))) (by omega) (by omega) (by omega)).mono ?_
  rintro e w1 ⟨rfl, hb1⟩
  have sz1 : w.heap.size + 1 ≤ w1.heap.size := by have hh := hb1.size; simp at hh; omega
  have st1 : Below w.heap.size w w1 := Below.trans (by go_grown) (hb1.mono (by simp))
  have c1_0_0 : w1.cell? ⟨w.heap.size, 0, none⟩ = some (.slice ad0 D0.length cp0) := by rw [(bcell hb1).1 _ _ (by simp), new_at (by simp)]; rfl
  have B1 : Hid (Below w.heap.size w w1) := st1
  have d1_0 : w.heap.size < w1.heap.size := by omega
  have e1_0 : w.heap.size ≠ w1.heap.size := by omega
  clear st1 hb1
  go_wp2_with fail
  go_ret
  exact ⟨rfl, B1.out⟩

end Go.Proofs.Ytfpafjdakipccaa
