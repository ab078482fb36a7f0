/- An advertisement as it is sent, by the program. -/
import Derived.Test.YtcaoohcfoccedaaY1
namespace Go.Proofs.Ytcaoohcfoccedaa
open Go.RowKit


theorem rs9_keep {w w1 w2 : World} {b0 b1 b2 b3 b4 b5 b6 b7 b8 o0 o1 o2 o3 o4 o5 o6 o7 o8 : Nat} {v0 v1 v2 v3 v4 v5 v6 v7 v8 : Value} (l0 : b0 < w.heap.size) (l1 : b1 < w.heap.size) (l2 : b2 < w.heap.size) (l3 : b3 < w.heap.size) (l4 : b4 < w.heap.size) (l5 : b5 < w.heap.size) (l6 : b6 < w.heap.size) (l7 : b7 < w.heap.size) (l8 : b8 < w.heap.size) (hb : Below w.heap.size w1 w2) (h : w1.cell? ⟨b0, o0, none⟩ = some v0 ∧ w1.cell? ⟨b1, o1, none⟩ = some v1 ∧ w1.cell? ⟨b2, o2, none⟩ = some v2 ∧ w1.cell? ⟨b3, o3, none⟩ = some v3 ∧ w1.cell? ⟨b4, o4, none⟩ = some v4 ∧ w1.cell? ⟨b5, o5, none⟩ = some v5 ∧ w1.cell? ⟨b6, o6, none⟩ = some v6 ∧ w1.cell? ⟨b7, o7, none⟩ = some v7 ∧ w1.cell? ⟨b8, o8, none⟩ = some v8 ∧ w.heap.size ≤ w1.heap.size ∧ Below w.heap.size w w1) : w2.cell? ⟨b0, o0, none⟩ = some v0 ∧ w2.cell? ⟨b1, o1, none⟩ = some v1 ∧ w2.cell? ⟨b2, o2, none⟩ = some v2 ∧ w2.cell? ⟨b3, o3, none⟩ = some v3 ∧ w2.cell? ⟨b4, o4, none⟩ = some v4 ∧ w2.cell? ⟨b5, o5, none⟩ = some v5 ∧ w2.cell? ⟨b6, o6, none⟩ = some v6 ∧ w2.cell? ⟨b7, o7, none⟩ = some v7 ∧ w2.cell? ⟨b8, o8, none⟩ = some v8 ∧ w.heap.size ≤ w2.heap.size ∧ Below w.heap.size w w2 := by
  obtain ⟨h0, h1, h2, h3, h4, h5, h6, h7, h8, hs, hB⟩ := h
  have hz := hb.size
  exact ⟨by rw [hb.cell (p := ⟨b0, o0, none⟩) l0]; exact h0, by rw [hb.cell (p := ⟨b1, o1, none⟩) l1]; exact h1, by rw [hb.cell (p := ⟨b2, o2, none⟩) l2]; exact h2, by rw [hb.cell (p := ⟨b3, o3, none⟩) l3]; exact h3, by rw [hb.cell (p := ⟨b4, o4, none⟩) l4]; exact h4, by rw [hb.cell (p := ⟨b5, o5, none⟩) l5]; exact h5, by rw [hb.cell (p := ⟨b6, o6, none⟩) l6]; exact h6, by rw [hb.cell (p := ⟨b7, o7, none⟩) l7]; exact h7, by rw [hb.cell (p := ⟨b8, o8, none⟩) l8]; exact h8, by omega, hB.trans hb⟩
theorem rs9_start {w wr : World} {b0 b1 b2 b3 b4 b5 b6 b7 b8 o0 o1 o2 o3 o4 o5 o6 o7 o8 : Nat} {v0 v1 v2 v3 v4 v5 v6 v7 v8 : Value} (h0 : wr.cell? ⟨b0, o0, none⟩ = some v0) (h1 : wr.cell? ⟨b1, o1, none⟩ = some v1) (h2 : wr.cell? ⟨b2, o2, none⟩ = some v2) (h3 : wr.cell? ⟨b3, o3, none⟩ = some v3) (h4 : wr.cell? ⟨b4, o4, none⟩ = some v4) (h5 : wr.cell? ⟨b5, o5, none⟩ = some v5) (h6 : wr.cell? ⟨b6, o6, none⟩ = some v6) (h7 : wr.cell? ⟨b7, o7, none⟩ = some v7) (h8 : wr.cell? ⟨b8, o8, none⟩ = some v8) (hB : Below w.heap.size w wr) : wr.drew.cell? ⟨b0, o0, none⟩ = some v0 ∧ wr.drew.cell? ⟨b1, o1, none⟩ = some v1 ∧ wr.drew.cell? ⟨b2, o2, none⟩ = some v2 ∧ wr.drew.cell? ⟨b3, o3, none⟩ = some v3 ∧ wr.drew.cell? ⟨b4, o4, none⟩ = some v4 ∧ wr.drew.cell? ⟨b5, o5, none⟩ = some v5 ∧ wr.drew.cell? ⟨b6, o6, none⟩ = some v6 ∧ wr.drew.cell? ⟨b7, o7, none⟩ = some v7 ∧ wr.drew.cell? ⟨b8, o8, none⟩ = some v8 ∧ w.heap.size ≤ wr.drew.heap.size ∧ Below w.heap.size w wr.drew := ⟨h0, h1, h2, h3, h4, h5, h6, h7, h8, hB.size, hB.drew⟩
theorem rs9_out {w w1 : World} {b0 b1 b2 b3 b4 b5 b6 b7 b8 o0 o1 o2 o3 o4 o5 o6 o7 o8 : Nat} {v0 v1 v2 v3 v4 v5 v6 v7 v8 : Value} (h : w1.cell? ⟨b0, o0, none⟩ = some v0 ∧ w1.cell? ⟨b1, o1, none⟩ = some v1 ∧ w1.cell? ⟨b2, o2, none⟩ = some v2 ∧ w1.cell? ⟨b3, o3, none⟩ = some v3 ∧ w1.cell? ⟨b4, o4, none⟩ = some v4 ∧ w1.cell? ⟨b5, o5, none⟩ = some v5 ∧ w1.cell? ⟨b6, o6, none⟩ = some v6 ∧ w1.cell? ⟨b7, o7, none⟩ = some v7 ∧ w1.cell? ⟨b8, o8, none⟩ = some v8 ∧ w.heap.size ≤ w1.heap.size ∧ Below w.heap.size w w1) : w.heap.size ≤ w1.heap.size ∧ Below w.heap.size w w1 := h.2.2.2.2.2.2.2.2.2

theorem nb3' {x : Int} (h : 0 ≤ x) (h1 : x ≤ 1000002) : nb 3 x = [x / 65536, x / 256 % 256, x % 256] := by
  rw [nb3]
  congr 1
  omega

set_option maxRecDepth 100000 in
set_option maxHeartbeats 8000000 in
theorem tail_any (o s ag : Int) (lo hi lo' hi' n m : Nat) (u v : Value) (K : List Lk) (T : List Ed) (w : World) (hK : K.length = n) (hT : T.length = m) (hr : Row 2 w lo hi u n (flat2 K)) (hr' : Row 3 w lo' hi' v m (flat T)) (hh : hi ≤ w.heap.size) (hh' : hi' ≤ w.heap.size) (hv : lokB o s ag K T = true) :
    Calls Try.prog 56 #[.agg #[.int .i64 o, .int .i64 s, .int .i64 ag, u, v]] w fun e w' => e = .returned (.agg #[.int .u8 ag, .int .u8 (lsum o s ag K T / 65536), .int .u8 (lsum o s ag K T / 256 % 256), .int .u8 (lsum o s ag K T % 256)]) ∧ Below w.heap.size w w' := by
  have hbd := lok_bd hv
  rw [hK, hT] at hbd
  obtain ⟨o0, o1, s0, s1, g0, g1, hn10, hm6⟩ := hbd
  have hs0 : 0 ≤ lsum o s ag K T ∧ lsum o s ag K T ≤ 1000002 := by rw [lsum_yes hv]; exact hsums_bd _
  obtain ⟨hs0, hs1⟩ := hs0
  have R0 := Lib.hid hr
  have R1 := Lib.hid hr'
  have HK := Lib.hid hK
  have HT := Lib.hid hT
  have Hv := Lib.hid hv
  obtain ⟨ad, cp, rfl⟩ := hr.slice
  obtain ⟨ae, cq, rfl⟩ := hr'.slice
  clear hr hr' hK hT hv
  go_enter Try.func56, Try.ntmps56
  go_wp2_with fail
  go_at_call 23
  refine (ilsum_any o s ag lo hi lo' hi' n m _ _ K T _ HK.out HT.out (R0.out.below (B := w.heap.size) (by go_grown) (by omega)) (R1.out.below (B := w.heap.size) (by go_grown) (by omega)) (by first | omega | (simp; omega)) (by first | omega | (simp; omega))).mono ?_
  rintro e v1 ⟨rfl, hb1⟩
  have sz1 : w.heap.size + 2 ≤ v1.heap.size := by have hh := hb1.size; simp at hh; omega
  have st1 : Below w.heap.size w v1 := Below.trans (by go_grown) (hb1.mono (by simp <;> omega))
  have c1_0 : v1.cell? ⟨w.heap.size, 0, none⟩ = some (.int .i64 o) := by rw [(bcell hb1).1 _ _ (by simp <;> omega), old_box (by simp <;> omega)]; first | (rw [new_at (by simp)]; rfl) | simp
  have c1_1 : v1.cell? ⟨w.heap.size, 1, none⟩ = some (.int .i64 s) := by rw [(bcell hb1).1 _ _ (by simp <;> omega), old_box (by simp <;> omega)]; first | (rw [new_at (by simp)]; rfl) | simp
  have c1_2 : v1.cell? ⟨w.heap.size, 2, none⟩ = some (.int .i64 ag) := by rw [(bcell hb1).1 _ _ (by simp <;> omega), old_box (by simp <;> omega)]; first | (rw [new_at (by simp)]; rfl) | simp
  have c1_3 : v1.cell? ⟨w.heap.size, 3, none⟩ = some (.slice ad n cp) := by rw [(bcell hb1).1 _ _ (by simp <;> omega), old_box (by simp <;> omega)]; first | (rw [new_at (by simp)]; rfl) | simp
  have c1_4 : v1.cell? ⟨w.heap.size, 4, none⟩ = some (.slice ae m cq) := by rw [(bcell hb1).1 _ _ (by simp <;> omega), old_box (by simp <;> omega)]; first | (rw [new_at (by simp)]; rfl) | simp
  have c1_5 : v1.cell? ⟨w.heap.size + 1, 0, none⟩ = some (.int .u8 0) := by rw [(bcell hb1).1 _ _ (by simp)]; first | (rw [new_at (by simp)]; rfl) | simp
  have c1_6 : v1.cell? ⟨w.heap.size + 1, 1, none⟩ = some (.int .u8 0) := by rw [(bcell hb1).1 _ _ (by simp)]; first | (rw [new_at (by simp)]; rfl) | simp
  have c1_7 : v1.cell? ⟨w.heap.size + 1, 2, none⟩ = some (.int .u8 0) := by rw [(bcell hb1).1 _ _ (by simp)]; first | (rw [new_at (by simp)]; rfl) | simp
  have c1_8 : v1.cell? ⟨w.heap.size + 1, 3, none⟩ = some (.int .u8 0) := by rw [(bcell hb1).1 _ _ (by simp)]; first | (rw [new_at (by simp)]; rfl) | simp
  have g1_0 : v1.frozen? ⟨w.heap.size + 1, 0, none⟩ = false := by rw [(bcell hb1).2 _ _ (by simp), new_frz (by simp)]
  have g1_1 : v1.frozen? ⟨w.heap.size + 1, 1, none⟩ = false := by rw [(bcell hb1).2 _ _ (by simp), new_frz (by simp)]
  have g1_2 : v1.frozen? ⟨w.heap.size + 1, 2, none⟩ = false := by rw [(bcell hb1).2 _ _ (by simp), new_frz (by simp)]
  have g1_3 : v1.frozen? ⟨w.heap.size + 1, 3, none⟩ = false := by rw [(bcell hb1).2 _ _ (by simp), new_frz (by simp)]
  have B1 : Hid (Below w.heap.size w v1) := st1
  have R1_0 : Hid (Row 2 v1 (lo) (hi) (.slice ad n cp) n (flat2 K)) := R0.out.below st1 (by omega)
  have R1_1 : Hid (Row 3 v1 (lo') (hi') (.slice ae m cq) m (flat T)) := R1.out.below st1 (by omega)
  have d1_0 : w.heap.size < v1.heap.size := by omega
  have e1_0 : w.heap.size ≠ v1.heap.size := by omega
  have d1_1 : w.heap.size + 1 < v1.heap.size := by omega
  have e1_1 : w.heap.size + 1 ≠ v1.heap.size := by omega
  clear st1 R0 R1 hb1
  go_wp2_with fail
  refine bodyPost_ret (v := .agg #[.int .u8 ag, .int .u8 (lsum o s ag K T / 65536), .int .u8 (lsum o s ag K T / 256 % 256), .int .u8 (lsum o s ag K T % 256)]) (by simp [results, Try.results56, go_sem, *]) rfl ⟨rfl, ?_⟩
  exact (((B1.out.setCell (by simp <;> omega) _).setCell (by simp <;> omega) _).setCell (by simp <;> omega) _).setCell (by simp <;> omega) _

set_option maxRecDepth 100000 in
set_option maxHeartbeats 8000000 in
theorem ilput_yes (o s ag : Int) (lo hi lo' hi' n m : Nat) (u v : Value) (K : List Lk) (T : List Ed) (w : World) (hK : K.length = n) (hT : T.length = m) (hr : Row 2 w lo hi u n (flat2 K)) (hr' : Row 3 w lo' hi' v m (flat T)) (hh : hi ≤ w.heap.size) (hh' : hi' ≤ w.heap.size) (hv : lokB o s ag K T = true) :
    Calls Try.prog 27 #[.agg #[.int .i64 o, .int .i64 s, .int .i64 ag, u, v]] w fun e w' => ∃ rv, e = .returned rv ∧ Own 5 1 w w' rv (0 + 1 + 3 + 1 + 3 * n + 1 + 5 * m + 4) (byts (lput o s ag K T)) := by
  have hbd := lok_bd hv
  rw [hK, hT] at hbd
  obtain ⟨o0, o1, s0, s1, g0, g1, hn10, hm6⟩ := hbd
  have hs0 : 0 ≤ lsum o s ag K T ∧ lsum o s ag K T ≤ 1000002 := by rw [lsum_yes hv]; exact hsums_bd _
  obtain ⟨hs0, hs1⟩ := hs0
  obtain ⟨iB, hi, hz0, hz1, hz2⟩ := info_parts Try.info5
  have I := Lib.hid (And.intro hi (And.intro hz0 (And.intro hz1 hz2)))
  clear hi hz0 hz1 hz2
  have R0 := Lib.hid hr
  have R1 := Lib.hid hr'
  have HK := Lib.hid hK
  have HT := Lib.hid hT
  have Hv := Lib.hid hv
  obtain ⟨ad, cp, rfl⟩ := hr.slice
  obtain ⟨ae, cq, rfl⟩ := hr'.slice
  clear hr hr' hK hT hv
  go_enter Try.func27, Try.ntmps27
  go_wp2_with fail
  go_at_call 14
  refine (ilok_any o s ag lo hi lo' hi' n m _ _ K T _ HK.out HT.out (R0.out.below (B := w.heap.size) (by go_grown) (by omega)) (R1.out.below (B := w.heap.size) (by go_grown) (by omega)) (by first | omega | (simp; omega)) (by first | omega | (simp; omega))).mono ?_
  rw [Hv.out]
  rintro e v1 ⟨rfl, hb1⟩
  have sz1 : w.heap.size + 1 ≤ v1.heap.size := by have hh := hb1.size; simp at hh; omega
  have st1 : Below w.heap.size w v1 := Below.trans (by go_grown) (hb1.mono (by simp))
  have c1_0 : v1.cell? ⟨w.heap.size, 0, none⟩ = some (.int .i64 o) := by rw [(bcell hb1).1 _ _ (by simp)]; first | (rw [new_at (by simp)]; rfl) | simp
  have c1_1 : v1.cell? ⟨w.heap.size, 1, none⟩ = some (.int .i64 s) := by rw [(bcell hb1).1 _ _ (by simp)]; first | (rw [new_at (by simp)]; rfl) | simp
  have c1_2 : v1.cell? ⟨w.heap.size, 2, none⟩ = some (.int .i64 ag) := by rw [(bcell hb1).1 _ _ (by simp)]; first | (rw [new_at (by simp)]; rfl) | simp
  have c1_3 : v1.cell? ⟨w.heap.size, 3, none⟩ = some (.slice ad n cp) := by rw [(bcell hb1).1 _ _ (by simp)]; first | (rw [new_at (by simp)]; rfl) | simp
  have c1_4 : v1.cell? ⟨w.heap.size, 4, none⟩ = some (.slice ae m cq) := by rw [(bcell hb1).1 _ _ (by simp)]; first | (rw [new_at (by simp)]; rfl) | simp
  have B1 : Hid (Below w.heap.size w v1) := st1
  have R1_0 : Hid (Row 2 v1 (lo) (hi) (.slice ad n cp) n (flat2 K)) := R0.out.below st1 (by omega)
  have R1_1 : Hid (Row 3 v1 (lo') (hi') (.slice ae m cq) m (flat T)) := R1.out.below st1 (by omega)
  have d1_0 : w.heap.size < v1.heap.size := by omega
  have e1_0 : w.heap.size ≠ v1.heap.size := by omega
  clear st1 R0 R1 hb1
  go_wp2_with fail
  go_at_call 56
  refine (tail_any o s ag lo hi lo' hi' n m _ _ K T _ HK.out HT.out R1_0.out R1_1.out (by first | omega | (simp; omega)) (by first | omega | (simp; omega)) Hv.out).mono ?_
  rintro e v2 ⟨rfl, hb2⟩
  have sz2 : v1.heap.size ≤ v2.heap.size := hb2.size
  have st2 : Below v1.heap.size v1 v2 := hb2
  have c2_0 : v2.cell? ⟨w.heap.size, 0, none⟩ = some (.int .i64 o) := by rw [(bcell st2).1 _ _ (by omega)]; exact c1_0
  have c2_1 : v2.cell? ⟨w.heap.size, 1, none⟩ = some (.int .i64 s) := by rw [(bcell st2).1 _ _ (by omega)]; exact c1_1
  have c2_2 : v2.cell? ⟨w.heap.size, 2, none⟩ = some (.int .i64 ag) := by rw [(bcell st2).1 _ _ (by omega)]; exact c1_2
  have c2_3 : v2.cell? ⟨w.heap.size, 3, none⟩ = some (.slice ad n cp) := by rw [(bcell st2).1 _ _ (by omega)]; exact c1_3
  have c2_4 : v2.cell? ⟨w.heap.size, 4, none⟩ = some (.slice ae m cq) := by rw [(bcell st2).1 _ _ (by omega)]; exact c1_4
  have B2 : Hid (Below w.heap.size w v2) := B1.out.trans (st2.mono (by omega))
  have R2_0 : Hid (Row 2 v2 (lo) (hi) (.slice ad n cp) n (flat2 K)) := R1_0.out.below st2 (by omega)
  have R2_1 : Hid (Row 3 v2 (lo') (hi') (.slice ae m cq) m (flat T)) := R1_1.out.below st2 (by omega)
  have d2_0 : w.heap.size < v2.heap.size := by omega
  have e2_0 : w.heap.size ≠ v2.heap.size := by omega
  clear d1_0 e1_0 c1_0 c1_1 c1_2 c1_3 c1_4 B1 st2 R1_0 R1_1 hb2
  have hwv : w.heap.size < v2.heap.size := by omega
  have HB1 := B2
  have RR0 := R2_0
  have RR1 := R2_1
  have HN3 := Lib.hid (nb3' hs0 hs1)
  go_wp2_with fail
  obtain ⟨wb, hwb⟩ : ∃ x, x = v2.alloc (.cells #[.int .u8 ag, .int .u8 (lsum o s ag K T / 65536), .int .u8 (lsum o s ag K T / 256 % 256), .int .u8 (lsum o s ag K T % 256)] 75) := ⟨_, rfl⟩
  rw [← hwb]
  have szb := box_size hwb
  have hbb := bbox_below hwb
  have k0 : wb.cell? ⟨w.heap.size, 0, none⟩ = some (.int .i64 o) := by rw [hbb.cell (p := ⟨w.heap.size, 0, none⟩) hwv]; exact c2_0
  have k1 : wb.cell? ⟨w.heap.size, 1, none⟩ = some (.int .i64 s) := by rw [hbb.cell (p := ⟨w.heap.size, 1, none⟩) hwv]; exact c2_1
  have k2 : wb.cell? ⟨w.heap.size, 2, none⟩ = some (.int .i64 ag) := by rw [hbb.cell (p := ⟨w.heap.size, 2, none⟩) hwv]; exact c2_2
  have k3 : wb.cell? ⟨w.heap.size, 3, none⟩ = some (.slice ad n cp) := by rw [hbb.cell (p := ⟨w.heap.size, 3, none⟩) hwv]; exact c2_3
  have k4 : wb.cell? ⟨w.heap.size, 4, none⟩ = some (.slice ae m cq) := by rw [hbb.cell (p := ⟨w.heap.size, 4, none⟩) hwv]; exact c2_4
  have t0 : wb.cell? ⟨v2.heap.size, 0, none⟩ = some (.int .u8 ag) := by rw [hwb, new_at rfl]; rfl
  have t1 : wb.cell? ⟨v2.heap.size, 1, none⟩ = some (.int .u8 (lsum o s ag K T / 65536)) := by rw [hwb, new_at rfl]; rfl
  have t2 : wb.cell? ⟨v2.heap.size, 2, none⟩ = some (.int .u8 (lsum o s ag K T / 256 % 256)) := by rw [hwb, new_at rfl]; rfl
  have t3 : wb.cell? ⟨v2.heap.size, 3, none⟩ = some (.int .u8 (lsum o s ag K T % 256)) := by rw [hwb, new_at rfl]; rfl
  have HBW : Hid (Below w.heap.size w wb) := Lib.hid (HB1.out.trans (hbb.mono (by omega)))
  have RW0 := Lib.hid (RR0.out.below hbb (by omega))
  have RW1 := Lib.hid (RR1.out.below hbb (by omega))
  clear hwb hbb HB1 RR0 RR1 c2_0 c2_1 c2_2 c2_3 c2_4
  go_wp2_with fail
  refine wp_region_held_drew (S := (fun w' => w'.cell? ⟨w.heap.size, 0, none⟩ = some (.int .i64 o) ∧ w'.cell? ⟨w.heap.size, 1, none⟩ = some (.int .i64 s) ∧ w'.cell? ⟨w.heap.size, 2, none⟩ = some (.int .i64 ag) ∧ w'.cell? ⟨w.heap.size, 3, none⟩ = some (.slice ad n cp) ∧ w'.cell? ⟨w.heap.size, 4, none⟩ = some (.slice ae m cq) ∧ w'.cell? ⟨v2.heap.size, 0, none⟩ = some (.int .u8 ag) ∧ w'.cell? ⟨v2.heap.size, 1, none⟩ = some (.int .u8 (lsum o s ag K T / 65536)) ∧ w'.cell? ⟨v2.heap.size, 2, none⟩ = some (.int .u8 (lsum o s ag K T / 256 % 256)) ∧ w'.cell? ⟨v2.heap.size, 3, none⟩ = some (.int .u8 (lsum o s ag K T % 256)) ∧ wb.heap.size ≤ w'.heap.size ∧ Below wb.heap.size wb w')) (by kernel_rfl) ?_ (fun hHeld => ?_)
  · exact rs9_start k0 k1 k2 k3 k4 t0 t1 t2 t3 (Below.refl _ _)
  refine step_read 0 9 rfl rfl (by kernel_rfl) (by kernel_rfl) (by kernel_rfl) (fun _ _ _ h => h) (by rfl) (v := ?_) (fun w hSw => ?_) (by assumption) ?_; rotate_left; (focus ((try dsimp only at hSw); go_simp; first | done | exact rfl)); simp only [List.set]
  refine step_read 2 11 rfl rfl (by kernel_rfl) (by kernel_rfl) (by kernel_rfl) (fun _ _ _ h => h) (by rfl) (v := ?_) (fun w hSw => ?_) (by assumption) ?_; rotate_left; (focus ((try dsimp only at hSw); go_simp; first | done | exact rfl)); simp only [List.set]
  refine wpAnyH_ready (rs := [1]) (by kernel_rfl) (by simp) ?_
  refine AllReadyH.cons rfl (fun Kc hK => ?_) (AllReadyH.nil)
  go_simp
  go_at_call 17
  refine (ilbytes_yes o s ag lo hi lo' hi' n m _ _ K T _ HK.out HT.out (RW0.out.below (rs9_out (by assumption)).2 (by omega)) (RW1.out.below (rs9_out (by assumption)).2 (by omega)) (by have := (rs9_out hHeld).1; omega) (by have := (rs9_out hHeld).1; omega) Hv.out).mono ?_
  rintro e wq ⟨rvq, rfl, hOq⟩
  obtain ⟨bq, dq, rfl⟩ := hOq.slice
  have hbq := hOq.below
  have szq := hbq.size
  have szw := (rs9_out hHeld).1
  have OQ := Lib.hid (hOq.base (rs9_out (by assumption)).2)
  clear hOq
  refine hK.out _ _ ?_ (fun hHeld => ?_)
  · exact rs9_keep (by omega) (by omega) (by omega) (by omega) (by omega) (by omega) (by omega) (by omega) (by omega) (hbq.mono szw) (by assumption)
  clear hK Kc
  refine wpAnyH_ready (rs := [3]) (by kernel_rfl) (by simp) ?_
  refine AllReadyH.cons rfl (fun Kc hK => ?_) (AllReadyH.nil)
  have hS9 :  wq.cell? ⟨w.heap.size, 0, none⟩ = some (.int .i64 o) ∧ wq.cell? ⟨w.heap.size, 1, none⟩ = some (.int .i64 s) ∧ wq.cell? ⟨w.heap.size, 2, none⟩ = some (.int .i64 ag) ∧ wq.cell? ⟨w.heap.size, 3, none⟩ = some (.slice ad n cp) ∧ wq.cell? ⟨w.heap.size, 4, none⟩ = some (.slice ae m cq) ∧ wq.cell? ⟨v2.heap.size, 0, none⟩ = some (.int .u8 ag) ∧ wq.cell? ⟨v2.heap.size, 1, none⟩ = some (.int .u8 (lsum o s ag K T / 65536)) ∧ wq.cell? ⟨v2.heap.size, 2, none⟩ = some (.int .u8 (lsum o s ag K T / 256 % 256)) ∧ wq.cell? ⟨v2.heap.size, 3, none⟩ = some (.int .u8 (lsum o s ag K T % 256)) ∧ wb.heap.size ≤ wq.heap.size ∧ Below wb.heap.size wb wq := by assumption
  refine step_append_lies _ rfl _ _ 35 rfl wb.heap.size 5 iB (.int .u8 0) 1 1 Try.underlying35 I.out.1 I.out.2.1 I.out.2.2.1 I.out.2.2.2 rfl (by decide) _ (0 + 1 + 3 + 1 + 3 * n + 1 + 5 * m) (byts (lby o s K T)) rfl OQ.out.row ⟨v2.heap.size, 0, none⟩ 4 4 [.int .u8 ag, .int .u8 (lsum o s ag K T / 65536), .int .u8 (lsum o s ag K T / 256 % 256), .int .u8 (lsum o s ag K T % 256)] rfl rfl (four_news hS9.2.2.2.2.2.1 hS9.2.2.2.2.2.2.1 hS9.2.2.2.2.2.2.2.1 hS9.2.2.2.2.2.2.2.2.1) (byt_four _ _ _ _) (by decide) (by unfold maxLen; omega) (by omega) (by omega) _ rfl ?_
  intro gz dz wz hown hg hat hlt
  have hbz : Below wb.heap.size wq wz := (Below.refl _ _).grown hg (by omega) (fun kk hkk => (OQ.out.row.lt kk hkk).1)
  have hO2 := OQ.out.app hg hown
  have OZ := Lib.hid hO2
  clear hO2 hown hg hat hlt
  go_simp
  refine hK.out _ _ ?_ (fun hHeld => ?_)
  · exact rs9_keep (by omega) (by omega) (by omega) (by omega) (by omega) (by omega) (by omega) (by omega) (by omega) hbz (by assumption)
  clear hK Kc
  refine step_read 4 2 rfl rfl (by kernel_rfl) (by kernel_rfl) (by kernel_rfl) (fun _ _ _ h => h) (by rfl) (v := ?_) (fun w hSw => ?_) (by assumption) ?_; rotate_left; (focus ((try dsimp only at hSw); go_simp; first | done | exact rfl)); simp only [List.set]
  refine wpAnyH_done (by kernel_rfl) ?_ _
  go_wp2_with fail
  refine bodyPost_ret (v := .slice (some ⟨gz, 0, none⟩) (0 + 1 + 3 + 1 + 3 * n + 1 + 5 * m + 4) dz) (by simp [results, Try.results27, go_sem]) rfl ⟨_, rfl, ?_⟩
  have hh := OZ.out.base HBW.out
  have e2 : byts (lby o s K T) ++ [.int .u8 ag, .int .u8 (lsum o s ag K T / 65536), .int .u8 (lsum o s ag K T / 256 % 256), .int .u8 (lsum o s ag K T % 256)] = byts (lput o s ag K T) := by unfold lput; rw [HN3.out]; simp [byts]
  rw [e2] at hh
  exact hh

theorem ilput_any (o s ag : Int) (lo hi lo' hi' n m : Nat) (u v : Value) (K : List Lk) (T : List Ed) (w : World) (hK : K.length = n) (hT : T.length = m) (hr : Row 2 w lo hi u n (flat2 K)) (hr' : Row 3 w lo' hi' v m (flat T)) (hh : hi ≤ w.heap.size) (hh' : hi' ≤ w.heap.size) :
    Calls Try.prog 27 #[.agg #[.int .i64 o, .int .i64 s, .int .i64 ag, u, v]] w fun e w' => ∃ rv, e = .returned rv ∧ BRow 1 w' w.heap.size w'.heap.size rv (lputs o s ag K T).length (lputs o s ag K T) ∧ Below w.heap.size w w' := by
  cases hv : lokB o s ag K T
  · rw [lputs_no hv]
    exact (ilput_no o s ag lo hi lo' hi' n m u v K T w hK hT hr hr' hh hh' hv).mono fun e w' ⟨he, hb⟩ => ⟨_, he, ⟨rfl, .inl ⟨rfl, none, 0, rfl⟩⟩, hb⟩
  · rw [lputs_yes hv]
    have hl : (lput o s ag K T).length = 0 + 1 + 3 + 1 + 3 * n + 1 + 5 * m + 4 := by rw [lput_len, hK, hT]; omega
    rw [hl]
    have hbd := lok_bd hv
    exact (ilput_yes o s ag lo hi lo' hi' n m u v K T w hK hT hr hr' hh hh' hv).mono fun e w' ⟨rv, he, ho⟩ => ⟨rv, he, ho.toBRow (by omega), ho.below⟩

end Go.Proofs.Ytcaoohcfoccedaa
