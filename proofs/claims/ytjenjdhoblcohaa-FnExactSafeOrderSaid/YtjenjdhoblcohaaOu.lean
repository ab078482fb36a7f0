/- The safe order of the program. -/
import Derived.Test.YtjenjdhoblcohaaOt
import Derived.Test.YtjenjdhoblcohaaAs
import Derived.Test.YtjenjdhoblcohaaLq
import Derived.Test.YtjenjdhoblcohaaW4
import Derived.Test.YtjenjdhoblcohaaW3
namespace Go.Proofs.Ytjenjdhoblcohaa
open Go.RowKit

theorem OwnI.base {w w1 wr : World} {v : Value} {n : Nat} {Z : List Int} (h : OwnI w1 wr v n Z) (b : Below w.heap.size w w1) : OwnI w wr v n Z := by
  have hs := b.size
  refine ⟨b.trans (h.below.mono hs), ?_⟩
  obtain ⟨h1, h2⟩ := h.row
  refine ⟨h1, ?_⟩
  rcases h2 with h2 | ⟨g, cap, cur, e, hg, h3⟩
  · exact .inl h2
  · exact .inr ⟨g, cap, cur, e, Nat.le_trans hs hg, h3⟩
set_option maxRecDepth 100000 in
set_option maxHeartbeats 4000000 in
theorem nodes_any (M : Nat) (v : Value) (w : World) (hM : M ≤ 10) (hv : ∃ a n c, v = .slice a n c) :
    Calls Try.prog 62 #[.agg #[.int .i64 (M : Int), v]] w fun e w' => ∃ rv, e = .returned rv ∧ OwnI w w' rv M (ndK M) := by
  obtain ⟨ad, n, cp, rfl⟩ := hv
  obtain ⟨i3, hi3, hz0, hz1, hz2⟩ := info_parts Try.info3
  have I := Lib.hid (And.intro hi3 (And.intro hz0 (And.intro hz1 hz2)))
  clear hi3 hz0 hz1 hz2
  go_enter Try.func62, Try.ntmps62
  go_wp2_with fail
  obtain ⟨v0, hv0⟩ : ∃ v0, v0 = w.alloc (.cells #[.int .i64 (M : Int), .slice ad n cp] 29) := ⟨_, rfl⟩
  have hb0 : Below w.heap.size w v0 := by rw [hv0]; exact (Below.refl _ _).alloc (Nat.le_refl _) _
  have hs0 : v0.heap.size = w.heap.size + 1 := by rw [hv0]; simp
  rw [← hv0]
  have HB0 := Lib.hid hb0
  have HS0 := Lib.hid hs0
  clear hv0 hb0 hs0
  go_loopw [3, 7] (fun v i wr => ∃ k : Nat, k ≤ M ∧ i = .int .i64 (k : Int) ∧ Hid (OwnI v0 wr v k (ndK k))) (fun _ i _ => M - (intOf i).toNat)
  case atStart => exact ⟨0, Nat.zero_le _, rfl, Lib.hid (OwnI.nil v0)⟩
  case round =>
    obtain ⟨k, hk, rfl, hR⟩ := hrel
    obtain ⟨oa, oc, hov⟩ := own_slice hR.out.row
    subst hov
    have hsz := hR.out.below.size
    by_cases hlt : k < M
    · have q0 : (k : Int) < (M : Int) := by omega
      have Hw := Lib.hid hR.out.row
      have hkl := ndK_len k
      have Hkl := Lib.hid hkl
      clear hkl
      go_wp2_with (at_builtin; refine wpList_append_lies _ rfl _ _ 33 rfl v0.heap.size 3 i3 (.int .i64 0) 1 8 Try.underlying33 I.out.1 I.out.2.1 I.out.2.2.1 I.out.2.2.2 rfl (by decide) _ k (ints (ndK k)) rfl (Hw.out.alloc _) ⟨wr.heap.size, 0, none⟩ 1 1 [.int .i64 (k : Int)] rfl rfl ?d0 (int_one _) (by decide) ?d1 ?d2 ?d3 _ rfl ?_)
      case d0 => exact fun a u ha => cell_one_new _ _ 3 rfl a u ha
      case d1 => unfold maxLen; omega
      case d2 => omega
      case d3 => simp; omega
      intro g4 cap4 w4 hown4 hgrow4 hat4 hlt4
      have HF : Hid (OwnI v0 w4 (.slice (some ⟨g4, 0, none⟩) (k + 1) cap4) (k + 1) (ndK (k + 1))) := by
        rw [ndK_succ]
        exact (hR.out.grow ((Below.refl _ _).alloc (Nat.le_refl _) _)).app hgrow4 hown4
      clear hown4 hgrow4 hat4 hlt4 hR Hw
      go_wp2_with fail
      go_roundw
      case rel => exact ⟨k + 1, by omega, by go_num, HF⟩
      case measure => simp [intOf]; omega
    · obtain rfl : k = M := by omega
      have hge : ¬ ((k : Int) < (k : Int)) := by omega
      go_wp2_with fail
      go_ret
      exact ⟨_, rfl, hR.out.base HB0.out⟩


set_option maxRecDepth 100000 in
set_option maxHeartbeats 4000000 in
theorem isafe_no0 (N : Int) (lo hi n : Nat) (v : Value) (L : List Ed) (d : Int) (w : World) (hL : L.length = n) (hr : Row 3 w lo hi v n (flat L)) (hh : hi ≤ w.heap.size) (hn : gok N L = false) :
    Calls Try.prog 26 #[.agg #[.int .i64 N, v], .int .i64 d] w (LoPost [] w) := by
  have HR := Lib.hid hr
  have Hn := Lib.hid hn
  obtain ⟨ad, cp, rfl⟩ := hr.slice
  clear hr hn
  go_enter Try.func26, Try.ntmps26
  go_wp2_with fail
  go_at_call 51
  refine (igok_any N lo hi n _ L _ hL (HR.out.below (B := w.heap.size) (by go_grown) (by omega)) (by simp; omega)).mono ?_
  rw [Hn.out]
  rintro e v1 ⟨rfl, hb1⟩
  have sz1 : w.heap.size + 2 ≤ v1.heap.size := by have hh := hb1.size; simp at hh; omega
  have st1 : Below w.heap.size w v1 := Below.trans (by go_grown) (hb1.mono (by simp <;> omega))
  have c1_0 : v1.cell? ⟨w.heap.size, 0, none⟩ = some (.int .i64 N) := by rw [(bcell hb1).1 _ _ (by simp <;> omega), old_box (by simp <;> omega)]; first | (rw [new_at (by simp)]; rfl) | simp
  have c1_1 : v1.cell? ⟨w.heap.size, 1, none⟩ = some (.slice ad n cp) := by rw [(bcell hb1).1 _ _ (by simp <;> omega), old_box (by simp <;> omega)]; first | (rw [new_at (by simp)]; rfl) | simp
  have c1_2 : v1.cell? ⟨w.heap.size + 1, 0, none⟩ = some (.int .i64 d) := by rw [(bcell hb1).1 _ _ (by simp)]; first | (rw [new_at (by simp)]; rfl) | simp
  have B1 : Hid (Below w.heap.size w v1) := st1
  have R1_0 : Hid (Row 3 v1 (lo) (hi) (.slice ad n cp) n (flat L)) := HR.out.below st1 (by omega)
  have d1_0 : w.heap.size < v1.heap.size := by omega
  have e1_0 : w.heap.size ≠ v1.heap.size := by omega
  have d1_1 : w.heap.size + 1 < v1.heap.size := by omega
  have e1_1 : w.heap.size + 1 ≠ v1.heap.size := by omega
  clear st1 HR hb1
  go_wp2_with fail
  go_ret
  exact ⟨_, rfl, Row.empty 1 _ _ _ _ _, B1.out⟩

set_option maxRecDepth 100000 in
set_option maxHeartbeats 4000000 in
theorem isafe_no1 (N : Int) (lo hi n : Nat) (v : Value) (L : List Ed) (d : Int) (w : World) (hL : L.length = n) (hr : Row 3 w lo hi v n (flat L)) (hh : hi ≤ w.heap.size) (hn : gok N L = true ∧ ndB N d = false) :
    Calls Try.prog 26 #[.agg #[.int .i64 N, v], .int .i64 d] w (LoPost [] w) := by
  have HR := Lib.hid hr
  have Hn := Lib.hid hn
  obtain ⟨ad, cp, rfl⟩ := hr.slice
  clear hr hn
  go_enter Try.func26, Try.ntmps26
  go_wp2_with fail
  go_at_call 51
  refine (igok_any N lo hi n _ L _ hL (HR.out.below (B := w.heap.size) (by go_grown) (by omega)) (by simp; omega)).mono ?_
  rw [Hn.out.1]
  rintro e v1 ⟨rfl, hb1⟩
  have sz1 : w.heap.size + 2 ≤ v1.heap.size := by have hh := hb1.size; simp at hh; omega
  have st1 : Below w.heap.size w v1 := Below.trans (by go_grown) (hb1.mono (by simp <;> omega))
  have c1_0 : v1.cell? ⟨w.heap.size, 0, none⟩ = some (.int .i64 N) := by rw [(bcell hb1).1 _ _ (by simp <;> omega), old_box (by simp <;> omega)]; first | (rw [new_at (by simp)]; rfl) | simp
  have c1_1 : v1.cell? ⟨w.heap.size, 1, none⟩ = some (.slice ad n cp) := by rw [(bcell hb1).1 _ _ (by simp <;> omega), old_box (by simp <;> omega)]; first | (rw [new_at (by simp)]; rfl) | simp
  have c1_2 : v1.cell? ⟨w.heap.size + 1, 0, none⟩ = some (.int .i64 d) := by rw [(bcell hb1).1 _ _ (by simp)]; first | (rw [new_at (by simp)]; rfl) | simp
  have B1 : Hid (Below w.heap.size w v1) := st1
  have R1_0 : Hid (Row 3 v1 (lo) (hi) (.slice ad n cp) n (flat L)) := HR.out.below st1 (by omega)
  have d1_0 : w.heap.size < v1.heap.size := by omega
  have e1_0 : w.heap.size ≠ v1.heap.size := by omega
  have d1_1 : w.heap.size + 1 < v1.heap.size := by omega
  have e1_1 : w.heap.size + 1 ≠ v1.heap.size := by omega
  clear st1 HR hb1
  go_wp2_with fail
  go_at_call 52
  refine (hasNode_any N _ _ _ d _).mono ?_
  rw [Hn.out.2]
  rintro e v2 ⟨rfl, hb2⟩
  have sz2 : v1.heap.size ≤ v2.heap.size := hb2.size
  have st2 : Below v1.heap.size v1 v2 := hb2
  have c2_0 : v2.cell? ⟨w.heap.size, 0, none⟩ = some (.int .i64 N) := by rw [(bcell st2).1 _ _ (by omega)]; exact c1_0
  have c2_1 : v2.cell? ⟨w.heap.size, 1, none⟩ = some (.slice ad n cp) := by rw [(bcell st2).1 _ _ (by omega)]; exact c1_1
  have c2_2 : v2.cell? ⟨w.heap.size + 1, 0, none⟩ = some (.int .i64 d) := by rw [(bcell st2).1 _ _ (by omega)]; exact c1_2
  have B2 : Hid (Below w.heap.size w v2) := B1.out.trans (st2.mono (by omega))
  have R2_0 : Hid (Row 3 v2 (lo) (hi) (.slice ad n cp) n (flat L)) := R1_0.out.below st2 (by omega)
  have d2_0 : w.heap.size < v2.heap.size := by omega
  have e2_0 : w.heap.size ≠ v2.heap.size := by omega
  have d2_1 : w.heap.size + 1 < v2.heap.size := by omega
  have e2_1 : w.heap.size + 1 ≠ v2.heap.size := by omega
  clear d1_0 e1_0 d1_1 e1_1 c1_0 c1_1 c1_2 B1 st2 R1_0 hb2
  go_wp2_with fail
  go_ret
  exact ⟨_, rfl, Row.empty 1 _ _ _ _ _, B2.out⟩

set_option maxRecDepth 100000 in
set_option maxHeartbeats 4000000 in
theorem isafe_yes (M : Nat) (lo hi n : Nat) (v : Value) (L : List Ed) (d : Nat) (w : World) (hL : L.length = n) (hr : Row 3 w lo hi v n (flat L)) (hh : hi ≤ w.heap.size) (hG : gok (M : Int) L = true) (hd : d < M) :
    Calls Try.prog 26 #[.agg #[.int .i64 (M : Int), v], .int .i64 (d : Int)] w (LoPost (safeK (fun x => dsT (M : Int) L x (d : Int)) M) w) := by
  have HR := Lib.hid hr
  have HG := Lib.hid hG
  have hN2 := (gok_parts hG).2.1
  have hnd : ndB (M : Int) (d : Int) = true := by unfold ndB; rw [inB_iff]; omega
  obtain ⟨ad, cp, rfl⟩ := hr.slice
  clear hr
  go_enter Try.func26, Try.ntmps26
  go_wp2_with fail
  go_at_call 51
  refine (igok_any (M : Int) lo hi n _ L _ hL (HR.out.below (B := w.heap.size) (by go_grown) (by omega)) (by simp; omega)).mono ?_
  rw [HG.out]
  rintro e v1 ⟨rfl, hb1⟩
  have sz1 : w.heap.size + 2 ≤ v1.heap.size := by have hh := hb1.size; simp at hh; omega
  have st1 : Below w.heap.size w v1 := Below.trans (by go_grown) (hb1.mono (by simp <;> omega))
  have c1_0 : v1.cell? ⟨w.heap.size, 0, none⟩ = some (.int .i64 (M : Int)) := by rw [(bcell hb1).1 _ _ (by simp <;> omega), old_box (by simp <;> omega)]; first | (rw [new_at (by simp)]; rfl) | simp
  have c1_1 : v1.cell? ⟨w.heap.size, 1, none⟩ = some (.slice ad n cp) := by rw [(bcell hb1).1 _ _ (by simp <;> omega), old_box (by simp <;> omega)]; first | (rw [new_at (by simp)]; rfl) | simp
  have c1_2 : v1.cell? ⟨w.heap.size + 1, 0, none⟩ = some (.int .i64 (d : Int)) := by rw [(bcell hb1).1 _ _ (by simp)]; first | (rw [new_at (by simp)]; rfl) | simp
  have B1 : Hid (Below w.heap.size w v1) := st1
  have R1_0 : Hid (Row 3 v1 (lo) (hi) (.slice ad n cp) n (flat L)) := HR.out.below st1 (by omega)
  have d1_0 : w.heap.size < v1.heap.size := by omega
  have e1_0 : w.heap.size ≠ v1.heap.size := by omega
  have d1_1 : w.heap.size + 1 < v1.heap.size := by omega
  have e1_1 : w.heap.size + 1 ≠ v1.heap.size := by omega
  clear st1 HR hb1
  go_wp2_with fail
  go_at_call 52
  refine (hasNode_any (M : Int) _ _ _ (d : Int) _).mono ?_
  rw [hnd]
  rintro e v2 ⟨rfl, hb2⟩
  have sz2 : v1.heap.size ≤ v2.heap.size := hb2.size
  have st2 : Below v1.heap.size v1 v2 := hb2
  have c2_0 : v2.cell? ⟨w.heap.size, 0, none⟩ = some (.int .i64 (M : Int)) := by rw [(bcell st2).1 _ _ (by omega)]; exact c1_0
  have c2_1 : v2.cell? ⟨w.heap.size, 1, none⟩ = some (.slice ad n cp) := by rw [(bcell st2).1 _ _ (by omega)]; exact c1_1
  have c2_2 : v2.cell? ⟨w.heap.size + 1, 0, none⟩ = some (.int .i64 (d : Int)) := by rw [(bcell st2).1 _ _ (by omega)]; exact c1_2
  have B2 : Hid (Below w.heap.size w v2) := B1.out.trans (st2.mono (by omega))
  have R2_0 : Hid (Row 3 v2 (lo) (hi) (.slice ad n cp) n (flat L)) := R1_0.out.below st2 (by omega)
  have d2_0 : w.heap.size < v2.heap.size := by omega
  have e2_0 : w.heap.size ≠ v2.heap.size := by omega
  have d2_1 : w.heap.size + 1 < v2.heap.size := by omega
  have e2_1 : w.heap.size + 1 ≠ v2.heap.size := by omega
  clear d1_0 e1_0 d1_1 e1_1 c1_0 c1_1 c1_2 B1 st2 R1_0 hb2
  go_wp2_with fail
  go_at_call 61
  refine (iad_any (M : Int) lo hi n _ L _ hL R2_0.out (by omega)).mono ?_
  rintro e v3 ⟨rv, rfl, hS⟩
  rw [adN_yes HG.out] at hS
  have hb3 : Below v2.heap.size v2 v3 := by obtain ⟨vs, bs, h⟩ := hS; exact h.below
  have hs3 := hb3.size
  have HB3 : Hid (Below w.heap.size w v3) := B2.out.trans (hb3.mono (by omega))
  have k00 : v3.cell? ⟨w.heap.size, 0, none⟩ = some (.int .i64 (M : Int)) := by rw [hb3.cell (p := ⟨w.heap.size, 0, none⟩) (by show _ < _; omega)]; exact c2_0
  have k01 : v3.cell? ⟨w.heap.size, 1, none⟩ = some (.slice ad n cp) := by rw [hb3.cell (p := ⟨w.heap.size, 1, none⟩) (by show _ < _; omega)]; exact c2_1
  have k20 : v3.cell? ⟨w.heap.size + 1, 0, none⟩ = some (.int .i64 (d : Int)) := by rw [hb3.cell (p := ⟨w.heap.size + 1, 0, none⟩) (by show _ < _; omega)]; exact c2_2
  obtain ⟨G, cap, rfl, hG3, hrows⟩ := SSx.get hS (by omega)
  obtain ⟨v4, hv4⟩ : ∃ v4, v4 = v3.alloc (.cells #[.slice (some ⟨G, 0, none⟩) M cap] 73) := ⟨_, rfl⟩
  have hb4 : Below v3.heap.size v3 v4 := by rw [hv4]; exact (Below.refl _ _).alloc (Nat.le_refl _) _
  have hs4 : v4.heap.size = v3.heap.size + 1 := by rw [hv4]; simp
  have hx4 : v4.cell? ⟨v3.heap.size, 0, none⟩ = some (.slice (some ⟨G, 0, none⟩) M cap) := by rw [hv4]; simp
  have HDz : Hid (Dz v3.heap.size (w.heap.size + 1) M (fun x => dsT (M : Int) L x (d : Int)) d v4) := by
    refine ⟨⟨G, cap, hx4, by omega, fun i hi => ?_⟩, by rw [hb4.cell (p := ⟨w.heap.size + 1, 0, none⟩) (by show w.heap.size + 1 < _; omega)]; exact k20, by omega, by omega, hd, by omega⟩
    obtain ⟨gi, ci, h1, h2, h3⟩ := hrows i hi (by rw [adZ_len HG.out hi]; omega)
    rw [adZ_len HG.out hi] at h1
    exact ⟨gi, ci, by rw [hb4.cell (p := ⟨G, i, none⟩) hG3]; exact h1, by omega, by rw [hb4.cell (p := ⟨gi, d, none⟩) h2]; exact h3 d _ (adZ_at HG.out hi hd)⟩
  have HB4 : Hid (Below w.heap.size w v4) := HB3.out.trans (hb4.mono (by omega))
  have hw4 : w.heap.size < v4.heap.size := by omega
  have hd3 : w.heap.size < v3.heap.size := by omega
  have he3 : w.heap.size ≠ v3.heap.size := by omega
  clear hS hrows hx4 hb3 k20 hG3 c2_0 c2_1 c2_2 B2 R2_0 d2_0 e2_0 d2_1 e2_1 hb4 hnd
  go_wp2_with fail
  rw [← hv4]
  clear hv4
  go_at_call 62
  refine (nodes_any M _ v4 (by omega) ⟨_, _, _, rfl⟩).mono ?_
  rintro e v5 ⟨nv, rfl, hO⟩
  obtain ⟨g, gc, rfl⟩ := hO.form (by omega)
  have HO := Lib.hid hO
  clear hO k00 k01
  go_wp2_with fail
  go_at_call 63
  refine (sortst_any _ _ M d g gc _ v4 v5 HDz.out HO.out).mono ?_
  rintro e v6 ⟨rfl, hO6⟩
  have HO6 := Lib.hid hO6
  clear hO6
  go_wp2_with fail
  go_ret
  have hs6 := HO6.out.below.size
  exact ⟨_, rfl, by rw [safeK_len]; exact (HO6.out.toRow (by omega)).wide (by omega) (Nat.le_refl _), HB4.out.trans (HO6.out.below.mono (by omega))⟩

theorem isafe_any (N : Int) (lo hi n : Nat) (v : Value) (L : List Ed) (d : Int) (w : World) (hL : L.length = n) (hr : Row 3 w lo hi v n (flat L)) (hh : hi ≤ w.heap.size) :
    Calls Try.prog 26 #[.agg #[.int .i64 N, v], .int .i64 d] w (LoPost (safeL N L d) w) := by
  unfold safeL
  by_cases hG : gok N L = true
  · by_cases hd : ndB N d = true
    · rw [if_pos ⟨hG, hd⟩]
      have hN := gok_parts hG
      obtain ⟨M, rfl⟩ : ∃ M : Nat, N = (M : Int) := ⟨N.toNat, by omega⟩
      unfold ndB at hd
      rw [inB_iff] at hd
      obtain ⟨o, rfl⟩ : ∃ o : Nat, d = (o : Int) := ⟨d.toNat, by omega⟩
      rw [Int.toNat_natCast]
      exact isafe_yes M lo hi n v L o w hL hr hh hG (by omega)
    · rw [if_neg (fun h => hd h.2)]
      exact isafe_no1 N lo hi n v L d w hL hr hh ⟨hG, by simpa using hd⟩
  · rw [if_neg (fun h => hG h.1)]
    exact isafe_no0 N lo hi n v L d w hL hr hh (by simpa using hG)

end Go.Proofs.Ytjenjdhoblcohaa
