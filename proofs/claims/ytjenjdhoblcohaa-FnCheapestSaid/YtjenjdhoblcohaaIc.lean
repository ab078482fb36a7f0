/- CheapestWay of the program. -/
import Derived.Test.YtjenjdhoblcohaaCw
import Derived.Test.YtjenjdhoblcohaaWi
namespace Go.Proofs.Ytjenjdhoblcohaa
open Go.RowKit


/-- A trail's nodes as a row. -/
theorem NAt.row {w : World} {t : TV} {lo : Nat} (h : NAt w t) (hl : lo ≤ t.g) : Row 1 w lo w.heap.size (.slice (some ⟨t.g, 0, none⟩) t.ns.length t.cap) t.ns.length t.ns :=
  ⟨by simp, .inr ⟨t.g, t.cap, rfl, hl, h.2.2.1, by have := h.2.1; omega, h.2.2.2.at_, h.2.2.2.fz⟩⟩

set_option maxRecDepth 100000 in
set_option maxHeartbeats 2400000 in
theorem icw_no0 (N : Int) (lo hi n : Nat) (v : Value) (L : List Ed) (x y : Int) (w : World) (hL : L.length = n) (hr : Row 3 w lo hi v n (flat L)) (hh : hi ≤ w.heap.size) (hn : gok N L = false) :
    Calls Try.prog 34 #[.agg #[.int .i64 N, v], .int .i64 x, .int .i64 y] w (CwPost 0 [] false w) := by
  have HR := Lib.hid hr
  have Hn := Lib.hid hn
  obtain ⟨ad, cp, rfl⟩ := hr.slice
  clear hr hn
  go_enter Try.func34, Try.ntmps34
  go_wp2_with fail
  go_at_call 51
  refine (igok_any N lo hi n _ L _ hL (HR.out.below (B := w.heap.size) (by go_grown) (by omega)) (by simp; omega)).mono ?_
  rw [Hn.out]
  rintro e v1 ⟨rfl, hb1⟩
  have sz1 : w.heap.size + 1 ≤ v1.heap.size := by have hh := hb1.size; simp at hh; omega
  have st1 : Below w.heap.size w v1 := Below.trans (by go_grown) (hb1.mono (by simp))
  have c1_0 : v1.cell? ⟨w.heap.size, 0, none⟩ = some (.int .i64 N) := by rw [(bcell hb1).1 _ _ (by simp)]; first | (rw [new_at (by simp)]; rfl) | simp
  have c1_1 : v1.cell? ⟨w.heap.size, 1, none⟩ = some (.slice ad n cp) := by rw [(bcell hb1).1 _ _ (by simp)]; first | (rw [new_at (by simp)]; rfl) | simp
  have B1 : Hid (Below w.heap.size w v1) := st1
  have R1_0 : Hid (Row 3 v1 (lo) (hi) (.slice ad n cp) n (flat L)) := HR.out.below st1 (by omega)
  have d1_0 : w.heap.size < v1.heap.size := by omega
  have e1_0 : w.heap.size ≠ v1.heap.size := by omega
  clear st1 HR hb1
  go_wp2_with fail
  refine bodyPost_ret (v := .tuple #[.slice none 0 0, .bool false]) (by simp [results, Try.results34, go_sem]) rfl ⟨_, rfl, Row.empty 1 _ _ _ _ _, B1.out⟩

set_option maxRecDepth 100000 in
set_option maxHeartbeats 2400000 in
theorem icw_no1 (N : Int) (lo hi n : Nat) (v : Value) (L : List Ed) (x y : Int) (w : World) (hL : L.length = n) (hr : Row 3 w lo hi v n (flat L)) (hh : hi ≤ w.heap.size) (hn : gok N L = true ∧ ndB N x = false) :
    Calls Try.prog 34 #[.agg #[.int .i64 N, v], .int .i64 x, .int .i64 y] w (CwPost 0 [] false w) := by
  have HR := Lib.hid hr
  have Hn := Lib.hid hn
  obtain ⟨ad, cp, rfl⟩ := hr.slice
  clear hr hn
  go_enter Try.func34, Try.ntmps34
  go_wp2_with fail
  go_at_call 51
  refine (igok_any N lo hi n _ L _ hL (HR.out.below (B := w.heap.size) (by go_grown) (by omega)) (by simp; omega)).mono ?_
  rw [Hn.out.1]
  rintro e v1 ⟨rfl, hb1⟩
  have sz1 : w.heap.size + 1 ≤ v1.heap.size := by have hh := hb1.size; simp at hh; omega
  have st1 : Below w.heap.size w v1 := Below.trans (by go_grown) (hb1.mono (by simp))
  have c1_0 : v1.cell? ⟨w.heap.size, 0, none⟩ = some (.int .i64 N) := by rw [(bcell hb1).1 _ _ (by simp)]; first | (rw [new_at (by simp)]; rfl) | simp
  have c1_1 : v1.cell? ⟨w.heap.size, 1, none⟩ = some (.slice ad n cp) := by rw [(bcell hb1).1 _ _ (by simp)]; first | (rw [new_at (by simp)]; rfl) | simp
  have B1 : Hid (Below w.heap.size w v1) := st1
  have R1_0 : Hid (Row 3 v1 (lo) (hi) (.slice ad n cp) n (flat L)) := HR.out.below st1 (by omega)
  have d1_0 : w.heap.size < v1.heap.size := by omega
  have e1_0 : w.heap.size ≠ v1.heap.size := by omega
  clear st1 HR hb1
  go_wp2_with fail
  go_at_call 52
  refine (hasNode_any N _ _ _ x _).mono ?_
  rw [Hn.out.2]
  rintro e v2 ⟨rfl, hb2⟩
  have sz2 : v1.heap.size ≤ v2.heap.size := hb2.size
  have st2 : Below v1.heap.size v1 v2 := hb2
  have c2_0 : v2.cell? ⟨w.heap.size, 0, none⟩ = some (.int .i64 N) := by rw [(bcell st2).1 _ _ (by omega)]; exact c1_0
  have c2_1 : v2.cell? ⟨w.heap.size, 1, none⟩ = some (.slice ad n cp) := by rw [(bcell st2).1 _ _ (by omega)]; exact c1_1
  have B2 : Hid (Below w.heap.size w v2) := B1.out.trans (st2.mono (by omega))
  have R2_0 : Hid (Row 3 v2 (lo) (hi) (.slice ad n cp) n (flat L)) := R1_0.out.below st2 (by omega)
  have d2_0 : w.heap.size < v2.heap.size := by omega
  have e2_0 : w.heap.size ≠ v2.heap.size := by omega
  clear d1_0 e1_0 c1_0 c1_1 B1 st2 R1_0 hb2
  go_wp2_with fail
  refine bodyPost_ret (v := .tuple #[.slice none 0 0, .bool false]) (by simp [results, Try.results34, go_sem]) rfl ⟨_, rfl, Row.empty 1 _ _ _ _ _, B2.out⟩

set_option maxRecDepth 100000 in
set_option maxHeartbeats 4000000 in
theorem icw_yes (M : Nat) (lo hi n : Nat) (v : Value) (L : List Ed) (s : Nat) (y : Int) (w : World) (hL : L.length = n) (hr : Row 3 w lo hi v n (flat L)) (hh : hi ≤ w.heap.size) (hG : gok (M : Int) L = true) (hs : s < M) (m : Nat) (Z : List Int) (ok : Bool)
    (hyes : ∀ P, Found L (s : Int) P → ∀ t ∈ P, lastN t = y → t.2 = Z ∧ m = Z.length ∧ ok = true) (hno : ∀ P, Found L (s : Int) P → (∀ t ∈ P, lastN t ≠ y) → Z = [] ∧ m = 0 ∧ ok = false) :
    Calls Try.prog 34 #[.agg #[.int .i64 (M : Int), v], .int .i64 (s : Int), .int .i64 y] w (CwPost m Z ok w) := by
  have HR := Lib.hid hr
  have HG := Lib.hid hG
  have HL := Lib.hid hL
  have HY := Lib.hid hyes
  have HNo := Lib.hid hno
  have hN1 := (gok_parts hG).1
  have hN2 := (gok_parts hG).2.1
  have hnd : ndB (M : Int) (s : Int) = true := by unfold ndB; rw [inB_iff]; omega
  obtain ⟨ad, cp, rfl⟩ := hr.slice
  clear hr hyes hno
  go_enter Try.func34, Try.ntmps34
  go_wp2_with fail
  go_at_call 51
  refine (igok_any (M : Int) lo hi n _ L _ hL (HR.out.below (B := w.heap.size) (by go_grown) (by omega)) (by simp; omega)).mono ?_
  rw [HG.out]
  rintro e v1 ⟨rfl, hb1⟩
  have sz1 : w.heap.size + 1 ≤ v1.heap.size := by have hh := hb1.size; simp at hh; omega
  have st1 : Below w.heap.size w v1 := Below.trans (by go_grown) (hb1.mono (by simp))
  have c1_0 : v1.cell? ⟨w.heap.size, 0, none⟩ = some (.int .i64 (M : Int)) := by rw [(bcell hb1).1 _ _ (by simp)]; first | (rw [new_at (by simp)]; rfl) | simp
  have c1_1 : v1.cell? ⟨w.heap.size, 1, none⟩ = some (.slice ad n cp) := by rw [(bcell hb1).1 _ _ (by simp)]; first | (rw [new_at (by simp)]; rfl) | simp
  have B1 : Hid (Below w.heap.size w v1) := st1
  have R1_0 : Hid (Row 3 v1 (lo) (hi) (.slice ad n cp) n (flat L)) := HR.out.below st1 (by omega)
  have d1_0 : w.heap.size < v1.heap.size := by omega
  have e1_0 : w.heap.size ≠ v1.heap.size := by omega
  clear st1 HR hb1
  go_wp2_with fail
  go_at_call 52
  refine (hasNode_any (M : Int) _ _ _ (s : Int) _).mono ?_
  rw [hnd]
  rintro e v2 ⟨rfl, hb2⟩
  have sz2 : v1.heap.size ≤ v2.heap.size := hb2.size
  have st2 : Below v1.heap.size v1 v2 := hb2
  have c2_0 : v2.cell? ⟨w.heap.size, 0, none⟩ = some (.int .i64 (M : Int)) := by rw [(bcell st2).1 _ _ (by omega)]; exact c1_0
  have c2_1 : v2.cell? ⟨w.heap.size, 1, none⟩ = some (.slice ad n cp) := by rw [(bcell st2).1 _ _ (by omega)]; exact c1_1
  have B2 : Hid (Below w.heap.size w v2) := B1.out.trans (st2.mono (by omega))
  have R2_0 : Hid (Row 3 v2 (lo) (hi) (.slice ad n cp) n (flat L)) := R1_0.out.below st2 (by omega)
  have d2_0 : w.heap.size < v2.heap.size := by omega
  have e2_0 : w.heap.size ≠ v2.heap.size := by omega
  clear d1_0 e1_0 c1_0 c1_1 B1 st2 R1_0 hb2
  clear hnd
  go_wp2_with fail
  go_at_call 72
  refine (trails_any (M : Int) (s : Int) lo hi n _ L _ HG.out hL (R2_0.out) (by omega) (by omega)).mono ?_
  rintro e v4 ⟨P, vt, rfl, hF, hPl, hown, hN, hb4⟩
  have HF := Lib.hid hF
  have HN := Lib.hid hN
  obtain ⟨ta, tc, ht⟩ := own_slice hown
  subst ht
  have HT := Lib.hid hown
  have HB4 : Hid (Below w.heap.size w v4) := B2.out.trans (hb4.mono (by omega))
  have hs4 := hb4.size
  have hwV : w.heap.size ≤ v2.heap.size := by omega
  have H0 : Hid (∀ j t, j < 0 → P[j]? = some t → lastN t.key ≠ y) := fun j t h => absurd h (Nat.not_lt_zero _)
  have HBr : Hid (Below v4.heap.size v4 v4) := Below.refl _ _
  clear hF hN hown hb4 c2_0 c2_1 B2 R2_0 d2_0 e2_0
  go_wp2_with fail
  go_loopw [23] (fun i wr => ∃ k : Nat, k ≤ P.length ∧ i = .int .i64 (k : Int) ∧ Hid (Below v4.heap.size v4 wr) ∧ Hid (∀ j t, j < k → P[j]? = some t → lastN t.key ≠ y)) (fun i _ => P.length - (intOf i).toNat)
  case atStart => exact ⟨0, Nat.zero_le _, rfl, HBr, H0⟩
  case round =>
    obtain ⟨k, hk, rfl, hB, hA⟩ := hrel
    by_cases hlt : k < P.length
    · obtain ⟨t, htk⟩ : ∃ t, P[k]? = some t := ⟨P[k], List.getElem?_eq_getElem _⟩
      obtain ⟨hNt, hgt⟩ := HN.out t (List.mem_of_getElem? htk)
      obtain ⟨gt, tcap, hv, hb2, hlt2⟩ := HT.out.form (by omega)
      cases hv
      obtain ⟨p0, p1⟩ := pcs_at P htk
      have hsz := hB.out.size
      have z0 : wr.cell? ⟨gt, k * 2, none⟩ = some (.int .i64 t.c) := by rw [hB.out.cell (p := ⟨gt, k * 2, none⟩) hlt2, HT.out.cellAt _ (by omega)]; exact p0
      have z1 : wr.cell? ⟨gt, k * 2 + 1, none⟩ = some (.slice (some ⟨t.g, 0, none⟩) t.ns.length t.cap) := by rw [hB.out.cell (p := ⟨gt, k * 2 + 1, none⟩) hlt2, HT.out.cellAt _ (by omega)]; exact p1
      have hNw := Lib.hid (hNt.below hB.out)
      have Hgt := Lib.hid hgt
      obtain ⟨l, hl⟩ : ∃ l, t.ns.length = l + 1 := ⟨t.ns.length - 1, by have := hNt.1; omega⟩
      have Hmem : Hid (t.key ∈ P.map TV.key) := List.mem_map.2 ⟨t, List.mem_of_getElem? htk, rfl⟩
      obtain ⟨qz, hq⟩ : ∃ q : Int, lastN t.key = q := ⟨_, rfl⟩
      have hz : wr.cell? ⟨t.g, l, none⟩ = some (.int .i64 qz) := by rw [← hq]; exact hNw.out.2.2.2.at_ l _ (last_at hl)
      rw [hl] at z1
      have Hq := Lib.hid hq
      have Hl := Lib.hid hl
      have Htk := Lib.hid htk
      have hgw : gt < wr.heap.size := by omega
      have hgw2 : t.g < wr.heap.size := hNw.out.2.2.1
      have hl6 : l ≤ 1100000 := by have := hNt.2.1; omega
      have q0 : (k : Int) < (P.length : Int) := by omega
      have q1 : (0 : Int) ≤ (k : Int) := by omega
      clear hNt hgt hb2 p0 p1 hq htk hl
      go_wp2_with fail
      obtain ⟨wb, hwb⟩ : ∃ wb, wb = wr.alloc (.cells #[.int .i64 t.c, .slice (some ⟨t.g, 0, none⟩) (l + 1) t.cap] 86) := ⟨_, rfl⟩
      have hbb : Below wr.heap.size wr wb := by rw [hwb]; exact (Below.refl _ _).alloc (Nat.le_refl _) _
      have b0 : wb.cell? ⟨wr.heap.size, 0, none⟩ = some (.int .i64 t.c) := by rw [hwb, newAt rfl]; rfl
      have b1 : wb.cell? ⟨wr.heap.size, 1, none⟩ = some (.slice (some ⟨t.g, 0, none⟩) (l + 1) t.cap) := by rw [hwb, newAt rfl]; rfl
      have bs : wb.heap.size = wr.heap.size + 1 := by rw [hwb]; simp
      have bz : wb.cell? ⟨t.g, l, none⟩ = some (.int .i64 qz) := by rw [hbb.cell (p := ⟨t.g, l, none⟩) hgw2]; exact hz
      have hNb := Lib.hid (hNw.out.below hbb)
      have HBb := Lib.hid (hB.out.trans (hbb.mono hsz))
      rw [← hwb]
      have hgw3 : t.g < wb.heap.size := by omega
      have hsz2 : wr.heap.size < wb.heap.size := by omega
      clear hwb hbb z0 z1 hz hNw b0 bs
      go_at_call 73
      refine (end_any t.c qz t.g l t.cap _ hl6 hgw3 bz).mono ?_
      rintro e w6 ⟨rfl, hb6⟩
      have b1' : w6.cell? ⟨wr.heap.size, 1, none⟩ = some (.slice (some ⟨t.g, 0, none⟩) (l + 1) t.cap) := by rw [hb6.cell (p := ⟨wr.heap.size, 1, none⟩) hsz2]; exact b1
      have hN6 := Lib.hid (hNb.out.below hb6)
      have HB6 := Lib.hid (HBb.out.trans (hb6.mono (by omega)))
      clear b1 bz hb6 hNb HBb
      by_cases hqy : qz = y
      · have hfin := HY.out _ HF.out t.key Hmem.out (Hq.out.trans hqy)
        subst hqy
        go_wp2_with fail
        refine bodyPost_ret (v := .tuple #[.slice (some ⟨t.g, 0, none⟩) (l + 1) t.cap, .bool true]) (by simp [results, Try.results34, go_sem]) rfl ?_
        obtain ⟨hf1, hf2, hf3⟩ := hfin
        have hf1' : t.ns = Z := hf1
        rw [hf3, hf2, ← hf1']
        refine ⟨_, rfl, ?_, HB4.out.trans (HB6.out.mono (by omega))⟩
        have := hN6.out.row (lo := w.heap.size) (by have := Hgt.out; omega)
        rw [Hl.out] at this ⊢
        exact this
      · have g1 : (qz == y) = false := by simp [hqy]
        have HA2 : Hid (∀ j t, j < k + 1 → P[j]? = some t → lastN t.key ≠ y) := fun j u hj hu => by
          rcases Nat.lt_or_eq_of_le (Nat.le_of_lt_succ hj) with h | h
          · exact hA.out j u h hu
          · subst h; rw [Htk.out] at hu; cases hu; rw [Hq.out]; exact hqy
        go_wp2_with fail
        go_roundw
        case rel => exact ⟨k + 1, by omega, by go_num, HB6, HA2⟩
        case measure => simp [intOf]; omega
    · obtain rfl : P.length = k := by omega
      have hge : ¬ ((P.length : Int) < (P.length : Int)) := by omega
      have hfin := HNo.out _ HF.out (fun u hu => by
        obtain ⟨t, ht, rfl⟩ := List.mem_map.1 hu
        obtain ⟨j, hj, e⟩ := List.mem_iff_getElem.1 ht
        exact hA.out j t hj (List.getElem?_eq_some_iff.2 ⟨hj, e⟩))
      go_wp2_with fail
      refine bodyPost_ret (v := .tuple #[.slice none 0 0, .bool false]) (by simp [results, Try.results34, go_sem]) rfl ?_
      exact ⟨_, rfl, Row.empty 1 _ _ _ _ _, HB4.out.trans (hB.out.mono (by omega))⟩
  

end Go.Proofs.Ytjenjdhoblcohaa
