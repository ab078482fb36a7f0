/- TreeOf of the program. -/
import Derived.Test.YtnpdbieadjgghaaCw
import Derived.Test.YtnpdbieadjgghaaIc
namespace Go.Proofs.Ytnpdbieadjgghaa
open Go.RowKit

/-- What TreeOf answers. -/
def TrPost (m : Nat) (Z : List Int) (w : World) (e : Ending) (w' : World) : Prop := ∃ rv, e = .returned rv ∧ Row 1 w' w.heap.size w'.heap.size rv m Z ∧ Below w.heap.size w w'

/-- What holds at the head of TreeOf's rounds. -/
structure TrR (v wT wr : World) (g M : Nat) (P : List Tr) (k : Nat) : Prop where
  own : OwnI v wr (.slice (some ⟨g, 0, none⟩) M M) M (tabI M (tabT (P.take k)))
  gr : wT.grownBy wr (some g)
theorem TrR.put {v wT w6 : World} {g M q k : Nat} {P : List Tr} {c : Int} (hS : tabI M (tabT (P.take (k + 1))) = (tabI M (tabT (P.take k))).set q c) (h1 : OwnI v w6 (.slice (some ⟨g, 0, none⟩) M M) M (tabI M (tabT (P.take k)))) (h2 : wT.grownBy w6 (some g)) : TrR v wT (w6.setCell ⟨g, q, none⟩ (.int .i64 c)) g M P (k + 1) :=
  ⟨by rw [hS]; exact h1.set q c, grown_set h2 q _⟩
theorem TrR.keep {v wT wr w6 : World} {g M k : Nat} {P : List Tr} (hS : tabT (P.take (k + 1)) = tabT (P.take k)) (h : TrR v wT wr g M P k) (b : Below wr.heap.size wr w6) : TrR v wT w6 g M P (k + 1) :=
  ⟨by rw [hS]; exact h.own.grow b, grown_below h.gr b⟩

set_option maxRecDepth 100000 in
set_option maxHeartbeats 2400000 in
theorem itree_no0 (N : Int) (lo hi n : Nat) (v : Value) (L : List Ed) (x : Int) (w : World) (hL : L.length = n) (hr : Row 3 w lo hi v n (flat L)) (hh : hi ≤ w.heap.size) (hn : gok N L = false) :
    Calls Try.prog 36 #[.agg #[.int .i64 N, v], .int .i64 x] w (TrPost 0 [] w) := by
  have HR := Lib.hid hr
  have Hn := Lib.hid hn
  obtain ⟨ad, cp, rfl⟩ := hr.slice
  clear hr hn
  go_enter Try.func36, Try.ntmps36
  go_wp2_with fail
  go_at_call 75
  refine (igok_any N lo hi n _ L _ hL (HR.out.below (B := w.heap.size) (by go_grown) (by omega)) (by simp; omega)).mono ?_
  rw [Hn.out]
  rintro e v1 ⟨rfl, hb1⟩
  have sz1 : w.heap.size + 1 ≤ v1.heap.size := by have hh := hb1.size; simp at hh; omega
  have st1 : Below w.heap.size w v1 := Below.trans (by go_grown) (hb1.mono (by simp))
  have c1_0 : v1.cell? ⟨w.heap.size, 0, none⟩ = some (.int .i64 N) := by rw [(bcell hb1).1 _ _ (by simp)]; first | (rw [new_at (by simp)]; rfl) | simp
  have c1_1 : v1.cell? ⟨w.heap.size, 1, none⟩ = some (.slice ad n cp) := by rw [(bcell hb1).1 _ _ (by simp)]; first | (rw [new_at (by simp)]; rfl) | simp
  have B1 : Hid (Below w.heap.size w v1) := st1
  have R1_0 : Hid (Row 3 v1 (lo) (hi) (.slice ad n cp) n (flat L)) := HR.out.below st1 (by omega)
  have d1_0 : w.heap.size < v1.heap.size := by omega
  have e1_0 : w.heap.size ≠ v1.heap.size := by omega
  clear st1 HR hb1
  go_wp2_with fail
  go_ret
  exact ⟨_, rfl, Row.empty 1 _ _ _ _ _, B1.out⟩

set_option maxRecDepth 100000 in
set_option maxHeartbeats 2400000 in
theorem itree_no1 (N : Int) (lo hi n : Nat) (v : Value) (L : List Ed) (x : Int) (w : World) (hL : L.length = n) (hr : Row 3 w lo hi v n (flat L)) (hh : hi ≤ w.heap.size) (hn : gok N L = true ∧ ndB N x = false) :
    Calls Try.prog 36 #[.agg #[.int .i64 N, v], .int .i64 x] w (TrPost 0 [] w) := by
  have HR := Lib.hid hr
  have Hn := Lib.hid hn
  obtain ⟨ad, cp, rfl⟩ := hr.slice
  clear hr hn
  go_enter Try.func36, Try.ntmps36
  go_wp2_with fail
  go_at_call 75
  refine (igok_any N lo hi n _ L _ hL (HR.out.below (B := w.heap.size) (by go_grown) (by omega)) (by simp; omega)).mono ?_
  rw [Hn.out.1]
  rintro e v1 ⟨rfl, hb1⟩
  have sz1 : w.heap.size + 1 ≤ v1.heap.size := by have hh := hb1.size; simp at hh; omega
  have st1 : Below w.heap.size w v1 := Below.trans (by go_grown) (hb1.mono (by simp))
  have c1_0 : v1.cell? ⟨w.heap.size, 0, none⟩ = some (.int .i64 N) := by rw [(bcell hb1).1 _ _ (by simp)]; first | (rw [new_at (by simp)]; rfl) | simp
  have c1_1 : v1.cell? ⟨w.heap.size, 1, none⟩ = some (.slice ad n cp) := by rw [(bcell hb1).1 _ _ (by simp)]; first | (rw [new_at (by simp)]; rfl) | simp
  have B1 : Hid (Below w.heap.size w v1) := st1
  have R1_0 : Hid (Row 3 v1 (lo) (hi) (.slice ad n cp) n (flat L)) := HR.out.below st1 (by omega)
  have d1_0 : w.heap.size < v1.heap.size := by omega
  have e1_0 : w.heap.size ≠ v1.heap.size := by omega
  clear st1 HR hb1
  go_wp2_with fail
  go_at_call 66
  refine (hasNode_any N _ _ _ x _).mono ?_
  rw [Hn.out.2]
  rintro e v2 ⟨rfl, hb2⟩
  have sz2 : v1.heap.size ≤ v2.heap.size := hb2.size
  have st2 : Below v1.heap.size v1 v2 := hb2
  have c2_0 : v2.cell? ⟨w.heap.size, 0, none⟩ = some (.int .i64 N) := by rw [(bcell st2).1 _ _ (by omega)]; exact c1_0
  have c2_1 : v2.cell? ⟨w.heap.size, 1, none⟩ = some (.slice ad n cp) := by rw [(bcell st2).1 _ _ (by omega)]; exact c1_1
  have B2 : Hid (Below w.heap.size w v2) := B1.out.trans (st2.mono (by omega))
  have R2_0 : Hid (Row 3 v2 (lo) (hi) (.slice ad n cp) n (flat L)) := R1_0.out.below st2 (by omega)
  have d2_0 : w.heap.size < v2.heap.size := by omega
  have e2_0 : w.heap.size ≠ v2.heap.size := by omega
  clear d1_0 e1_0 c1_0 c1_1 B1 st2 R1_0 hb2
  go_wp2_with fail
  go_ret
  exact ⟨_, rfl, Row.empty 1 _ _ _ _ _, B2.out⟩

set_option maxRecDepth 100000 in
set_option maxHeartbeats 4000000 in
theorem itree_yes (M : Nat) (lo hi n : Nat) (v : Value) (L : List Ed) (s : Nat) (f : Int → Int) (w : World) (hL : L.length = n) (hr : Row 3 w lo hi v n (flat L)) (hh : hi ≤ w.heap.size) (hG : gok (M : Int) L = true) (hs : s < M) (hf : TreeP (M : Int) L (s : Int) f) :
    Calls Try.prog 36 #[.agg #[.int .i64 (M : Int), v], .int .i64 (s : Int)] w (TrPost M (tabI M f) w) := by
  have HR := Lib.hid hr
  have HG := Lib.hid hG
  have HL := Lib.hid hL
  have HTf := Lib.hid hf
  have hN1 := (gok_parts hG).1
  have hN2 := (gok_parts hG).2.1
  have hnd : ndB (M : Int) (s : Int) = true := by unfold ndB; rw [inB_iff]; omega
  obtain ⟨ad, cp, rfl⟩ := hr.slice
  clear hr hf
  go_enter Try.func36, Try.ntmps36
  go_wp2_with fail
  go_at_call 75
  refine (igok_any (M : Int) lo hi n _ L _ hL (HR.out.below (B := w.heap.size) (by go_grown) (by omega)) (by simp; omega)).mono ?_
  rw [HG.out]
  rintro e v1 ⟨rfl, hb1⟩
  have sz1 : w.heap.size + 1 ≤ v1.heap.size := by have hh := hb1.size; simp at hh; omega
  have st1 : Below w.heap.size w v1 := Below.trans (by go_grown) (hb1.mono (by simp))
  have c1_0 : v1.cell? ⟨w.heap.size, 0, none⟩ = some (.int .i64 (M : Int)) := by rw [(bcell hb1).1 _ _ (by simp)]; first | (rw [new_at (by simp)]; rfl) | simp
  have c1_1 : v1.cell? ⟨w.heap.size, 1, none⟩ = some (.slice ad n cp) := by rw [(bcell hb1).1 _ _ (by simp)]; first | (rw [new_at (by simp)]; rfl) | simp
  have B1 : Hid (Below w.heap.size w v1) := st1
  have R1_0 : Hid (Row 3 v1 (lo) (hi) (.slice ad n cp) n (flat L)) := HR.out.below st1 (by omega)
  have d1_0 : w.heap.size < v1.heap.size := by omega
  have e1_0 : w.heap.size ≠ v1.heap.size := by omega
  clear st1 HR hb1
  go_wp2_with fail
  go_at_call 66
  refine (hasNode_any (M : Int) _ _ _ (s : Int) _).mono ?_
  rw [hnd]
  rintro e v2 ⟨rfl, hb2⟩
  have sz2 : v1.heap.size ≤ v2.heap.size := hb2.size
  have st2 : Below v1.heap.size v1 v2 := hb2
  have c2_0 : v2.cell? ⟨w.heap.size, 0, none⟩ = some (.int .i64 (M : Int)) := by rw [(bcell st2).1 _ _ (by omega)]; exact c1_0
  have c2_1 : v2.cell? ⟨w.heap.size, 1, none⟩ = some (.slice ad n cp) := by rw [(bcell st2).1 _ _ (by omega)]; exact c1_1
  have B2 : Hid (Below w.heap.size w v2) := B1.out.trans (st2.mono (by omega))
  have R2_0 : Hid (Row 3 v2 (lo) (hi) (.slice ad n cp) n (flat L)) := R1_0.out.below st2 (by omega)
  have d2_0 : w.heap.size < v2.heap.size := by omega
  have e2_0 : w.heap.size ≠ v2.heap.size := by omega
  clear d1_0 e1_0 c1_0 c1_1 B1 st2 R1_0 hb2
  clear hnd
  go_wp2_with fail
  go_at_call 78
  refine (repeat_any M v2.heap.size 1 (-1) _ (by omega) (by omega) (by rw [newAt rfl]; rfl) (by simp)).mono ?_
  rintro e v3 ⟨g, rfl, hO⟩
  have hb3 := hO.below
  have sz3 : v2.heap.size + 1 ≤ v3.heap.size := by have hh := hb3.size; simp at hh; omega
  have st3 : Below v2.heap.size v2 v3 := Below.trans (by go_grown) (hb3.mono (by simp))
  have c3_0 : v3.cell? ⟨w.heap.size, 0, none⟩ = some (.int .i64 (M : Int)) := by rw [(bcell st3).1 _ _ (by omega)]; exact c2_0
  have c3_1 : v3.cell? ⟨w.heap.size, 1, none⟩ = some (.slice ad n cp) := by rw [(bcell st3).1 _ _ (by omega)]; exact c2_1
  have c3_2 : v3.cell? ⟨v2.heap.size, 0, none⟩ = some (.int .i64 (-1)) := by rw [(bcell hb3).1 _ _ (by simp)]; first | (rw [new_at (by simp)]; rfl) | simp
  have B3 : Hid (Below w.heap.size w v3) := B2.out.trans (st3.mono (by omega))
  have R3_0 : Hid (Row 3 v3 (lo) (hi) (.slice ad n cp) n (flat L)) := R2_0.out.below st3 (by omega)
  have d3_0 : w.heap.size < v3.heap.size := by omega
  have e3_0 : w.heap.size ≠ v3.heap.size := by omega
  have d3_1 : v2.heap.size < v3.heap.size := by omega
  have e3_1 : v2.heap.size ≠ v3.heap.size := by omega
  clear d2_0 e2_0 c2_0 c2_1 B2 st3 R2_0 hb3
  have HO := Lib.hid hO
  clear hO
  go_wp2_with fail
  go_at_call 79
  refine (trails_any (M : Int) (s : Int) lo hi n _ L _ HG.out hL (R3_0.out) (by omega) (by omega)).mono ?_
  rintro e v4 ⟨P, vt, rfl, hF, hPl, hown, hN, hb4⟩
  have HF := Lib.hid hF
  have HN := Lib.hid hN
  obtain ⟨ta, tc, ht⟩ := own_slice hown
  subst ht
  have HT := Lib.hid hown
  obtain ⟨K, hK⟩ : ∃ K, K = P.map TV.key := ⟨_, rfl⟩
  have HK := Lib.hid hK
  obtain ⟨wB, hwB⟩ : ∃ wB, wB = (v2.alloc (.cells #[.int .i64 (-1)] 3)) := ⟨_, rfl⟩
  have HO4 : Hid (OwnI wB v4 (.slice (some ⟨g, 0, none⟩) M M) M (tabI M (tabT []))) := by rw [hwB]; exact HO.out.grow hb4
  have hg3 := HO.out.lt.2
  have hgB : wB.heap.size ≤ g := by rw [hwB]; exact HO.out.lt.1
  have HB4 : Hid (Below w.heap.size w v4) := B3.out.trans (hb4.mono (by omega))
  have hwB2 : w.heap.size ≤ wB.heap.size := by rw [hwB]; simp; omega
  have hs4 := hb4.size
  have HD : Hid (TrR wB v4 v4 g M K 0) := ⟨HO4.out, grown_refl _ _⟩
  clear hwB hF hN hown HO HO4 hb4 hK c3_0 c3_1 c3_2 B3 R3_0 d3_0 e3_0 d3_1 e3_1
  go_wp2_with fail
  go_loopw [25] (fun i wr => ∃ k : Nat, k ≤ P.length ∧ i = .int .i64 (k : Int) ∧ Hid (TrR wB v4 wr g M K k)) (fun i _ => P.length - (intOf i).toNat)
  case atStart => exact ⟨0, Nat.zero_le _, rfl, HD⟩
  case round =>
    obtain ⟨k, hk, rfl, hR⟩ := hrel
    by_cases hlt : k < P.length
    · obtain ⟨t, htk⟩ : ∃ t, P[k]? = some t := ⟨P[k], List.getElem?_eq_getElem _⟩
      obtain ⟨hNt, hgt⟩ := HN.out t (List.mem_of_getElem? htk)
      obtain ⟨gt, tcap, hv, hb2, hlt2⟩ := HT.out.form (by omega)
      cases hv
      have hgne : gt ≠ g := by omega
      have hngt : t.g ≠ g := by omega
      obtain ⟨p0, p1⟩ := pcs_at P htk
      have z0 : wr.cell? ⟨gt, k * 2, none⟩ = some (.int .i64 t.c) := by rw [grown_cell hR.out.gr hlt2 hgne, HT.out.cellAt _ (by omega)]; exact p0
      have z1 : wr.cell? ⟨gt, k * 2 + 1, none⟩ = some (.slice (some ⟨t.g, 0, none⟩) t.ns.length t.cap) := by rw [grown_cell hR.out.gr hlt2 hgne, HT.out.cellAt _ (by omega)]; exact p1
      obtain ⟨l, hl⟩ : ∃ l, t.ns.length = l + 1 := ⟨t.ns.length - 1, by have := hNt.1; omega⟩
      obtain ⟨j0, j1, j2, ⟨j3, j4⟩, _⟩ := (HF.out.best t.key (List.mem_map.2 ⟨t, List.mem_of_getElem? htk, rfl⟩)).1.bounds HG.out ⟨by omega, by omega⟩
      obtain ⟨q, hq⟩ : ∃ q : Nat, lastN t.key = (q : Int) := ⟨(lastN t.key).toNat, by omega⟩
      have hqM : q < M := by omega
      have hz : wr.cell? ⟨t.g, l, none⟩ = some (.int .i64 (q : Int)) := by rw [grown_cell hR.out.gr hNt.2.2.1 hngt, ← hq]; exact hNt.2.2.2.at_ l _ (last_at hl)
      have hKk : K[k]? = some t.key := by rw [HK.out, List.getElem?_map, htk]; rfl
      have htake : Hid (K.take (k + 1) = K.take k ++ [t.key]) := by show _ = _; rw [List.take_add_one, hKk]; rfl
      have Hq := Lib.hid hq
      have Hcel := Lib.hid hNt.2.2.2
      have hgw : gt < wr.heap.size := by have := hR.out.gr.size; omega
      have hgw2 : t.g < wr.heap.size := by have := hR.out.gr.size; have := hNt.2.2.1; omega
      have hgw0 := hNt.2.2.1
      have hgl := hR.out.own.lt.2
      have hl6 : l ≤ 1100000 := by have := hNt.2.1; omega
      have HRh := Lib.hid hR
      have q0 : (k : Int) < (P.length : Int) := by omega
      have q1 : (0 : Int) ≤ (k : Int) := by omega
      have q2 : (0 : Int) ≤ (q : Int) := by omega
      have q3 : (q : Int) < (M : Int) := by omega
      clear hNt hgt hb2 p0 p1 j0 j1 j2 j3 j4 hq htk hR hKk
      by_cases h1 : 1 < t.ns.length
      · obtain ⟨r, hr⟩ : ∃ r, l = r + 1 := ⟨l - 1, by omega⟩
        subst hr
        have hzr : wr.cell? ⟨t.g, r, none⟩ = some (.int .i64 (prd t.ns)) := by
          rw [grown_cell HRh.out.gr hgw0 hngt]
          exact Hcel.out.at_ r _ (by have := prd_yes h1; rw [show t.ns.length - 2 = r by omega] at this; exact this)
        obtain ⟨d, hd⟩ : ∃ d, d = prd t.ns := ⟨_, rfl⟩
        rw [← hd] at hzr
        have HS : Hid (tabI M (tabT (K.take (k + 1))) = (tabI M (tabT (K.take k))).set q d) := by show _ = _; rw [htake.out, tabT_snoc, if_pos (show 1 < t.key.2.length from h1), tabI_upd, ← Hq.out, hd]; rfl
        rw [hl] at z1
        have e1 : IntKind.i64.wrap ((r : Int) + 1 + 1 - 2) = (r : Int) := by rw [IntWalk.i64_in _ (by omega)]; omega
        have e2 : IntKind.i64.wrap (r : Int) = (r : Int) := IntWalk.i64_in _ (by omega)
        have p1 : (0 : Int) ≤ (r : Int) := by omega
        have p2 : (r : Int) < (r : Int) + 1 + 1 := by omega
        have p3 : (1 : Int) < (r : Int) + 1 + 1 := by omega
        clear hd h1 hl
        go_wp2_with fail
        obtain ⟨wb, hwb⟩ : ∃ wb, wb = wr.alloc (.cells #[.int .i64 t.c, .slice (some ⟨t.g, 0, none⟩) (r + 1 + 1) t.cap] 90) := ⟨_, rfl⟩
        have hbb : Below wr.heap.size wr wb := by rw [hwb]; exact (Below.refl _ _).alloc (Nat.le_refl _) _
        have b0 : wb.cell? ⟨wr.heap.size, 0, none⟩ = some (.int .i64 t.c) := by rw [hwb, newAt rfl]; rfl
        have b1 : wb.cell? ⟨wr.heap.size, 1, none⟩ = some (.slice (some ⟨t.g, 0, none⟩) (r + 1 + 1) t.cap) := by rw [hwb, newAt rfl]; rfl
        have bs : wb.heap.size = wr.heap.size + 1 := by rw [hwb]; simp
        have bz : wb.cell? ⟨t.g, r + 1, none⟩ = some (.int .i64 (q : Int)) := by rw [hbb.cell (p := ⟨t.g, r + 1, none⟩) hgw2]; exact hz
        have br : wb.cell? ⟨t.g, r, none⟩ = some (.int .i64 d) := by rw [hbb.cell (p := ⟨t.g, r, none⟩) hgw2]; exact hzr
        have HRo := Lib.hid (HRh.out.own.grow hbb)
        have HRg := Lib.hid (grown_below HRh.out.gr hbb)
        rw [← hwb]
        have bl : wr.heap.size < wb.heap.size := by omega
        have Bz := Lib.hid bz
        have B0 := Lib.hid b0
        have B1 := Lib.hid b1
        have Br := Lib.hid br
        have hgl2 : g < wb.heap.size := by omega
        have hgw3 : t.g < wb.heap.size := by omega
        clear hwb hbb z0 z1 hz hzr bz hgw hgw2 hgl bs HRh htake Hq hlt2 hngt hgne hgw0
        go_region_with (first | (go_at_call 80; refine (end_any t.c (q : Int) t.g (r + 1) t.cap wb.drew hl6 hgw3 Bz.out).mono ?_; rintro e w6 ⟨rfl, hb6⟩; have hb7 : Below wb.heap.size wb w6 := below_undrew hb6; have x1 : w6.cell? ⟨wr.heap.size, 1, none⟩ = some (.slice (some ⟨t.g, 0, none⟩) (r + 1 + 1) t.cap) := (hb7.cell (p := ⟨wr.heap.size, 1, none⟩) bl).trans B1.out; have xr : w6.cell? ⟨t.g, r, none⟩ = some (.int .i64 d) := (hb7.cell (p := ⟨t.g, r, none⟩) hgw3).trans Br.out; have HO6 := Lib.hid (HRo.out.grow hb7); have HG6 := Lib.hid (grown_below HRg.out hb7); have f6 := HO6.out.frz q; have c6 := HO6.out.at hqM (tabI_at _ hqM); have l6 := HO6.out.lt.2; have s6 := hb7.size; clear hb6 hb7))
        all_goals
          go_wp2_with fail
          go_roundw
          case rel => exact ⟨k + 1, by omega, by go_num, Lib.hid (TrR.put HS.out HO6.out HG6.out)⟩
          case measure => simp [intOf]; omega
      · obtain rfl : l = 0 := by omega
        have HS : Hid (tabT (K.take (k + 1)) = tabT (K.take k)) := by show _ = _; rw [htake.out, tabT_snoc, if_neg (show ¬ 1 < t.key.2.length from h1)]
        rw [hl] at z1
        have HF2 : Hid (TrR wB v4 (wr.alloc (.cells #[.int .i64 t.c, .slice (some ⟨t.g, 0, none⟩) (0 + 1) t.cap] 90)) g M K (k + 1)) := Lib.hid (TrR.keep HS.out HRh.out ((Below.refl _ _).alloc (Nat.le_refl _) _))
        clear h1 hl hz htake HS Hq HRh
        go_wp2_with fail
        go_roundw
        case rel => exact ⟨k + 1, by omega, by go_num, HF2⟩
        case measure => simp [intOf]; omega
    · obtain rfl : P.length = k := by omega
      have hge : ¬ ((P.length : Int) < (P.length : Int)) := by omega
      have HE : Hid (tabI M (tabT (K.take P.length)) = tabI M f) := by
        show _ = _
        rw [HK.out, List.take_of_length_le (by simp)]
        exact tabI_congr fun i _ => tabT_tree HG.out ⟨by omega, by omega⟩ HF.out HTf.out ⟨by omega, by omega⟩
      go_wp2_with fail
      refine bodyPost_ret (v := .slice (some ⟨g, 0, none⟩) M M) (by simp [results, Try.results36, go_sem]) rfl ⟨_, rfl, ?_, ?_⟩
      · rw [← HE.out]
        exact (hR.out.own.toRow (by omega)).wide hwB2 (Nat.le_refl _)
      · have e := hR.out.gr
        refine ⟨e.os.trans HB4.out.os, e.tape.trans HB4.out.tape, e.output.trans HB4.out.output, by have := HB4.out.size; have := e.size; omega, fun x hx => ?_⟩
        exact (e.block x (by have := HB4.out.size; omega) (fun h => by have := Option.some.inj h; omega)).trans (HB4.out.block x hx)

end Go.Proofs.Ytnpdbieadjgghaa
