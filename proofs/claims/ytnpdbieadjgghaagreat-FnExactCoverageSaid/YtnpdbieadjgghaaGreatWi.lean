/- Distances: the program. -/
import Derived.Test.YtnpdbieadjgghaaGreatWd
import Derived.Test.YtnpdbieadjgghaaGreatWr
import Derived.Test.YtnpdbieadjgghaaGreatW31
namespace Go.Proofs.YtnpdbieadjgghaaGreat
open Go.RowKit


theorem pcs_at : ∀ (P : List TV) {k : Nat} {t : TV}, P[k]? = some t → (pcs P)[k * 2]? = some (.int .i64 t.c) ∧ (pcs P)[k * 2 + 1]? = some (.slice (some ⟨t.g, 0, none⟩) t.ns.length t.cap)
  | [], _, _, h => by simp at h
  | p :: P, 0, t, h => by
    simp at h; subst h
    exact ⟨by simp [pcs, tv2], by simp [pcs, tv2]⟩
  | p :: P, k + 1, t, h => by
    have := pcs_at P (k := k) (t := t) (by simpa using h)
    have e : pcs (p :: P) = tv2 p ++ pcs P := rfl
    rw [e, List.getElem?_append_right (by simp [tv2]; omega), List.getElem?_append_right (by simp [tv2]; omega)]
    rw [show (k + 1) * 2 - (tv2 p).length = k * 2 by simp [tv2]; omega, show (k + 1) * 2 + 1 - (tv2 p).length = k * 2 + 1 by simp [tv2]; omega]
    exact this
/-- The table behind the trails P. -/
def tabP (P : List TV) : Int → Int := P.foldl (fun d t => fun x => if x = lastN t.key then t.c else d x) (fun _ => 1000000)
theorem tabP_snoc (P : List TV) (t : TV) : tabP (P ++ [t]) = fun x => if x = lastN t.key then t.c else tabP P x := by unfold tabP; rw [List.foldl_append]; rfl
theorem tabP_cases (P : List TV) (x : Int) : (∃ t ∈ P, lastN t.key = x ∧ tabP P x = t.c) ∨ ((∀ t ∈ P, lastN t.key ≠ x) ∧ tabP P x = 1000000) := by
  have H : ∀ (n : Nat) (P : List TV), P.length = n → (∃ t ∈ P, lastN t.key = x ∧ tabP P x = t.c) ∨ ((∀ t ∈ P, lastN t.key ≠ x) ∧ tabP P x = 1000000) := by
    intro n
    induction n with
    | zero =>
      intro P hP
      obtain rfl : P = [] := List.eq_nil_of_length_eq_zero hP
      exact .inr ⟨fun t ht => absurd ht (List.not_mem_nil), rfl⟩
    | succ n ih =>
      intro P hP
      obtain ⟨Q, t, rfl⟩ : ∃ Q t, P = Q ++ [t] := ⟨P.take n, P[n]'(by omega), by
        have h1 := List.take_add_one (l := P) (i := n)
        rw [List.take_of_length_le (by omega), List.getElem?_eq_getElem (by omega)] at h1
        exact h1⟩
      rw [tabP_snoc]
      by_cases e : x = lastN t.key
      · exact .inl ⟨t, by simp, e.symm, by simp [e]⟩
      · rcases ih Q (by simpa using hP) with ⟨u, hu, h1, h2⟩ | ⟨h1, h2⟩
        · exact .inl ⟨u, by simp [hu], h1, by simp [e, h2]⟩
        · refine .inr ⟨fun u hu => ?_, by simp [e, h2]⟩
          rcases List.mem_append.1 hu with hu | hu
          · exact h1 u hu
          · rw [List.mem_singleton] at hu; subst hu; exact fun h => e h.symm
  exact H _ P rfl
theorem tabP_dist {N : Int} {L : List Ed} {s : Int} {P : List TV} (hG : gok N L = true) (hs : 0 ≤ s ∧ s < N) (h : Found L s (P.map TV.key)) (x : Int) : tabP P x = dsT N L s x := by
  rcases tabP_cases P x with ⟨t, ht, h1, h2⟩ | ⟨h1, h2⟩
  · have := h.dis hG hs (List.mem_map.2 ⟨t, ht, rfl⟩)
    rw [h1] at this
    rw [h2, this]; rfl
  · rw [h2, h.far hG (x := x) (fun t ht => by
      obtain ⟨u, hu, rfl⟩ := List.mem_map.1 ht
      exact h1 u hu)]
    rfl
theorem grown_below {w w1 w2 : World} {r : Option Nat} (h : w.grownBy w1 r) (b : Below w1.heap.size w1 w2) : w.grownBy w2 r :=
  ⟨b.os.trans h.os, b.tape.trans h.tape, b.output.trans h.output, Nat.le_trans h.size b.size, fun k hk hne => (b.block k (Nat.lt_of_lt_of_le hk h.size)).trans (h.block k hk hne)⟩
theorem grown_set {w w1 : World} {g : Nat} (h : w.grownBy w1 (some g)) (j : Nat) (u : Value) : w.grownBy (w1.setCell ⟨g, j, none⟩ u) (some g) :=
  ⟨h.os, h.tape, h.output, by simpa [World.setCell] using h.size, fun k hk hne => (Below.heap_setCell _ _ _ _ (fun e => hne (by rw [e]))).trans (h.block k hk hne)⟩
theorem below_undrew {w w' : World} (h : Below w.drew.heap.size w.drew w') : Below w.heap.size w w' := ⟨h.os, h.tape, h.output, h.size, fun k hk => h.block k hk⟩
theorem grown_refl (w : World) (r : Option Nat) : w.grownBy w r := ⟨rfl, rfl, rfl, Nat.le_refl _, fun _ _ _ => rfl⟩
theorem grown_cell {w w1 : World} {g b o : Nat} (h : w.grownBy w1 (some g)) (hb : b < w.heap.size) (hne : b ≠ g) : w1.cell? ⟨b, o, none⟩ = w.cell? ⟨b, o, none⟩ := World.cell?_of_block (w := w) (a := ⟨b, o, none⟩) (h.block b hb (fun e => hne (Option.some.inj e)))
/-- What holds at the head of Distances' rounds. -/
structure DiR (v wT wr : World) (g M : Nat) (P : List TV) (k : Nat) : Prop where
  own : OwnI v wr (.slice (some ⟨g, 0, none⟩) M M) M (tabI M (tabP (P.take k)))
  gr : wT.grownBy wr (some g)
theorem DiR.put {v wT w6 : World} {g M q k : Nat} {P : List TV} {c : Int} (hS : tabI M (tabP (P.take (k + 1))) = (tabI M (tabP (P.take k))).set q c) (h1 : OwnI v w6 (.slice (some ⟨g, 0, none⟩) M M) M (tabI M (tabP (P.take k)))) (h2 : wT.grownBy w6 (some g)) : DiR v wT (w6.setCell ⟨g, q, none⟩ (.int .i64 c)) g M P (k + 1) :=
  ⟨by rw [hS]; exact h1.set q c, grown_set h2 q _⟩

set_option maxRecDepth 100000 in
set_option maxHeartbeats 2400000 in
theorem idist_yes (M : Nat) (lo hi n : Nat) (v : Value) (L : List Ed) (s : Nat) (w : World) (hL : L.length = n) (hr : Row 3 w lo hi v n (flat L)) (hh : hi ≤ w.heap.size) (hG : gok (M : Int) L = true) (hs : s < M) :
    Calls Tryz.prog 84 #[.agg #[.int .i64 (M : Int), v], .int .i64 (s : Int)] w fun e w' => ∃ rv, e = .returned rv ∧ Row 1 w' w.heap.size w'.heap.size rv M (tabI M (rounds L (s : Int) M)) ∧ Below w.heap.size w w' := by
  have HR := Lib.hid hr
  have HG := Lib.hid hG
  have HL := Lib.hid hL
  have hN1 := (gok_parts hG).1
  have hN2 := (gok_parts hG).2.1
  have hnd : ndB (M : Int) (s : Int) = true := by unfold ndB; rw [inB_iff]; omega
  obtain ⟨ad, cp, rfl⟩ := hr.slice
  clear hr
  go_enter Tryz.func84, Tryz.ntmps84
  go_wp2_with fail
  go_at_call 51
  refine (igok_any (M : Int) lo hi n _ L _ hL (HR.out.below (B := w.heap.size) (by go_grown) (by omega)) (by simp; omega)).mono ?_
  rw [HG.out]
  rintro e v1 ⟨rfl, hb1⟩
  have sz1 : w.heap.size + 1 ≤ v1.heap.size := by have hh := hb1.size; simp at hh; omega
  have st1 : Below w.heap.size w v1 := Below.trans (by go_grown) (hb1.mono (by simp))
  have c1_0 : v1.cell? ⟨w.heap.size, 0, none⟩ = some (.int .i64 (M : Int)) := by rw [(bcell hb1).1 _ _ (by simp)]; first | (rw [new_at (by simp)]; rfl) | simp
  have c1_1 : v1.cell? ⟨w.heap.size, 1, none⟩ = some (.slice ad n cp) := by rw [(bcell hb1).1 _ _ (by simp)]; first | (rw [new_at (by simp)]; rfl) | simp
  have B1 : Hid (Below w.heap.size w v1) := st1
  have R1_0 : Hid (Row 3 v1 (lo) (hi) (.slice ad n cp) n (flat L)) := HR.out.below st1 (by omega)
  have d1_0 : w.heap.size < v1.heap.size := by omega
  have e1_0 : w.heap.size ≠ v1.heap.size := by omega
  clear st1 HR hb1
  go_wp2_with fail
  go_at_call 52
  refine (hasNode_any (M : Int) _ _ _ (s : Int) _).mono ?_
  rw [hnd]
  rintro e v2 ⟨rfl, hb2⟩
  have sz2 : v1.heap.size ≤ v2.heap.size := hb2.size
  have st2 : Below v1.heap.size v1 v2 := hb2
  have c2_0 : v2.cell? ⟨w.heap.size, 0, none⟩ = some (.int .i64 (M : Int)) := by rw [(bcell st2).1 _ _ (by omega)]; exact c1_0
  have c2_1 : v2.cell? ⟨w.heap.size, 1, none⟩ = some (.slice ad n cp) := by rw [(bcell st2).1 _ _ (by omega)]; exact c1_1
  have B2 : Hid (Below w.heap.size w v2) := B1.out.trans (st2.mono (by omega))
  have R2_0 : Hid (Row 3 v2 (lo) (hi) (.slice ad n cp) n (flat L)) := R1_0.out.below st2 (by omega)
  have d2_0 : w.heap.size < v2.heap.size := by omega
  have e2_0 : w.heap.size ≠ v2.heap.size := by omega
  clear d1_0 e1_0 c1_0 c1_1 B1 st2 R1_0 hb2
  clear hnd
  go_wp2_with fail
  go_at_call 104
  refine (repeat_any M v2.heap.size 1 1000000 _ (by omega) (by omega) (by rw [newAt rfl]; rfl) (by simp)).mono ?_
  rintro e v3 ⟨g, rfl, hO⟩
  have hb3 := hO.below
  have sz3 : v2.heap.size + 1 ≤ v3.heap.size := by have hh := hb3.size; simp at hh; omega
  have st3 : Below v2.heap.size v2 v3 := Below.trans (by go_grown) (hb3.mono (by simp))
  have c3_0 : v3.cell? ⟨w.heap.size, 0, none⟩ = some (.int .i64 (M : Int)) := by rw [(bcell st3).1 _ _ (by omega)]; exact c2_0
  have c3_1 : v3.cell? ⟨w.heap.size, 1, none⟩ = some (.slice ad n cp) := by rw [(bcell st3).1 _ _ (by omega)]; exact c2_1
  have c3_2 : v3.cell? ⟨v2.heap.size, 0, none⟩ = some (.int .i64 1000000) := by rw [(bcell hb3).1 _ _ (by simp)]; first | (rw [new_at (by simp)]; rfl) | simp
  have B3 : Hid (Below w.heap.size w v3) := B2.out.trans (st3.mono (by omega))
  have R3_0 : Hid (Row 3 v3 (lo) (hi) (.slice ad n cp) n (flat L)) := R2_0.out.below st3 (by omega)
  have d3_0 : w.heap.size < v3.heap.size := by omega
  have e3_0 : w.heap.size ≠ v3.heap.size := by omega
  have d3_1 : v2.heap.size < v3.heap.size := by omega
  have e3_1 : v2.heap.size ≠ v3.heap.size := by omega
  clear d2_0 e2_0 c2_0 c2_1 B2 st3 R2_0 hb3
  have HO := Lib.hid hO
  clear hO
  go_wp2_with fail
  go_at_call 73
  refine (trails_any (M : Int) (s : Int) lo hi n _ L _ HG.out hL (R3_0.out) (by omega) (by omega)).mono ?_
  rintro e v4 ⟨P, vt, rfl, hF, hPl, hown, hN, hb4⟩
  have HF := Lib.hid hF
  have HN := Lib.hid hN
  obtain ⟨ta, tc, ht⟩ := own_slice hown
  subst ht
  have HT := Lib.hid hown
  obtain ⟨wB, hwB⟩ : ∃ wB, wB = (v2.alloc (.cells #[.int .i64 1000000] 3)) := ⟨_, rfl⟩
  have HO4 : Hid (OwnI wB v4 (.slice (some ⟨g, 0, none⟩) M M) M (tabI M (tabP []))) := by rw [hwB]; exact HO.out.grow hb4
  have hg3 := HO.out.lt.2
  have hgB : wB.heap.size ≤ g := by rw [hwB]; exact HO.out.lt.1
  have HB4 : Hid (Below w.heap.size w v4) := B3.out.trans (hb4.mono (by omega))
  have hwB2 : w.heap.size ≤ wB.heap.size := by rw [hwB]; simp; omega
  have hs4 := hb4.size
  have HD : Hid (DiR wB v4 v4 g M P 0) := ⟨HO4.out, grown_refl _ _⟩
  clear hwB hF hN hown HO HO4 hb4 c3_0 c3_1 c3_2 B3 R3_0 d3_0 e3_0 d3_1 e3_1
  go_wp2_with fail
  go_loopw [25] (fun i wr => ∃ k : Nat, k ≤ P.length ∧ i = .int .i64 (k : Int) ∧ Hid (DiR wB v4 wr g M P k)) (fun i _ => P.length - (intOf i).toNat)
  case atStart => exact ⟨0, Nat.zero_le _, rfl, HD⟩
  case round =>
    obtain ⟨k, hk, rfl, hR⟩ := hrel
    by_cases hlt : k < P.length
    · obtain ⟨t, htk⟩ : ∃ t, P[k]? = some t := ⟨P[k], List.getElem?_eq_getElem _⟩
      obtain ⟨hNt, hgt⟩ := HN.out t (List.mem_of_getElem? htk)
      obtain ⟨gt, tcap, hv, hb2, hlt2⟩ := HT.out.form (by omega)
      cases hv
      have hgne : gt ≠ g := by omega
      have hngt : t.g ≠ g := by omega
      obtain ⟨p0, p1⟩ := pcs_at P htk
      have z0 : wr.cell? ⟨gt, k * 2, none⟩ = some (.int .i64 t.c) := by rw [grown_cell hR.out.gr hlt2 hgne, HT.out.cellAt _ (by omega)]; exact p0
      have z1 : wr.cell? ⟨gt, k * 2 + 1, none⟩ = some (.slice (some ⟨t.g, 0, none⟩) t.ns.length t.cap) := by rw [grown_cell hR.out.gr hlt2 hgne, HT.out.cellAt _ (by omega)]; exact p1
      obtain ⟨l, hl⟩ : ∃ l, t.ns.length = l + 1 := ⟨t.ns.length - 1, by have := hNt.1; omega⟩
      obtain ⟨j0, j1, j2, ⟨j3, j4⟩, _⟩ := (HF.out.best t.key (List.mem_map.2 ⟨t, List.mem_of_getElem? htk, rfl⟩)).1.bounds HG.out ⟨by omega, by omega⟩
      obtain ⟨q, hq⟩ : ∃ q : Nat, lastN t.key = (q : Int) := ⟨(lastN t.key).toNat, by omega⟩
      have hqM : q < M := by omega
      have hz : wr.cell? ⟨t.g, l, none⟩ = some (.int .i64 (q : Int)) := by rw [grown_cell hR.out.gr hNt.2.2.1 hngt, ← hq]; exact hNt.2.2.2 l _ (last_at hl)
      rw [hl] at z1
      have htake : Hid (P.take (k + 1) = P.take k ++ [t]) := by show _ = _; rw [List.take_add_one, htk]; rfl
      have Hq := Lib.hid hq
      have hgw : gt < wr.heap.size := by have := hR.out.gr.size; omega
      have hgw2 : t.g < wr.heap.size := by have := hR.out.gr.size; have := hNt.2.2.1; omega
      have hgl := hR.out.own.lt.2
      have hl6 : l ≤ 1100000 := by have := hNt.2.1; omega
      have HRh := Lib.hid hR
      have q0 : (k : Int) < (P.length : Int) := by omega
      have q1 : (0 : Int) ≤ (k : Int) := by omega
      have q2 : (0 : Int) ≤ (q : Int) := by omega
      have q3 : (q : Int) < (M : Int) := by omega
      clear hNt hgt hb2 p0 p1 j0 j1 j2 j3 j4 hq htk hR
      have HS : Hid (tabI M (tabP (P.take (k + 1))) = (tabI M (tabP (P.take k))).set q t.c) := by show _ = _; rw [htake.out, tabP_snoc, tabI_set, Hq.out]
      go_wp2_with fail
      obtain ⟨wb, hwb⟩ : ∃ wb, wb = wr.alloc (.cells #[.int .i64 t.c, .slice (some ⟨t.g, 0, none⟩) (l + 1) t.cap] 120) := ⟨_, rfl⟩
      have hbb : Below wr.heap.size wr wb := by rw [hwb]; exact (Below.refl _ _).alloc (Nat.le_refl _) _
      have b0 : wb.cell? ⟨wr.heap.size, 0, none⟩ = some (.int .i64 t.c) := by rw [hwb, newAt rfl]; rfl
      have b1 : wb.cell? ⟨wr.heap.size, 1, none⟩ = some (.slice (some ⟨t.g, 0, none⟩) (l + 1) t.cap) := by rw [hwb, newAt rfl]; rfl
      have bs : wb.heap.size = wr.heap.size + 1 := by rw [hwb]; simp
      have bz : wb.cell? ⟨t.g, l, none⟩ = some (.int .i64 (q : Int)) := by rw [hbb.cell (p := ⟨t.g, l, none⟩) hgw2]; exact hz
      have HRo := Lib.hid (HRh.out.own.grow hbb)
      have HRg := Lib.hid (grown_below HRh.out.gr hbb)
      rw [← hwb]
      have bl : wr.heap.size < wb.heap.size := by omega
      have Bz := Lib.hid bz
      have B0 := Lib.hid b0
      have B1 := Lib.hid b1
      have hgl2 : g < wb.heap.size := by omega
      have hgw3 : t.g < wb.heap.size := by omega
      have Bs := Lib.hid bs
      clear hwb hbb z0 z1 hz bz hgw hgw2 hgl bs HRh htake Hq hlt2 hngt hgne
      go_region_with (first | (go_at_call 74; refine (end_any t.c (q : Int) t.g l t.cap wb.drew hl6 hgw3 Bz.out).mono ?_; rintro e w6 ⟨rfl, hb6⟩; have hb7 : Below wb.heap.size wb w6 := below_undrew hb6; have x0 : w6.cell? ⟨wr.heap.size, 0, none⟩ = some (.int .i64 t.c) := (hb7.cell (p := ⟨wr.heap.size, 0, none⟩) bl).trans B0.out; have HO6 := Lib.hid (HRo.out.grow hb7); have HG6 := Lib.hid (grown_below HRg.out hb7); have f6 := HO6.out.frz q; have c6 := HO6.out.at hqM (tabI_at _ hqM); have l6 := HO6.out.lt.2; have s6 := hb7.size; clear hb6 hb7))
      all_goals
        go_wp2_with fail
        go_roundw
        case rel => exact ⟨k + 1, by omega, by go_num, Lib.hid (DiR.put HS.out HO6.out HG6.out)⟩
        case measure => simp [intOf]; omega
    · obtain rfl : P.length = k := by omega
      have hge : ¬ ((P.length : Int) < (P.length : Int)) := by omega
      have hE : tabI M (tabP (P.take P.length)) = tabI M (rounds L (s : Int) M) := by
        rw [List.take_length]
        exact tabI_congr fun i _ => tabP_dist HG.out ⟨by omega, by omega⟩ HF.out i
      have HE := Lib.hid hE
      clear hE
      go_wp2_with fail
      refine bodyPost_ret (v := .slice (some ⟨g, 0, none⟩) M M) (by simp [results, Tryz.results84, go_sem]) rfl ⟨_, rfl, ?_, ?_⟩
      · rw [← HE.out]
        exact (hR.out.own.toRow (by omega)).wide hwB2 (Nat.le_refl _)
      · have b := hR.out.own.below
        have e := hR.out.gr
        refine ⟨e.os.trans HB4.out.os, e.tape.trans HB4.out.tape, e.output.trans HB4.out.output, by have := HB4.out.size; have := e.size; omega, fun x hx => ?_⟩
        exact (e.block x (by have := HB4.out.size; omega) (fun h => by have := Option.some.inj h; omega)).trans (HB4.out.block x hx)

end Go.Proofs.YtnpdbieadjgghaaGreat
