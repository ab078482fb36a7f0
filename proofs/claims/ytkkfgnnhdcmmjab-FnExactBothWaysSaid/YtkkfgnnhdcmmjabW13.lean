/- BothWays of the program as a contract. -/
import Derived.Test.YtkkfgnnhdcmmjabW12
namespace Go.Proofs.Ytkkfgnnhdcmmjab
open Go.RowKit


/-- The world behind a table of costs that has been laid down. -/
theorem tab_laid (v2 : World) (L : List Ed) {W : World} (hW : W = (v2.alloc (.cells Try.zeroCells64 64)).setRow v2.heap.size (tabOf L)) : Below v2.heap.size v2 W ∧ W.heap.size = v2.heap.size + 1 ∧ W.heap[v2.heap.size]? = some (.cells (tabOf L) 64 (0, 0)) := by
  subst hW
  exact ⟨below_setRow ((Below.refl _ _).alloc (Nat.le_refl _) _) (Nat.le_refl _) _, by simp, setRow_heap _ _ _ _ _ _ (heap_alloc_new _ _)⟩
theorem tab_cell {w : World} {T : Nat} {L : List Ed} (h : w.heap[T]? = some (.cells (tabOf L) 64 (0, 0))) {x y : Int} (hx : 0 ≤ x ∧ x < 10) (hy : 0 ≤ y ∧ y < 10) : w.cell? ⟨T, x.toNat * 10 + y.toNat, none⟩ = some (.int .i64 (cst L x y)) := by
  rw [cell_of_row w T _ _ _ _ h]; exact tabOf_at L x y hx hy

set_option maxRecDepth 100000 in
set_option maxHeartbeats 4000000 in
theorem ibw_yes (N : Int) (lo hi n : Nat) (v : Value) (L : List Ed) (w : World) (hL : L.length = n) (hr : Row 3 w lo hi v n (flat L)) (hh : hi ≤ w.heap.size) (hG : gok N L = true) :
    Calls Try.prog 25 #[.agg #[.int .i64 N, v]] w fun e w' => ∃ rv, e = .returned (.tuple #[.agg #[.int .i64 N, rv], .bool true]) ∧ Row 3 w' w.heap.size w'.heap.size rv (L.filter (bwP L)).length (flat (L.filter (bwP L))) ∧ Below w.heap.size w w' := by
  have HR := Lib.hid hr
  have HG := Lib.hid hG
  have HL := Lib.hid hL
  have hN1 := (gok_parts hG).1
  have hN2 := (gok_parts hG).2.1
  have h60 : n ≤ 60 := by have := (gok_parts hG).2.2.1; omega
  obtain ⟨ad, cp, rfl, _, hc⟩ := hr.opened
  have HC := Lib.hid hc
  obtain ⟨i59, hi, hz0, hz1, hz2⟩ := info_parts Try.info56
  have I := Lib.hid (And.intro hi (And.intro hz0 (And.intro hz1 hz2)))
  clear hr hc hi hz0 hz1 hz2
  go_enter Try.func25, Try.ntmps25
  go_wp2_with fail
  go_at_call 12
  refine (igok_any N lo hi n _ L _ hL (HR.out.below (B := w.heap.size) (by go_grown) (by omega)) (by simp; omega)).mono ?_
  rw [hG]
  rintro e v1 ⟨rfl, hb1⟩
  have sz1 : w.heap.size + 2 ≤ v1.heap.size := by have hh := hb1.size; simp at hh; omega
  have st1 : Below w.heap.size w v1 := Below.trans (by go_grown) (hb1.mono (by simp; omega))
  have c1_0 : v1.cell? ⟨w.heap.size, 0, none⟩ = some (.int .i64 N) := by rw [(bcell hb1).1 _ _ (by simp; omega), old_box (by simp)]; simp
  have c1_1 : v1.cell? ⟨w.heap.size, 1, none⟩ = some (.slice ad n cp) := by rw [(bcell hb1).1 _ _ (by simp; omega), old_box (by simp)]; simp
  have c1_2 : v1.cell? ⟨w.heap.size + 1, 0, none⟩ = some (.int .i64 0) := by rw [(bcell hb1).1 _ _ (by simp)]; simp
  have c1_3 : v1.cell? ⟨w.heap.size + 1, 1, none⟩ = some (.slice none 0 0) := by rw [(bcell hb1).1 _ _ (by simp)]; simp
  have g1_0 : v1.frozen? ⟨w.heap.size + 1, 0, none⟩ = false := by rw [(bcell hb1).2 _ _ (by simp)]; simp [go_sem]
  have g1_1 : v1.frozen? ⟨w.heap.size + 1, 1, none⟩ = false := by rw [(bcell hb1).2 _ _ (by simp)]; simp [go_sem]
  have B1 : Hid (Below w.heap.size w v1) := st1
  have R1_0 : Hid (Row 3 v1 (lo) (hi) (.slice ad n cp) n (flat L)) := HR.out.below st1 (by omega)
  have d1_0 : w.heap.size < v1.heap.size := by omega
  have e1_0 : w.heap.size ≠ v1.heap.size := by omega
  have d1_1 : w.heap.size + 1 < v1.heap.size := by omega
  have e1_1 : w.heap.size + 1 ≠ v1.heap.size := by omega
  clear st1 HR hb1
  go_wp2_with fail
  go_at_call 40
  refine (costs_any N lo hi n _ L _ hG hL R1_0.out (by omega)).mono ?_
  rintro e v2 ⟨rfl, hb2⟩
  have sz2 : v1.heap.size ≤ v2.heap.size := hb2.size
  have st2 : Below v1.heap.size v1 v2 := hb2
  have c2_0 : v2.cell? ⟨w.heap.size, 0, none⟩ = some (.int .i64 N) := by rw [(bcell st2).1 _ _ (by omega)]; exact c1_0
  have c2_1 : v2.cell? ⟨w.heap.size, 1, none⟩ = some (.slice ad n cp) := by rw [(bcell st2).1 _ _ (by omega)]; exact c1_1
  have c2_2 : v2.cell? ⟨w.heap.size + 1, 0, none⟩ = some (.int .i64 0) := by rw [(bcell st2).1 _ _ (by omega)]; exact c1_2
  have c2_3 : v2.cell? ⟨w.heap.size + 1, 1, none⟩ = some (.slice none 0 0) := by rw [(bcell st2).1 _ _ (by omega)]; exact c1_3
  have g2_0 : v2.frozen? ⟨w.heap.size + 1, 0, none⟩ = false := by rw [(bcell st2).2 _ _ (by omega)]; exact g1_0
  have g2_1 : v2.frozen? ⟨w.heap.size + 1, 1, none⟩ = false := by rw [(bcell st2).2 _ _ (by omega)]; exact g1_1
  have B2 : Hid (Below w.heap.size w v2) := B1.out.trans (st2.mono (by omega))
  have R2_0 : Hid (Row 3 v2 (lo) (hi) (.slice ad n cp) n (flat L)) := R1_0.out.below st2 (by omega)
  have d2_0 : w.heap.size < v2.heap.size := by omega
  have e2_0 : w.heap.size ≠ v2.heap.size := by omega
  have d2_1 : w.heap.size + 1 < v2.heap.size := by omega
  have e2_1 : w.heap.size + 1 ≠ v2.heap.size := by omega
  clear d1_0 e1_0 d1_1 e1_1 c1_0 c1_1 c1_2 c1_3 g1_0 g1_1 B1 st2 R1_0 hb2
  have s0 : ((v2.alloc (.cells Try.zeroCells64 64)).setRow v2.heap.size (tabOf L)).cell? ⟨w.heap.size, 0, none⟩ = some (.int .i64 N) := by rw [cell_setRow_other _ _ _ _ (by show w.heap.size ≠ _; omega), old_box (by omega)]; exact c2_0
  have s1 : (((v2.alloc (.cells Try.zeroCells64 64)).setRow v2.heap.size (tabOf L)).alloc (.cells #[.int .i64 N, .slice none 0 0] 29)).cell? ⟨w.heap.size, 1, none⟩ = some (.slice ad n cp) := by rw [old_box (by simp; omega), cell_setRow_other _ _ _ _ (by show w.heap.size ≠ _; omega), old_box (by omega)]; exact c2_1
  go_wp2_with (refine wpList_store_rowTo rfl 64 _ _ rfl rfl v2.heap.size (tabOf L) rfl rfl 64 Try.zeroCells64 (heap_alloc_new _ _) (by rw [Try.size64, tabOf, tabA_size]) (by rw [tabA_zero, tabOf, tabA_size, tabA_size]) (tabA_one _) ?_)
  obtain ⟨W, hW⟩ : ∃ W, W = (v2.alloc (.cells Try.zeroCells64 64)).setRow v2.heap.size (tabOf L) := ⟨_, rfl⟩
  obtain ⟨hbW, hsW, htW⟩ := tab_laid v2 L hW
  try simp only [setRow_size, World.size_alloc]
  rw [← hW]
  clear hW s0 s1
  have x1 : (W.alloc (.cells #[.int .i64 N, .slice none 0 0] 29)).cell? ⟨w.heap.size, 1, none⟩ = some (.slice ad n cp) := by rw [old_box (by omega), hbW.cell (p := ⟨w.heap.size, 1, none⟩) (by show w.heap.size < _; omega)]; exact c2_1
  have y0 : (W.alloc (.cells #[.int .i64 N, .slice none 0 0] 29)).cell? ⟨w.heap.size + 1, 0, none⟩ = some (.int .i64 0) := by rw [old_box (by omega), hbW.cell (p := ⟨w.heap.size + 1, 0, none⟩) (by show w.heap.size + 1 < _; omega)]; exact c2_2
  have y1 : (W.alloc (.cells #[.int .i64 N, .slice none 0 0] 29)).cell? ⟨w.heap.size + 1, 1, none⟩ = some (.slice none 0 0) := by rw [old_box (by omega), hbW.cell (p := ⟨w.heap.size + 1, 1, none⟩) (by show w.heap.size + 1 < _; omega)]; exact c2_3
  have y2 : (W.alloc (.cells #[.int .i64 N, .slice none 0 0] 29)).frozen? ⟨w.heap.size + 1, 0, none⟩ = false := by rw [((Below.refl W.heap.size W).alloc (Nat.le_refl _) _).frozen (p := ⟨w.heap.size + 1, 0, none⟩) (by show w.heap.size + 1 < _; omega), hbW.frozen (p := ⟨w.heap.size + 1, 0, none⟩) (by show w.heap.size + 1 < _; omega)]; exact g2_0
  have y3 : (W.alloc (.cells #[.int .i64 N, .slice none 0 0] 29)).frozen? ⟨w.heap.size + 1, 1, none⟩ = false := by rw [((Below.refl W.heap.size W).alloc (Nat.le_refl _) _).frozen (p := ⟨w.heap.size + 1, 1, none⟩) (by show w.heap.size + 1 < _; omega), hbW.frozen (p := ⟨w.heap.size + 1, 1, none⟩) (by show w.heap.size + 1 < _; omega)]; exact g2_1
  have HO : Hid (OutG (W.alloc (.cells #[.int .i64 N, .slice none 0 0] 29)) (W.alloc (.cells #[.int .i64 N, .slice none 0 0] 29)) W.heap.size N []) := OutG.start (by simp) (by simp [go_sem]) (by simp) (by simp)
  have HB : Hid (Below w.heap.size w (W.alloc (.cells #[.int .i64 N, .slice none 0 0] 29))) := (B2.out.trans (hbW.mono (by omega))).alloc (by omega) _
  have HT : Hid ((W.alloc (.cells #[.int .i64 N, .slice none 0 0] 29)).heap[v2.heap.size]? = some (.cells (tabOf L) 64 (0, 0))) := by
    show _ = _
    rw [((Below.refl W.heap.size W).alloc (Nat.le_refl _) _).block v2.heap.size (by omega)]; exact htW
  have hs3 : (W.alloc (.cells #[.int .i64 N, .slice none 0 0] 29)).heap.size = W.heap.size + 1 := by simp
  generalize W.alloc (.cells #[.int .i64 N, .slice none 0 0] 29) = w3 at *
  obtain ⟨X, hX⟩ : ∃ X, X = W.heap.size := ⟨_, rfl⟩
  obtain ⟨T, hT⟩ : ∃ T, T = v2.heap.size := ⟨_, rfl⟩
  obtain ⟨R, hR⟩ : ∃ R, R = w.heap.size + 1 := ⟨_, rfl⟩
  try rw [hsW]
  try rw [hsW] at hX
  try rw [hsW] at HO
  rw [← hX] at HO ⊢
  rw [← hT] at HT ⊢
  rw [← hR] at y0 y1 y2 y3 ⊢
  have n1 : w.heap.size < R := by omega
  have n2 : R < X := by omega
  have n3 : R ≠ X := by omega
  have n4 : X < w3.heap.size := by omega
  have n5 : w.heap.size < X := by omega
  have n6 : T < X := by omega
  have HRT := Lib.hid (And.intro hX (And.intro hT hR))
  clear hX hT hR hs3 hbW hsW htW c2_0 c2_1 c2_2 c2_3 g2_0 g2_1 d2_0 e2_0 d2_1 e2_1 B2 sz1 sz2
  go_loopw [20] (fun i wr => ∃ k : Nat, k ≤ n ∧ i = .int .i64 (k : Int) ∧ Hid (OutG w3 wr X N ((L.take k).filter (bwP L)))) (fun i _ => n - (intOf i).toNat)
  case atStart => exact ⟨0, Nat.zero_le _, rfl, HO⟩
  case round =>
    obtain ⟨k, hk, rfl, hR⟩ := hrel
    have hBw : Below w.heap.size w wr := HB.out.trans (hR.out.1.mono (by omega))
    have HBw := Lib.hid hBw
    have hXl := hR.out.size
    by_cases hlt : k < n
    · obtain ⟨g, rfl, hg, hcell⟩ := HC.out (by omega)
      obtain ⟨r, hrk⟩ : ∃ r, L[k]? = some r := ⟨L[k]'(by rw [HL.out]; exact hlt), List.getElem?_eq_getElem _⟩
      have hm := gok_mem HG.out (List.mem_of_getElem? hrk)
      obtain ⟨a, b, c⟩ := r
      obtain ⟨r0, r1, r2⟩ := flat_at L k _ hrk
      have z0 : wr.cell? ⟨g, k * 3, none⟩ = some (.int .i64 a) := by rw [hBw.cell (p := ⟨g, k * 3, none⟩) (by show g < _; omega)]; exact hcell _ _ r0
      have z1 : wr.cell? ⟨g, k * 3 + 1, none⟩ = some (.int .i64 b) := by rw [hBw.cell (p := ⟨g, k * 3 + 1, none⟩) (by show g < _; omega)]; exact hcell _ _ r1
      have z2 : wr.cell? ⟨g, k * 3 + 2, none⟩ = some (.int .i64 c) := by rw [hBw.cell (p := ⟨g, k * 3 + 2, none⟩) (by show g < _; omega)]; exact hcell _ _ r2
      have ha : 0 ≤ a ∧ a < 10 := ⟨hm.1.1, by have h' : a < N := hm.1.2; omega⟩
      have hb : 0 ≤ b ∧ b < 10 := ⟨hm.2.1.1, by have h' : b < N := hm.2.1.2; omega⟩
      have cT : wr.cell? ⟨T, b.toNat * 10 + a.toNat, none⟩ = some (.int .i64 (cst L b a)) := tab_cell (by rw [hR.out.1.block T n6]; exact HT.out) hb ha
      have a0 := ha.1
      have a1 := ha.2
      have b0 := hb.1
      have b1 := hb.2
      have hTl : T < wr.heap.size := by omega
      have Hf := Lib.hid (filter_snoc (P := bwP L) hrk)
      have q0 : (0 : Int) ≤ (k : Int) := by omega
      have q1 : (k : Int) < (n : Int) := by omega
      have hqb := (cst_bound HG.out b a).2
      obtain ⟨q, hq⟩ : ∃ q, q = cst L b a := ⟨_, rfl⟩
      rw [← hq] at cT hqb
      have Hq := Lib.hid hq
      have HE := Lib.hid (hR.out.below ((Below.refl _ _).alloc (Nat.le_refl _) (.cells #[.int .i64 a, .int .i64 b, .int .i64 c] 56)))
      clear r0 r1 r2 hrk hcell hm hBw ha hb hq hR
      by_cases hP : q = 1000000
      · have HP : Hid (bwP L (a, b, c) = false) := by show decide (cst L b a < 1000000) = false; rw [← Hq.out]; exact decide_eq_false (by omega)
        rw [HP.out, if_neg (by decide), List.append_nil] at Hf
        have hPe : (q != 1000000) = false := by simp [hP]
        clear hP hqb
        go_wp2_with fail
        go_quiet (fail)
        go_wp2_with fail
        go_roundw
        case rel => exact ⟨k + 1, by omega, by go_num, by rw [Hf.out]; exact HE.out.drewN _⟩
        case measure => simp [intOf]; omega
      · have HP : Hid (bwP L (a, b, c) = true) := by show decide (cst L b a < 1000000) = true; rw [← Hq.out]; exact decide_eq_true (by omega)
        rw [HP.out, if_pos rfl] at Hf
        have hPe : (q != 1000000) = true := by simp [hP]
        have hll := filter_len (bwP L) L k
        obtain ⟨m, hm⟩ : ∃ m, m = ((L.take k).filter (bwP L)).length := ⟨_, rfl⟩
        rw [← hm] at hll
        have Hm := Lib.hid hm
        clear hP hqb hm
        go_wp2_with fail
        go_quiet (fail)
        obtain ⟨w2, hw2⟩ : ∃ w2, w2 = (wr.alloc (.cells #[.int .i64 a, .int .i64 b, .int .i64 c] 56)).drewN nq := ⟨_, rfl⟩
        obtain ⟨B, hB⟩ : ∃ B, B = wr.heap.size := ⟨_, rfl⟩
        have HE2 : Hid (OutG w3 w2 X N ((L.take k).filter (bwP L))) := by show OutG _ _ _ _ _; rw [hw2]; exact HE.out.drewN _
        have e0 : w2.cell? ⟨B, 0, none⟩ = some (.int .i64 a) := by rw [hw2, hB]; simp [go_sem]
        have e1 : w2.cell? ⟨B, 1, none⟩ = some (.int .i64 b) := by rw [hw2, hB]; simp [go_sem]
        have e2 : w2.cell? ⟨B, 2, none⟩ = some (.int .i64 c) := by rw [hw2, hB]; simp [go_sem]
        have hBl : B < w2.heap.size := by rw [hw2, hB]; simp
        rw [← hw2, ← hB]
        clear hw2 hB HE
        obtain ⟨rv, hrv, hown⟩ := HE2.out.2.2.2.2
        obtain ⟨ra, rc, hra⟩ := own_slice hown
        subst hra
        rw [← Hm.out] at hrv
        have hfX := HE2.out.2.2.1
        have hX2 := HE2.out.size
        have Hw := Lib.hid hown
        rw [← Hm.out] at Hw
        clear hown
        go_wp2_with (at_builtin; refine wpList_append_lies _ rfl _ _ 27 rfl (X + 1) 56 i59 (.agg #[.int .i64 0, .int .i64 0, .int .i64 0]) 3 24 Try.underlying27 I.out.1 I.out.2.1 I.out.2.2.1 I.out.2.2.2 rfl (by decide) _ m (ints (flat ((L.take k).filter (bwP L)))) rfl (Hw.out.alloc _) ⟨w2.heap.size, 0, none⟩ 1 1 [.int .i64 a, .int .i64 b, .int .i64 c] rfl rfl (fun j u hj => cell_three_new w2 (.int .i64 a) (.int .i64 b) (.int .i64 c) 56 j u hj) (three_one _ _ _) (by decide) ?c1 ?c2 ?c3 _ rfl ?_)
        case c1 => unfold maxLen; omega
        case c2 => omega
        case c3 => simp; omega
        intro g4 cap4 w4 hown4 hgrow4 hat4 hlt4
        obtain ⟨⟨uu, hc4⟩, hf4, hF4⟩ := OutG.app HE2.out (by rw [← Hm.out]; exact Hw.out) hgrow4 (show m + 1 = ((L.take k).filter (bwP L)).length + 1 by rw [Hm.out]) hown4
        have HF := Lib.hid hF4
        clear hF4 hown4 hgrow4 hat4 hlt4 Hw HE2
        go_wp2_with fail
        go_roundw
        case rel => exact ⟨k + 1, by omega, by go_num, by rw [Hf.out]; exact HF.out⟩
        case measure => simp [intOf]; omega
    · have hge : ¬ ((k : Int) < (n : Int)) := by omega
      obtain rfl : k = n := by omega
      have ht : L.take k = L := List.take_of_length_le (by rw [HL.out]; exact Nat.le_refl _)
      rw [ht] at hR
      obtain ⟨_, _, _, o0, rv, hrv, hown⟩ := hR.out
      obtain ⟨ra, rc, hra⟩ := own_slice hown
      subst hra
      have hrow := row_of_own hown (by have := List.length_filter_le (bwP L) L; omega)
      have b0 : wr.cell? ⟨R, 0, none⟩ = some (.int .i64 0) := by rw [hR.out.1.cell (p := ⟨R, 0, none⟩) n2]; exact y0
      have b1 : wr.cell? ⟨R, 1, none⟩ = some (.slice none 0 0) := by rw [hR.out.1.cell (p := ⟨R, 1, none⟩) n2]; exact y1
      have b2 : wr.frozen? ⟨R, 0, none⟩ = false := by rw [hR.out.1.frozen (p := ⟨R, 0, none⟩) n2]; exact y2
      have b3 : wr.frozen? ⟨R, 1, none⟩ = false := by rw [hR.out.1.frozen (p := ⟨R, 1, none⟩) n2]; exact y3
      obtain ⟨m, hm⟩ : ∃ m, m = (L.filter (bwP L)).length := ⟨_, rfl⟩
      rw [← hm] at hrv hrow
      have Hm := Lib.hid hm
      have Hrow := Lib.hid (Row.set2 (w0 := w) hrow (R := R) (.inl (by omega)) (.int .i64 N) (.slice ra m rc) (by omega) (Nat.le_refl _))
      have r0 := set2_0 (x := .int .i64 N) (y := .slice ra m rc) b0
      have r1 := set2_1 (x := .int .i64 N) (y := .slice ra m rc) b1
      clear hown hrow ht hm
      go_wp2_with fail
      refine bodyPost_ret (v := .tuple #[.agg #[.int .i64 N, .slice ra m rc], .bool true]) (by simp [results, Try.results25, go_sem, r0, r1]) rfl ⟨_, rfl, by rw [← Hm.out]; exact Hrow.out, ?_⟩
      exact (HBw.out.setCell (by show _ ≤ R; omega) _).setCell (by show _ ≤ R; omega) _

end Go.Proofs.Ytkkfgnnhdcmmjab
