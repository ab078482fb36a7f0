/- The table of the costs: the program. -/
import Derived.Test.YtjenjdhoblcohaaW5
import Derived.Great.Walk
import Derived.Great.BuildSlice
import Derived.Laws.Rows
import Derived.Outline
namespace Go.Proofs.Ytjenjdhoblcohaa
open Go.RowKit


def tabA (F : Nat → Int) : Array Value := ((List.range 100).map fun q => Value.int .i64 (F q)).toArray
theorem tabA_size (F : Nat → Int) : (tabA F).size = 100 := by simp [tabA]
theorem tabA_at (F : Nat → Int) {q : Nat} (h : q < 100) : (tabA F)[q]? = some (.int .i64 (F q)) := by simp [tabA, h]
theorem tabA_zero : Try.zeroCells93 = tabA fun _ => 0 := by kernel_rfl
/-- Block T is the table of the costs F. -/
def Tab (w : World) (T : Nat) (F : Nat → Int) : Prop := w.heap[T]? = some (.cells (tabA F) 93 (0, 0))
theorem Tab.cell {w : World} {T : Nat} {F : Nat → Int} (h : Tab w T F) {q : Nat} (hq : q < 100) : w.cell? ⟨T, q, none⟩ = some (.int .i64 (F q)) := by
  rw [cell_of_row w T q _ _ _ h]; exact tabA_at F hq
theorem Tab.frozen {w : World} {T : Nat} {F : Nat → Int} (h : Tab w T F) (q : Nat) : w.frozen? ⟨T, q, none⟩ = false := frozen_of_row w T q _ _ h
theorem Tab.lt {w : World} {T : Nat} {F : Nat → Int} (h : Tab w T F) : T < w.heap.size := (Array.getElem?_eq_some_iff.1 h).1
theorem Tab.set {w : World} {T : Nat} {F : Nat → Int} (h : Tab w T F) (q : Nat) (c : Int) : Tab (w.setCell ⟨T, q, none⟩ (.int .i64 c)) T (fun p => if p = q then c else F p) := by
  unfold Tab
  rw [heap_setCell_same w T q _ _ _ h]
  congr 2
  apply Array.ext_getElem?
  intro i
  rw [Array.getElem?_setIfInBounds, tabA_size]
  by_cases e : q = i
  · subst e
    rw [if_pos rfl]
    by_cases hq : q < 100
    · rw [if_pos hq, tabA_at _ hq, if_pos rfl]
    · rw [if_neg hq]; simp [tabA, hq]
  · rw [if_neg e]
    by_cases hi : i < 100
    · rw [tabA_at _ hi, tabA_at _ hi, if_neg (fun e' => e e'.symm)]
    · simp [tabA, hi]
theorem Tab.block {w w' : World} {T : Nat} {F : Nat → Int} (h : Tab w T F) (hb : w'.heap[T]? = w.heap[T]?) : Tab w' T F := by unfold Tab; rw [hb]; exact h
theorem Tab.below {w w' : World} {T B : Nat} {F : Nat → Int} (h : Tab w T F) (hb : Below B w w') (hB : T < B) : Tab w' T F := h.block (hb.block T hB)

theorem heap3_1 (w : World) (A B C : Obj) : (((w.alloc A).alloc B).alloc C).heap[w.heap.size + 1]? = some B := by
  show (((w.heap.push A).push B).push C)[w.heap.size + 1]? = some B
  simp [Array.getElem_push]
theorem heap3_2 (w : World) (A B C : Obj) : (((w.alloc A).alloc B).alloc C).heap[w.heap.size + 1 + 1]? = some C := by
  show (((w.heap.push A).push B).push C)[w.heap.size + 1 + 1]? = some C
  simp [Array.getElem_push]
theorem below_setRow {B R : Nat} {w w' : World} (h : Below B w w') (hR : B ≤ R) (cs : Array Value) : Below B w (w'.setRow R cs) :=
  ⟨h.os, h.tape, h.output, by rw [size_setRow]; exact h.size, fun k hk => by rw [setRow_other w' R k cs (by omega)]; exact h.block k hk⟩
/-- Since w3 nothing below block T has turned; the table's first m cells are Far. -/
def FarRel (w3 wr : World) (T m : Nat) : Prop := Below T w3 wr ∧ ∃ F, Tab wr T F ∧ ∀ q, q < m → F q = Far
theorem FarRel.one {w3 wr : World} {T m : Nat} (h : FarRel w3 wr T m) : FarRel w3 (wr.setCell ⟨T, m, none⟩ (.int .i64 1000000)) T (m + 1) := by
  obtain ⟨h1, F, h2, h3⟩ := h
  refine ⟨h1.setCell (Nat.le_refl _) _, _, h2.set m 1000000, fun q hq => ?_⟩
  by_cases e : q = m
  · rw [if_pos e]; rfl
  · rw [if_neg e]; exact h3 q (by omega)
/-- The table's cells are the costs of the edges L. -/
def CstRel (w3 wr : World) (T : Nat) (L : List Ed) : Prop := Below T w3 wr ∧ ∃ F, Tab wr T F ∧ ∀ x y, x < 10 → y < 10 → F (x * 10 + y) = cst L (x : Int) (y : Int)
theorem FarRel.all {w3 wr : World} {T : Nat} (h : FarRel w3 wr T 100) : CstRel w3 wr T [] := by
  obtain ⟨h1, F, h2, h3⟩ := h
  exact ⟨h1, F, h2, fun x y hx hy => h3 _ (by omega)⟩
theorem CstRel.one {w3 wr : World} {T : Nat} {L : List Ed} {a b c : Int} {o : Obj} (h : CstRel w3 wr T L) (hT : T < wr.heap.size) (ha : 0 ≤ a ∧ a < 10) (hb : 0 ≤ b ∧ b < 10) :
    CstRel w3 (((wr.setCell ⟨T, a.toNat * 10 + b.toNat, none⟩ (.int .i64 c)).alloc o).drew) T (L ++ [(a, b, c)]) := by
  obtain ⟨h1, F, h2, h3⟩ := h
  refine ⟨((h1.setCell (Nat.le_refl _) _).alloc (by simp; omega) o).drew, _, (h2.set _ c).below ((Below.refl _ _).alloc (Nat.le_refl _) o).drew (by simp; exact hT), fun x y hx hy => ?_⟩
  rw [cst_snoc]
  by_cases e : x * 10 + y = a.toNat * 10 + b.toNat
  · have e1 : x = a.toNat := by omega
    have e2 : y = b.toNat := by omega
    rw [if_pos e, if_pos ⟨by show a = _; omega, by show b = _; omega⟩]
  · rw [if_neg e, if_neg (fun hh => e (by have h1 : a = (x : Int) := hh.1; have h2 : b = (y : Int) := hh.2; omega)), h3 x y hx hy]
theorem CstRel.drew {w3 wr : World} {T : Nat} {L : List Ed} (h : CstRel w3 wr T L) : CstRel w3 wr.drew T L := ⟨h.1.drew, h.2⟩
/-- The table of costs as a value. -/
def tabOf (L : List Ed) : Array Value := tabA fun q => cst L ((q / 10 : Nat) : Int) ((q % 10 : Nat) : Int)
theorem CstRel.tab {w3 wr : World} {T : Nat} {L : List Ed} (h : CstRel w3 wr T L) : wr.heap[T]? = some (.cells (tabOf L) 93 (0, 0)) := by
  obtain ⟨_, F, h2, h3⟩ := h
  rw [h2]
  have : tabA F = tabOf L := by
    apply Array.ext_getElem?
    intro i
    by_cases hi : i < 100
    · unfold tabOf
      rw [tabA_at _ hi, tabA_at _ hi, ← h3 (i / 10) (i % 10) (by omega) (by omega), show i / 10 * 10 + i % 10 = i by omega]
    · simp [tabA, tabOf, hi]
  rw [this]
theorem Try.size93 : (Try.prog.info? 93).map (·.size) = some 100 := by kernel_rfl
theorem tabA_one (F : Nat → Int) : (tabA F).all (·.oneCell') = true := by
  unfold tabA
  rw [List.all_toArray, List.all_eq_true]
  intro v hv
  obtain ⟨q, _, rfl⟩ := List.mem_map.1 hv
  rfl

set_option maxRecDepth 100000 in
set_option maxHeartbeats 4000000 in
theorem costs_row (N : Int) (ad : Option Addr) (n cp : Nat) (L : List Ed) (w : World) (hG : gok N L = true) (hL : L.length = n) (hn : n ≤ 1100000)
    (hc : 0 < n → ∃ g, ad = some ⟨g, 0, none⟩ ∧ g < w.heap.size ∧ ∀ q z, (flat L)[q]? = some z → w.cell? ⟨g, q, none⟩ = some (.int .i64 z)) :
    Calls Try.prog 75 #[.agg #[.int .i64 N, .slice ad n cp]] w fun e w' => e = .returned (.agg (tabOf L)) ∧ Below w.heap.size w w' := by
  have hN1 := (gok_parts hG).1
  have hN2 := (gok_parts hG).2.1
  have HG := Lib.hid hG
  have HL := Lib.hid hL
  have HC := Lib.hid hc
  clear hG hL hc
  go_enter Try.func75, Try.ntmps75
  go_wp2_with fail
  have x0 : (((w.alloc (.cells #[.int .i64 N, .slice ad n cp] 29)).alloc (.cells Try.zeroCells93 93)).alloc (.cells Try.zeroCells93 93)).cell? ⟨w.heap.size, 1, none⟩ = some (.slice ad n cp) := by simp [go_sem]
  have HZ : Hid ((((w.alloc (.cells #[.int .i64 N, .slice ad n cp] 29)).alloc (.cells Try.zeroCells93 93)).alloc (.cells Try.zeroCells93 93)).heap[w.heap.size + 1]? = some (.cells Try.zeroCells93 93 (0, 0))) := by
    show _ = _
    exact heap3_1 _ _ _ _
  have HT : Hid (FarRel (((w.alloc (.cells #[.int .i64 N, .slice ad n cp] 29)).alloc (.cells Try.zeroCells93 93)).alloc (.cells Try.zeroCells93 93)) (((w.alloc (.cells #[.int .i64 N, .slice ad n cp] 29)).alloc (.cells Try.zeroCells93 93)).alloc (.cells Try.zeroCells93 93)) (w.heap.size + 1 + 1) 0) := by
    refine ⟨Below.refl _ _, fun _ => 0, ?_, fun q hq => absurd hq (Nat.not_lt_zero _)⟩
    unfold Tab
    rw [← tabA_zero]
    exact heap3_2 _ _ _ _
  have HB : Hid (Below w.heap.size w (((w.alloc (.cells #[.int .i64 N, .slice ad n cp] 29)).alloc (.cells Try.zeroCells93 93)).alloc (.cells Try.zeroCells93 93))) := by show Below _ _ _; go_grown
  have hs3 : (((w.alloc (.cells #[.int .i64 N, .slice ad n cp] 29)).alloc (.cells Try.zeroCells93 93)).alloc (.cells Try.zeroCells93 93)).heap.size = w.heap.size + 1 + 1 + 1 := by simp
  generalize ((w.alloc (.cells #[.int .i64 N, .slice ad n cp] 29)).alloc (.cells Try.zeroCells93 93)).alloc (.cells Try.zeroCells93 93) = w3 at *
  obtain ⟨T, hT⟩ : ∃ T, T = w.heap.size + 1 + 1 := ⟨_, rfl⟩
  obtain ⟨R, hR⟩ : ∃ R, R = w.heap.size + 1 := ⟨_, rfl⟩
  rw [← hT] at HT ⊢
  rw [← hR] at HZ ⊢
  have n1 : w.heap.size < R := by omega
  have n2 : R < T := by omega
  have n3 : T < w3.heap.size := by omega
  have n4 : R ≠ T := by omega
  have n5 : w.heap.size ≠ T := by omega
  have HTR := Lib.hid (And.intro hT hR)
  clear hT hR hs3
  go_loopw [8] (fun i wr => ∃ k : Nat, k ≤ 10 ∧ i = .int .i64 (k : Int) ∧ Hid (FarRel w3 wr T (k * 10))) (fun i _ => 10 - (intOf i).toNat)
  case atStart => exact ⟨0, Nat.zero_le _, rfl, HT⟩
  case round =>
    obtain ⟨k, hk, rfl, hF⟩ := hrel
    by_cases hlt : k < 10
    · have q0 : (0 : Int) ≤ (k : Int) := by omega
      have q1 : (k : Int) < 10 := by omega
      go_wp2_with fail
      obtain ⟨wo, rfl⟩ : ∃ wo : World, wo = wr := ⟨_, rfl⟩
      go_loopw [11] (fun i wi => ∃ j : Nat, j ≤ 10 ∧ i = .int .i64 (j : Int) ∧ Hid (FarRel w3 wi T (k * 10 + j))) (fun i _ => 10 - (intOf i).toNat)
      case atStart => exact ⟨0, Nat.zero_le _, rfl, hF⟩
      case round =>
        obtain ⟨j, hj, rfl, hF⟩ := hrel
        by_cases hlt2 : j < 10
        · have p0 : (0 : Int) ≤ (j : Int) := by omega
          have p1 : (j : Int) < 10 := by omega
          obtain ⟨F, hF2, _⟩ := hF.out.2
          have cT : wr.cell? ⟨T, k * 10 + j, none⟩ = some (.int .i64 (F (k * 10 + j))) := hF2.cell (by omega)
          have fT : wr.frozen? ⟨T, k * 10 + j, none⟩ = false := hF2.frozen _
          have HF := Lib.hid hF.out.one
          clear hF2 hF
          go_wp2
          go_roundw
          case rel => exact ⟨j + 1, by omega, by go_num, HF⟩
          case measure => simp [intOf]; omega
        · have hge : ¬ ((j : Int) < 10) := by omega
          obtain rfl : j = 10 := by omega
          have HF : Hid (FarRel w3 wr T ((k + 1) * 10)) := by show FarRel _ _ _ _; rw [show (k + 1) * 10 = k * 10 + 10 by omega]; exact hF.out
          clear hF
          go_wp2
          go_roundw
          case rel => exact ⟨k + 1, by omega, by go_num, HF⟩
          case measure => simp [intOf]; omega
    · have hge : ¬ ((k : Int) < 10) := by omega
      obtain rfl : k = 10 := by omega
      have HC0 : Hid (CstRel w3 wr T (L.take 0)) := hF.out.all
      have c0 : wr.cell? ⟨w.heap.size, 1, none⟩ = some (.slice ad n cp) := by rw [hF.out.1.cell (p := ⟨w.heap.size, 1, none⟩) (by show w.heap.size < T; omega)]; exact x0
      clear hF
      go_wp2_with fail
      obtain ⟨wo, rfl⟩ : ∃ wo : World, wo = wr := ⟨_, rfl⟩
      clear c0
      go_loopw [23] (fun i wr => ∃ k : Nat, k ≤ n ∧ i = .int .i64 (k : Int) ∧ Hid (CstRel w3 wr T (L.take k))) (fun i _ => n - (intOf i).toNat)
      case atStart => exact ⟨0, Nat.zero_le _, rfl, HC0⟩
      case round =>
        obtain ⟨k, hk, rfl, hR⟩ := hrel
        by_cases hlt : k < n
        · obtain ⟨g, rfl, hg, hcell⟩ := HC.out (by omega)
          obtain ⟨r, hr⟩ : ∃ r, L[k]? = some r := ⟨L[k]'(by rw [HL.out]; exact hlt), List.getElem?_eq_getElem _⟩
          have hm := gok_mem HG.out (List.mem_of_getElem? hr)
          obtain ⟨a, b, c⟩ := r
          obtain ⟨r0, r1, r2⟩ := flat_at L k _ hr
          have hBw : Below w.heap.size w wr := HB.out.trans (hR.out.1.mono (by omega))
          have z0 : wr.cell? ⟨g, k * 3, none⟩ = some (.int .i64 a) := by rw [hBw.cell (p := ⟨g, k * 3, none⟩) hg]; exact hcell _ _ r0
          have z1 : wr.cell? ⟨g, k * 3 + 1, none⟩ = some (.int .i64 b) := by rw [hBw.cell (p := ⟨g, k * 3 + 1, none⟩) hg]; exact hcell _ _ r1
          have z2 : wr.cell? ⟨g, k * 3 + 2, none⟩ = some (.int .i64 c) := by rw [hBw.cell (p := ⟨g, k * 3 + 2, none⟩) hg]; exact hcell _ _ r2
          obtain ⟨F, hF2, _⟩ := hR.out.2
          have ha : 0 ≤ a ∧ a < 10 := ⟨hm.1.1, by have h' : a < N := hm.1.2; omega⟩
          have hb : 0 ≤ b ∧ b < 10 := ⟨hm.2.1.1, by have h' : b < N := hm.2.1.2; omega⟩
          have hTl := hF2.lt
          have cT : wr.cell? ⟨T, a.toNat * 10 + b.toNat, none⟩ = some (.int .i64 (F (a.toNat * 10 + b.toNat))) := hF2.cell (by omega)
          have fT : wr.frozen? ⟨T, a.toNat * 10 + b.toNat, none⟩ = false := hF2.frozen _
          have HN : Hid (CstRel w3 (((wr.setCell ⟨T, a.toNat * 10 + b.toNat, none⟩ (.int .i64 c)).alloc (.cells #[.int .i64 a, .int .i64 b, .int .i64 c] 96)).drew) T (L.take (k + 1))) := by
            show CstRel _ _ _ _
            rw [take_snoc3 hr]
            exact hR.out.one hTl ha hb
          have a0 := ha.1
          have a1 := ha.2
          have b0 := hb.1
          have b1 := hb.2
          have n6 : T ≠ wr.heap.size := by omega
          have q0 : (0 : Int) ≤ (k : Int) := by omega
          have q1 : (k : Int) < (n : Int) := by omega
          clear hF2 hR r0 r1 r2 hr hcell hBw hm ha hb
          go_wp2_with fail
          go_region
          go_wp2
          go_roundw
          case rel => exact ⟨k + 1, by omega, by go_num, HN⟩
          case measure => simp [intOf]; omega
        · have hge : ¬ ((k : Int) < (n : Int)) := by omega
          obtain rfl : k = n := by omega
          have ht : L.take k = L := List.take_of_length_le (by rw [HL.out]; exact Nat.le_refl _)
          have HTab := Lib.hid hR.out.tab
          have HRz : Hid (wr.heap[R]? = some (.cells Try.zeroCells93 93 (0, 0))) := by show _ = _; rw [hR.out.1.block R n2]; exact HZ.out
          have HBw : Hid (Below w.heap.size w wr) := HB.out.trans (hR.out.1.mono (by omega))
          rw [ht] at HTab
          clear hR ht
          go_wp2_with (first | (refine wpList_load_row rfl 93 _ rfl T rfl 93 (tabOf L) (0, 0) _ HTab.out Try.underlying93 rfl (by rw [Try.size93, tabOf, tabA_size]) ?_) | (refine wpList_store_rowTo rfl 93 _ _ rfl rfl R (tabOf L) rfl rfl 93 Try.zeroCells93 HRz.out (by rw [Try.size93, tabOf, tabA_size]) (by rw [tabA_zero, tabOf, tabA_size, tabA_size]) (tabA_one _) ?_))
          refine bodyPost_ret (v := .agg (tabOf L)) (results_cell_row rfl _ _ R 93 (tabOf L) (0, 0) _ rfl (setRow_heap wr R _ _ _ _ HRz.out) Try.underlying93 rfl (by rw [Try.size93, tabOf, tabA_size])) rfl ⟨rfl, ?_⟩
          exact below_setRow HBw.out (by omega) _

end Go.Proofs.Ytjenjdhoblcohaa
