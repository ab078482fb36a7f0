/- Mixed hops, by the model. -/
import Derived.Test.YtjenjdhoblcohaaOu
import Derived.Test.YtjenjdhoblcohaaHo
import Derived.Test.YtjenjdhoblcohaaGd
import Derived.Test.YtjenjdhoblcohaaOa
import Derived.Test.YtjenjdhoblcohaaWr
import Derived.Test.YtjenjdhoblcohaaLm
import Derived.Laws.CopyOwn
import Derived.Test.YtjenjdhoblcohaaWn
namespace Go.Proofs.Ytjenjdhoblcohaa
open Go.RowKit

/-- The nodes' list, its first k places turned into hops. -/
def tmK (N : Int) (L : List Ed) (d : Int) (M k : Nat) : List Int := towK N L d k ++ (ndK M).drop k
theorem tmK_len (N : Int) (L : List Ed) (d : Int) {M k : Nat} (h : k ≤ M) : (tmK N L d M k).length = M := by unfold tmK; rw [List.length_append, towK_len, List.length_drop, ndK_len]; omega
theorem tmK_at (N : Int) (L : List Ed) (d : Int) {M k : Nat} (h : k < M) : (tmK N L d M k)[k]? = some (k : Int) := by
  unfold tmK
  rw [List.getElem?_append_right (by rw [towK_len]; exact Nat.le_refl _), towK_len, Nat.sub_self, ndK_drop h]
  rfl
theorem towK_succ (N : Int) (L : List Ed) (d : Int) (k : Nat) : towK N L d (k + 1) = towK N L d k ++ [hopV N L (k : Int) d] := by unfold towK; rw [List.range_succ, List.map_append]; rfl
theorem tmK_set (N : Int) (L : List Ed) (d : Int) {M k : Nat} (h : k < M) : (tmK N L d M k).set k (hopV N L (k : Int) d) = tmK N L d M (k + 1) := by
  unfold tmK
  rw [List.set_append_right _ _ (by rw [towK_len]; exact Nat.le_refl _), towK_len, Nat.sub_self, ndK_drop h, towK_succ, List.append_assoc]
  rfl
theorem tmK_zero (N : Int) (L : List Ed) (d : Int) (M : Nat) : tmK N L d M 0 = ndK M := by unfold tmK towK; simp
theorem tmK_all (N : Int) (L : List Ed) (d : Int) (M : Nat) : tmK N L d M M = towK N L d M := by unfold tmK; rw [List.drop_eq_nil_of_le (by rw [ndK_len]; exact Nat.le_refl _), List.append_nil]

set_option maxRecDepth 100000 in
set_option maxHeartbeats 4000000 in
theorem tow_any (M : Nat) (lo hi n : Nat) (v : Value) (L : List Ed) (d : Int) (w : World) (hM : M ≤ 10) (hL : L.length = n) (hr : Row 3 w lo hi v n (flat L)) (hh : hi ≤ w.heap.size) :
    Calls Try.prog 88 #[.agg #[.int .i64 (M : Int), v], .int .i64 d] w fun e w' => ∃ rv, e = .returned rv ∧ OwnI w w' rv M (towK (M : Int) L d M) := by
  obtain ⟨ad, cp, rfl⟩ := hr.slice
  have HL := Lib.hid hL
  have HX0 := Lib.hid (Gx.start (N := (M : Int)) hr hh)
  clear hr hL hh
  go_enter Try.func88, Try.ntmps88
  go_wp2_with fail
  obtain ⟨v0, hv0⟩ : ∃ v0, v0 = w.alloc (.cells #[.int .i64 (M : Int), .slice ad n cp] 29) := ⟨_, rfl⟩
  rw [← hv0] at HX0 ⊢
  have hs0 : v0.heap.size = w.heap.size + 1 := by rw [hv0]; simp
  have HS0 := Lib.hid hs0
  clear hv0 hs0
  have c10 := HX0.out.c0
  have c11 := HX0.out.c1
  go_at_call 62
  refine (nodes_any M _ v0 hM ⟨_, _, _, rfl⟩).mono ?_
  rintro e v1 ⟨nv, rfl, hO⟩
  have HX1 := Lib.hid (HX0.out.grow hO.below)
  have HO1 : Hid (OwnI v0 v1 nv M (tmK (M : Int) L d M 0)) := by rw [tmK_zero]; exact hO
  obtain ⟨na, nc, rfl⟩ := own_slice hO.row
  clear hO c10 c11
  go_wp2_with fail
  go_loopw [12] (fun i wr => ∃ k : Nat, k ≤ M ∧ i = .int .i64 (k : Int) ∧ Hid (OwnI v0 wr (.slice na M nc) M (tmK (M : Int) L d M k))) (fun i _ => M - (intOf i).toNat)
  case atStart => exact ⟨0, Nat.zero_le _, rfl, HO1⟩
  case round =>
    clear HO1 HX1
    obtain ⟨k, hk, rfl, hO⟩ := hrel
    have HXr := Lib.hid (HX0.out.grow hO.out.below)
    have c10 := HXr.out.c0
    have c11 := HXr.out.c1
    by_cases hlt : k < M
    · have q0 : (k : Int) < (M : Int) := by omega
      have q1 : (0 : Int) ≤ (k : Int) := by omega
      obtain ⟨g, c, hform⟩ := hO.out.form (by omega)
      cases hform
      have z0 : wr.cell? ⟨g, k, none⟩ = some (.int .i64 (k : Int)) := hO.out.at hlt (tmK_at _ _ _ hlt)
      go_wp2_with fail
      go_at_call 14
      refine (ihv_any (M : Int) lo hi n _ L (k : Int) d _ HL.out HXr.out.row HXr.out.hi).mono ?_
      rintro e w2 ⟨rfl, hb2⟩
      have HO2 := Lib.hid (hO.out.grow hb2)
      have z1 : w2.cell? ⟨g, k, none⟩ = some (.int .i64 (k : Int)) := HO2.out.at hlt (tmK_at _ _ _ hlt)
      have f1 := HO2.out.frz k
      have HF : Hid (OwnI v0 (w2.setCell ⟨g, k, none⟩ (.int .i64 (hopV (M : Int) L (k : Int) d))) (.slice (some ⟨g, 0, none⟩) M nc) M (tmK (M : Int) L d M (k + 1))) := by rw [← tmK_set _ _ _ hlt]; exact HO2.out.set k _
      clear hb2 hO z0 c10 c11 HXr HO2
      generalize hopV (M : Int) L (k : Int) d = hv at HF ⊢
      go_wp2_with fail
      go_roundw
      case rel => exact ⟨k + 1, by omega, by go_num, HF⟩
      case measure => simp [intOf]; omega
    · obtain rfl : k = M := by omega
      have hge : ¬ ((k : Int) < (k : Int)) := by omega
      have HE : Hid (OwnI v0 wr (.slice na k nc) k (towK (k : Int) L d k)) := by have := hO.out; rw [tmK_all] at this; exact this
      go_wp2_with fail
      go_ret
      exact ⟨_, rfl, HE.out.base HX0.out.below⟩

theorem new_at {w : World} {b o : Nat} {cs : Array Value} {t : TypeId} (h : b = w.heap.size) : (w.alloc (.cells cs t)).cell? ⟨b, o, none⟩ = cs[o]? := by subst h; exact cell_of_row _ _ _ _ _ _ (heap_alloc_new _ _)
theorem new_frz {w : World} {b o : Nat} {cs : Array Value} {t : TypeId} (h : b = w.heap.size) : (w.alloc (.cells cs t)).frozen? ⟨b, o, none⟩ = false := by subst h; exact frozen_of_row _ _ _ _ _ (heap_alloc_new _ _)
theorem old_frz {w : World} {b o : Nat} {x : Obj} (h : b < w.heap.size) : (w.alloc x).frozen? ⟨b, o, none⟩ = w.frozen? ⟨b, o, none⟩ := ((Below.refl w.heap.size w).alloc (Nat.le_refl _) x).frozen (p := ⟨b, o, none⟩) h
theorem undrew {w w' : World} (h : Below w.drew.heap.size w.drew w') : Below w.heap.size w w' := ⟨h.os, h.tape, h.output, h.size, fun k hk => h.block k hk⟩
theorem set3_else {u : World} {R b o : Nat} {y0 y1 y2 : Value} (h : b ≠ R) : (((u.setCell ⟨R, 0, none⟩ y0).setCell ⟨R, 1, none⟩ y1).setCell ⟨R, 2, none⟩ y2).cell? ⟨b, o, none⟩ = u.cell? ⟨b, o, none⟩ := by
  have so : ∀ {W : World} {j : Nat} {u : Value}, (W.setCell ⟨R, j, none⟩ u).cell? ⟨b, o, none⟩ = W.cell? ⟨b, o, none⟩ := World.cell?_setCell_other _ _ _ _ (by intro e; simp only [Addr.mk.injEq] at e; exact h e.1.symm)
  rw [so, so, so]
theorem set3_below {w u : World} {R B : Nat} {y0 y1 y2 : Value} (h : Below B w u) (hR : B ≤ R) : Below B w (((u.setCell ⟨R, 0, none⟩ y0).setCell ⟨R, 1, none⟩ y1).setCell ⟨R, 2, none⟩ y2) := ((h.setCell (p := ⟨R, 0, none⟩) hR _).setCell (p := ⟨R, 1, none⟩) hR _).setCell (p := ⟨R, 2, none⟩) hR _
theorem set3_row {u : World} {R lo hi n : Nat} {v : Value} {Z : List Int} {y0 y1 y2 : Value} (h : Row 1 u lo hi v n Z) (hR : R < lo ∨ hi ≤ R) : Row 1 (((u.setCell ⟨R, 0, none⟩ y0).setCell ⟨R, 1, none⟩ y1).setCell ⟨R, 2, none⟩ y2) lo hi v n Z := ((h.setCell (p := ⟨R, 0, none⟩) hR _).setCell (p := ⟨R, 1, none⟩) hR _).setCell (p := ⟨R, 2, none⟩) hR _
theorem set3_size {u : World} {R : Nat} {y0 y1 y2 : Value} : (((u.setCell ⟨R, 0, none⟩ y0).setCell ⟨R, 1, none⟩ y1).setCell ⟨R, 2, none⟩ y2).heap.size = u.heap.size := by simp [World.setCell]
theorem set3 {w : World} {R : Nat} {x0 x1 x2 : Value} (y0 y1 y2 : Value) (h0 : w.cell? ⟨R, 0, none⟩ = some x0) (h1 : w.cell? ⟨R, 1, none⟩ = some x1) (h2 : w.cell? ⟨R, 2, none⟩ = some x2) :
    (((w.setCell ⟨R, 0, none⟩ y0).setCell ⟨R, 1, none⟩ y1).setCell ⟨R, 2, none⟩ y2).cell? ⟨R, 0, none⟩ = some y0 ∧ (((w.setCell ⟨R, 0, none⟩ y0).setCell ⟨R, 1, none⟩ y1).setCell ⟨R, 2, none⟩ y2).cell? ⟨R, 1, none⟩ = some y1 ∧ (((w.setCell ⟨R, 0, none⟩ y0).setCell ⟨R, 1, none⟩ y1).setCell ⟨R, 2, none⟩ y2).cell? ⟨R, 2, none⟩ = some y2 := by
  have so : ∀ {W : World} {i j : Nat} {u : Value}, i ≠ j → (W.setCell ⟨R, j, none⟩ u).cell? ⟨R, i, none⟩ = W.cell? ⟨R, i, none⟩ := fun h => World.cell?_setCell_other _ _ _ _ (by intro e; simp only [Addr.mk.injEq] at e; exact h e.2.1.symm)
  refine ⟨?_, ?_, ?_⟩
  · rw [so (by omega), so (by omega)]; exact World.cell?_setCell_same' _ _ _ (by rw [h0]; rfl)
  · rw [so (by omega)]; exact World.cell?_setCell_same' _ _ _ (by rw [so (by omega), h1]; rfl)
  · exact World.cell?_setCell_same' _ _ _ (by rw [so (by omega), so (by omega), h2]; rfl)
/-- What updateOf answers. -/
def UpPost (N1 : Int) (L1 : List Ed) (N2 : Int) (L2 : List Ed) (d : Int) (w : World) (e : Ending) (w' : World) : Prop :=
  Below w.heap.size w w' ∧ ((fineB N1 L1 N2 L2 d = false ∧ e = .returned (.tuple #[.agg #[.slice none 0 0, .slice none 0 0, .int .i64 0], .bool false])) ∨
    (fineB N1 L1 N2 L2 d = true ∧ ∃ bv av, e = .returned (.tuple #[.agg #[bv, av, .int .i64 d], .bool true]) ∧ Row 1 w' w.heap.size w'.heap.size bv N1.toNat (towK N1 L1 d N1.toNat) ∧ Row 1 w' w.heap.size w'.heap.size av N1.toNat (towK N1 L2 d N1.toNat)))

set_option maxRecDepth 100000 in
set_option maxHeartbeats 4000000 in
theorem up_no0 (N1 N2 : Int) (lo1 hi1 n1 lo2 hi2 n2 : Nat) (s1 s2 : Value) (L1 L2 : List Ed) (d : Int) (w : World) (hL1 : L1.length = n1) (_hL2 : L2.length = n2) (hr1 : Row 3 w lo1 hi1 s1 n1 (flat L1)) (hr2 : Row 3 w lo2 hi2 s2 n2 (flat L2)) (hh1 : hi1 ≤ w.heap.size) (hh2 : hi2 ≤ w.heap.size) (hn : gok N1 L1 = false) :
    Calls Try.prog 56 #[.agg #[.int .i64 N1, s1], .agg #[.int .i64 N2, s2], .int .i64 d] w (UpPost N1 L1 N2 L2 d w) := by
  have HR1 := Lib.hid hr1
  have HR2 := Lib.hid hr2
  have Hn := Lib.hid hn
  obtain ⟨ad1, cp1, rfl⟩ := hr1.slice
  obtain ⟨ad2, cp2, rfl⟩ := hr2.slice
  clear hr1 hr2
  clear hn
  go_enter Try.func56, Try.ntmps56
  go_wp2_with fail
  go_at_call 51
  refine (igok_any N1 lo1 hi1 n1 _ L1 _ hL1 (HR1.out.below (B := w.heap.size) (by go_grown) (by omega)) (by simp; omega)).mono ?_
  rw [Hn.out]
  rintro e v1 ⟨rfl, hb1⟩
  have sz1 : w.heap.size + 3 ≤ v1.heap.size := by have hh := hb1.size; simp at hh; omega
  have st1 : Below w.heap.size w v1 := Below.trans (by go_grown) (hb1.mono (by simp <;> omega))
  have c1_0 : v1.cell? ⟨w.heap.size, 0, none⟩ = some (.int .i64 N1) := by rw [(bcell hb1).1 _ _ (by simp <;> omega), old_box (by simp <;> omega), old_box (by simp <;> omega)]; first | (rw [new_at (by simp)]; rfl) | simp
  have c1_1 : v1.cell? ⟨w.heap.size, 1, none⟩ = some (.slice ad1 n1 cp1) := by rw [(bcell hb1).1 _ _ (by simp <;> omega), old_box (by simp <;> omega), old_box (by simp <;> omega)]; first | (rw [new_at (by simp)]; rfl) | simp
  have c1_2 : v1.cell? ⟨w.heap.size + 1, 0, none⟩ = some (.int .i64 N2) := by rw [(bcell hb1).1 _ _ (by simp <;> omega), old_box (by simp <;> omega)]; first | (rw [new_at (by simp)]; rfl) | simp
  have c1_3 : v1.cell? ⟨w.heap.size + 1, 1, none⟩ = some (.slice ad2 n2 cp2) := by rw [(bcell hb1).1 _ _ (by simp <;> omega), old_box (by simp <;> omega)]; first | (rw [new_at (by simp)]; rfl) | simp
  have c1_4 : v1.cell? ⟨w.heap.size + 1 + 1, 0, none⟩ = some (.slice none 0 0) := by rw [(bcell hb1).1 _ _ (by simp)]; first | (rw [new_at (by simp)]; rfl) | simp
  have c1_5 : v1.cell? ⟨w.heap.size + 1 + 1, 1, none⟩ = some (.slice none 0 0) := by rw [(bcell hb1).1 _ _ (by simp)]; first | (rw [new_at (by simp)]; rfl) | simp
  have c1_6 : v1.cell? ⟨w.heap.size + 1 + 1, 2, none⟩ = some (.int .i64 0) := by rw [(bcell hb1).1 _ _ (by simp)]; first | (rw [new_at (by simp)]; rfl) | simp
  have g1_0 : v1.frozen? ⟨w.heap.size + 1 + 1, 0, none⟩ = false := by rw [(bcell hb1).2 _ _ (by simp), new_frz (by simp)]
  have g1_1 : v1.frozen? ⟨w.heap.size + 1 + 1, 1, none⟩ = false := by rw [(bcell hb1).2 _ _ (by simp), new_frz (by simp)]
  have g1_2 : v1.frozen? ⟨w.heap.size + 1 + 1, 2, none⟩ = false := by rw [(bcell hb1).2 _ _ (by simp), new_frz (by simp)]
  have B1 : Hid (Below w.heap.size w v1) := st1
  have R1_0 : Hid (Row 3 v1 (lo1) (hi1) (.slice ad1 n1 cp1) n1 (flat L1)) := HR1.out.below st1 (by omega)
  have R1_1 : Hid (Row 3 v1 (lo2) (hi2) (.slice ad2 n2 cp2) n2 (flat L2)) := HR2.out.below st1 (by omega)
  have d1_0 : w.heap.size < v1.heap.size := by omega
  have e1_0 : w.heap.size ≠ v1.heap.size := by omega
  have d1_1 : w.heap.size + 1 < v1.heap.size := by omega
  have e1_1 : w.heap.size + 1 ≠ v1.heap.size := by omega
  have d1_2 : w.heap.size + 1 + 1 < v1.heap.size := by omega
  have e1_2 : w.heap.size + 1 + 1 ≠ v1.heap.size := by omega
  clear st1 HR1 HR2 hb1
  obtain ⟨r0, r1, r2⟩ := set3 (.slice none 0 0) (.slice none 0 0) (.int .i64 0) c1_4 c1_5 c1_6
  go_wp2
  refine bodyPost_ret (v := .tuple #[.agg #[.slice none 0 0, .slice none 0 0, .int .i64 0], .bool false]) (by simp [results, Try.results56, go_sem, r0, r1, r2]) rfl ⟨(((B1.out.setCell (p := ⟨w.heap.size + 1 + 1, 0, none⟩) (by show w.heap.size ≤ w.heap.size + 1 + 1; omega) _).setCell (p := ⟨w.heap.size + 1 + 1, 1, none⟩) (by show w.heap.size ≤ w.heap.size + 1 + 1; omega) _).setCell (p := ⟨w.heap.size + 1 + 1, 2, none⟩) (by show w.heap.size ≤ w.heap.size + 1 + 1; omega) _), .inl ⟨by unfold fineB; rw [Hn.out, Bool.false_and], rfl⟩⟩

set_option maxRecDepth 100000 in
set_option maxHeartbeats 4000000 in
theorem up_no1 (N1 N2 : Int) (lo1 hi1 n1 lo2 hi2 n2 : Nat) (s1 s2 : Value) (L1 L2 : List Ed) (d : Int) (w : World) (hL1 : L1.length = n1) (hL2 : L2.length = n2) (hr1 : Row 3 w lo1 hi1 s1 n1 (flat L1)) (hr2 : Row 3 w lo2 hi2 s2 n2 (flat L2)) (hh1 : hi1 ≤ w.heap.size) (hh2 : hi2 ≤ w.heap.size) (hn : gok N1 L1 = true ∧ gok N2 L2 = false) :
    Calls Try.prog 56 #[.agg #[.int .i64 N1, s1], .agg #[.int .i64 N2, s2], .int .i64 d] w (UpPost N1 L1 N2 L2 d w) := by
  have HR1 := Lib.hid hr1
  have HR2 := Lib.hid hr2
  have Hn := Lib.hid hn
  obtain ⟨ad1, cp1, rfl⟩ := hr1.slice
  obtain ⟨ad2, cp2, rfl⟩ := hr2.slice
  clear hr1 hr2
  clear hn
  go_enter Try.func56, Try.ntmps56
  go_wp2_with fail
  go_at_call 51
  refine (igok_any N1 lo1 hi1 n1 _ L1 _ hL1 (HR1.out.below (B := w.heap.size) (by go_grown) (by omega)) (by simp; omega)).mono ?_
  rw [Hn.out.1]
  rintro e v1 ⟨rfl, hb1⟩
  have sz1 : w.heap.size + 3 ≤ v1.heap.size := by have hh := hb1.size; simp at hh; omega
  have st1 : Below w.heap.size w v1 := Below.trans (by go_grown) (hb1.mono (by simp <;> omega))
  have c1_0 : v1.cell? ⟨w.heap.size, 0, none⟩ = some (.int .i64 N1) := by rw [(bcell hb1).1 _ _ (by simp <;> omega), old_box (by simp <;> omega), old_box (by simp <;> omega)]; first | (rw [new_at (by simp)]; rfl) | simp
  have c1_1 : v1.cell? ⟨w.heap.size, 1, none⟩ = some (.slice ad1 n1 cp1) := by rw [(bcell hb1).1 _ _ (by simp <;> omega), old_box (by simp <;> omega), old_box (by simp <;> omega)]; first | (rw [new_at (by simp)]; rfl) | simp
  have c1_2 : v1.cell? ⟨w.heap.size + 1, 0, none⟩ = some (.int .i64 N2) := by rw [(bcell hb1).1 _ _ (by simp <;> omega), old_box (by simp <;> omega)]; first | (rw [new_at (by simp)]; rfl) | simp
  have c1_3 : v1.cell? ⟨w.heap.size + 1, 1, none⟩ = some (.slice ad2 n2 cp2) := by rw [(bcell hb1).1 _ _ (by simp <;> omega), old_box (by simp <;> omega)]; first | (rw [new_at (by simp)]; rfl) | simp
  have c1_4 : v1.cell? ⟨w.heap.size + 1 + 1, 0, none⟩ = some (.slice none 0 0) := by rw [(bcell hb1).1 _ _ (by simp)]; first | (rw [new_at (by simp)]; rfl) | simp
  have c1_5 : v1.cell? ⟨w.heap.size + 1 + 1, 1, none⟩ = some (.slice none 0 0) := by rw [(bcell hb1).1 _ _ (by simp)]; first | (rw [new_at (by simp)]; rfl) | simp
  have c1_6 : v1.cell? ⟨w.heap.size + 1 + 1, 2, none⟩ = some (.int .i64 0) := by rw [(bcell hb1).1 _ _ (by simp)]; first | (rw [new_at (by simp)]; rfl) | simp
  have g1_0 : v1.frozen? ⟨w.heap.size + 1 + 1, 0, none⟩ = false := by rw [(bcell hb1).2 _ _ (by simp), new_frz (by simp)]
  have g1_1 : v1.frozen? ⟨w.heap.size + 1 + 1, 1, none⟩ = false := by rw [(bcell hb1).2 _ _ (by simp), new_frz (by simp)]
  have g1_2 : v1.frozen? ⟨w.heap.size + 1 + 1, 2, none⟩ = false := by rw [(bcell hb1).2 _ _ (by simp), new_frz (by simp)]
  have B1 : Hid (Below w.heap.size w v1) := st1
  have R1_0 : Hid (Row 3 v1 (lo1) (hi1) (.slice ad1 n1 cp1) n1 (flat L1)) := HR1.out.below st1 (by omega)
  have R1_1 : Hid (Row 3 v1 (lo2) (hi2) (.slice ad2 n2 cp2) n2 (flat L2)) := HR2.out.below st1 (by omega)
  have d1_0 : w.heap.size < v1.heap.size := by omega
  have e1_0 : w.heap.size ≠ v1.heap.size := by omega
  have d1_1 : w.heap.size + 1 < v1.heap.size := by omega
  have e1_1 : w.heap.size + 1 ≠ v1.heap.size := by omega
  have d1_2 : w.heap.size + 1 + 1 < v1.heap.size := by omega
  have e1_2 : w.heap.size + 1 + 1 ≠ v1.heap.size := by omega
  clear st1 HR1 HR2 hb1
  go_wp2_with fail
  go_at_call 51
  refine (igok_any N2 lo2 hi2 n2 _ L2 _ hL2 R1_1.out (by omega)).mono ?_
  rw [Hn.out.2]
  rintro e v2 ⟨rfl, hb2⟩
  have sz2 : v1.heap.size ≤ v2.heap.size := hb2.size
  have st2 : Below v1.heap.size v1 v2 := hb2
  have c2_0 : v2.cell? ⟨w.heap.size, 0, none⟩ = some (.int .i64 N1) := by rw [(bcell st2).1 _ _ (by omega)]; exact c1_0
  have c2_1 : v2.cell? ⟨w.heap.size, 1, none⟩ = some (.slice ad1 n1 cp1) := by rw [(bcell st2).1 _ _ (by omega)]; exact c1_1
  have c2_2 : v2.cell? ⟨w.heap.size + 1, 0, none⟩ = some (.int .i64 N2) := by rw [(bcell st2).1 _ _ (by omega)]; exact c1_2
  have c2_3 : v2.cell? ⟨w.heap.size + 1, 1, none⟩ = some (.slice ad2 n2 cp2) := by rw [(bcell st2).1 _ _ (by omega)]; exact c1_3
  have c2_4 : v2.cell? ⟨w.heap.size + 1 + 1, 0, none⟩ = some (.slice none 0 0) := by rw [(bcell st2).1 _ _ (by omega)]; exact c1_4
  have c2_5 : v2.cell? ⟨w.heap.size + 1 + 1, 1, none⟩ = some (.slice none 0 0) := by rw [(bcell st2).1 _ _ (by omega)]; exact c1_5
  have c2_6 : v2.cell? ⟨w.heap.size + 1 + 1, 2, none⟩ = some (.int .i64 0) := by rw [(bcell st2).1 _ _ (by omega)]; exact c1_6
  have g2_0 : v2.frozen? ⟨w.heap.size + 1 + 1, 0, none⟩ = false := by rw [(bcell st2).2 _ _ (by omega)]; exact g1_0
  have g2_1 : v2.frozen? ⟨w.heap.size + 1 + 1, 1, none⟩ = false := by rw [(bcell st2).2 _ _ (by omega)]; exact g1_1
  have g2_2 : v2.frozen? ⟨w.heap.size + 1 + 1, 2, none⟩ = false := by rw [(bcell st2).2 _ _ (by omega)]; exact g1_2
  have B2 : Hid (Below w.heap.size w v2) := B1.out.trans (st2.mono (by omega))
  have R2_0 : Hid (Row 3 v2 (lo1) (hi1) (.slice ad1 n1 cp1) n1 (flat L1)) := R1_0.out.below st2 (by omega)
  have R2_1 : Hid (Row 3 v2 (lo2) (hi2) (.slice ad2 n2 cp2) n2 (flat L2)) := R1_1.out.below st2 (by omega)
  have d2_0 : w.heap.size < v2.heap.size := by omega
  have e2_0 : w.heap.size ≠ v2.heap.size := by omega
  have d2_1 : w.heap.size + 1 < v2.heap.size := by omega
  have e2_1 : w.heap.size + 1 ≠ v2.heap.size := by omega
  have d2_2 : w.heap.size + 1 + 1 < v2.heap.size := by omega
  have e2_2 : w.heap.size + 1 + 1 ≠ v2.heap.size := by omega
  clear d1_0 e1_0 d1_1 e1_1 d1_2 e1_2 c1_0 c1_1 c1_2 c1_3 c1_4 c1_5 c1_6 g1_0 g1_1 g1_2 B1 st2 R1_0 R1_1 hb2
  obtain ⟨r0, r1, r2⟩ := set3 (.slice none 0 0) (.slice none 0 0) (.int .i64 0) c2_4 c2_5 c2_6
  go_wp2
  refine bodyPost_ret (v := .tuple #[.agg #[.slice none 0 0, .slice none 0 0, .int .i64 0], .bool false]) (by simp [results, Try.results56, go_sem, r0, r1, r2]) rfl ⟨(((B2.out.setCell (p := ⟨w.heap.size + 1 + 1, 0, none⟩) (by show w.heap.size ≤ w.heap.size + 1 + 1; omega) _).setCell (p := ⟨w.heap.size + 1 + 1, 1, none⟩) (by show w.heap.size ≤ w.heap.size + 1 + 1; omega) _).setCell (p := ⟨w.heap.size + 1 + 1, 2, none⟩) (by show w.heap.size ≤ w.heap.size + 1 + 1; omega) _), .inl ⟨by unfold fineB; rw [Hn.out.1, Hn.out.2, Bool.false_and, Bool.and_false], rfl⟩⟩

set_option maxRecDepth 100000 in
set_option maxHeartbeats 4000000 in
theorem up_no2 (N1 N2 : Int) (lo1 hi1 n1 lo2 hi2 n2 : Nat) (s1 s2 : Value) (L1 L2 : List Ed) (d : Int) (w : World) (hL1 : L1.length = n1) (hL2 : L2.length = n2) (hr1 : Row 3 w lo1 hi1 s1 n1 (flat L1)) (hr2 : Row 3 w lo2 hi2 s2 n2 (flat L2)) (hh1 : hi1 ≤ w.heap.size) (hh2 : hi2 ≤ w.heap.size) (hn : gok N1 L1 = true ∧ gok N2 L2 = true ∧ N1 ≠ N2) :
    Calls Try.prog 56 #[.agg #[.int .i64 N1, s1], .agg #[.int .i64 N2, s2], .int .i64 d] w (UpPost N1 L1 N2 L2 d w) := by
  have HR1 := Lib.hid hr1
  have HR2 := Lib.hid hr2
  have Hn := Lib.hid hn
  obtain ⟨ad1, cp1, rfl⟩ := hr1.slice
  obtain ⟨ad2, cp2, rfl⟩ := hr2.slice
  clear hr1 hr2
  have e1 : (N1 == N2) = false := by simp [hn.2.2]
  have e2 : (N1 != N2) = true := by simp [hn.2.2]
  clear hn
  go_enter Try.func56, Try.ntmps56
  go_wp2_with fail
  go_at_call 51
  refine (igok_any N1 lo1 hi1 n1 _ L1 _ hL1 (HR1.out.below (B := w.heap.size) (by go_grown) (by omega)) (by simp; omega)).mono ?_
  rw [Hn.out.1]
  rintro e v1 ⟨rfl, hb1⟩
  have sz1 : w.heap.size + 3 ≤ v1.heap.size := by have hh := hb1.size; simp at hh; omega
  have st1 : Below w.heap.size w v1 := Below.trans (by go_grown) (hb1.mono (by simp <;> omega))
  have c1_0 : v1.cell? ⟨w.heap.size, 0, none⟩ = some (.int .i64 N1) := by rw [(bcell hb1).1 _ _ (by simp <;> omega), old_box (by simp <;> omega), old_box (by simp <;> omega)]; first | (rw [new_at (by simp)]; rfl) | simp
  have c1_1 : v1.cell? ⟨w.heap.size, 1, none⟩ = some (.slice ad1 n1 cp1) := by rw [(bcell hb1).1 _ _ (by simp <;> omega), old_box (by simp <;> omega), old_box (by simp <;> omega)]; first | (rw [new_at (by simp)]; rfl) | simp
  have c1_2 : v1.cell? ⟨w.heap.size + 1, 0, none⟩ = some (.int .i64 N2) := by rw [(bcell hb1).1 _ _ (by simp <;> omega), old_box (by simp <;> omega)]; first | (rw [new_at (by simp)]; rfl) | simp
  have c1_3 : v1.cell? ⟨w.heap.size + 1, 1, none⟩ = some (.slice ad2 n2 cp2) := by rw [(bcell hb1).1 _ _ (by simp <;> omega), old_box (by simp <;> omega)]; first | (rw [new_at (by simp)]; rfl) | simp
  have c1_4 : v1.cell? ⟨w.heap.size + 1 + 1, 0, none⟩ = some (.slice none 0 0) := by rw [(bcell hb1).1 _ _ (by simp)]; first | (rw [new_at (by simp)]; rfl) | simp
  have c1_5 : v1.cell? ⟨w.heap.size + 1 + 1, 1, none⟩ = some (.slice none 0 0) := by rw [(bcell hb1).1 _ _ (by simp)]; first | (rw [new_at (by simp)]; rfl) | simp
  have c1_6 : v1.cell? ⟨w.heap.size + 1 + 1, 2, none⟩ = some (.int .i64 0) := by rw [(bcell hb1).1 _ _ (by simp)]; first | (rw [new_at (by simp)]; rfl) | simp
  have g1_0 : v1.frozen? ⟨w.heap.size + 1 + 1, 0, none⟩ = false := by rw [(bcell hb1).2 _ _ (by simp), new_frz (by simp)]
  have g1_1 : v1.frozen? ⟨w.heap.size + 1 + 1, 1, none⟩ = false := by rw [(bcell hb1).2 _ _ (by simp), new_frz (by simp)]
  have g1_2 : v1.frozen? ⟨w.heap.size + 1 + 1, 2, none⟩ = false := by rw [(bcell hb1).2 _ _ (by simp), new_frz (by simp)]
  have B1 : Hid (Below w.heap.size w v1) := st1
  have R1_0 : Hid (Row 3 v1 (lo1) (hi1) (.slice ad1 n1 cp1) n1 (flat L1)) := HR1.out.below st1 (by omega)
  have R1_1 : Hid (Row 3 v1 (lo2) (hi2) (.slice ad2 n2 cp2) n2 (flat L2)) := HR2.out.below st1 (by omega)
  have d1_0 : w.heap.size < v1.heap.size := by omega
  have e1_0 : w.heap.size ≠ v1.heap.size := by omega
  have d1_1 : w.heap.size + 1 < v1.heap.size := by omega
  have e1_1 : w.heap.size + 1 ≠ v1.heap.size := by omega
  have d1_2 : w.heap.size + 1 + 1 < v1.heap.size := by omega
  have e1_2 : w.heap.size + 1 + 1 ≠ v1.heap.size := by omega
  clear st1 HR1 HR2 hb1
  go_wp2_with fail
  go_at_call 51
  refine (igok_any N2 lo2 hi2 n2 _ L2 _ hL2 R1_1.out (by omega)).mono ?_
  rw [Hn.out.2.1]
  rintro e v2 ⟨rfl, hb2⟩
  have sz2 : v1.heap.size ≤ v2.heap.size := hb2.size
  have st2 : Below v1.heap.size v1 v2 := hb2
  have c2_0 : v2.cell? ⟨w.heap.size, 0, none⟩ = some (.int .i64 N1) := by rw [(bcell st2).1 _ _ (by omega)]; exact c1_0
  have c2_1 : v2.cell? ⟨w.heap.size, 1, none⟩ = some (.slice ad1 n1 cp1) := by rw [(bcell st2).1 _ _ (by omega)]; exact c1_1
  have c2_2 : v2.cell? ⟨w.heap.size + 1, 0, none⟩ = some (.int .i64 N2) := by rw [(bcell st2).1 _ _ (by omega)]; exact c1_2
  have c2_3 : v2.cell? ⟨w.heap.size + 1, 1, none⟩ = some (.slice ad2 n2 cp2) := by rw [(bcell st2).1 _ _ (by omega)]; exact c1_3
  have c2_4 : v2.cell? ⟨w.heap.size + 1 + 1, 0, none⟩ = some (.slice none 0 0) := by rw [(bcell st2).1 _ _ (by omega)]; exact c1_4
  have c2_5 : v2.cell? ⟨w.heap.size + 1 + 1, 1, none⟩ = some (.slice none 0 0) := by rw [(bcell st2).1 _ _ (by omega)]; exact c1_5
  have c2_6 : v2.cell? ⟨w.heap.size + 1 + 1, 2, none⟩ = some (.int .i64 0) := by rw [(bcell st2).1 _ _ (by omega)]; exact c1_6
  have g2_0 : v2.frozen? ⟨w.heap.size + 1 + 1, 0, none⟩ = false := by rw [(bcell st2).2 _ _ (by omega)]; exact g1_0
  have g2_1 : v2.frozen? ⟨w.heap.size + 1 + 1, 1, none⟩ = false := by rw [(bcell st2).2 _ _ (by omega)]; exact g1_1
  have g2_2 : v2.frozen? ⟨w.heap.size + 1 + 1, 2, none⟩ = false := by rw [(bcell st2).2 _ _ (by omega)]; exact g1_2
  have B2 : Hid (Below w.heap.size w v2) := B1.out.trans (st2.mono (by omega))
  have R2_0 : Hid (Row 3 v2 (lo1) (hi1) (.slice ad1 n1 cp1) n1 (flat L1)) := R1_0.out.below st2 (by omega)
  have R2_1 : Hid (Row 3 v2 (lo2) (hi2) (.slice ad2 n2 cp2) n2 (flat L2)) := R1_1.out.below st2 (by omega)
  have d2_0 : w.heap.size < v2.heap.size := by omega
  have e2_0 : w.heap.size ≠ v2.heap.size := by omega
  have d2_1 : w.heap.size + 1 < v2.heap.size := by omega
  have e2_1 : w.heap.size + 1 ≠ v2.heap.size := by omega
  have d2_2 : w.heap.size + 1 + 1 < v2.heap.size := by omega
  have e2_2 : w.heap.size + 1 + 1 ≠ v2.heap.size := by omega
  clear d1_0 e1_0 d1_1 e1_1 d1_2 e1_2 c1_0 c1_1 c1_2 c1_3 c1_4 c1_5 c1_6 g1_0 g1_1 g1_2 B1 st2 R1_0 R1_1 hb2
  obtain ⟨r0, r1, r2⟩ := set3 (.slice none 0 0) (.slice none 0 0) (.int .i64 0) c2_4 c2_5 c2_6
  go_wp2
  refine bodyPost_ret (v := .tuple #[.agg #[.slice none 0 0, .slice none 0 0, .int .i64 0], .bool false]) (by simp [results, Try.results56, go_sem, r0, r1, r2]) rfl ⟨(((B2.out.setCell (p := ⟨w.heap.size + 1 + 1, 0, none⟩) (by show w.heap.size ≤ w.heap.size + 1 + 1; omega) _).setCell (p := ⟨w.heap.size + 1 + 1, 1, none⟩) (by show w.heap.size ≤ w.heap.size + 1 + 1; omega) _).setCell (p := ⟨w.heap.size + 1 + 1, 2, none⟩) (by show w.heap.size ≤ w.heap.size + 1 + 1; omega) _), .inl ⟨by unfold fineB; rw [decide_eq_false Hn.out.2.2, Bool.false_and, Bool.and_false, Bool.and_false], rfl⟩⟩

set_option maxRecDepth 100000 in
set_option maxHeartbeats 4000000 in
theorem up_no3 (N1 N2 : Int) (lo1 hi1 n1 lo2 hi2 n2 : Nat) (s1 s2 : Value) (L1 L2 : List Ed) (d : Int) (w : World) (hL1 : L1.length = n1) (hL2 : L2.length = n2) (hr1 : Row 3 w lo1 hi1 s1 n1 (flat L1)) (hr2 : Row 3 w lo2 hi2 s2 n2 (flat L2)) (hh1 : hi1 ≤ w.heap.size) (hh2 : hi2 ≤ w.heap.size) (hn : gok N1 L1 = true ∧ gok N2 L2 = true ∧ N1 = N2 ∧ ndB N1 d = false) :
    Calls Try.prog 56 #[.agg #[.int .i64 N1, s1], .agg #[.int .i64 N2, s2], .int .i64 d] w (UpPost N1 L1 N2 L2 d w) := by
  have HR1 := Lib.hid hr1
  have HR2 := Lib.hid hr2
  have Hn := Lib.hid hn
  obtain ⟨ad1, cp1, rfl⟩ := hr1.slice
  obtain ⟨ad2, cp2, rfl⟩ := hr2.slice
  clear hr1 hr2
  have e1 : (N1 == N2) = true := by simp [hn.2.2.1]
  have e2 : (N1 != N2) = false := by simp [hn.2.2.1]
  clear hn
  go_enter Try.func56, Try.ntmps56
  go_wp2_with fail
  go_at_call 51
  refine (igok_any N1 lo1 hi1 n1 _ L1 _ hL1 (HR1.out.below (B := w.heap.size) (by go_grown) (by omega)) (by simp; omega)).mono ?_
  rw [Hn.out.1]
  rintro e v1 ⟨rfl, hb1⟩
  have sz1 : w.heap.size + 3 ≤ v1.heap.size := by have hh := hb1.size; simp at hh; omega
  have st1 : Below w.heap.size w v1 := Below.trans (by go_grown) (hb1.mono (by simp <;> omega))
  have c1_0 : v1.cell? ⟨w.heap.size, 0, none⟩ = some (.int .i64 N1) := by rw [(bcell hb1).1 _ _ (by simp <;> omega), old_box (by simp <;> omega), old_box (by simp <;> omega)]; first | (rw [new_at (by simp)]; rfl) | simp
  have c1_1 : v1.cell? ⟨w.heap.size, 1, none⟩ = some (.slice ad1 n1 cp1) := by rw [(bcell hb1).1 _ _ (by simp <;> omega), old_box (by simp <;> omega), old_box (by simp <;> omega)]; first | (rw [new_at (by simp)]; rfl) | simp
  have c1_2 : v1.cell? ⟨w.heap.size + 1, 0, none⟩ = some (.int .i64 N2) := by rw [(bcell hb1).1 _ _ (by simp <;> omega), old_box (by simp <;> omega)]; first | (rw [new_at (by simp)]; rfl) | simp
  have c1_3 : v1.cell? ⟨w.heap.size + 1, 1, none⟩ = some (.slice ad2 n2 cp2) := by rw [(bcell hb1).1 _ _ (by simp <;> omega), old_box (by simp <;> omega)]; first | (rw [new_at (by simp)]; rfl) | simp
  have c1_4 : v1.cell? ⟨w.heap.size + 1 + 1, 0, none⟩ = some (.slice none 0 0) := by rw [(bcell hb1).1 _ _ (by simp)]; first | (rw [new_at (by simp)]; rfl) | simp
  have c1_5 : v1.cell? ⟨w.heap.size + 1 + 1, 1, none⟩ = some (.slice none 0 0) := by rw [(bcell hb1).1 _ _ (by simp)]; first | (rw [new_at (by simp)]; rfl) | simp
  have c1_6 : v1.cell? ⟨w.heap.size + 1 + 1, 2, none⟩ = some (.int .i64 0) := by rw [(bcell hb1).1 _ _ (by simp)]; first | (rw [new_at (by simp)]; rfl) | simp
  have g1_0 : v1.frozen? ⟨w.heap.size + 1 + 1, 0, none⟩ = false := by rw [(bcell hb1).2 _ _ (by simp), new_frz (by simp)]
  have g1_1 : v1.frozen? ⟨w.heap.size + 1 + 1, 1, none⟩ = false := by rw [(bcell hb1).2 _ _ (by simp), new_frz (by simp)]
  have g1_2 : v1.frozen? ⟨w.heap.size + 1 + 1, 2, none⟩ = false := by rw [(bcell hb1).2 _ _ (by simp), new_frz (by simp)]
  have B1 : Hid (Below w.heap.size w v1) := st1
  have R1_0 : Hid (Row 3 v1 (lo1) (hi1) (.slice ad1 n1 cp1) n1 (flat L1)) := HR1.out.below st1 (by omega)
  have R1_1 : Hid (Row 3 v1 (lo2) (hi2) (.slice ad2 n2 cp2) n2 (flat L2)) := HR2.out.below st1 (by omega)
  have d1_0 : w.heap.size < v1.heap.size := by omega
  have e1_0 : w.heap.size ≠ v1.heap.size := by omega
  have d1_1 : w.heap.size + 1 < v1.heap.size := by omega
  have e1_1 : w.heap.size + 1 ≠ v1.heap.size := by omega
  have d1_2 : w.heap.size + 1 + 1 < v1.heap.size := by omega
  have e1_2 : w.heap.size + 1 + 1 ≠ v1.heap.size := by omega
  clear st1 HR1 HR2 hb1
  go_wp2_with fail
  go_at_call 51
  refine (igok_any N2 lo2 hi2 n2 _ L2 _ hL2 R1_1.out (by omega)).mono ?_
  rw [Hn.out.2.1]
  rintro e v2 ⟨rfl, hb2⟩
  have sz2 : v1.heap.size ≤ v2.heap.size := hb2.size
  have st2 : Below v1.heap.size v1 v2 := hb2
  have c2_0 : v2.cell? ⟨w.heap.size, 0, none⟩ = some (.int .i64 N1) := by rw [(bcell st2).1 _ _ (by omega)]; exact c1_0
  have c2_1 : v2.cell? ⟨w.heap.size, 1, none⟩ = some (.slice ad1 n1 cp1) := by rw [(bcell st2).1 _ _ (by omega)]; exact c1_1
  have c2_2 : v2.cell? ⟨w.heap.size + 1, 0, none⟩ = some (.int .i64 N2) := by rw [(bcell st2).1 _ _ (by omega)]; exact c1_2
  have c2_3 : v2.cell? ⟨w.heap.size + 1, 1, none⟩ = some (.slice ad2 n2 cp2) := by rw [(bcell st2).1 _ _ (by omega)]; exact c1_3
  have c2_4 : v2.cell? ⟨w.heap.size + 1 + 1, 0, none⟩ = some (.slice none 0 0) := by rw [(bcell st2).1 _ _ (by omega)]; exact c1_4
  have c2_5 : v2.cell? ⟨w.heap.size + 1 + 1, 1, none⟩ = some (.slice none 0 0) := by rw [(bcell st2).1 _ _ (by omega)]; exact c1_5
  have c2_6 : v2.cell? ⟨w.heap.size + 1 + 1, 2, none⟩ = some (.int .i64 0) := by rw [(bcell st2).1 _ _ (by omega)]; exact c1_6
  have g2_0 : v2.frozen? ⟨w.heap.size + 1 + 1, 0, none⟩ = false := by rw [(bcell st2).2 _ _ (by omega)]; exact g1_0
  have g2_1 : v2.frozen? ⟨w.heap.size + 1 + 1, 1, none⟩ = false := by rw [(bcell st2).2 _ _ (by omega)]; exact g1_1
  have g2_2 : v2.frozen? ⟨w.heap.size + 1 + 1, 2, none⟩ = false := by rw [(bcell st2).2 _ _ (by omega)]; exact g1_2
  have B2 : Hid (Below w.heap.size w v2) := B1.out.trans (st2.mono (by omega))
  have R2_0 : Hid (Row 3 v2 (lo1) (hi1) (.slice ad1 n1 cp1) n1 (flat L1)) := R1_0.out.below st2 (by omega)
  have R2_1 : Hid (Row 3 v2 (lo2) (hi2) (.slice ad2 n2 cp2) n2 (flat L2)) := R1_1.out.below st2 (by omega)
  have d2_0 : w.heap.size < v2.heap.size := by omega
  have e2_0 : w.heap.size ≠ v2.heap.size := by omega
  have d2_1 : w.heap.size + 1 < v2.heap.size := by omega
  have e2_1 : w.heap.size + 1 ≠ v2.heap.size := by omega
  have d2_2 : w.heap.size + 1 + 1 < v2.heap.size := by omega
  have e2_2 : w.heap.size + 1 + 1 ≠ v2.heap.size := by omega
  clear d1_0 e1_0 d1_1 e1_1 d1_2 e1_2 c1_0 c1_1 c1_2 c1_3 c1_4 c1_5 c1_6 g1_0 g1_1 g1_2 B1 st2 R1_0 R1_1 hb2
  go_wp2_with fail
  go_at_call 52
  refine (hasNode_any N1 _ _ _ d _).mono ?_
  rw [Hn.out.2.2.2]
  rintro e v3 ⟨rfl, hb3⟩
  have sz3 : v2.heap.size ≤ v3.heap.size := hb3.size
  have st3 : Below v2.heap.size v2 v3 := hb3
  have c3_0 : v3.cell? ⟨w.heap.size, 0, none⟩ = some (.int .i64 N1) := by rw [(bcell st3).1 _ _ (by omega)]; exact c2_0
  have c3_1 : v3.cell? ⟨w.heap.size, 1, none⟩ = some (.slice ad1 n1 cp1) := by rw [(bcell st3).1 _ _ (by omega)]; exact c2_1
  have c3_2 : v3.cell? ⟨w.heap.size + 1, 0, none⟩ = some (.int .i64 N2) := by rw [(bcell st3).1 _ _ (by omega)]; exact c2_2
  have c3_3 : v3.cell? ⟨w.heap.size + 1, 1, none⟩ = some (.slice ad2 n2 cp2) := by rw [(bcell st3).1 _ _ (by omega)]; exact c2_3
  have c3_4 : v3.cell? ⟨w.heap.size + 1 + 1, 0, none⟩ = some (.slice none 0 0) := by rw [(bcell st3).1 _ _ (by omega)]; exact c2_4
  have c3_5 : v3.cell? ⟨w.heap.size + 1 + 1, 1, none⟩ = some (.slice none 0 0) := by rw [(bcell st3).1 _ _ (by omega)]; exact c2_5
  have c3_6 : v3.cell? ⟨w.heap.size + 1 + 1, 2, none⟩ = some (.int .i64 0) := by rw [(bcell st3).1 _ _ (by omega)]; exact c2_6
  have g3_0 : v3.frozen? ⟨w.heap.size + 1 + 1, 0, none⟩ = false := by rw [(bcell st3).2 _ _ (by omega)]; exact g2_0
  have g3_1 : v3.frozen? ⟨w.heap.size + 1 + 1, 1, none⟩ = false := by rw [(bcell st3).2 _ _ (by omega)]; exact g2_1
  have g3_2 : v3.frozen? ⟨w.heap.size + 1 + 1, 2, none⟩ = false := by rw [(bcell st3).2 _ _ (by omega)]; exact g2_2
  have B3 : Hid (Below w.heap.size w v3) := B2.out.trans (st3.mono (by omega))
  have R3_0 : Hid (Row 3 v3 (lo1) (hi1) (.slice ad1 n1 cp1) n1 (flat L1)) := R2_0.out.below st3 (by omega)
  have R3_1 : Hid (Row 3 v3 (lo2) (hi2) (.slice ad2 n2 cp2) n2 (flat L2)) := R2_1.out.below st3 (by omega)
  have d3_0 : w.heap.size < v3.heap.size := by omega
  have e3_0 : w.heap.size ≠ v3.heap.size := by omega
  have d3_1 : w.heap.size + 1 < v3.heap.size := by omega
  have e3_1 : w.heap.size + 1 ≠ v3.heap.size := by omega
  have d3_2 : w.heap.size + 1 + 1 < v3.heap.size := by omega
  have e3_2 : w.heap.size + 1 + 1 ≠ v3.heap.size := by omega
  clear d2_0 e2_0 d2_1 e2_1 d2_2 e2_2 c2_0 c2_1 c2_2 c2_3 c2_4 c2_5 c2_6 g2_0 g2_1 g2_2 B2 st3 R2_0 R2_1 hb3
  obtain ⟨r0, r1, r2⟩ := set3 (.slice none 0 0) (.slice none 0 0) (.int .i64 0) c3_4 c3_5 c3_6
  go_wp2
  refine bodyPost_ret (v := .tuple #[.agg #[.slice none 0 0, .slice none 0 0, .int .i64 0], .bool false]) (by simp [results, Try.results56, go_sem, r0, r1, r2]) rfl ⟨(((B3.out.setCell (p := ⟨w.heap.size + 1 + 1, 0, none⟩) (by show w.heap.size ≤ w.heap.size + 1 + 1; omega) _).setCell (p := ⟨w.heap.size + 1 + 1, 1, none⟩) (by show w.heap.size ≤ w.heap.size + 1 + 1; omega) _).setCell (p := ⟨w.heap.size + 1 + 1, 2, none⟩) (by show w.heap.size ≤ w.heap.size + 1 + 1; omega) _), .inl ⟨by unfold fineB; rw [Hn.out.2.2.2, Bool.and_false, Bool.and_false, Bool.and_false], rfl⟩⟩

set_option maxRecDepth 100000 in
set_option maxHeartbeats 4000000 in
theorem up_yes (N1 N2 : Int) (lo1 hi1 n1 lo2 hi2 n2 : Nat) (s1 s2 : Value) (L1 L2 : List Ed) (d : Int) (w : World) (hL1 : L1.length = n1) (hL2 : L2.length = n2) (hr1 : Row 3 w lo1 hi1 s1 n1 (flat L1)) (hr2 : Row 3 w lo2 hi2 s2 n2 (flat L2)) (hh1 : hi1 ≤ w.heap.size) (hh2 : hi2 ≤ w.heap.size) (hn : gok N1 L1 = true ∧ gok N2 L2 = true ∧ N1 = N2 ∧ ndB N1 d = true) :
    Calls Try.prog 56 #[.agg #[.int .i64 N1, s1], .agg #[.int .i64 N2, s2], .int .i64 d] w (UpPost N1 L1 N2 L2 d w) := by
  have HR1 := Lib.hid hr1
  have HR2 := Lib.hid hr2
  have Hn := Lib.hid hn
  obtain ⟨ad1, cp1, rfl⟩ := hr1.slice
  obtain ⟨ad2, cp2, rfl⟩ := hr2.slice
  clear hr1 hr2
  have e1 : (N1 == N2) = true := by simp [hn.2.2.1]
  have e2 : (N1 != N2) = false := by simp [hn.2.2.1]
  clear hn
  go_enter Try.func56, Try.ntmps56
  go_wp2_with fail
  go_at_call 51
  refine (igok_any N1 lo1 hi1 n1 _ L1 _ hL1 (HR1.out.below (B := w.heap.size) (by go_grown) (by omega)) (by simp; omega)).mono ?_
  rw [Hn.out.1]
  rintro e v1 ⟨rfl, hb1⟩
  have sz1 : w.heap.size + 3 ≤ v1.heap.size := by have hh := hb1.size; simp at hh; omega
  have st1 : Below w.heap.size w v1 := Below.trans (by go_grown) (hb1.mono (by simp <;> omega))
  have c1_0 : v1.cell? ⟨w.heap.size, 0, none⟩ = some (.int .i64 N1) := by rw [(bcell hb1).1 _ _ (by simp <;> omega), old_box (by simp <;> omega), old_box (by simp <;> omega)]; first | (rw [new_at (by simp)]; rfl) | simp
  have c1_1 : v1.cell? ⟨w.heap.size, 1, none⟩ = some (.slice ad1 n1 cp1) := by rw [(bcell hb1).1 _ _ (by simp <;> omega), old_box (by simp <;> omega), old_box (by simp <;> omega)]; first | (rw [new_at (by simp)]; rfl) | simp
  have c1_2 : v1.cell? ⟨w.heap.size + 1, 0, none⟩ = some (.int .i64 N2) := by rw [(bcell hb1).1 _ _ (by simp <;> omega), old_box (by simp <;> omega)]; first | (rw [new_at (by simp)]; rfl) | simp
  have c1_3 : v1.cell? ⟨w.heap.size + 1, 1, none⟩ = some (.slice ad2 n2 cp2) := by rw [(bcell hb1).1 _ _ (by simp <;> omega), old_box (by simp <;> omega)]; first | (rw [new_at (by simp)]; rfl) | simp
  have c1_4 : v1.cell? ⟨w.heap.size + 1 + 1, 0, none⟩ = some (.slice none 0 0) := by rw [(bcell hb1).1 _ _ (by simp)]; first | (rw [new_at (by simp)]; rfl) | simp
  have c1_5 : v1.cell? ⟨w.heap.size + 1 + 1, 1, none⟩ = some (.slice none 0 0) := by rw [(bcell hb1).1 _ _ (by simp)]; first | (rw [new_at (by simp)]; rfl) | simp
  have c1_6 : v1.cell? ⟨w.heap.size + 1 + 1, 2, none⟩ = some (.int .i64 0) := by rw [(bcell hb1).1 _ _ (by simp)]; first | (rw [new_at (by simp)]; rfl) | simp
  have g1_0 : v1.frozen? ⟨w.heap.size + 1 + 1, 0, none⟩ = false := by rw [(bcell hb1).2 _ _ (by simp), new_frz (by simp)]
  have g1_1 : v1.frozen? ⟨w.heap.size + 1 + 1, 1, none⟩ = false := by rw [(bcell hb1).2 _ _ (by simp), new_frz (by simp)]
  have g1_2 : v1.frozen? ⟨w.heap.size + 1 + 1, 2, none⟩ = false := by rw [(bcell hb1).2 _ _ (by simp), new_frz (by simp)]
  have B1 : Hid (Below w.heap.size w v1) := st1
  have R1_0 : Hid (Row 3 v1 (lo1) (hi1) (.slice ad1 n1 cp1) n1 (flat L1)) := HR1.out.below st1 (by omega)
  have R1_1 : Hid (Row 3 v1 (lo2) (hi2) (.slice ad2 n2 cp2) n2 (flat L2)) := HR2.out.below st1 (by omega)
  have d1_0 : w.heap.size < v1.heap.size := by omega
  have e1_0 : w.heap.size ≠ v1.heap.size := by omega
  have d1_1 : w.heap.size + 1 < v1.heap.size := by omega
  have e1_1 : w.heap.size + 1 ≠ v1.heap.size := by omega
  have d1_2 : w.heap.size + 1 + 1 < v1.heap.size := by omega
  have e1_2 : w.heap.size + 1 + 1 ≠ v1.heap.size := by omega
  clear st1 HR1 HR2 hb1
  go_wp2_with fail
  go_at_call 51
  refine (igok_any N2 lo2 hi2 n2 _ L2 _ hL2 R1_1.out (by omega)).mono ?_
  rw [Hn.out.2.1]
  rintro e v2 ⟨rfl, hb2⟩
  have sz2 : v1.heap.size ≤ v2.heap.size := hb2.size
  have st2 : Below v1.heap.size v1 v2 := hb2
  have c2_0 : v2.cell? ⟨w.heap.size, 0, none⟩ = some (.int .i64 N1) := by rw [(bcell st2).1 _ _ (by omega)]; exact c1_0
  have c2_1 : v2.cell? ⟨w.heap.size, 1, none⟩ = some (.slice ad1 n1 cp1) := by rw [(bcell st2).1 _ _ (by omega)]; exact c1_1
  have c2_2 : v2.cell? ⟨w.heap.size + 1, 0, none⟩ = some (.int .i64 N2) := by rw [(bcell st2).1 _ _ (by omega)]; exact c1_2
  have c2_3 : v2.cell? ⟨w.heap.size + 1, 1, none⟩ = some (.slice ad2 n2 cp2) := by rw [(bcell st2).1 _ _ (by omega)]; exact c1_3
  have c2_4 : v2.cell? ⟨w.heap.size + 1 + 1, 0, none⟩ = some (.slice none 0 0) := by rw [(bcell st2).1 _ _ (by omega)]; exact c1_4
  have c2_5 : v2.cell? ⟨w.heap.size + 1 + 1, 1, none⟩ = some (.slice none 0 0) := by rw [(bcell st2).1 _ _ (by omega)]; exact c1_5
  have c2_6 : v2.cell? ⟨w.heap.size + 1 + 1, 2, none⟩ = some (.int .i64 0) := by rw [(bcell st2).1 _ _ (by omega)]; exact c1_6
  have g2_0 : v2.frozen? ⟨w.heap.size + 1 + 1, 0, none⟩ = false := by rw [(bcell st2).2 _ _ (by omega)]; exact g1_0
  have g2_1 : v2.frozen? ⟨w.heap.size + 1 + 1, 1, none⟩ = false := by rw [(bcell st2).2 _ _ (by omega)]; exact g1_1
  have g2_2 : v2.frozen? ⟨w.heap.size + 1 + 1, 2, none⟩ = false := by rw [(bcell st2).2 _ _ (by omega)]; exact g1_2
  have B2 : Hid (Below w.heap.size w v2) := B1.out.trans (st2.mono (by omega))
  have R2_0 : Hid (Row 3 v2 (lo1) (hi1) (.slice ad1 n1 cp1) n1 (flat L1)) := R1_0.out.below st2 (by omega)
  have R2_1 : Hid (Row 3 v2 (lo2) (hi2) (.slice ad2 n2 cp2) n2 (flat L2)) := R1_1.out.below st2 (by omega)
  have d2_0 : w.heap.size < v2.heap.size := by omega
  have e2_0 : w.heap.size ≠ v2.heap.size := by omega
  have d2_1 : w.heap.size + 1 < v2.heap.size := by omega
  have e2_1 : w.heap.size + 1 ≠ v2.heap.size := by omega
  have d2_2 : w.heap.size + 1 + 1 < v2.heap.size := by omega
  have e2_2 : w.heap.size + 1 + 1 ≠ v2.heap.size := by omega
  clear d1_0 e1_0 d1_1 e1_1 d1_2 e1_2 c1_0 c1_1 c1_2 c1_3 c1_4 c1_5 c1_6 g1_0 g1_1 g1_2 B1 st2 R1_0 R1_1 hb2
  go_wp2_with fail
  go_at_call 52
  refine (hasNode_any N1 _ _ _ d _).mono ?_
  rw [Hn.out.2.2.2]
  rintro e v3 ⟨rfl, hb3⟩
  have sz3 : v2.heap.size ≤ v3.heap.size := hb3.size
  have st3 : Below v2.heap.size v2 v3 := hb3
  have c3_0 : v3.cell? ⟨w.heap.size, 0, none⟩ = some (.int .i64 N1) := by rw [(bcell st3).1 _ _ (by omega)]; exact c2_0
  have c3_1 : v3.cell? ⟨w.heap.size, 1, none⟩ = some (.slice ad1 n1 cp1) := by rw [(bcell st3).1 _ _ (by omega)]; exact c2_1
  have c3_2 : v3.cell? ⟨w.heap.size + 1, 0, none⟩ = some (.int .i64 N2) := by rw [(bcell st3).1 _ _ (by omega)]; exact c2_2
  have c3_3 : v3.cell? ⟨w.heap.size + 1, 1, none⟩ = some (.slice ad2 n2 cp2) := by rw [(bcell st3).1 _ _ (by omega)]; exact c2_3
  have c3_4 : v3.cell? ⟨w.heap.size + 1 + 1, 0, none⟩ = some (.slice none 0 0) := by rw [(bcell st3).1 _ _ (by omega)]; exact c2_4
  have c3_5 : v3.cell? ⟨w.heap.size + 1 + 1, 1, none⟩ = some (.slice none 0 0) := by rw [(bcell st3).1 _ _ (by omega)]; exact c2_5
  have c3_6 : v3.cell? ⟨w.heap.size + 1 + 1, 2, none⟩ = some (.int .i64 0) := by rw [(bcell st3).1 _ _ (by omega)]; exact c2_6
  have g3_0 : v3.frozen? ⟨w.heap.size + 1 + 1, 0, none⟩ = false := by rw [(bcell st3).2 _ _ (by omega)]; exact g2_0
  have g3_1 : v3.frozen? ⟨w.heap.size + 1 + 1, 1, none⟩ = false := by rw [(bcell st3).2 _ _ (by omega)]; exact g2_1
  have g3_2 : v3.frozen? ⟨w.heap.size + 1 + 1, 2, none⟩ = false := by rw [(bcell st3).2 _ _ (by omega)]; exact g2_2
  have B3 : Hid (Below w.heap.size w v3) := B2.out.trans (st3.mono (by omega))
  have R3_0 : Hid (Row 3 v3 (lo1) (hi1) (.slice ad1 n1 cp1) n1 (flat L1)) := R2_0.out.below st3 (by omega)
  have R3_1 : Hid (Row 3 v3 (lo2) (hi2) (.slice ad2 n2 cp2) n2 (flat L2)) := R2_1.out.below st3 (by omega)
  have d3_0 : w.heap.size < v3.heap.size := by omega
  have e3_0 : w.heap.size ≠ v3.heap.size := by omega
  have d3_1 : w.heap.size + 1 < v3.heap.size := by omega
  have e3_1 : w.heap.size + 1 ≠ v3.heap.size := by omega
  have d3_2 : w.heap.size + 1 + 1 < v3.heap.size := by omega
  have e3_2 : w.heap.size + 1 + 1 ≠ v3.heap.size := by omega
  clear d2_0 e2_0 d2_1 e2_1 d2_2 e2_2 c2_0 c2_1 c2_2 c2_3 c2_4 c2_5 c2_6 g2_0 g2_1 g2_2 B2 st3 R2_0 R2_1 hb3
  have hN := gok_parts Hn.out.1
  have hNN := Hn.out.2.2.1
  have T1 : Hid (∀ W, Below v3.heap.size v3 W → Calls Try.prog 88 #[.agg #[.int .i64 N1, .slice ad1 n1 cp1], .int .i64 d] W fun e w' => ∃ rv, e = .returned rv ∧ OwnI W w' rv N1.toNat (towK N1 L1 d N1.toNat)) := fun W hW => by
    have e : ((N1.toNat : Nat) : Int) = N1 := by omega
    have h := tow_any N1.toNat lo1 hi1 n1 (.slice ad1 n1 cp1) L1 d W (by omega) hL1 (R3_0.out.below hW (by omega)) (by have := hW.size; omega)
    rw [e] at h
    exact h
  have T2 : Hid (∀ W, Below v3.heap.size v3 W → Calls Try.prog 88 #[.agg #[.int .i64 N2, .slice ad2 n2 cp2], .int .i64 d] W fun e w' => ∃ rv, e = .returned rv ∧ OwnI W w' rv N1.toNat (towK N1 L2 d N1.toNat)) := fun W hW => by
    have e : ((N1.toNat : Nat) : Int) = N2 := by rw [← hNN]; omega
    have h := tow_any N1.toNat lo2 hi2 n2 (.slice ad2 n2 cp2) L2 d W (by omega) hL2 (R3_1.out.below hW (by omega)) (by have := hW.size; omega)
    rw [e] at h
    rw [hNN] at h ⊢
    exact h
  have HF : Hid (fineB N1 L1 N2 L2 d = true) := fineB_iff.2 Hn.out
  have hK : v3.heap.size = v3.drew.heap.size := rfl
  have hNN10 : N1.toNat ≤ 10 := by omega
  clear hN hNN R3_0 R3_1 hK
  go_wp2_with fail
  refine wp_region_held_drew (S := (fun w' => w'.cell? ⟨w.heap.size, 0, none⟩ = some (.int .i64 N1) ∧ w'.cell? ⟨w.heap.size, 1, none⟩ = some (.slice ad1 n1 cp1) ∧ w'.cell? ⟨w.heap.size + 1, 0, none⟩ = some (.int .i64 N2) ∧ w'.cell? ⟨w.heap.size + 1, 1, none⟩ = some (.slice ad2 n2 cp2) ∧ Hid (Below w.heap.size w w'))) (by kernel_rfl) ?_ (fun hHeld => ?_)
  · exact ⟨c3_0, c3_1, c3_2, c3_3, Lib.hid (B3.out.drew)⟩
  refine step_read 0 30 rfl rfl (by kernel_rfl) (by kernel_rfl) (by kernel_rfl) (fun _ _ _ h => h) (by rfl) (v := ?_) (fun w hSw => ?_) (by assumption) ?_; rotate_left; (focus ((try dsimp only at hSw); go_simp; first | done | exact rfl)); simp only [List.set]
  refine step_read 1 31 rfl rfl (by kernel_rfl) (by kernel_rfl) (by kernel_rfl) (fun _ _ _ h => h) (by rfl) (v := ?_) (fun w hSw => ?_) (by assumption) ?_; rotate_left; (focus ((try dsimp only at hSw); go_simp; first | done | exact rfl)); simp only [List.set]
  refine step_read 3 33 rfl rfl (by kernel_rfl) (by kernel_rfl) (by kernel_rfl) (fun _ _ _ h => h) (by rfl) (v := ?_) (fun w hSw => ?_) (by assumption) ?_; rotate_left; (focus ((try dsimp only at hSw); go_simp; first | done | exact rfl)); simp only [List.set]
  refine step_read 4 34 rfl rfl (by kernel_rfl) (by kernel_rfl) (by kernel_rfl) (fun _ _ _ h => h) (by rfl) (v := ?_) (fun w hSw => ?_) (by assumption) ?_; rotate_left; (focus ((try dsimp only at hSw); go_simp; first | done | exact rfl)); simp only [List.set]
  refine step_read 6 36 rfl rfl (by kernel_rfl) (by kernel_rfl) (by kernel_rfl) (fun _ _ _ h => h) (by rfl) (v := ?_) (fun w hSw => ?_) (by assumption) ?_; rotate_left; (focus ((try dsimp only at hSw); go_simp; first | done | exact rfl)); simp only [List.set]
  refine wpAnyH_ready (rs := [2]) (by kernel_rfl) (by simp) ?_
  refine AllReadyH.cons rfl (fun Kc hK => ?_) (AllReadyH.nil)
  go_simp
  go_at_call 88
  refine (T1.out _ ((Below.refl _ _).drew)).mono ?_
  rintro e u1 ⟨rv1, rfl, ho1⟩
  obtain ⟨a1, c1, hrv1⟩ := own_slice ho1.row
  subst hrv1
  have Ho1 := Lib.hid ho1
  have HB1u : Hid (Below v3.heap.size v3 u1) := Lib.hid (undrew ho1.below)
  have hsu1 : v3.heap.size ≤ u1.heap.size := HB1u.out.size
  clear ho1 hHeld
  refine hK.out _ _ ?_ (fun hHeld => ?_)
  · exact ⟨by rw [HB1u.out.cell (p := ⟨w.heap.size, 0, none⟩) (by show w.heap.size < _; omega)]; exact c3_0, by rw [HB1u.out.cell (p := ⟨w.heap.size, 1, none⟩) (by show w.heap.size < _; omega)]; exact c3_1, by rw [HB1u.out.cell (p := ⟨w.heap.size + 1, 0, none⟩) (by show w.heap.size + 1 < _; omega)]; exact c3_2, by rw [HB1u.out.cell (p := ⟨w.heap.size + 1, 1, none⟩) (by show w.heap.size + 1 < _; omega)]; exact c3_3, Lib.hid (B3.out.trans (HB1u.out.mono (by omega)))⟩
  clear hK Kc
  refine wpAnyH_ready (rs := [5]) (by kernel_rfl) (by simp) ?_
  refine AllReadyH.cons rfl (fun Kc hK => ?_) (AllReadyH.nil)
  go_simp
  go_at_call 88
  refine (T2.out _ (HB1u.out)).mono ?_
  rintro e u2 ⟨rv2, rfl, ho2⟩
  obtain ⟨a2, c2, hrv2⟩ := own_slice ho2.row
  subst hrv2
  have Ho2 := Lib.hid ho2
  have HB2u : Hid (Below v3.heap.size v3 u2) := HB1u.out.trans (ho2.below.mono hsu1)
  have hsu2 := ho2.below.size
  clear ho2 hHeld
  refine hK.out _ _ ?_ (fun hHeld => ?_)
  · exact ⟨by rw [HB2u.out.cell (p := ⟨w.heap.size, 0, none⟩) (by show w.heap.size < _; omega)]; exact c3_0, by rw [HB2u.out.cell (p := ⟨w.heap.size, 1, none⟩) (by show w.heap.size < _; omega)]; exact c3_1, by rw [HB2u.out.cell (p := ⟨w.heap.size + 1, 0, none⟩) (by show w.heap.size + 1 < _; omega)]; exact c3_2, by rw [HB2u.out.cell (p := ⟨w.heap.size + 1, 1, none⟩) (by show w.heap.size + 1 < _; omega)]; exact c3_3, Lib.hid (B3.out.trans (HB2u.out.mono (by omega)))⟩
  clear hK Kc
  refine wpAnyH_ready (rs := [7]) (by kernel_rfl) (by simp) ?_
  refine AllReadyH.cons rfl (fun Kc hK => ?_) (AllReadyH.nil)
  go_simp
  refine hK.out _ _ ?_ (fun hHeld => ?_)
  · exact hHeld
  clear hK Kc
  refine wpAnyH_ready (rs := [8]) (by kernel_rfl) (by simp) ?_
  refine AllReadyH.cons rfl (fun Kc hK => ?_) (AllReadyH.nil)
  have hHs := Lib.hid hHeld
  clear hHeld
  have y0 : u2.cell? ⟨w.heap.size + 1 + 1, 0, none⟩ = some (.slice none 0 0) := by rw [HB2u.out.cell (p := ⟨w.heap.size + 1 + 1, 0, none⟩) (by show w.heap.size + 1 + 1 < _; omega)]; exact c3_4
  have y1 : u2.cell? ⟨w.heap.size + 1 + 1, 1, none⟩ = some (.slice none 0 0) := by rw [HB2u.out.cell (p := ⟨w.heap.size + 1 + 1, 1, none⟩) (by show w.heap.size + 1 + 1 < _; omega)]; exact c3_5
  have y2 : u2.cell? ⟨w.heap.size + 1 + 1, 2, none⟩ = some (.int .i64 0) := by rw [HB2u.out.cell (p := ⟨w.heap.size + 1 + 1, 2, none⟩) (by show w.heap.size + 1 + 1 < _; omega)]; exact c3_6
  have x0 : u2.frozen? ⟨w.heap.size + 1 + 1, 0, none⟩ = false := by rw [HB2u.out.frozen (p := ⟨w.heap.size + 1 + 1, 0, none⟩) (by show w.heap.size + 1 + 1 < _; omega)]; exact g3_0
  have x1 : u2.frozen? ⟨w.heap.size + 1 + 1, 1, none⟩ = false := by rw [HB2u.out.frozen (p := ⟨w.heap.size + 1 + 1, 1, none⟩) (by show w.heap.size + 1 + 1 < _; omega)]; exact g3_1
  have x2 : u2.frozen? ⟨w.heap.size + 1 + 1, 2, none⟩ = false := by rw [HB2u.out.frozen (p := ⟨w.heap.size + 1 + 1, 2, none⟩) (by show w.heap.size + 1 + 1 < _; omega)]; exact g3_2
  obtain ⟨r0, r1, r2⟩ := set3 (.slice a1 N1.toNat c1) (.slice a2 N1.toNat c2) (.int .i64 d) y0 y1 y2
  have HRS1 : Hid (Row 1 u2 v3.heap.size u2.heap.size (.slice a1 N1.toNat c1) N1.toNat (towK N1 L1 d N1.toNat)) := ((Ho1.out.toRow (by omega)).below Ho2.out.below (Nat.le_refl _)).wide (Nat.le_refl _) hsu2
  have HRS2 : Hid (Row 1 u2 u1.heap.size u2.heap.size (.slice a2 N1.toNat c2) N1.toNat (towK N1 L2 d N1.toNat)) := Ho2.out.toRow (by omega)
  have HBu : Hid (Below w.heap.size w u2) := hHs.out.2.2.2.2.out
  go_simp
  refine hK.out _ _ ?_ (fun hHeld => ?_)
  · exact ⟨by rw [set3_else (by omega)]; exact hHs.out.1, by rw [set3_else (by omega)]; exact hHs.out.2.1, by rw [set3_else (by omega)]; exact hHs.out.2.2.1, by rw [set3_else (by omega)]; exact hHs.out.2.2.2.1, Lib.hid (set3_below HBu.out (by omega))⟩
  clear hK Kc
  refine step_read 9 7 rfl rfl (by kernel_rfl) (by kernel_rfl) (by kernel_rfl) (fun _ _ _ h => h) (by rfl) (v := ?_) (fun w hSw => ?_) (by assumption) ?_; rotate_left; (focus ((try dsimp only at hSw); go_simp; first | done | exact rfl)); simp only [List.set]
  refine wpAnyH_done (by kernel_rfl) ?_ _
  clear hHeld
  go_wp2
  refine bodyPost_ret (v := .tuple #[.agg #[.slice a1 N1.toNat c1, .slice a2 N1.toNat c2, .int .i64 d], .bool true]) (by simp [results, Try.results56, go_sem, r0, r1, r2]) rfl ⟨set3_below HBu.out (by omega), .inr ⟨HF.out, _, _, rfl, ?_, ?_⟩⟩
  · rw [set3_size]; exact (set3_row HRS1.out (.inl (by omega))).wide (by omega) (Nat.le_refl _)
  · rw [set3_size]; exact (set3_row HRS2.out (.inl (by omega))).wide (by omega) (Nat.le_refl _)

theorem up_any (N1 N2 : Int) (lo1 hi1 n1 lo2 hi2 n2 : Nat) (s1 s2 : Value) (L1 L2 : List Ed) (d : Int) (w : World) (hL1 : L1.length = n1) (hL2 : L2.length = n2) (hr1 : Row 3 w lo1 hi1 s1 n1 (flat L1)) (hr2 : Row 3 w lo2 hi2 s2 n2 (flat L2)) (hh1 : hi1 ≤ w.heap.size) (hh2 : hi2 ≤ w.heap.size) :
    Calls Try.prog 56 #[.agg #[.int .i64 N1, s1], .agg #[.int .i64 N2, s2], .int .i64 d] w (UpPost N1 L1 N2 L2 d w) := by
  by_cases h1 : gok N1 L1 = true
  · by_cases h2 : gok N2 L2 = true
    · by_cases h3 : N1 = N2
      · by_cases h4 : ndB N1 d = true
        · exact up_yes N1 N2 lo1 hi1 n1 lo2 hi2 n2 s1 s2 L1 L2 d w hL1 hL2 hr1 hr2 hh1 hh2 ⟨h1, h2, h3, h4⟩
        · exact up_no3 N1 N2 lo1 hi1 n1 lo2 hi2 n2 s1 s2 L1 L2 d w hL1 hL2 hr1 hr2 hh1 hh2 ⟨h1, h2, h3, by simpa using h4⟩
      · exact up_no2 N1 N2 lo1 hi1 n1 lo2 hi2 n2 s1 s2 L1 L2 d w hL1 hL2 hr1 hr2 hh1 hh2 ⟨h1, h2, h3⟩
    · exact up_no1 N1 N2 lo1 hi1 n1 lo2 hi2 n2 s1 s2 L1 L2 d w hL1 hL2 hr1 hr2 hh1 hh2 ⟨h1, by simpa using h2⟩
  · exact up_no0 N1 N2 lo1 hi1 n1 lo2 hi2 n2 s1 s2 L1 L2 d w hL1 hL2 hr1 hr2 hh1 hh2 (by simpa using h1)

theorem upd1_no {A h : List Int} {x : Int} (hx : ¬ (0 ≤ x ∧ x < (h.length : Int))) : upd1 A h x = h := by unfold upd1; rw [if_neg hx]
theorem upd1_yes {A h : List Int} {x : Nat} {z : Int} (hx : x < h.length) (hz : A[x]? = some z) : upd1 A h (x : Int) = h.set x z := by
  unfold upd1
  rw [if_pos ⟨by omega, by omega⟩, Int.toNat_natCast, List.getD_eq_getElem?_getD, hz]
  rfl
theorem fold_len (A : List Int) : ∀ (Z B : List Int), (Z.foldl (upd1 A) B).length = B.length
  | [], _ => rfl
  | x :: r, B => by rw [List.foldl_cons, fold_len A r, upd1_len]
theorem splice_all (Z B : List Value) (h : B.length = Z.length) : splice Z 0 B = B := by
  unfold splice
  rw [List.take_zero, List.nil_append, Nat.zero_add, h, List.drop_eq_nil_of_le (Nat.le_refl _), List.append_nil]

set_option maxRecDepth 100000 in
set_option maxHeartbeats 4000000 in
theorem uhops_any (M lo1 hi1 lo2 hi2 lo3 hi3 m : Nat) (s1 s2 s3 : Value) (B A Z : List Int) (d : Int) (w : World) (hM0 : 0 < M) (hM : M ≤ 10) (hr1 : Row 1 w lo1 hi1 s1 M B) (hr2 : Row 1 w lo2 hi2 s2 M A) (hr3 : Row 1 w lo3 hi3 s3 m Z) (hh1 : hi1 ≤ w.heap.size) (hh2 : hi2 ≤ w.heap.size) (hh3 : hi3 ≤ w.heap.size) :
    Calls Try.prog 57 #[.agg #[s1, s2, .int .i64 d], s3] w fun e w' => ∃ rv, e = .returned rv ∧ OwnI w w' rv M (Z.foldl (upd1 A) B) := by
  have hBl : B.length = M := by have := hr1.1; omega
  have hAl : A.length = M := by have := hr2.1; omega
  have hZl : Z.length = m := by have := hr3.1; omega
  obtain ⟨bg, bc, rfl, _, hb1, hbc⟩ := row_cells hM0 hr1
  obtain ⟨ag, ac, rfl, _, hb2, hac⟩ := row_cells hM0 hr2
  obtain ⟨da, dc, rfl, hm1, hdc⟩ := hr3.opened
  obtain ⟨i3, hi, hz0, hz1, hz2⟩ := info_parts Try.info3
  have I := Lib.hid (And.intro hi (And.intro hz0 (And.intro hz1 hz2)))
  have hsz : Hid ((Try.prog.info? 3).map (·.size) = some 1) := by show _ = _; rw [hi]; simp [hz1]
  have HBC := Lib.hid hbc
  have HAC := Lib.hid hac
  have HDC := Lib.hid hdc
  have HL := Lib.hid (And.intro hBl (And.intro hAl hZl))
  clear hr1 hr2 hr3 hbc hac hdc hi hz0 hz1 hz2 hBl hAl hZl
  go_enter Try.func57, Try.ntmps57
  go_upto_region 1 with fail
  obtain ⟨v0, hv0⟩ : ∃ v0, v0 = w.alloc (.cells #[.slice (some ⟨bg, 0, none⟩) M bc, .slice (some ⟨ag, 0, none⟩) M ac, .int .i64 d] 67) := ⟨_, rfl⟩
  have hs0 : v0.heap.size = w.heap.size + 1 := by rw [hv0]; simp
  have HB0 : Hid (Below w.heap.size w v0) := by rw [hv0]; exact Lib.hid ((Below.refl _ _).alloc (Nat.le_refl _) _)
  have u0 : v0.cell? ⟨w.heap.size, 0, none⟩ = some (.slice (some ⟨bg, 0, none⟩) M bc) := by rw [hv0]; simp
  have u1 : v0.cell? ⟨w.heap.size, 1, none⟩ = some (.slice (some ⟨ag, 0, none⟩) M ac) := by rw [hv0]; simp
  have hw0 : w.heap.size < v0.heap.size := by omega
  have U0 := Lib.hid u0
  have U1 := Lib.hid u1
  have HS0 := Lib.hid hs0
  rw [← hv0]
  clear hv0 hs0
  go_wp2_with (at_make; refine wpList_make_full _ rfl _ _ 33 rfl v0.heap.size 3 i3 (.int .i64 0) 1 Try.underlying33 I.out.1 I.out.2.1 I.out.2.2.1 .i64 .i64 _ _ M rfl rfl rfl rfl ?b2 ?b3 ?b4 ?_)
  case b2 => rw [I.out.2.2.2]; omega
  case b3 => unfold maxLen; omega
  case b4 => exact Nat.le_refl _
  intro w1 hown hgr
  have hlt := (hown.lt _ rfl).2
  have hb1' : Below v0.heap.size v0 w1 := ⟨hgr.os, hgr.tape, hgr.output, hgr.size, fun k hk => hgr.block k hk (by simp)⟩
  have hh := own_heap (own_zeros hown)
  have HH := Lib.hid hh
  have HB1 := Lib.hid hb1'
  have u0 : w1.cell? ⟨w.heap.size, 0, none⟩ = some (.slice (some ⟨bg, 0, none⟩) M bc) := by rw [HB1.out.cell (p := ⟨w.heap.size, 0, none⟩) hw0]; exact U0.out
  have u1 : w1.cell? ⟨w.heap.size, 1, none⟩ = some (.slice (some ⟨ag, 0, none⟩) M ac) := by rw [HB1.out.cell (p := ⟨w.heap.size, 1, none⟩) hw0]; exact U1.out
  have Hsrc : Hid (∀ j v, (ints B)[j]? = some v → w1.cell? ((⟨bg, 0, none⟩ : Addr).add j) = some v) := fun j v hv => by
    have hj : j < B.length := by
      have := (List.getElem?_eq_some_iff.1 hv).1
      simpa [ints] using this
    have hbj : B[j]? = some (B[j]'hj) := List.getElem?_eq_getElem _
    have e : v = .int .i64 (B[j]'hj) := by rw [ints_at' hbj] at hv; exact (Option.some.inj hv).symm
    rw [e]
    rw [show ((⟨bg, 0, none⟩ : Addr).add j) = ⟨bg, j, none⟩ by (unfold Addr.add; rw [Nat.zero_add]; split <;> simp_all), HB1.out.cell (p := ⟨bg, j, none⟩) (by show bg < _; omega), HB0.out.cell (p := ⟨bg, j, none⟩) (by show bg < _; omega)]
    exact HBC.out j _ hbj
  have Hlen : Hid ((ints B).length = M) := by show _ = _; rw [ints, List.length_map, HL.out.1]
  have Hfit : Hid (0 + (ints B).length ≤ (ints (tabI M fun _ => 0)).length) := by show _ ≤ _; rw [Hlen.out, Nat.zero_add, ints, List.length_map, tabI_len]; exact Nat.le_refl _
  have Hone : Hid (∀ v ∈ ints B, v.oneCell' = true) := fun v hv => by
    unfold ints at hv
    obtain ⟨z, _, rfl⟩ := List.mem_map.1 hv
    rfl
  clear hown hgr hh hb1'
  go_wp2_with (refine wpList_copy_splice rfl _ _ 33 33 rfl 3 Try.underlying33 hsz.out _ _ M M M bc rfl rfl v0.heap.size 0 (ints (tabI M fun _ => 0)) 3 HH.out (ints B) (by rw [Hlen.out]; exact (Nat.min_self M).symm) (fun _ => ⟨rfl, _, rfl, Hsrc.out⟩) Hfit.out Hone.out v0.heap.size v0 HB1.out (Nat.le_refl _) ?_)
  intro w2 HG2 hB2
  have HO2 : Hid (OwnI v0 w2 (.slice (some ⟨v0.heap.size, 0, none⟩) M M) M ((Z.take 0).foldl (upd1 A) B)) := by
    refine ⟨hB2, heap_own ?_ (Nat.le_refl _) (by omega) Hlen.out⟩
    rw [HG2.out, splice_all _ _ (by rw [Hlen.out, ints, List.length_map, tabI_len])]
    rfl
  clear HG2 hB2 HH HB1 u0 u1 Hsrc Hlen Hfit Hone hlt
  go_wp2_with fail
  go_loopw [7, 18] (fun _ i wr => ∃ k : Nat, k ≤ m ∧ i = .int .i64 (k : Int) ∧ Hid (OwnI v0 wr (.slice (some ⟨v0.heap.size, 0, none⟩) M M) M ((Z.take k).foldl (upd1 A) B))) (fun _ i _ => m - (intOf i).toNat)
  case atStart => exact ⟨0, Nat.zero_le _, rfl, HO2⟩
  case round =>
    clear HO2
    obtain ⟨k, hk, rfl, hO⟩ := hrel
    have u0 : wr.cell? ⟨w.heap.size, 0, none⟩ = some (.slice (some ⟨bg, 0, none⟩) M bc) := by rw [hO.out.below.cell (p := ⟨w.heap.size, 0, none⟩) hw0]; exact U0.out
    have u1 : wr.cell? ⟨w.heap.size, 1, none⟩ = some (.slice (some ⟨ag, 0, none⟩) M ac) := by rw [hO.out.below.cell (p := ⟨w.heap.size, 1, none⟩) hw0]; exact U1.out
    by_cases hlt : k < m
    · obtain ⟨g, rfl, hg, hcell⟩ := HDC.out (by omega)
      obtain ⟨x, hx⟩ : ∃ x, Z[k]? = some x := ⟨Z[k]'(by rw [HL.out.2.2]; exact hlt), List.getElem?_eq_getElem _⟩
      have z0 : wr.cell? ⟨g, k, none⟩ = some (.int .i64 x) := by rw [hO.out.below.cell (p := ⟨g, k, none⟩) (by show g < _; omega), HB0.out.cell (p := ⟨g, k, none⟩) (by show g < _; omega)]; exact hcell _ _ hx
      have q0 : (0 : Int) ≤ (k : Int) := by omega
      have q1 : (k : Int) < (m : Int) := by omega
      have HT : Hid ((Z.take (k + 1)).foldl (upd1 A) B = upd1 A ((Z.take k).foldl (upd1 A) B) x) := by show _ = _; rw [List.take_add_one, hx, List.foldl_append]; rfl
      have HFl : Hid (((Z.take k).foldl (upd1 A) B).length = M) := by show _ = _; rw [fold_len, HL.out.1]
      clear hcell hx
      by_cases h0 : 0 ≤ x
      · by_cases h1 : x < (M : Int)
        · obtain ⟨j, rfl⟩ : ∃ j : Nat, x = (j : Int) := ⟨x.toNat, by omega⟩
          have hj : j < M := by omega
          obtain ⟨z, hz⟩ : ∃ z, A[j]? = some z := ⟨A[j]'(by rw [HL.out.2.1]; exact hj), List.getElem?_eq_getElem _⟩
          have z1 : wr.cell? ⟨ag, j, none⟩ = some (.int .i64 z) := by rw [hO.out.below.cell (p := ⟨ag, j, none⟩) (by show ag < _; omega), HB0.out.cell (p := ⟨ag, j, none⟩) (by show ag < _; omega)]; exact HAC.out j z hz
          obtain ⟨y, hy⟩ : ∃ y, ((Z.take k).foldl (upd1 A) B)[j]? = some y := ⟨((Z.take k).foldl (upd1 A) B)[j]'(by rw [HFl.out]; exact hj), List.getElem?_eq_getElem _⟩
          have z2 := hO.out.at hj hy
          have f2 := hO.out.frz j
          have HN : Hid (OwnI v0 (wr.setCell ⟨v0.heap.size, j, none⟩ (.int .i64 z)) (.slice (some ⟨v0.heap.size, 0, none⟩) M M) M ((Z.take (k + 1)).foldl (upd1 A) B)) := by
            rw [HT.out, upd1_yes (by rw [HFl.out]; exact hj) hz]
            exact hO.out.set j z
          clear hO hz hy
          go_wp2_with fail
          go_roundw
          case rel => exact ⟨k + 1, by omega, by go_num, HN⟩
          case measure => simp [intOf]; omega
        · have HN : Hid (OwnI v0 wr (.slice (some ⟨v0.heap.size, 0, none⟩) M M) M ((Z.take (k + 1)).foldl (upd1 A) B)) := by
            rw [HT.out, upd1_no (by rw [HFl.out]; omega)]
            exact hO
          clear hO
          go_wp2_with fail
          go_roundw
          case rel => exact ⟨k + 1, by omega, by go_num, HN⟩
          case measure => simp [intOf]; omega
      · have HN : Hid (OwnI v0 wr (.slice (some ⟨v0.heap.size, 0, none⟩) M M) M ((Z.take (k + 1)).foldl (upd1 A) B)) := by
          rw [HT.out, upd1_no (by omega)]
          exact hO
        clear hO
        go_wp2_with fail
        go_roundw
        case rel => exact ⟨k + 1, by omega, by go_num, HN⟩
        case measure => simp [intOf]; omega
    · obtain rfl : k = m := by omega
      have hge : ¬ ((k : Int) < (k : Int)) := by omega
      have HE : Hid (OwnI v0 wr (.slice (some ⟨v0.heap.size, 0, none⟩) M M) M (Z.foldl (upd1 A) B)) := by
        have := hO.out
        rw [List.take_of_length_le (by rw [HL.out.2.2]; exact Nat.le_refl _)] at this
        exact this
      go_wp2_with fail
      go_ret
      exact ⟨_, rfl, HE.out.base HB0.out⟩

/-- Two graphs in boxes of their own, while nothing that was there turns. -/
structure Gy (w wr : World) (N1 N2 : Int) (ad1 ad2 : Option Addr) (n1 n2 cp1 cp2 lo1 lo2 hi1 hi2 : Nat) (L1 L2 : List Ed) : Prop where
  below : Below w.heap.size w wr
  a0 : wr.cell? ⟨w.heap.size, 0, none⟩ = some (.int .i64 N1)
  a1 : wr.cell? ⟨w.heap.size, 1, none⟩ = some (.slice ad1 n1 cp1)
  b0 : wr.cell? ⟨w.heap.size + 1, 0, none⟩ = some (.int .i64 N2)
  b1 : wr.cell? ⟨w.heap.size + 1, 1, none⟩ = some (.slice ad2 n2 cp2)
  row1 : Row 3 wr lo1 hi1 (.slice ad1 n1 cp1) n1 (flat L1)
  row2 : Row 3 wr lo2 hi2 (.slice ad2 n2 cp2) n2 (flat L2)
  lt : w.heap.size + 1 < wr.heap.size
  h1 : hi1 ≤ w.heap.size
  h2 : hi2 ≤ w.heap.size
theorem Gy.start {w : World} {N1 N2 : Int} {ad1 ad2 : Option Addr} {n1 n2 cp1 cp2 lo1 lo2 hi1 hi2 : Nat} {L1 L2 : List Ed} (r1 : Row 3 w lo1 hi1 (.slice ad1 n1 cp1) n1 (flat L1)) (r2 : Row 3 w lo2 hi2 (.slice ad2 n2 cp2) n2 (flat L2)) (h1 : hi1 ≤ w.heap.size) (h2 : hi2 ≤ w.heap.size) :
    Gy w ((w.alloc (.cells #[.int .i64 N1, .slice ad1 n1 cp1] 29)).alloc (.cells #[.int .i64 N2, .slice ad2 n2 cp2] 29)) N1 N2 ad1 ad2 n1 n2 cp1 cp2 lo1 lo2 hi1 hi2 L1 L2 := by
  have hb : Below w.heap.size w ((w.alloc (.cells #[.int .i64 N1, .slice ad1 n1 cp1] 29)).alloc (.cells #[.int .i64 N2, .slice ad2 n2 cp2] 29)) := by go_grown
  exact ⟨hb, by rw [old_box (by simp)]; simp, by rw [old_box (by simp)]; simp, by rw [new_at (by simp)]; rfl, by rw [new_at (by simp)]; rfl, r1.below hb h1, r2.below hb h2, by simp, h1, h2⟩
theorem Gy.grow {w wr w2 : World} {N1 N2 : Int} {ad1 ad2 : Option Addr} {n1 n2 cp1 cp2 lo1 lo2 hi1 hi2 : Nat} {L1 L2 : List Ed} (h : Gy w wr N1 N2 ad1 ad2 n1 n2 cp1 cp2 lo1 lo2 hi1 hi2 L1 L2) (b : Below wr.heap.size wr w2) : Gy w w2 N1 N2 ad1 ad2 n1 n2 cp1 cp2 lo1 lo2 hi1 hi2 L1 L2 :=
  ⟨h.below.trans (b.mono h.below.size), by rw [b.cell (p := ⟨w.heap.size, 0, none⟩) (by have := h.lt; show w.heap.size < _; omega)]; exact h.a0, by rw [b.cell (p := ⟨w.heap.size, 1, none⟩) (by have := h.lt; show w.heap.size < _; omega)]; exact h.a1,
    by rw [b.cell (p := ⟨w.heap.size + 1, 0, none⟩) h.lt]; exact h.b0, by rw [b.cell (p := ⟨w.heap.size + 1, 1, none⟩) h.lt]; exact h.b1, h.row1.below b (by have := h.h1; have := h.lt; omega), h.row2.below b (by have := h.h2; have := h.lt; omega), Nat.lt_of_lt_of_le h.lt b.size, h.h1, h.h2⟩
theorem Gy.hi1 {w wr : World} {N1 N2 : Int} {ad1 ad2 : Option Addr} {n1 n2 cp1 cp2 lo1 lo2 hi1 hi2 : Nat} {L1 L2 : List Ed} (h : Gy w wr N1 N2 ad1 ad2 n1 n2 cp1 cp2 lo1 lo2 hi1 hi2 L1 L2) : hi1 ≤ wr.heap.size := by have := h.h1; have := h.lt; omega
theorem Gy.hi2 {w wr : World} {N1 N2 : Int} {ad1 ad2 : Option Addr} {n1 n2 cp1 cp2 lo1 lo2 hi1 hi2 : Nat} {L1 L2 : List Ed} (h : Gy w wr N1 N2 ad1 ad2 n1 n2 cp1 cp2 lo1 lo2 hi1 hi2 L1 L2) : hi2 ≤ wr.heap.size := by have := h.h2; have := h.lt; omega

set_option maxRecDepth 100000 in
set_option maxHeartbeats 4000000 in
theorem fine_any (N1 N2 : Int) (lo1 hi1 n1 lo2 hi2 n2 : Nat) (s1 s2 : Value) (L1 L2 : List Ed) (d : Int) (w : World) (hL1 : L1.length = n1) (hL2 : L2.length = n2) (hr1 : Row 3 w lo1 hi1 s1 n1 (flat L1)) (hr2 : Row 3 w lo2 hi2 s2 n2 (flat L2)) (hh1 : hi1 ≤ w.heap.size) (hh2 : hi2 ≤ w.heap.size) :
    Calls Try.prog 54 #[.agg #[.int .i64 N1, s1], .agg #[.int .i64 N2, s2], .int .i64 d] w fun e w' => e = .returned (.bool (fineB N1 L1 N2 L2 d)) ∧ Below w.heap.size w w' := by
  obtain ⟨ad1, cp1, rfl⟩ := hr1.slice
  obtain ⟨ad2, cp2, rfl⟩ := hr2.slice
  have HY0 := Lib.hid (Gy.start (N1 := N1) (N2 := N2) hr1 hr2 hh1 hh2)
  have HB0 := Lib.hid HY0.out.below
  clear hr1 hr2 hh1 hh2
  have HF : Hid (fineB N1 L1 N2 L2 d = (gok N1 L1 && (gok N2 L2 && (decide (N1 = N2) && ndB N1 d)))) := rfl
  go_enter Try.func54, Try.ntmps54
  go_wp2_with fail
  obtain ⟨v0, hv0⟩ : ∃ v0, v0 = ((w.alloc (.cells #[.int .i64 N1, .slice ad1 n1 cp1] 29)).alloc (.cells #[.int .i64 N2, .slice ad2 n2 cp2] 29)) := ⟨_, rfl⟩
  rw [← hv0] at HY0 ⊢
  clear hv0
  have a0 := HY0.out.a0
  have a1 := HY0.out.a1
  have b0 := HY0.out.b0
  have b1 := HY0.out.b1
  cases h1 : gok N1 L1 with
  | false =>
    rw [h1, Bool.false_and] at HF
    go_at_call 47
    refine (sgok_any N1 lo1 hi1 n1 _ L1 _ hL1 HY0.out.row1 HY0.out.hi1).mono ?_
    rw [h1]
    rintro e v1 ⟨rfl, hb1⟩
    have HY1 := Lib.hid (HY0.out.grow hb1)
    clear hb1 HY0 a0 a1 b0 b1
    have a0 := HY1.out.a0
    have a1 := HY1.out.a1
    have b0 := HY1.out.b0
    have b1 := HY1.out.b1
    go_wp2_with fail
    go_ret
    exact ⟨by rw [HF.out]; rfl, HY1.out.below⟩
  | true =>
    rw [h1, Bool.true_and] at HF
    go_at_call 47
    refine (sgok_any N1 lo1 hi1 n1 _ L1 _ hL1 HY0.out.row1 HY0.out.hi1).mono ?_
    rw [h1]
    rintro e v1 ⟨rfl, hb1⟩
    have HY1 := Lib.hid (HY0.out.grow hb1)
    clear hb1 HY0 a0 a1 b0 b1
    have a0 := HY1.out.a0
    have a1 := HY1.out.a1
    have b0 := HY1.out.b0
    have b1 := HY1.out.b1
    go_wp2_with fail
    cases h2 : gok N2 L2 with
    | false =>
      rw [h2, Bool.false_and] at HF
      go_at_call 47
      refine (sgok_any N2 lo2 hi2 n2 _ L2 _ hL2 HY1.out.row2 HY1.out.hi2).mono ?_
      rw [h2]
      rintro e v2 ⟨rfl, hb2⟩
      have HY2 := Lib.hid (HY1.out.grow hb2)
      clear hb2 HY1 a0 a1 b0 b1
      have a0 := HY2.out.a0
      have a1 := HY2.out.a1
      have b0 := HY2.out.b0
      have b1 := HY2.out.b1
      go_wp2_with fail
      go_ret
      exact ⟨by rw [HF.out]; rfl, HY2.out.below⟩
    | true =>
      rw [h2, Bool.true_and] at HF
      have hN1 := (gok_parts h1).1
      have hN2 := (gok_parts h1).2.1
      by_cases h3 : N1 = N2
      · have e1 : (N1 == N2) = true := by simp [h3]
        rw [decide_eq_true h3, Bool.true_and] at HF
        clear h3
        go_at_call 47
        refine (sgok_any N2 lo2 hi2 n2 _ L2 _ hL2 HY1.out.row2 HY1.out.hi2).mono ?_
        rw [h2]
        rintro e v2 ⟨rfl, hb2⟩
        have HY2 := Lib.hid (HY1.out.grow hb2)
        clear hb2 HY1 a0 a1 b0 b1
        have a0 := HY2.out.a0
        have a1 := HY2.out.a1
        have b0 := HY2.out.b0
        have b1 := HY2.out.b1
        go_wp2_with fail
        go_at_call 48
        refine (node_any N1 _ _ _ d _ hN1 hN2).mono ?_
        skip
        rintro e v3 ⟨rfl, hb3⟩
        have HY3 := Lib.hid (HY2.out.grow hb3)
        clear hb3 HY2 a0 a1 b0 b1
        have a0 := HY3.out.a0
        have a1 := HY3.out.a1
        have b0 := HY3.out.b0
        have b1 := HY3.out.b1
        go_wp2_with fail
        go_ret
        exact ⟨by rw [HF.out]; rfl, HY3.out.below⟩
      · have e1 : (N1 == N2) = false := by simp [h3]
        rw [decide_eq_false h3, Bool.false_and] at HF
        clear h3
        go_at_call 47
        refine (sgok_any N2 lo2 hi2 n2 _ L2 _ hL2 HY1.out.row2 HY1.out.hi2).mono ?_
        rw [h2]
        rintro e v2 ⟨rfl, hb2⟩
        have HY2 := Lib.hid (HY1.out.grow hb2)
        clear hb2 HY1 a0 a1 b0 b1
        have a0 := HY2.out.a0
        have a1 := HY2.out.a1
        have b0 := HY2.out.b0
        have b1 := HY2.out.b1
        go_wp2_with fail
        go_ret
        exact ⟨by rw [HF.out]; rfl, HY2.out.below⟩

set_option maxRecDepth 100000 in
set_option maxHeartbeats 4000000 in
theorem imix_any (N1 N2 : Int) (lo1 hi1 n1 lo2 hi2 n2 : Nat) (s1 s2 : Value) (L1 L2 : List Ed) (s3 : Value) (lo3 hi3 m : Nat) (Z : List Int) (d : Int) (w : World) (hL1 : L1.length = n1) (hL2 : L2.length = n2) (hr1 : Row 3 w lo1 hi1 s1 n1 (flat L1)) (hr2 : Row 3 w lo2 hi2 s2 n2 (flat L2)) (hh1 : hi1 ≤ w.heap.size) (hh2 : hi2 ≤ w.heap.size) (hr3 : Row 1 w lo3 hi3 s3 m Z) (hh3 : hi3 ≤ w.heap.size) :
    Calls Try.prog 18 #[.agg #[.int .i64 N1, s1], .agg #[.int .i64 N2, s2], s3, .int .i64 d] w (LoPost (mixL N1 L1 N2 L2 Z d) w) := by
  have hZl : Z.length = m := by have := hr3.1; omega
  have HR3 := Lib.hid hr3
  obtain ⟨da, dc, rfl⟩ := hr3.slice
  have hm1 : m ≤ 1100000 := by obtain ⟨_, _, _, h, _⟩ := hr3.opened; exact h
  clear hr3
  obtain ⟨ad1, cp1, rfl⟩ := hr1.slice
  obtain ⟨ad2, cp2, rfl⟩ := hr2.slice
  have HY0 := Lib.hid (Gy.start (N1 := N1) (N2 := N2) hr1 hr2 hh1 hh2)
  have HB0 := Lib.hid HY0.out.below
  clear hr1 hr2 hh1 hh2
  have HB0' := HB0.out
  have HZ := Lib.hid hZl
  have hmx : mixL N1 L1 N2 L2 Z d = if fineB N1 L1 N2 L2 d = true ∧ Z.length ≤ 300 then mixK N1 L1 L2 Z d N1.toNat else [] := rfl
  rw [hZl] at hmx
  have HMX := Lib.hid hmx
  clear hZl hmx HB0'
  go_enter Try.func18, Try.ntmps18
  go_wp2_with fail
  obtain ⟨v0, hv0⟩ : ∃ v0, v0 = ((w.alloc (.cells #[.int .i64 N1, .slice ad1 n1 cp1] 29)).alloc (.cells #[.int .i64 N2, .slice ad2 n2 cp2] 29)) := ⟨_, rfl⟩
  rw [← hv0] at HY0 HB0 ⊢
  have HR0 : Hid (Row 1 v0 lo3 hi3 (.slice da m dc) m Z) := HR3.out.below HB0.out hh3
  clear hv0 HR3
  go_at_call 56
  refine (up_any N1 N2 lo1 hi1 n1 lo2 hi2 n2 _ _ L1 L2 d v0 hL1 hL2 HY0.out.row1 HY0.out.row2 HY0.out.hi1 HY0.out.hi2).mono ?_
  rintro e v1 ⟨hb1, hcase⟩
  have HB1 : Hid (Below w.heap.size w v1) := HB0.out.trans (hb1.mono HB0.out.size)
  have hh0 : hi3 ≤ v0.heap.size := by have := HB0.out.size; omega
  have HR1 : Hid (Row 1 v1 lo3 hi3 (.slice da m dc) m Z) := HR0.out.below hb1 hh0
  have hs1 := hb1.size
  clear hb1 HR0
  rcases hcase with ⟨hf, rfl⟩ | ⟨hf, bv, av, rfl, hbr, har⟩
  · have HE : Hid (mixL N1 L1 N2 L2 Z d = []) := by show _ = _; rw [HMX.out, hf]; exact if_neg (fun h => Bool.false_ne_true h.1)
    clear hf
    go_wp2_with fail
    go_ret
    rw [HE.out]
    exact ⟨_, rfl, Row.empty 1 _ _ _ _ _, HB1.out.alloc HB1.out.size _⟩
  · have hG := (fineB_iff.1 hf).1
    have hN := gok_parts hG
    obtain ⟨M, hM⟩ : ∃ M, M = N1.toNat := ⟨_, rfl⟩
    have hM0 : 0 < M := by omega
    have hM1 : M ≤ 10 := by omega
    rw [← hM] at hbr har HMX
    have HF := Lib.hid hf
    obtain ⟨ba, bc, rfl⟩ := hbr.slice
    obtain ⟨aa, ac, rfl⟩ := har.slice
    have HBR := Lib.hid hbr
    have HAR := Lib.hid har
    clear hf hG hN hM hbr har
    by_cases hm : m ≤ 300
    · have hm3 : ¬ ((m : Int) > 300) := by omega
      have HE : Hid (mixL N1 L1 N2 L2 Z d = Z.foldl (upd1 (towK N1 L2 d M)) (towK N1 L1 d M)) := by
        show _ = _
        rw [HMX.out, if_pos ⟨HF.out, hm⟩, ← mixK_none N1 L1 L2 d M, upd_fold]
        rfl
      have hlen : (Z.foldl (upd1 (towK N1 L2 d M)) (towK N1 L1 d M)).length = M := by rw [fold_len, towK_len]
      have HLn := Lib.hid hlen
      clear hm hlen
      go_wp2_with fail
      obtain ⟨v2, hv2⟩ : ∃ v2, v2 = v1.alloc (.cells #[.slice ba M bc, .slice aa M ac, .int .i64 d] 67) := ⟨_, rfl⟩
      have hb2 : Below v1.heap.size v1 v2 := by rw [hv2]; exact (Below.refl _ _).alloc (Nat.le_refl _) _
      rw [← hv2]
      have HB2 := Lib.hid hb2
      clear hv2 hb2
      go_at_call 57
      refine (uhops_any M _ _ _ _ lo3 hi3 m _ _ _ (towK N1 L1 d M) (towK N1 L2 d M) Z d v2 hM0 hM1 (HBR.out.below HB2.out (Nat.le_refl _)) (HAR.out.below HB2.out (Nat.le_refl _)) (HR1.out.below HB2.out (by omega)) HB2.out.size HB2.out.size (by have := HB2.out.size; omega)).mono ?_
      rintro e v3 ⟨rv, rfl, hO⟩
      have HO := Lib.hid hO
      clear hO
      go_wp2_with fail
      go_ret
      have hs2 := HB2.out.size
      have hsb := HB1.out.size
      rw [HE.out]
      exact ⟨_, rfl, by rw [HLn.out]; exact (HO.out.toRow (by omega)).wide (by omega) (Nat.le_refl _), (HB1.out.trans (HB2.out.mono HB1.out.size)).trans (HO.out.below.mono (by omega))⟩
    · have hm3 : (m : Int) > 300 := by omega
      have hm4 : decide ((m : Int) > 300) = true := decide_eq_true hm3
      have HE : Hid (mixL N1 L1 N2 L2 Z d = []) := by show _ = _; rw [HMX.out]; exact if_neg (fun h => hm h.2)
      clear hm
      go_wp2_with fail
      go_ret
      rw [HE.out]
      exact ⟨_, rfl, Row.empty 1 _ _ _ _ _, HB1.out.alloc HB1.out.size _⟩

theorem hasB_mem {Z : List Int} {x : Int} : hasB Z x = true ↔ x ∈ Z := by
  unfold hasB
  rw [List.any_eq_true]
  constructor
  · rintro ⟨z, h1, h2⟩
    have h3 : z = x := by simpa using h2
    rw [← h3]; exact h1
  · intro h
    exact ⟨x, h, by simp⟩

set_option maxRecDepth 100000 in
set_option maxHeartbeats 4000000 in
theorem smix_any (N1 N2 : Int) (lo1 hi1 n1 lo2 hi2 n2 : Nat) (s1 s2 : Value) (L1 L2 : List Ed) (s3 : Value) (lo3 hi3 m : Nat) (Z : List Int) (d : Int) (w : World) (hL1 : L1.length = n1) (hL2 : L2.length = n2) (hr1 : Row 3 w lo1 hi1 s1 n1 (flat L1)) (hr2 : Row 3 w lo2 hi2 s2 n2 (flat L2)) (hh1 : hi1 ≤ w.heap.size) (hh2 : hi2 ≤ w.heap.size) (hr3 : Row 1 w lo3 hi3 s3 m Z) (hh3 : hi3 ≤ w.heap.size) :
    Calls Try.prog 16 #[.agg #[.int .i64 N1, s1], .agg #[.int .i64 N2, s2], s3, .int .i64 d] w (LoPost (mixL N1 L1 N2 L2 Z d) w) := by
  have hZl : Z.length = m := by have := hr3.1; omega
  have HR3 := Lib.hid hr3
  obtain ⟨da, dc, rfl⟩ := hr3.slice
  have hm1 : m ≤ 1100000 := by obtain ⟨_, _, _, h, _⟩ := hr3.opened; exact h
  clear hr3
  obtain ⟨ad1, cp1, rfl⟩ := hr1.slice
  obtain ⟨ad2, cp2, rfl⟩ := hr2.slice
  have HY0 := Lib.hid (Gy.start (N1 := N1) (N2 := N2) hr1 hr2 hh1 hh2)
  have HB0 := Lib.hid HY0.out.below
  clear hr1 hr2 hh1 hh2
  obtain ⟨i3, hi3', hz0, hz1, hz2⟩ := info_parts Try.info3
  have I := Lib.hid (And.intro hi3' (And.intro hz0 (And.intro hz1 hz2)))
  have hmx : mixL N1 L1 N2 L2 Z d = if fineB N1 L1 N2 L2 d = true ∧ Z.length ≤ 300 then mixK N1 L1 L2 Z d N1.toNat else [] := rfl
  rw [hZl] at hmx
  have HMX := Lib.hid hmx
  clear hZl hmx hi3' hz0 hz1 hz2
  go_enter Try.func16, Try.ntmps16
  go_wp2_with fail
  obtain ⟨v0, hv0⟩ : ∃ v0, v0 = ((w.alloc (.cells #[.int .i64 N1, .slice ad1 n1 cp1] 29)).alloc (.cells #[.int .i64 N2, .slice ad2 n2 cp2] 29)) := ⟨_, rfl⟩
  have hs0 : v0.heap.size = w.heap.size + 1 + 1 := by rw [hv0]; simp
  rw [← hv0] at HY0 HB0 ⊢
  have HR0 : Hid (Row 1 v0 lo3 hi3 (.slice da m dc) m Z) := HR3.out.below HB0.out hh3
  obtain ⟨v1, hv1⟩ : ∃ v1, v1 = v0.alloc (.cells #[] 3) := ⟨_, rfl⟩
  have HO1 : Hid (OwnI v0 v1 (.slice (some ⟨w.heap.size + 1 + 1, 0, none⟩) 0 0) 0 []) := by rw [← hs0, hv1]; exact Lib.hid (OwnI.lit0 v0)
  rw [← hv1]
  have HS0 := Lib.hid hs0
  have hh0 : hi3 ≤ v0.heap.size := by omega
  clear hv0 hv1 HR3 hs0
  have HY1 := Lib.hid (HY0.out.grow HO1.out.below)
  have a0 := HY1.out.a0
  have a1 := HY1.out.a1
  have b0 := HY1.out.b0
  have b1 := HY1.out.b1
  go_at_call 54
  refine (fine_any N1 N2 lo1 hi1 n1 lo2 hi2 n2 _ _ L1 L2 d v1 hL1 hL2 HY1.out.row1 HY1.out.row2 HY1.out.hi1 HY1.out.hi2).mono ?_
  rintro e v2 ⟨rfl, hb2⟩
  have HO2 := Lib.hid (HO1.out.grow hb2)
  clear hb2 HY1 a0 a1 b0 b1 HO1
  have hs2 := HO2.out.below.size
  cases hf : fineB N1 L1 N2 L2 d with
  | false =>
    have HE : Hid (mixL N1 L1 N2 L2 Z d = []) := by show _ = _; rw [HMX.out, hf]; exact if_neg (fun h => Bool.false_ne_true h.1)
    clear hf
    go_wp2_with fail
    go_ret
    rw [HE.out]
    exact ⟨_, rfl, Row.empty 1 _ _ _ _ _, HB0.out.trans (HO2.out.below.mono HB0.out.size)⟩
  | true =>
    have hG := (fineB_iff.1 hf).1
    have hN := gok_parts hG
    obtain ⟨M, rfl⟩ : ∃ M : Nat, N1 = (M : Int) := ⟨N1.toNat, by omega⟩
    have hNN := (fineB_iff.1 hf).2.2.1
    subst hNN
    have hM1 : M ≤ 10 := by omega
    rw [Int.toNat_natCast] at HMX
    have HF := Lib.hid hf
    clear hf hG hN
    by_cases hm : m ≤ 300
    · have hm3 : ¬ ((m : Int) > 300) := by omega
      have HE : Hid (mixL (M : Int) L1 (M : Int) L2 Z d = mixK (M : Int) L1 L2 Z d M) := by
        show _ = _
        rw [HMX.out, if_pos ⟨HF.out, hm⟩]
      have HO3 : Hid (OwnI v0 v2 (.slice (some ⟨w.heap.size + 1 + 1, 0, none⟩) 0 0) 0 (mixK (M : Int) L1 L2 Z d 0)) := HO2
      clear hm HO2
      go_wp2_with fail
      go_loopw [9, 10] (fun v i wr => ∃ k : Nat, k ≤ M ∧ i = .int .i64 (k : Int) ∧ Hid (OwnI v0 wr v k (mixK (M : Int) L1 L2 Z d k))) (fun _ i _ => M - (intOf i).toNat)
      case atStart => exact ⟨0, Nat.zero_le _, rfl, HO3⟩
      case round =>
        clear HO3
        obtain ⟨k, hk, rfl, hO⟩ := hrel
        have HYr := Lib.hid (HY0.out.grow hO.out.below)
        have HRr : Hid (Row 1 wr lo3 hi3 (.slice da m dc) m Z) := HR0.out.below hO.out.below hh0
        have a0 := HYr.out.a0
        have a1 := HYr.out.a1
        have b0 := HYr.out.b0
        have b1 := HYr.out.b1
        have hszr := hO.out.below.size
        obtain ⟨oa, oc, hov⟩ := own_slice hO.out.row
        subst hov
        by_cases hlt : k < M
        · have q0 : (k : Int) < (M : Int) := by omega
          have HK := Lib.hid (mixK_succ (M : Int) L1 L2 Z d k)
          go_wp2_with fail
          go_at_call 55
          refine (has_any Z lo3 hi3 m _ (k : Int) _ HRr.out).mono ?_
          rintro e w2 ⟨rfl, rfl⟩
          cases hb : hasB Z (k : Int) with
          | true =>
            have hmem : (k : Int) ∈ Z := hasB_mem.1 hb
            rw [if_pos hmem] at HK
            clear hmem hb
            go_wp2_with fail
            go_at_call 12
            refine (shv_any (M : Int) lo2 hi2 n2 _ L2 (k : Int) d _ hL2 HYr.out.row2 HYr.out.hi2).mono ?_
            rintro e w2 ⟨rfl, hb2⟩
            have HO4 := Lib.hid (hO.out.grow hb2)
            have hsz4 := HO4.out.below.size
            clear hb2 hO HYr HRr a0 a1 b0 b1
            generalize hopV (M : Int) L2 (k : Int) d = hv at HK ⊢
            have Hw := Lib.hid HO4.out.row
            go_wp2_with (at_builtin; refine wpList_append_lies _ rfl _ _ 33 rfl v0.heap.size 3 i3 (.int .i64 0) 1 8 Try.underlying33 I.out.1 I.out.2.1 I.out.2.2.1 I.out.2.2.2 rfl (by decide) _ k (ints (mixK (M : Int) L1 L2 Z d k)) rfl (Hw.out.alloc _) ⟨w2.heap.size, 0, none⟩ 1 1 [.int .i64 hv] rfl rfl ?d0 (int_one _) (by decide) ?d1 ?d2 ?d3 _ rfl ?_)
            case d0 => exact fun a u ha => cell_one_new _ _ 3 rfl a u ha
            case d1 => unfold maxLen; omega
            case d2 => omega
            case d3 => simp; omega
            intro g4 cap4 w4 hown4 hgrow4 hat4 hlt4
            have HF4 : Hid (OwnI v0 w4 (.slice (some ⟨g4, 0, none⟩) (k + 1) cap4) (k + 1) (mixK (M : Int) L1 L2 Z d (k + 1))) := by
              rw [HK.out]
              exact (HO4.out.grow ((Below.refl _ _).alloc (Nat.le_refl _) _)).app hgrow4 hown4
            clear hown4 hgrow4 hat4 hlt4 HO4 Hw
            go_wp2_with fail
            go_roundw
            case rel => exact ⟨k + 1, by omega, by go_num, HF4⟩
            case measure => simp [intOf]; omega
          | false =>
            have hmem : ¬ (k : Int) ∈ Z := fun h => by rw [hasB_mem.2 h] at hb; cases hb
            rw [if_neg hmem] at HK
            clear hmem hb
            go_wp2_with fail
            go_at_call 12
            refine (shv_any (M : Int) lo1 hi1 n1 _ L1 (k : Int) d _ hL1 HYr.out.row1 HYr.out.hi1).mono ?_
            rintro e w2 ⟨rfl, hb2⟩
            have HO4 := Lib.hid (hO.out.grow hb2)
            have hsz4 := HO4.out.below.size
            clear hb2 hO HYr HRr a0 a1 b0 b1
            generalize hopV (M : Int) L1 (k : Int) d = hv at HK ⊢
            have Hw := Lib.hid HO4.out.row
            go_wp2_with (at_builtin; refine wpList_append_lies _ rfl _ _ 33 rfl v0.heap.size 3 i3 (.int .i64 0) 1 8 Try.underlying33 I.out.1 I.out.2.1 I.out.2.2.1 I.out.2.2.2 rfl (by decide) _ k (ints (mixK (M : Int) L1 L2 Z d k)) rfl (Hw.out.alloc _) ⟨w2.heap.size, 0, none⟩ 1 1 [.int .i64 hv] rfl rfl ?d0 (int_one _) (by decide) ?d1 ?d2 ?d3 _ rfl ?_)
            case d0 => exact fun a u ha => cell_one_new _ _ 3 rfl a u ha
            case d1 => unfold maxLen; omega
            case d2 => omega
            case d3 => simp; omega
            intro g4 cap4 w4 hown4 hgrow4 hat4 hlt4
            have HF4 : Hid (OwnI v0 w4 (.slice (some ⟨g4, 0, none⟩) (k + 1) cap4) (k + 1) (mixK (M : Int) L1 L2 Z d (k + 1))) := by
              rw [HK.out]
              exact (HO4.out.grow ((Below.refl _ _).alloc (Nat.le_refl _) _)).app hgrow4 hown4
            clear hown4 hgrow4 hat4 hlt4 HO4 Hw
            go_wp2_with fail
            go_roundw
            case rel => exact ⟨k + 1, by omega, by go_num, HF4⟩
            case measure => simp [intOf]; omega
        · obtain rfl : k = M := by omega
          have hge : ¬ ((k : Int) < (k : Int)) := by omega
          go_wp2_with fail
          go_ret
          rw [HE.out]
          exact ⟨_, rfl, by rw [mixK_len]; exact (hO.out.toRow (by omega)).wide (by have := HB0.out.size; omega) (Nat.le_refl _), HB0.out.trans (hO.out.below.mono HB0.out.size)⟩
    · have hm3 : (m : Int) > 300 := by omega
      have hm4 : decide ((m : Int) > 300) = true := decide_eq_true hm3
      have HE : Hid (mixL (M : Int) L1 (M : Int) L2 Z d = []) := by show _ = _; rw [HMX.out]; exact if_neg (fun h => hm h.2)
      clear hm
      go_wp2_with fail
      go_ret
      rw [HE.out]
      exact ⟨_, rfl, Row.empty 1 _ _ _ _ _, HB0.out.trans (HO2.out.below.mono HB0.out.size)⟩

end Go.Proofs.Ytjenjdhoblcohaa
