/- CheapestWay of the model. -/
import Derived.Test.YtjenjdhoblcohaaSt
import Derived.Test.YtjenjdhoblcohaaMp
import Derived.Test.YtjenjdhoblcohaaMo
import Derived.Test.YtjenjdhoblcohaaReg
namespace Go.Proofs.Ytjenjdhoblcohaa
open Go.RowKit


/-- What CheapestWay answers: a way of one's own, and whether there is one. -/
def CwPost (m : Nat) (Z : List Int) (b : Bool) (w : World) (e : Ending) (w' : World) : Prop := ∃ rv, e = .returned (.tuple #[rv, .bool b]) ∧ Row 1 w' w.heap.size w'.heap.size rv m Z ∧ Below w.heap.size w w'
theorem row_at {w : World} {lo hi M g c : Nat} {Z : List Int} (hM : 0 < M) (h : Row 1 w lo hi (.slice (some ⟨g, 0, none⟩) M c) M Z) : lo ≤ g ∧ g < hi ∧ ∀ j z, Z[j]? = some z → w.cell? ⟨g, j, none⟩ = some (.int .i64 z) := by
  obtain ⟨g', c', e, h1, h2, h3⟩ := row_cells hM h
  cases e
  exact ⟨h1, h2, h3⟩
theorem OwnI.lit1 (w : World) (z : Int) : OwnI w (w.alloc (.cells #[.int .i64 z] 3)) (.slice (some ⟨w.heap.size, 0, none⟩) 1 1) 1 [z] :=
  ⟨(Below.refl _ _).alloc (Nat.le_refl _) _, World.ownsRow_lit w #[.int .i64 z] 1 (Nat.le_refl _) (by unfold maxLen; omega) rfl⟩
def vlen : Value → Nat
  | .slice _ n _ => n
  | _ => 0
theorem Gw.inv {N : Int} {L : List Ed} {o : Int} {S : Int → Int} {x : Int} {r : List Int} (hG : gok N L = true) (h : Gw N L o S (x :: r)) : (x = o ∧ r = []) ∨ (x ≠ o ∧ ∃ (y : Nat) (q : List Int), r = (y : Int) :: q ∧ (y : Int) < N ∧ nxP N L o S x (y : Int) ∧ (∀ z, z < (y : Int) → ¬ nxP N L o S x z) ∧ Gw N L o S ((y : Int) :: q)) := by
  cases h with
  | one => exact .inl ⟨rfl, rfl⟩
  | cons _ y l hx hn hm hg =>
    have hf := (hn.1.facts hG).2.1
    obtain ⟨y', rfl⟩ : ∃ y' : Nat, y = (y' : Int) := ⟨y.toNat, by omega⟩
    exact .inr ⟨hx, y', l, rfl, hf.2, hn, hm, hg⟩
theorem take_step {α : Type _} {l : List α} {k : Nat} {x y : α} {q : List α} (h : l.drop k = x :: y :: q) : l.take (k + 1) ++ [y] = l.take (k + 2) ∧ l.drop (k + 1) = y :: q := by
  have h1 : l.drop (k + 1) = y :: q := by rw [← List.drop_drop, h]; rfl
  refine ⟨?_, h1⟩
  have h2 : l[k + 1]? = some y := by
    have := congrArg (fun z : List α => z[0]?) h1
    simpa using this
  have h3 := List.take_add_one (l := l) (i := k + 1)
  rw [h2] at h3
  exact h3.symm

set_option maxRecDepth 100000 in
set_option maxHeartbeats 2400000 in
theorem scw_no0 (N : Int) (lo hi n : Nat) (v : Value) (L : List Ed) (x y : Int) (w : World) (hL : L.length = n) (hr : Row 3 w lo hi v n (flat L)) (hh : hi ≤ w.heap.size) (hn : gok N L = false) :
    Calls Try.prog 33 #[.agg #[.int .i64 N, v], .int .i64 x, .int .i64 y] w (CwPost 0 [] false w) := by
  have HR := Lib.hid hr
  have Hn := Lib.hid hn
  obtain ⟨ad, cp, rfl⟩ := hr.slice
  clear hr hn
  go_enter Try.func33, Try.ntmps33
  go_wp2_with fail
  go_at_call 47
  refine (sgok_any N lo hi n _ L _ hL (HR.out.below (B := w.heap.size) (by go_grown) (by omega)) (by simp; omega)).mono ?_
  rw [Hn.out]
  rintro e v1 ⟨rfl, hb1⟩
  have sz1 : w.heap.size + 1 ≤ v1.heap.size := by have hh := hb1.size; simp at hh; omega
  have st1 : Below w.heap.size w v1 := Below.trans (by go_grown) (hb1.mono (by simp))
  have c1_0 : v1.cell? ⟨w.heap.size, 0, none⟩ = some (.int .i64 N) := by rw [(bcell hb1).1 _ _ (by simp)]; first | (rw [new_at (by simp)]; rfl) | simp
  have c1_1 : v1.cell? ⟨w.heap.size, 1, none⟩ = some (.slice ad n cp) := by rw [(bcell hb1).1 _ _ (by simp)]; first | (rw [new_at (by simp)]; rfl) | simp
  have B1 : Hid (Below w.heap.size w v1) := st1
  have R1_0 : Hid (Row 3 v1 (lo) (hi) (.slice ad n cp) n (flat L)) := HR.out.below st1 (by omega)
  have d1_0 : w.heap.size < v1.heap.size := by omega
  have e1_0 : w.heap.size ≠ v1.heap.size := by omega
  clear st1 HR hb1
  go_wp2_with fail
  refine bodyPost_ret (v := .tuple #[.slice none 0 0, .bool false]) (by simp [results, Try.results33, go_sem]) rfl ⟨_, rfl, Row.empty 1 _ _ _ _ _, B1.out⟩

set_option maxRecDepth 100000 in
set_option maxHeartbeats 2400000 in
theorem scw_no1 (N : Int) (lo hi n : Nat) (v : Value) (L : List Ed) (x y : Int) (w : World) (hL : L.length = n) (hr : Row 3 w lo hi v n (flat L)) (hh : hi ≤ w.heap.size) (hn : gok N L = true ∧ ndB N x = false) :
    Calls Try.prog 33 #[.agg #[.int .i64 N, v], .int .i64 x, .int .i64 y] w (CwPost 0 [] false w) := by
  have HR := Lib.hid hr
  have Hn := Lib.hid hn
  obtain ⟨ad, cp, rfl⟩ := hr.slice
  clear hr hn
  have hN1 := (gok_parts Hn.out.1).1
  have hN2 := (gok_parts Hn.out.1).2.1
  go_enter Try.func33, Try.ntmps33
  go_wp2_with fail
  go_at_call 47
  refine (sgok_any N lo hi n _ L _ hL (HR.out.below (B := w.heap.size) (by go_grown) (by omega)) (by simp; omega)).mono ?_
  rw [Hn.out.1]
  rintro e v1 ⟨rfl, hb1⟩
  have sz1 : w.heap.size + 1 ≤ v1.heap.size := by have hh := hb1.size; simp at hh; omega
  have st1 : Below w.heap.size w v1 := Below.trans (by go_grown) (hb1.mono (by simp))
  have c1_0 : v1.cell? ⟨w.heap.size, 0, none⟩ = some (.int .i64 N) := by rw [(bcell hb1).1 _ _ (by simp)]; first | (rw [new_at (by simp)]; rfl) | simp
  have c1_1 : v1.cell? ⟨w.heap.size, 1, none⟩ = some (.slice ad n cp) := by rw [(bcell hb1).1 _ _ (by simp)]; first | (rw [new_at (by simp)]; rfl) | simp
  have B1 : Hid (Below w.heap.size w v1) := st1
  have R1_0 : Hid (Row 3 v1 (lo) (hi) (.slice ad n cp) n (flat L)) := HR.out.below st1 (by omega)
  have d1_0 : w.heap.size < v1.heap.size := by omega
  have e1_0 : w.heap.size ≠ v1.heap.size := by omega
  clear st1 HR hb1
  go_wp2_with fail
  go_at_call 48
  refine (node_any N _ _ _ x _ hN1 hN2).mono ?_
  rw [Hn.out.2]
  rintro e v2 ⟨rfl, hb2⟩
  have sz2 : v1.heap.size ≤ v2.heap.size := hb2.size
  have st2 : Below v1.heap.size v1 v2 := hb2
  have c2_0 : v2.cell? ⟨w.heap.size, 0, none⟩ = some (.int .i64 N) := by rw [(bcell st2).1 _ _ (by omega)]; exact c1_0
  have c2_1 : v2.cell? ⟨w.heap.size, 1, none⟩ = some (.slice ad n cp) := by rw [(bcell st2).1 _ _ (by omega)]; exact c1_1
  have B2 : Hid (Below w.heap.size w v2) := B1.out.trans (st2.mono (by omega))
  have R2_0 : Hid (Row 3 v2 (lo) (hi) (.slice ad n cp) n (flat L)) := R1_0.out.below st2 (by omega)
  have d2_0 : w.heap.size < v2.heap.size := by omega
  have e2_0 : w.heap.size ≠ v2.heap.size := by omega
  clear d1_0 e1_0 c1_0 c1_1 B1 st2 R1_0 hb2
  go_wp2_with fail
  refine bodyPost_ret (v := .tuple #[.slice none 0 0, .bool false]) (by simp [results, Try.results33, go_sem]) rfl ⟨_, rfl, Row.empty 1 _ _ _ _ _, B2.out⟩

set_option maxRecDepth 100000 in
set_option maxHeartbeats 2400000 in
theorem scw_no2 (N : Int) (lo hi n : Nat) (v : Value) (L : List Ed) (x y : Int) (w : World) (hL : L.length = n) (hr : Row 3 w lo hi v n (flat L)) (hh : hi ≤ w.heap.size) (hn : gok N L = true ∧ ndB N x = true ∧ ndB N y = false) :
    Calls Try.prog 33 #[.agg #[.int .i64 N, v], .int .i64 x, .int .i64 y] w (CwPost 0 [] false w) := by
  have HR := Lib.hid hr
  have Hn := Lib.hid hn
  obtain ⟨ad, cp, rfl⟩ := hr.slice
  clear hr hn
  have hN1 := (gok_parts Hn.out.1).1
  have hN2 := (gok_parts Hn.out.1).2.1
  go_enter Try.func33, Try.ntmps33
  go_wp2_with fail
  go_at_call 47
  refine (sgok_any N lo hi n _ L _ hL (HR.out.below (B := w.heap.size) (by go_grown) (by omega)) (by simp; omega)).mono ?_
  rw [Hn.out.1]
  rintro e v1 ⟨rfl, hb1⟩
  have sz1 : w.heap.size + 1 ≤ v1.heap.size := by have hh := hb1.size; simp at hh; omega
  have st1 : Below w.heap.size w v1 := Below.trans (by go_grown) (hb1.mono (by simp))
  have c1_0 : v1.cell? ⟨w.heap.size, 0, none⟩ = some (.int .i64 N) := by rw [(bcell hb1).1 _ _ (by simp)]; first | (rw [new_at (by simp)]; rfl) | simp
  have c1_1 : v1.cell? ⟨w.heap.size, 1, none⟩ = some (.slice ad n cp) := by rw [(bcell hb1).1 _ _ (by simp)]; first | (rw [new_at (by simp)]; rfl) | simp
  have B1 : Hid (Below w.heap.size w v1) := st1
  have R1_0 : Hid (Row 3 v1 (lo) (hi) (.slice ad n cp) n (flat L)) := HR.out.below st1 (by omega)
  have d1_0 : w.heap.size < v1.heap.size := by omega
  have e1_0 : w.heap.size ≠ v1.heap.size := by omega
  clear st1 HR hb1
  go_wp2_with fail
  go_at_call 48
  refine (node_any N _ _ _ x _ hN1 hN2).mono ?_
  rw [Hn.out.2.1]
  rintro e v2 ⟨rfl, hb2⟩
  have sz2 : v1.heap.size ≤ v2.heap.size := hb2.size
  have st2 : Below v1.heap.size v1 v2 := hb2
  have c2_0 : v2.cell? ⟨w.heap.size, 0, none⟩ = some (.int .i64 N) := by rw [(bcell st2).1 _ _ (by omega)]; exact c1_0
  have c2_1 : v2.cell? ⟨w.heap.size, 1, none⟩ = some (.slice ad n cp) := by rw [(bcell st2).1 _ _ (by omega)]; exact c1_1
  have B2 : Hid (Below w.heap.size w v2) := B1.out.trans (st2.mono (by omega))
  have R2_0 : Hid (Row 3 v2 (lo) (hi) (.slice ad n cp) n (flat L)) := R1_0.out.below st2 (by omega)
  have d2_0 : w.heap.size < v2.heap.size := by omega
  have e2_0 : w.heap.size ≠ v2.heap.size := by omega
  clear d1_0 e1_0 c1_0 c1_1 B1 st2 R1_0 hb2
  go_wp2_with fail
  go_at_call 48
  refine (node_any N _ _ _ y _ hN1 hN2).mono ?_
  rw [Hn.out.2.2]
  rintro e v3 ⟨rfl, hb3⟩
  have sz3 : v2.heap.size ≤ v3.heap.size := hb3.size
  have st3 : Below v2.heap.size v2 v3 := hb3
  have c3_0 : v3.cell? ⟨w.heap.size, 0, none⟩ = some (.int .i64 N) := by rw [(bcell st3).1 _ _ (by omega)]; exact c2_0
  have c3_1 : v3.cell? ⟨w.heap.size, 1, none⟩ = some (.slice ad n cp) := by rw [(bcell st3).1 _ _ (by omega)]; exact c2_1
  have B3 : Hid (Below w.heap.size w v3) := B2.out.trans (st3.mono (by omega))
  have R3_0 : Hid (Row 3 v3 (lo) (hi) (.slice ad n cp) n (flat L)) := R2_0.out.below st3 (by omega)
  have d3_0 : w.heap.size < v3.heap.size := by omega
  have e3_0 : w.heap.size ≠ v3.heap.size := by omega
  clear d2_0 e2_0 c2_0 c2_1 B2 st3 R2_0 hb3
  go_wp2_with fail
  refine bodyPost_ret (v := .tuple #[.slice none 0 0, .bool false]) (by simp [results, Try.results33, go_sem]) rfl ⟨_, rfl, Row.empty 1 _ _ _ _ _, B3.out⟩

set_option maxRecDepth 100000 in
set_option maxHeartbeats 4000000 in
theorem scw_far (M : Nat) (lo hi n : Nat) (v : Value) (L : List Ed) (s o : Nat) (w : World) (hL : L.length = n) (hr : Row 3 w lo hi v n (flat L)) (hh : hi ≤ w.heap.size) (hG : gok (M : Int) L = true) (hs : s < M) (ho : o < M) (hd : dsT (M : Int) L (s : Int) (o : Int) = Far) :
    Calls Try.prog 33 #[.agg #[.int .i64 (M : Int), v], .int .i64 (s : Int), .int .i64 (o : Int)] w (CwPost 0 [] false w) := by
  have HR := Lib.hid hr
  have HG := Lib.hid hG
  have HL := Lib.hid hL
  have hN1 := (gok_parts hG).1
  have hN2 := (gok_parts hG).2.1
  have HO2 : Hid (0 ≤ (o : Int) ∧ (o : Int) < (M : Int)) := ⟨by omega, by omega⟩
  have HS2 : Hid (0 ≤ (s : Int) ∧ (s : Int) < (M : Int)) := ⟨by omega, by omega⟩
  have hns : ndB (M : Int) (s : Int) = true := by unfold ndB; rw [inB_iff]; omega
  have hno : ndB (M : Int) (o : Int) = true := by unfold ndB; rw [inB_iff]; omega
  obtain ⟨ad, cp, rfl⟩ := hr.slice
  clear hr hG
  go_enter Try.func33, Try.ntmps33
  go_wp2_with fail
  go_at_call 47
  refine (sgok_any (M : Int) lo hi n _ L _ hL (HR.out.below (B := w.heap.size) (by go_grown) (by omega)) (by simp; omega)).mono ?_
  rw [HG.out]
  rintro e v1 ⟨rfl, hb1⟩
  have sz1 : w.heap.size + 1 ≤ v1.heap.size := by have hh := hb1.size; simp at hh; omega
  have st1 : Below w.heap.size w v1 := Below.trans (by go_grown) (hb1.mono (by simp))
  have c1_0 : v1.cell? ⟨w.heap.size, 0, none⟩ = some (.int .i64 (M : Int)) := by rw [(bcell hb1).1 _ _ (by simp)]; first | (rw [new_at (by simp)]; rfl) | simp
  have c1_1 : v1.cell? ⟨w.heap.size, 1, none⟩ = some (.slice ad n cp) := by rw [(bcell hb1).1 _ _ (by simp)]; first | (rw [new_at (by simp)]; rfl) | simp
  have B1 : Hid (Below w.heap.size w v1) := st1
  have R1_0 : Hid (Row 3 v1 (lo) (hi) (.slice ad n cp) n (flat L)) := HR.out.below st1 (by omega)
  have d1_0 : w.heap.size < v1.heap.size := by omega
  have e1_0 : w.heap.size ≠ v1.heap.size := by omega
  clear st1 HR hb1
  go_wp2_with fail
  go_at_call 48
  refine (node_any (M : Int) _ _ _ (s : Int) _ hN1 hN2).mono ?_
  rw [hns]
  rintro e v2 ⟨rfl, hb2⟩
  have sz2 : v1.heap.size ≤ v2.heap.size := hb2.size
  have st2 : Below v1.heap.size v1 v2 := hb2
  have c2_0 : v2.cell? ⟨w.heap.size, 0, none⟩ = some (.int .i64 (M : Int)) := by rw [(bcell st2).1 _ _ (by omega)]; exact c1_0
  have c2_1 : v2.cell? ⟨w.heap.size, 1, none⟩ = some (.slice ad n cp) := by rw [(bcell st2).1 _ _ (by omega)]; exact c1_1
  have B2 : Hid (Below w.heap.size w v2) := B1.out.trans (st2.mono (by omega))
  have R2_0 : Hid (Row 3 v2 (lo) (hi) (.slice ad n cp) n (flat L)) := R1_0.out.below st2 (by omega)
  have d2_0 : w.heap.size < v2.heap.size := by omega
  have e2_0 : w.heap.size ≠ v2.heap.size := by omega
  clear d1_0 e1_0 c1_0 c1_1 B1 st2 R1_0 hb2
  go_wp2_with fail
  go_at_call 48
  refine (node_any (M : Int) _ _ _ (o : Int) _ hN1 hN2).mono ?_
  rw [hno]
  rintro e v3 ⟨rfl, hb3⟩
  have sz3 : v2.heap.size ≤ v3.heap.size := hb3.size
  have st3 : Below v2.heap.size v2 v3 := hb3
  have c3_0 : v3.cell? ⟨w.heap.size, 0, none⟩ = some (.int .i64 (M : Int)) := by rw [(bcell st3).1 _ _ (by omega)]; exact c2_0
  have c3_1 : v3.cell? ⟨w.heap.size, 1, none⟩ = some (.slice ad n cp) := by rw [(bcell st3).1 _ _ (by omega)]; exact c2_1
  have B3 : Hid (Below w.heap.size w v3) := B2.out.trans (st3.mono (by omega))
  have R3_0 : Hid (Row 3 v3 (lo) (hi) (.slice ad n cp) n (flat L)) := R2_0.out.below st3 (by omega)
  have d3_0 : w.heap.size < v3.heap.size := by omega
  have e3_0 : w.heap.size ≠ v3.heap.size := by omega
  clear d2_0 e2_0 c2_0 c2_1 B2 st3 R2_0 hb3
  clear hns hno
  go_wp2_with fail
  go_at_call 70
  refine (ssteps_any M lo hi n _ L o _ hL R3_0.out (by omega) HG.out ho).mono ?_
  rintro e v4 ⟨gs, gw, S, W, rfl, hrs, hrw, hst, hb4⟩
  have sz4 : v3.heap.size ≤ v4.heap.size := hb4.size
  have st4 : Below v3.heap.size v3 v4 := hb4
  have c4_0 : v4.cell? ⟨w.heap.size, 0, none⟩ = some (.int .i64 (M : Int)) := by rw [(bcell st4).1 _ _ (by omega)]; exact c3_0
  have c4_1 : v4.cell? ⟨w.heap.size, 1, none⟩ = some (.slice ad n cp) := by rw [(bcell st4).1 _ _ (by omega)]; exact c3_1
  have B4 : Hid (Below w.heap.size w v4) := B3.out.trans (st4.mono (by omega))
  have R4_0 : Hid (Row 3 v4 (lo) (hi) (.slice ad n cp) n (flat L)) := R3_0.out.below st4 (by omega)
  have d4_0 : w.heap.size < v4.heap.size := by omega
  have e4_0 : w.heap.size ≠ v4.heap.size := by omega
  clear d3_0 e3_0 c3_0 c3_1 B3 st4 R3_0 hb4
  obtain ⟨_, _, hwc⟩ := row_at (by omega) hrw
  have z0 := hwc s _ (tabI_at _ hs)
  rw [(hst.far _ HS2.out hd).2] at z0
  have p1 : (0 : Int) ≤ (s : Int) := by omega
  have p2 : (s : Int) < (M : Int) := by omega
  clear hrs hrw hst hwc
  go_wp2_with fail
  refine bodyPost_ret (v := .tuple #[.slice none 0 0, .bool false]) (by simp [results, Try.results33, go_sem]) rfl ⟨_, rfl, Row.empty 1 _ _ _ _ _, B4.out⟩

set_option maxRecDepth 100000 in
set_option maxHeartbeats 4000000 in
theorem scw_yes (M : Nat) (lo hi n : Nat) (v : Value) (L : List Ed) (s o : Nat) (w : World) (hL : L.length = n) (hr : Row 3 w lo hi v n (flat L)) (hh : hi ≤ w.heap.size) (hG : gok (M : Int) L = true) (hs : s < M) (ho : o < M) (l : List Int) (hway : WayP (M : Int) L (s : Int) (o : Int) l) :
    Calls Try.prog 33 #[.agg #[.int .i64 (M : Int), v], .int .i64 (s : Int), .int .i64 (o : Int)] w (CwPost (l.length + 1) ((s : Int) :: l) true w) := by
  have HR := Lib.hid hr
  have HG := Lib.hid hG
  have HL := Lib.hid hL
  have hN1 := (gok_parts hG).1
  have hN2 := (gok_parts hG).2.1
  have HO2 : Hid (0 ≤ (o : Int) ∧ (o : Int) < (M : Int)) := ⟨by omega, by omega⟩
  have HS2 : Hid (0 ≤ (s : Int) ∧ (s : Int) < (M : Int)) := ⟨by omega, by omega⟩
  have hns : ndB (M : Int) (s : Int) = true := by unfold ndB; rw [inB_iff]; omega
  have hno : ndB (M : Int) (o : Int) = true := by unfold ndB; rw [inB_iff]; omega
  have hd := hway.near hG HO2.out
  have HK := Lib.hid (hway.len hG HO2.out)
  have HW0 := Lib.hid hway
  obtain ⟨ad, cp, rfl⟩ := hr.slice
  obtain ⟨i3, hi3, hz0, hz1, hz2⟩ := info_parts Try.info3
  have I := Lib.hid (And.intro hi3 (And.intro hz0 (And.intro hz1 hz2)))
  clear hi3 hz0 hz1 hz2 hway
  clear hr hG
  go_enter Try.func33, Try.ntmps33
  go_wp2_with fail
  go_at_call 47
  refine (sgok_any (M : Int) lo hi n _ L _ hL (HR.out.below (B := w.heap.size) (by go_grown) (by omega)) (by simp; omega)).mono ?_
  rw [HG.out]
  rintro e v1 ⟨rfl, hb1⟩
  have sz1 : w.heap.size + 1 ≤ v1.heap.size := by have hh := hb1.size; simp at hh; omega
  have st1 : Below w.heap.size w v1 := Below.trans (by go_grown) (hb1.mono (by simp))
  have c1_0 : v1.cell? ⟨w.heap.size, 0, none⟩ = some (.int .i64 (M : Int)) := by rw [(bcell hb1).1 _ _ (by simp)]; first | (rw [new_at (by simp)]; rfl) | simp
  have c1_1 : v1.cell? ⟨w.heap.size, 1, none⟩ = some (.slice ad n cp) := by rw [(bcell hb1).1 _ _ (by simp)]; first | (rw [new_at (by simp)]; rfl) | simp
  have B1 : Hid (Below w.heap.size w v1) := st1
  have R1_0 : Hid (Row 3 v1 (lo) (hi) (.slice ad n cp) n (flat L)) := HR.out.below st1 (by omega)
  have d1_0 : w.heap.size < v1.heap.size := by omega
  have e1_0 : w.heap.size ≠ v1.heap.size := by omega
  clear st1 HR hb1
  go_wp2_with fail
  go_at_call 48
  refine (node_any (M : Int) _ _ _ (s : Int) _ hN1 hN2).mono ?_
  rw [hns]
  rintro e v2 ⟨rfl, hb2⟩
  have sz2 : v1.heap.size ≤ v2.heap.size := hb2.size
  have st2 : Below v1.heap.size v1 v2 := hb2
  have c2_0 : v2.cell? ⟨w.heap.size, 0, none⟩ = some (.int .i64 (M : Int)) := by rw [(bcell st2).1 _ _ (by omega)]; exact c1_0
  have c2_1 : v2.cell? ⟨w.heap.size, 1, none⟩ = some (.slice ad n cp) := by rw [(bcell st2).1 _ _ (by omega)]; exact c1_1
  have B2 : Hid (Below w.heap.size w v2) := B1.out.trans (st2.mono (by omega))
  have R2_0 : Hid (Row 3 v2 (lo) (hi) (.slice ad n cp) n (flat L)) := R1_0.out.below st2 (by omega)
  have d2_0 : w.heap.size < v2.heap.size := by omega
  have e2_0 : w.heap.size ≠ v2.heap.size := by omega
  clear d1_0 e1_0 c1_0 c1_1 B1 st2 R1_0 hb2
  go_wp2_with fail
  go_at_call 48
  refine (node_any (M : Int) _ _ _ (o : Int) _ hN1 hN2).mono ?_
  rw [hno]
  rintro e v3 ⟨rfl, hb3⟩
  have sz3 : v2.heap.size ≤ v3.heap.size := hb3.size
  have st3 : Below v2.heap.size v2 v3 := hb3
  have c3_0 : v3.cell? ⟨w.heap.size, 0, none⟩ = some (.int .i64 (M : Int)) := by rw [(bcell st3).1 _ _ (by omega)]; exact c2_0
  have c3_1 : v3.cell? ⟨w.heap.size, 1, none⟩ = some (.slice ad n cp) := by rw [(bcell st3).1 _ _ (by omega)]; exact c2_1
  have B3 : Hid (Below w.heap.size w v3) := B2.out.trans (st3.mono (by omega))
  have R3_0 : Hid (Row 3 v3 (lo) (hi) (.slice ad n cp) n (flat L)) := R2_0.out.below st3 (by omega)
  have d3_0 : w.heap.size < v3.heap.size := by omega
  have e3_0 : w.heap.size ≠ v3.heap.size := by omega
  clear d2_0 e2_0 c2_0 c2_1 B2 st3 R2_0 hb3
  clear hns hno
  go_wp2_with fail
  go_at_call 70
  refine (ssteps_any M lo hi n _ L o _ hL R3_0.out (by omega) HG.out ho).mono ?_
  rintro e v4 ⟨gs, gw, S, W, rfl, hrs, hrw, hst, hb4⟩
  have sz4 : v3.heap.size ≤ v4.heap.size := hb4.size
  have st4 : Below v3.heap.size v3 v4 := hb4
  have c4_0 : v4.cell? ⟨w.heap.size, 0, none⟩ = some (.int .i64 (M : Int)) := by rw [(bcell st4).1 _ _ (by omega)]; exact c3_0
  have c4_1 : v4.cell? ⟨w.heap.size, 1, none⟩ = some (.slice ad n cp) := by rw [(bcell st4).1 _ _ (by omega)]; exact c3_1
  have B4 : Hid (Below w.heap.size w v4) := B3.out.trans (st4.mono (by omega))
  have R4_0 : Hid (Row 3 v4 (lo) (hi) (.slice ad n cp) n (flat L)) := R3_0.out.below st4 (by omega)
  have d4_0 : w.heap.size < v4.heap.size := by omega
  have e4_0 : w.heap.size ≠ v4.heap.size := by omega
  clear d3_0 e3_0 c3_0 c3_1 B3 st4 R3_0 hb4
  obtain ⟨_, hgs, hsc⟩ := row_at (by omega) hrs
  obtain ⟨_, hgw, hwc⟩ := row_at (by omega) hrw
  have HSc : Hid (∀ j, j < M → v4.cell? ⟨gs, j, none⟩ = some (.int .i64 (S (j : Int)))) := fun j hj => hsc j _ (tabI_at _ hj)
  have HWc : Hid (∀ j, j < M → v4.cell? ⟨gw, j, none⟩ = some (.int .i64 (W (j : Int)))) := fun j hj => hwc j _ (tabI_at _ hj)
  have HT := Lib.hid hst
  have hsW := hst.step _ HS2.out hd
  have HGw : Hid (Gw (M : Int) L (o : Int) S ((s : Int) :: l)) := HW0.out.to HG.out (fun x hx hd => (hst.step x hx hd).1)
  have z0 := HWc.out s hs
  obtain ⟨ws, hws⟩ : ∃ x, x = W (s : Int) := ⟨_, rfl⟩
  rw [← hws] at z0 hsW
  have f0 : (ws == 0) = false := by have := hsW.2.1; simp; omega
  have p1 : (0 : Int) ≤ (s : Int) := by omega
  have p2 : (s : Int) < (M : Int) := by omega
  have K0 := Lib.hid c4_0
  have K1 := Lib.hid c4_1
  have HB := B4
  have HRv := R4_0
  have hwv : w.heap.size < v4.heap.size := by omega
  have HO : Hid (OwnI v4 (v4.alloc (.cells #[.int .i64 (s : Int)] 3)) (.slice (some ⟨v4.heap.size, 0, none⟩) 1 1) 1 (((s : Int) :: l).take 1)) := Lib.hid (OwnI.lit1 v4 (s : Int))
  clear hrs hrw hst hsc hwc hws hsW c4_0 c4_1 B4 R4_0
  go_wp2_with fail
  clear f0 z0 p1 p2
  go_loopw [10, 11] (fun a b wr => ∃ (k x : Nat) (r : List Int), k + 1 + r.length = l.length + 1 ∧ b = .int .i64 (x : Int) ∧ Hid (OwnI v4 wr a (k + 1) (((s : Int) :: l).take (k + 1))) ∧ Hid (((s : Int) :: l).drop k = (x : Int) :: r) ∧ x < M ∧ Hid (Gw (M : Int) L (o : Int) S ((x : Int) :: r))) (fun a _ _ => l.length + 1 - vlen a)
  case atStart => exact ⟨0, s, l, by omega, rfl, HO, rfl, hs, HGw⟩
  case round =>
    obtain ⟨k, x, r, hk, rfl, hR, hdr, hxM, hg⟩ := hrel
    have k0 : wr.cell? ⟨w.heap.size, 0, none⟩ = some (.int .i64 (M : Int)) := by rw [hR.out.below.cell (p := ⟨w.heap.size, 0, none⟩) hwv]; exact K0.out
    have k1 : wr.cell? ⟨w.heap.size, 1, none⟩ = some (.slice ad n cp) := by rw [hR.out.below.cell (p := ⟨w.heap.size, 1, none⟩) hwv]; exact K1.out
    have hsz := hR.out.below.size
    have HRw : Hid (Row 3 wr lo hi (.slice ad n cp) n (flat L)) := HRv.out.below hR.out.below (by omega)
    obtain ⟨oa, oc, hov⟩ := own_slice hR.out.row
    subst hov
    rcases hg.out.inv HG.out with ⟨hxo, rfl⟩ | ⟨hxo, y, q, rfl, hyM, hnx, hmin, hg2⟩
    · obtain rfl : o = x := by omega
      have hf : l.length = k := by simp at hk; omega
      have ht : ((s : Int) :: l).take (k + 1) = (s : Int) :: l := List.take_of_length_le (by simp; omega)
      clear k0 k1 HRw
      go_wp2_with fail
      refine bodyPost_ret (v := .tuple #[.slice oa (k + 1) oc, .bool true]) (by simp [results, Try.results33, go_sem]) rfl ⟨_, rfl, ?_, HB.out.trans (hR.out.below.mono (by omega))⟩
      have h := hR.out.toRow (by have := HK.out; omega)
      rw [ht] at h
      exact h.wide (by omega) (Nat.le_refl _)
    · have hxo' : ¬ ((x : Int) = (o : Int)) := hxo
      have g1 : ((x : Int) == (o : Int)) = false := by simp; omega
      have g2 : (x == o) = false := by simp; omega
      have HNX := Lib.hid hnx
      have HMIN := Lib.hid hmin
      have HG2 := Lib.hid hg2
      have HHK := Lib.hid hk
      have hy : y < M := by omega
      clear hnx hmin hg2 hg hk hyM
      have q1 : (0 : Int) ≤ (o : Int) := by omega
      have q2 : (o : Int) < (M : Int) := by omega
      have q3 : (0 : Int) ≤ (x : Int) := by omega
      have q4 : (x : Int) < (M : Int) := by omega
      go_wp2_with fail
      go_at_call 39
      refine (sdist_yes M lo hi n _ L x _ HL.out HRw.out (by omega) HG.out hxM).mono ?_
      rintro e w2 ⟨dv, rfl, hrd, hb2⟩
      obtain ⟨dg, dc, hdv, _, hd2, hdc⟩ := row_cells (by omega) hrd
      subst hdv
      have z0 : w2.cell? ⟨dg, o, none⟩ = some (.int .i64 (dsT (M : Int) L (x : Int) (o : Int))) := hdc o _ (tabI_at _ ho)
      obtain ⟨dx, hdx⟩ : ∃ d, d = dsT (M : Int) L (x : Int) (o : Int) := ⟨_, rfl⟩
      rw [← hdx] at z0
      have Hdx := Lib.hid hdx
      have hR2 : Hid (OwnI v4 w2 (.slice oa (k + 1) oc) (k + 1) (((s : Int) :: l).take (k + 1))) := Lib.hid (hR.out.grow hb2)
      clear hR hrd hdc hb2 k0 k1 HRw hdx hsz
      go_wp2_with fail
      clear z0
      go_loopw [11, 13] (fun b i wr => ∃ j : Nat, j ≤ y ∧ b = .int .i64 (x : Int) ∧ i = .int .i64 (j : Int) ∧ Hid (OwnI v4 wr (.slice oa (k + 1) oc) (k + 1) (((s : Int) :: l).take (k + 1)))) (fun _ i _ => M - (intOf i).toNat)
      case atStart => exact ⟨0, Nat.zero_le _, rfl, rfl, hR2⟩
      case round =>
        obtain ⟨j, hj, rfl, rfl, hR⟩ := hrel
        have k0 : wr.cell? ⟨w.heap.size, 0, none⟩ = some (.int .i64 (M : Int)) := by rw [hR.out.below.cell (p := ⟨w.heap.size, 0, none⟩) hwv]; exact K0.out
        have k1 : wr.cell? ⟨w.heap.size, 1, none⟩ = some (.slice ad n cp) := by rw [hR.out.below.cell (p := ⟨w.heap.size, 1, none⟩) hwv]; exact K1.out
        have HRw : Hid (Row 3 wr lo hi (.slice ad n cp) n (flat L)) := HRv.out.below hR.out.below (by omega)
        have hsz := hR.out.below.size
        have hjM : j < M := by omega
        have p0 : (j : Int) < (M : Int) := by omega
        have p1 : (0 : Int) ≤ (j : Int) := by omega
        go_wp2_with fail
        go_at_call 71
        refine (scost_any (M : Int) lo hi n _ L (x : Int) (j : Int) _ HG.out HL.out HRw.out (by omega)).mono ?_
        rintro e w2 ⟨rfl, hb2⟩
        have hs2 := hb2.size
        have hM := Lib.hid (hR.out.grow hb2)
        have HBw := Lib.hid hM.out.below
        have k0 : w2.cell? ⟨w.heap.size, 0, none⟩ = some (.int .i64 (M : Int)) := by rw [HBw.out.cell (p := ⟨w.heap.size, 0, none⟩) hwv]; exact K0.out
        have k1 : w2.cell? ⟨w.heap.size, 1, none⟩ = some (.slice ad n cp) := by rw [HBw.out.cell (p := ⟨w.heap.size, 1, none⟩) hwv]; exact K1.out
        have k2 : w2.cell? ⟨gw, j, none⟩ = some (.int .i64 (W (j : Int))) := by rw [HBw.out.cell (p := ⟨gw, j, none⟩) hgw]; exact HWc.out j hjM
        have k3 : w2.cell? ⟨gs, j, none⟩ = some (.int .i64 (S (j : Int))) := by rw [HBw.out.cell (p := ⟨gs, j, none⟩) hgs]; exact HSc.out j hjM
        have k4 : w2.cell? ⟨gs, x, none⟩ = some (.int .i64 (S (x : Int))) := by rw [HBw.out.cell (p := ⟨gs, x, none⟩) hgs]; exact HSc.out x hxM
        have hgs2 : gs < w2.heap.size := by omega
        have hgw2 : gw < w2.heap.size := by omega
        have hwv2 : w.heap.size < w2.heap.size := by omega
        have HRb : Hid (Row 3 w2 lo hi (.slice ad n cp) n (flat L)) := HRw.out.below hb2 (by omega)
        have hhi2 : hi ≤ w2.heap.size := by omega
        clear hR HRw hb2 HBw
        by_cases hjx : j = x
        · obtain rfl : x = j := hjx.symm
          have hne : x < y := by
            rcases Nat.lt_or_eq_of_le hj with h | h
            · exact h
            · subst h; exact absurd HNX.out.1 (not_tgP_self HG.out)
          obtain ⟨c, hc⟩ : ∃ c, c = scost (M : Int) L (x : Int) (x : Int) := ⟨_, rfl⟩
          rw [← hc]
          clear hc k0 k1 k2 k3 k4
          go_wp2_with fail
          go_quiet (fail)
          go_wp2_with fail
          go_roundw
          case rel => exact ⟨x + 1, by omega, rfl, by go_num, Lib.hid (hM.out.drewN _)⟩
          case measure => simp [intOf]; omega
        · have hjx' : ¬ ((j : Int) = (x : Int)) := by omega
          rw [scost_in HG.out ⟨q3, q4⟩ ⟨p1, p0⟩ (fun h => hjx' h.symm)]
          have f1 : ((j : Int) == (x : Int)) = false := by simp; omega
          have f2 : (j == x) = false := by simp; omega
          have f3 : ((j : Int) != (x : Int)) = true := by simp; omega
          have f4 : (j != x) = true := by simp; omega
          have hcb := cst_bound HG.out (x : Int) (j : Int)
          have hjb := dsT_bnd (s := (j : Int)) HG.out ⟨p1, p0⟩ (o : Int)
          unfold Far at hjb
          have Hst1 := Lib.hid (HT.out.step (j : Int) ⟨p1, p0⟩)
          have Hst2 := Lib.hid (HT.out.far (j : Int) ⟨p1, p0⟩)
          have hbj := HT.out.bnd (j : Int) ⟨p1, p0⟩
          have hbx := HT.out.bnd (x : Int) ⟨q3, q4⟩
          obtain ⟨c, hc⟩ : ∃ c, c = cst L (x : Int) (j : Int) := ⟨_, rfl⟩
          obtain ⟨dj, hdj⟩ : ∃ d, d = dsT (M : Int) L (j : Int) (o : Int) := ⟨_, rfl⟩
          obtain ⟨wj, hwj⟩ : ∃ d, d = W (j : Int) := ⟨_, rfl⟩
          obtain ⟨sj, hsj⟩ : ∃ d, d = S (j : Int) := ⟨_, rfl⟩
          obtain ⟨sx, hsx⟩ : ∃ d, d = S (x : Int) := ⟨_, rfl⟩
          rw [← hc] at hcb ⊢
          rw [← hdj] at hjb
          rw [← hwj] at k2 hbj
          rw [← hsj] at k3 hbj
          rw [← hsx] at k4 hbx
          have Hc := Lib.hid hc
          have Hdj := Lib.hid hdj
          have Hwj := Lib.hid hwj
          have Hsj := Lib.hid hsj
          have Hsx := Lib.hid hsx
          clear hc hdj hwj hsj hsx
          have e1 : IntKind.i64.wrap (c + dj) = c + dj := IntWalk.i64_in _ (by omega)
          have e2 : IntKind.i64.wrap (sj + 1) = sj + 1 := IntWalk.i64_in _ (by omega)
          have Hnext : Hid (¬ nxP (M : Int) L (o : Int) S (x : Int) (j : Int) → j < y) := fun hn => by
            rcases Nat.lt_or_eq_of_le hj with h | h
            · exact h
            · subst h; exact absurd HNX.out hn
          by_cases h1 : c < 1000000
          · have d1 : decide (c < 1000000) = true := decide_eq_true h1
            by_cases h2 : 0 < wj
            · have d2 : decide (0 < wj) = true := decide_eq_true h2
              by_cases h3 : sj + 1 = sx
              · have d3 : (sj + 1 == sx) = true := by simp [h3]
                have H3 := Lib.hid h3
                clear h3
                have hR2 := HRb
                by_cases h4 : c + dj = dx
                · have d4 : (c + dj == dx) = true := by simp [h4]
                  have H4 := Lib.hid h4
                  clear h4
                  have HY : Hid (j = y) := by
                    show _ = _
                    have hn : nxP (M : Int) L (o : Int) S (x : Int) (j : Int) := ⟨⟨by rw [← Hc.out]; unfold Far; omega, fun h => by have := (Hst2.out h).2; rw [← Hwj.out] at this; omega, by rw [← Hc.out, ← Hdj.out, ← Hdx.out]; exact H4.out⟩, by rw [← Hsj.out, ← Hsx.out]; exact H3.out⟩
                    rcases Nat.lt_or_eq_of_le hj with h | h
                    · exact absurd hn (HMIN.out _ (by omega))
                    · exact h
                  go_wp2_with fail
                  refine wp_region_held_drew (S := (fun w' => w'.cell? ⟨w.heap.size, 0, none⟩ = some (.int .i64 (M : Int)) ∧ w'.cell? ⟨w.heap.size, 1, none⟩ = some (.slice ad n cp) ∧ w'.cell? ⟨gw, j, none⟩ = some (.int .i64 wj) ∧ w'.cell? ⟨gs, j, none⟩ = some (.int .i64 sj) ∧ w'.cell? ⟨gs, x, none⟩ = some (.int .i64 sx) ∧ w2.heap.size ≤ w'.heap.size ∧ Below w2.heap.size w2 w')) (by kernel_rfl) ?_ (fun hHeld => ?_)
                  · (first | assumption | exact rr5_start k0 k1 k2 k3 k4 | exact rr5_drew (rr5_start k0 k1 k2 k3 k4) | exact rr5_drew (by assumption) | exact rr5_keep (by omega) (by omega) (by omega) (by omega) (by omega) (by assumption) (by assumption))
                  refine step_read 0 63 rfl rfl (by kernel_rfl) (by kernel_rfl) (by kernel_rfl) (fun _ _ _ h => h) (by rfl) (v := ?_) (fun w hSw => ?_) (by assumption) ?_; rotate_left; (focus ((try dsimp only at hSw); go_simp; first | done | exact rfl)); simp only [List.set]
                  refine step_read 1 64 rfl rfl (by kernel_rfl) (by kernel_rfl) (by kernel_rfl) (fun _ _ _ h => h) (by rfl) (v := ?_) (fun w hSw => ?_) (by assumption) ?_; rotate_left; (focus ((try dsimp only at hSw); go_simp; first | done | exact rfl)); simp only [List.set]
                  refine step_read 2 65 rfl rfl (by kernel_rfl) (by kernel_rfl) (by kernel_rfl) (fun _ _ _ h => h) (by rfl) (v := ?_) (fun w hSw => ?_) (by assumption) ?_; rotate_left; (focus ((try dsimp only at hSw); go_simp; first | done | exact rfl)); simp only [List.set]
                  refine step_read 3 66 rfl rfl (by kernel_rfl) (by kernel_rfl) (by kernel_rfl) (fun _ _ _ h => h) (by rfl) (v := ?_) (fun w hSw => ?_) (by assumption) ?_; rotate_left; (focus ((try dsimp only at hSw); go_simp; first | done | exact rfl)); simp only [List.set]
                  refine step_read 4 67 rfl rfl (by kernel_rfl) (by kernel_rfl) (by kernel_rfl) (fun _ _ _ h => h) (by rfl) (v := ?_) (fun w hSw => ?_) (by assumption) ?_; rotate_left; (focus ((try dsimp only at hSw); go_simp; first | done | exact rfl)); simp only [List.set]
                  refine step_read 5 68 rfl rfl (by kernel_rfl) (by kernel_rfl) (by kernel_rfl) (fun _ _ _ h => h) (by rfl) (v := ?_) (fun w hSw => ?_) (by assumption) ?_; rotate_left; (focus ((try dsimp only at hSw); go_simp; first | done | exact rfl)); simp only [List.set]
                  refine step_read 6 69 rfl rfl (by kernel_rfl) (by kernel_rfl) (by kernel_rfl) (fun _ _ _ h => h) (by rfl) (v := ?_) (fun w hSw => ?_) (by assumption) ?_; rotate_left; (focus ((try dsimp only at hSw); go_simp; first | done | exact rfl)); simp only [List.set]
                  refine step_read 7 70 rfl rfl (by kernel_rfl) (by kernel_rfl) (by kernel_rfl) (fun _ _ _ h => h) (by rfl) (v := ?_) (fun w hSw => ?_) (by assumption) ?_; rotate_left; (focus ((try dsimp only at hSw); go_simp; first | done | exact rfl)); simp only [List.set]
                  refine step_read 8 71 rfl rfl (by kernel_rfl) (by kernel_rfl) (by kernel_rfl) (fun _ _ _ h => h) (by rfl) (v := ?_) (fun w hSw => ?_) (by assumption) ?_; rotate_left; (focus ((try dsimp only at hSw); go_simp; first | done | exact rfl)); simp only [List.set]
                  refine step_read 9 72 rfl rfl (by kernel_rfl) (by kernel_rfl) (by kernel_rfl) (fun _ _ _ h => h) (by rfl) (v := ?_) (fun w hSw => ?_) (by assumption) ?_; rotate_left; (focus ((try dsimp only at hSw); go_simp; first | done | exact rfl)); simp only [List.set]
                  refine step_read 10 73 rfl rfl (by kernel_rfl) (by kernel_rfl) (by kernel_rfl) (fun _ _ _ h => h) (by rfl) (v := ?_) (fun w hSw => ?_) (by assumption) ?_; rotate_left; (focus ((try dsimp only at hSw); go_simp; first | done | exact rfl)); simp only [List.set]
                  refine step_read 11 74 rfl rfl (by kernel_rfl) (by kernel_rfl) (by kernel_rfl) (fun _ _ _ h => h) (by rfl) (v := ?_) (fun w hSw => ?_) (by assumption) ?_; rotate_left; (focus ((try dsimp only at hSw); go_simp; first | done | exact rfl)); simp only [List.set]
                  refine step_read 12 75 rfl rfl (by kernel_rfl) (by kernel_rfl) (by kernel_rfl) (fun _ _ _ h => h) (by rfl) (v := ?_) (fun w hSw => ?_) (by assumption) ?_; rotate_left; (focus ((try dsimp only at hSw); go_simp; first | done | exact rfl)); simp only [List.set]
                  refine step_read 13 76 rfl rfl (by kernel_rfl) (by kernel_rfl) (by kernel_rfl) (fun _ _ _ h => h) (by rfl) (v := ?_) (fun w hSw => ?_) (by assumption) ?_; rotate_left; (focus ((try dsimp only at hSw); go_simp; first | done | exact rfl)); simp only [List.set]
                  refine step_read 14 77 rfl rfl (by kernel_rfl) (by kernel_rfl) (by kernel_rfl) (fun _ _ _ h => h) (by rfl) (v := ?_) (fun w hSw => ?_) (by assumption) ?_; rotate_left; (focus ((try dsimp only at hSw); go_simp; first | done | exact rfl)); simp only [List.set]
                  refine step_read 15 78 rfl rfl (by kernel_rfl) (by kernel_rfl) (by kernel_rfl) (fun _ _ _ h => h) (by rfl) (v := ?_) (fun w hSw => ?_) (by assumption) ?_; rotate_left; (focus ((try dsimp only at hSw); go_simp; first | done | exact rfl)); simp only [List.set]
                  refine step_read 16 79 rfl rfl (by kernel_rfl) (by kernel_rfl) (by kernel_rfl) (fun _ _ _ h => h) (by rfl) (v := ?_) (fun w hSw => ?_) (by assumption) ?_; rotate_left; (focus ((try dsimp only at hSw); go_simp; first | done | exact rfl)); simp only [List.set]
                  refine step_read 17 80 rfl rfl (by kernel_rfl) (by kernel_rfl) (by kernel_rfl) (fun _ _ _ h => h) (by rfl) (v := ?_) (fun w hSw => ?_) (by assumption) ?_; rotate_left; (focus ((try dsimp only at hSw); go_simp; first | done | exact rfl)); simp only [List.set]
                  refine step_read 18 81 rfl rfl (by kernel_rfl) (by kernel_rfl) (by kernel_rfl) (fun _ _ _ h => h) (by rfl) (v := ?_) (fun w hSw => ?_) (by assumption) ?_; rotate_left; (focus ((try dsimp only at hSw); go_simp; first | done | exact rfl)); simp only [List.set]
                  refine step_read 19 82 rfl rfl (by kernel_rfl) (by kernel_rfl) (by kernel_rfl) (fun _ _ _ h => h) (by rfl) (v := ?_) (fun w hSw => ?_) (by assumption) ?_; rotate_left; (focus ((try dsimp only at hSw); go_simp; first | done | exact rfl)); simp only [List.set]
                  refine step_read 20 83 rfl rfl (by kernel_rfl) (by kernel_rfl) (by kernel_rfl) (fun _ _ _ h => h) (by rfl) (v := ?_) (fun w hSw => ?_) (by assumption) ?_; rotate_left; (focus ((try dsimp only at hSw); go_simp; first | done | exact rfl)); simp only [List.set]
                  refine step_read 21 84 rfl rfl (by kernel_rfl) (by kernel_rfl) (by kernel_rfl) (fun _ _ _ h => h) (by rfl) (v := ?_) (fun w hSw => ?_) (by assumption) ?_; rotate_left; (focus ((try dsimp only at hSw); go_simp; first | done | exact rfl)); simp only [List.set]
                  refine step_read 22 85 rfl rfl (by kernel_rfl) (by kernel_rfl) (by kernel_rfl) (fun _ _ _ h => h) (by rfl) (v := ?_) (fun w hSw => ?_) (by assumption) ?_; rotate_left; (focus ((try dsimp only at hSw); go_simp; first | done | exact rfl)); simp only [List.set]
                  refine step_read 23 86 rfl rfl (by kernel_rfl) (by kernel_rfl) (by kernel_rfl) (fun _ _ _ h => h) (by rfl) (v := ?_) (fun w hSw => ?_) (by assumption) ?_; rotate_left; (focus ((try dsimp only at hSw); go_simp; first | done | exact rfl)); simp only [List.set]
                  refine step_read 24 87 rfl rfl (by kernel_rfl) (by kernel_rfl) (by kernel_rfl) (fun _ _ _ h => h) (by rfl) (v := ?_) (fun w hSw => ?_) (by assumption) ?_; rotate_left; (focus ((try dsimp only at hSw); go_simp; first | done | exact rfl)); simp only [List.set]
                  refine step_read 25 88 rfl rfl (by kernel_rfl) (by kernel_rfl) (by kernel_rfl) (fun _ _ _ h => h) (by rfl) (v := ?_) (fun w hSw => ?_) (by assumption) ?_; rotate_left; (focus ((try dsimp only at hSw); go_simp; first | done | exact rfl)); simp only [List.set]
                  refine step_read 26 89 rfl rfl (by kernel_rfl) (by kernel_rfl) (by kernel_rfl) (fun _ _ _ h => h) (by rfl) (v := ?_) (fun w hSw => ?_) (by assumption) ?_; rotate_left; (focus ((try dsimp only at hSw); go_simp; first | done | exact rfl)); simp only [List.set]
                  refine step_read 27 90 rfl rfl (by kernel_rfl) (by kernel_rfl) (by kernel_rfl) (fun _ _ _ h => h) (by rfl) (v := ?_) (fun w hSw => ?_) (by assumption) ?_; rotate_left; (focus ((try dsimp only at hSw); go_simp; first | done | exact rfl)); simp only [List.set]
                  refine step_read 28 91 rfl rfl (by kernel_rfl) (by kernel_rfl) (by kernel_rfl) (fun _ _ _ h => h) (by rfl) (v := ?_) (fun w hSw => ?_) (by assumption) ?_; rotate_left; (focus ((try dsimp only at hSw); go_simp; first | done | exact rfl)); simp only [List.set]
                  refine step_read 29 92 rfl rfl (by kernel_rfl) (by kernel_rfl) (by kernel_rfl) (fun _ _ _ h => h) (by rfl) (v := ?_) (fun w hSw => ?_) (by assumption) ?_; rotate_left; (focus ((try dsimp only at hSw); go_simp; first | done | exact rfl)); simp only [List.set]
                  refine step_read 31 94 rfl rfl (by kernel_rfl) (by kernel_rfl) (by kernel_rfl) (fun _ _ _ h => h) (by rfl) (v := ?_) (fun w hSw => ?_) (by assumption) ?_; rotate_left; (focus ((try dsimp only at hSw); go_simp; first | done | exact rfl)); simp only [List.set]
                  refine step_read 35 98 rfl rfl (by kernel_rfl) (by kernel_rfl) (by kernel_rfl) (fun _ _ _ h => h) (by rfl) (v := ?_) (fun w hSw => ?_) (by assumption) ?_; rotate_left; (focus ((try dsimp only at hSw); go_simp; first | done | exact rfl)); simp only [List.set]
                  (refine wpAnyH_ready (rs := [30]) (by kernel_rfl) (by simp) ?_; refine AllReadyH.cons rfl (fun K hK => ?_) AllReadyH.nil; go_simp; (go_at_call 39; refine (sdist_yes M lo hi n _ L j _ HL.out (HRb.out.below (rr5_out (by assumption)).2 (by omega)) (by have hq := (rr5_out (by assumption)).1; omega) HG.out hjM).mono ?_; rintro e w9 ⟨dv2, rfl, hrd2, hb⟩; obtain ⟨g9, c9, hdv2, _, _, hcell2⟩ := row_cells (by omega) hrd2; subst hdv2; have z2 : w9.cell? ⟨g9, o, none⟩ = some (.int .i64 dj) := (by rw [Hdj.out]; exact hcell2 o _ (tabI_at _ ho)); clear hcell2 hrd2); refine hK.out _ _ ?_ (fun hHeld => ?_); (focus ((first | assumption | exact rr5_start k0 k1 k2 k3 k4 | exact rr5_drew (rr5_start k0 k1 k2 k3 k4) | exact rr5_drew (by assumption) | exact rr5_keep (by omega) (by omega) (by omega) (by omega) (by omega) (by assumption) (by assumption)))); clear hK K)
                  refine step_read 32 95 rfl rfl (by kernel_rfl) (by kernel_rfl) (by kernel_rfl) (fun _ _ _ h => h) (by rfl) (v := ?_) (fun w hSw => ?_) (by assumption) ?_; rotate_left; (focus ((try dsimp only at hSw); go_simp; first | done | exact rfl)); simp only [List.set]
                  (refine wpAnyH_ready (rs := [33]) (by kernel_rfl) (by simp) ?_; refine AllReadyH.cons rfl (fun K hK => ?_) AllReadyH.nil; go_simp; skip; refine hK.out _ _ ?_ (fun hHeld => ?_); (focus ((first | assumption | exact rr5_start k0 k1 k2 k3 k4 | exact rr5_drew (rr5_start k0 k1 k2 k3 k4) | exact rr5_drew (by assumption) | exact rr5_keep (by omega) (by omega) (by omega) (by omega) (by omega) (by assumption) (by assumption)))); clear hK K)
                  refine step_read 34 97 rfl rfl (by kernel_rfl) (by kernel_rfl) (by kernel_rfl) (fun _ _ _ h => h) (by rfl) (v := ?_) (fun w hSw => ?_) (by assumption) ?_; rotate_left; (focus ((try dsimp only at hSw); go_simp; first | done | exact rfl)); simp only [List.set]
                  refine step_read 36 99 rfl rfl (by kernel_rfl) (by kernel_rfl) (by kernel_rfl) (fun _ _ _ h => h) (by rfl) (v := ?_) (fun w hSw => ?_) (by assumption) ?_; rotate_left; (focus ((try dsimp only at hSw); go_simp; first | done | exact rfl)); simp only [List.set]
                  refine step_read 37 100 rfl rfl (by kernel_rfl) (by kernel_rfl) (by kernel_rfl) (fun _ _ _ h => h) (by rfl) (v := ?_) (fun w hSw => ?_) (by assumption) ?_; rotate_left; (focus ((try dsimp only at hSw); go_simp; first | done | exact rfl)); simp only [List.set]
                  refine wpAnyH_done (by kernel_rfl) ?_ _
                  have hB9 : Below w2.heap.size w2 w9 := (rr5_out (by assumption)).2
                  have hM9 := Lib.hid (hM.out.grow hB9)
                  have Hw := Lib.hid hM9.out.row
                  obtain rfl : j = y := HY.out
                  have hkl : k + 1 + (q.length + 1) = l.length + 1 := by have := HHK.out; simpa using this
                  have hk10 : k ≤ 10 := by have := HK.out; simp at this; omega
                  clear hB9
                  go_wp2_with (at_builtin; refine wpList_append_lies _ rfl _ _ 33 rfl v4.heap.size 3 i3 (.int .i64 0) 1 8 Try.underlying33 I.out.1 I.out.2.1 I.out.2.2.1 I.out.2.2.2 rfl (by decide) _ (k + 1) (ints (((s : Int) :: l).take (k + 1))) rfl (Hw.out.alloc _) ⟨w9.heap.size, 0, none⟩ 1 1 [.int .i64 (j : Int)] rfl rfl ?d0 (int_one _) (by decide) ?d1 ?d2 ?d3 _ rfl ?_)
                  case d1 => unfold maxLen; omega
                  case d2 => omega
                  case d3 => first | omega | (simp; omega)
                  intro g4 cap4 w4 hown4 hgrow4 hat4 hlt4
                  have HF : Hid (OwnI v4 w4 (.slice (some ⟨g4, 0, none⟩) (k + 1 + 1) cap4) (k + 1 + 1) (((s : Int) :: l).take (k + 1 + 1))) := by show OwnI _ _ _ _ _; rw [← (take_step hdr.out).1]; exact (hM9.out.grow ((Below.refl _ _).alloc (Nat.le_refl _) _)).app hgrow4 hown4
                  clear hown4 hgrow4 hat4 hlt4 hM9 Hw
                  go_wp2_with fail
                  go_roundw
                  case rel => exact ⟨k + 1, j, q, by omega, rfl, HF, Lib.hid (take_step hdr.out).2, hjM, HG2⟩
                  case measure => simp [vlen]; omega
                · have d4 : (c + dj == dx) = false := by simp [h4]
                  have hne := Hnext.out (fun hn => h4 (by rw [Hc.out, Hdj.out, Hdx.out]; exact hn.1.2.2))
                  go_wp2_with fail
                  refine wp_region_held_drew (S := (fun w' => w'.cell? ⟨w.heap.size, 0, none⟩ = some (.int .i64 (M : Int)) ∧ w'.cell? ⟨w.heap.size, 1, none⟩ = some (.slice ad n cp) ∧ w'.cell? ⟨gw, j, none⟩ = some (.int .i64 wj) ∧ w'.cell? ⟨gs, j, none⟩ = some (.int .i64 sj) ∧ w'.cell? ⟨gs, x, none⟩ = some (.int .i64 sx) ∧ w2.heap.size ≤ w'.heap.size ∧ Below w2.heap.size w2 w')) (by kernel_rfl) ?_ (fun hHeld => ?_)
                  · (first | assumption | exact rr5_start k0 k1 k2 k3 k4 | exact rr5_drew (rr5_start k0 k1 k2 k3 k4) | exact rr5_drew (by assumption) | exact rr5_keep (by omega) (by omega) (by omega) (by omega) (by omega) (by assumption) (by assumption))
                  refine step_read 0 63 rfl rfl (by kernel_rfl) (by kernel_rfl) (by kernel_rfl) (fun _ _ _ h => h) (by rfl) (v := ?_) (fun w hSw => ?_) (by assumption) ?_; rotate_left; (focus ((try dsimp only at hSw); go_simp; first | done | exact rfl)); simp only [List.set]
                  refine step_read 1 64 rfl rfl (by kernel_rfl) (by kernel_rfl) (by kernel_rfl) (fun _ _ _ h => h) (by rfl) (v := ?_) (fun w hSw => ?_) (by assumption) ?_; rotate_left; (focus ((try dsimp only at hSw); go_simp; first | done | exact rfl)); simp only [List.set]
                  refine step_read 2 65 rfl rfl (by kernel_rfl) (by kernel_rfl) (by kernel_rfl) (fun _ _ _ h => h) (by rfl) (v := ?_) (fun w hSw => ?_) (by assumption) ?_; rotate_left; (focus ((try dsimp only at hSw); go_simp; first | done | exact rfl)); simp only [List.set]
                  refine step_read 3 66 rfl rfl (by kernel_rfl) (by kernel_rfl) (by kernel_rfl) (fun _ _ _ h => h) (by rfl) (v := ?_) (fun w hSw => ?_) (by assumption) ?_; rotate_left; (focus ((try dsimp only at hSw); go_simp; first | done | exact rfl)); simp only [List.set]
                  refine step_read 4 67 rfl rfl (by kernel_rfl) (by kernel_rfl) (by kernel_rfl) (fun _ _ _ h => h) (by rfl) (v := ?_) (fun w hSw => ?_) (by assumption) ?_; rotate_left; (focus ((try dsimp only at hSw); go_simp; first | done | exact rfl)); simp only [List.set]
                  refine step_read 5 68 rfl rfl (by kernel_rfl) (by kernel_rfl) (by kernel_rfl) (fun _ _ _ h => h) (by rfl) (v := ?_) (fun w hSw => ?_) (by assumption) ?_; rotate_left; (focus ((try dsimp only at hSw); go_simp; first | done | exact rfl)); simp only [List.set]
                  refine step_read 6 69 rfl rfl (by kernel_rfl) (by kernel_rfl) (by kernel_rfl) (fun _ _ _ h => h) (by rfl) (v := ?_) (fun w hSw => ?_) (by assumption) ?_; rotate_left; (focus ((try dsimp only at hSw); go_simp; first | done | exact rfl)); simp only [List.set]
                  refine step_read 7 70 rfl rfl (by kernel_rfl) (by kernel_rfl) (by kernel_rfl) (fun _ _ _ h => h) (by rfl) (v := ?_) (fun w hSw => ?_) (by assumption) ?_; rotate_left; (focus ((try dsimp only at hSw); go_simp; first | done | exact rfl)); simp only [List.set]
                  refine step_read 8 71 rfl rfl (by kernel_rfl) (by kernel_rfl) (by kernel_rfl) (fun _ _ _ h => h) (by rfl) (v := ?_) (fun w hSw => ?_) (by assumption) ?_; rotate_left; (focus ((try dsimp only at hSw); go_simp; first | done | exact rfl)); simp only [List.set]
                  refine step_read 9 72 rfl rfl (by kernel_rfl) (by kernel_rfl) (by kernel_rfl) (fun _ _ _ h => h) (by rfl) (v := ?_) (fun w hSw => ?_) (by assumption) ?_; rotate_left; (focus ((try dsimp only at hSw); go_simp; first | done | exact rfl)); simp only [List.set]
                  refine step_read 10 73 rfl rfl (by kernel_rfl) (by kernel_rfl) (by kernel_rfl) (fun _ _ _ h => h) (by rfl) (v := ?_) (fun w hSw => ?_) (by assumption) ?_; rotate_left; (focus ((try dsimp only at hSw); go_simp; first | done | exact rfl)); simp only [List.set]
                  refine step_read 11 74 rfl rfl (by kernel_rfl) (by kernel_rfl) (by kernel_rfl) (fun _ _ _ h => h) (by rfl) (v := ?_) (fun w hSw => ?_) (by assumption) ?_; rotate_left; (focus ((try dsimp only at hSw); go_simp; first | done | exact rfl)); simp only [List.set]
                  refine step_read 12 75 rfl rfl (by kernel_rfl) (by kernel_rfl) (by kernel_rfl) (fun _ _ _ h => h) (by rfl) (v := ?_) (fun w hSw => ?_) (by assumption) ?_; rotate_left; (focus ((try dsimp only at hSw); go_simp; first | done | exact rfl)); simp only [List.set]
                  refine step_read 13 76 rfl rfl (by kernel_rfl) (by kernel_rfl) (by kernel_rfl) (fun _ _ _ h => h) (by rfl) (v := ?_) (fun w hSw => ?_) (by assumption) ?_; rotate_left; (focus ((try dsimp only at hSw); go_simp; first | done | exact rfl)); simp only [List.set]
                  refine step_read 14 77 rfl rfl (by kernel_rfl) (by kernel_rfl) (by kernel_rfl) (fun _ _ _ h => h) (by rfl) (v := ?_) (fun w hSw => ?_) (by assumption) ?_; rotate_left; (focus ((try dsimp only at hSw); go_simp; first | done | exact rfl)); simp only [List.set]
                  refine step_read 15 78 rfl rfl (by kernel_rfl) (by kernel_rfl) (by kernel_rfl) (fun _ _ _ h => h) (by rfl) (v := ?_) (fun w hSw => ?_) (by assumption) ?_; rotate_left; (focus ((try dsimp only at hSw); go_simp; first | done | exact rfl)); simp only [List.set]
                  refine step_read 16 79 rfl rfl (by kernel_rfl) (by kernel_rfl) (by kernel_rfl) (fun _ _ _ h => h) (by rfl) (v := ?_) (fun w hSw => ?_) (by assumption) ?_; rotate_left; (focus ((try dsimp only at hSw); go_simp; first | done | exact rfl)); simp only [List.set]
                  refine step_read 17 80 rfl rfl (by kernel_rfl) (by kernel_rfl) (by kernel_rfl) (fun _ _ _ h => h) (by rfl) (v := ?_) (fun w hSw => ?_) (by assumption) ?_; rotate_left; (focus ((try dsimp only at hSw); go_simp; first | done | exact rfl)); simp only [List.set]
                  refine step_read 18 81 rfl rfl (by kernel_rfl) (by kernel_rfl) (by kernel_rfl) (fun _ _ _ h => h) (by rfl) (v := ?_) (fun w hSw => ?_) (by assumption) ?_; rotate_left; (focus ((try dsimp only at hSw); go_simp; first | done | exact rfl)); simp only [List.set]
                  refine step_read 19 82 rfl rfl (by kernel_rfl) (by kernel_rfl) (by kernel_rfl) (fun _ _ _ h => h) (by rfl) (v := ?_) (fun w hSw => ?_) (by assumption) ?_; rotate_left; (focus ((try dsimp only at hSw); go_simp; first | done | exact rfl)); simp only [List.set]
                  refine step_read 20 83 rfl rfl (by kernel_rfl) (by kernel_rfl) (by kernel_rfl) (fun _ _ _ h => h) (by rfl) (v := ?_) (fun w hSw => ?_) (by assumption) ?_; rotate_left; (focus ((try dsimp only at hSw); go_simp; first | done | exact rfl)); simp only [List.set]
                  refine step_read 21 84 rfl rfl (by kernel_rfl) (by kernel_rfl) (by kernel_rfl) (fun _ _ _ h => h) (by rfl) (v := ?_) (fun w hSw => ?_) (by assumption) ?_; rotate_left; (focus ((try dsimp only at hSw); go_simp; first | done | exact rfl)); simp only [List.set]
                  refine step_read 22 85 rfl rfl (by kernel_rfl) (by kernel_rfl) (by kernel_rfl) (fun _ _ _ h => h) (by rfl) (v := ?_) (fun w hSw => ?_) (by assumption) ?_; rotate_left; (focus ((try dsimp only at hSw); go_simp; first | done | exact rfl)); simp only [List.set]
                  refine step_read 23 86 rfl rfl (by kernel_rfl) (by kernel_rfl) (by kernel_rfl) (fun _ _ _ h => h) (by rfl) (v := ?_) (fun w hSw => ?_) (by assumption) ?_; rotate_left; (focus ((try dsimp only at hSw); go_simp; first | done | exact rfl)); simp only [List.set]
                  refine step_read 24 87 rfl rfl (by kernel_rfl) (by kernel_rfl) (by kernel_rfl) (fun _ _ _ h => h) (by rfl) (v := ?_) (fun w hSw => ?_) (by assumption) ?_; rotate_left; (focus ((try dsimp only at hSw); go_simp; first | done | exact rfl)); simp only [List.set]
                  refine step_read 25 88 rfl rfl (by kernel_rfl) (by kernel_rfl) (by kernel_rfl) (fun _ _ _ h => h) (by rfl) (v := ?_) (fun w hSw => ?_) (by assumption) ?_; rotate_left; (focus ((try dsimp only at hSw); go_simp; first | done | exact rfl)); simp only [List.set]
                  refine step_read 26 89 rfl rfl (by kernel_rfl) (by kernel_rfl) (by kernel_rfl) (fun _ _ _ h => h) (by rfl) (v := ?_) (fun w hSw => ?_) (by assumption) ?_; rotate_left; (focus ((try dsimp only at hSw); go_simp; first | done | exact rfl)); simp only [List.set]
                  refine step_read 27 90 rfl rfl (by kernel_rfl) (by kernel_rfl) (by kernel_rfl) (fun _ _ _ h => h) (by rfl) (v := ?_) (fun w hSw => ?_) (by assumption) ?_; rotate_left; (focus ((try dsimp only at hSw); go_simp; first | done | exact rfl)); simp only [List.set]
                  refine step_read 28 91 rfl rfl (by kernel_rfl) (by kernel_rfl) (by kernel_rfl) (fun _ _ _ h => h) (by rfl) (v := ?_) (fun w hSw => ?_) (by assumption) ?_; rotate_left; (focus ((try dsimp only at hSw); go_simp; first | done | exact rfl)); simp only [List.set]
                  refine step_read 29 92 rfl rfl (by kernel_rfl) (by kernel_rfl) (by kernel_rfl) (fun _ _ _ h => h) (by rfl) (v := ?_) (fun w hSw => ?_) (by assumption) ?_; rotate_left; (focus ((try dsimp only at hSw); go_simp; first | done | exact rfl)); simp only [List.set]
                  refine step_read 31 94 rfl rfl (by kernel_rfl) (by kernel_rfl) (by kernel_rfl) (fun _ _ _ h => h) (by rfl) (v := ?_) (fun w hSw => ?_) (by assumption) ?_; rotate_left; (focus ((try dsimp only at hSw); go_simp; first | done | exact rfl)); simp only [List.set]
                  refine step_read 35 98 rfl rfl (by kernel_rfl) (by kernel_rfl) (by kernel_rfl) (fun _ _ _ h => h) (by rfl) (v := ?_) (fun w hSw => ?_) (by assumption) ?_; rotate_left; (focus ((try dsimp only at hSw); go_simp; first | done | exact rfl)); simp only [List.set]
                  (refine wpAnyH_ready (rs := [30]) (by kernel_rfl) (by simp) ?_; refine AllReadyH.cons rfl (fun K hK => ?_) AllReadyH.nil; go_simp; (go_at_call 39; refine (sdist_yes M lo hi n _ L j _ HL.out (HRb.out.below (rr5_out (by assumption)).2 (by omega)) (by have hq := (rr5_out (by assumption)).1; omega) HG.out hjM).mono ?_; rintro e w9 ⟨dv2, rfl, hrd2, hb⟩; obtain ⟨g9, c9, hdv2, _, _, hcell2⟩ := row_cells (by omega) hrd2; subst hdv2; have z2 : w9.cell? ⟨g9, o, none⟩ = some (.int .i64 dj) := (by rw [Hdj.out]; exact hcell2 o _ (tabI_at _ ho)); clear hcell2 hrd2); refine hK.out _ _ ?_ (fun hHeld => ?_); (focus ((first | assumption | exact rr5_start k0 k1 k2 k3 k4 | exact rr5_drew (rr5_start k0 k1 k2 k3 k4) | exact rr5_drew (by assumption) | exact rr5_keep (by omega) (by omega) (by omega) (by omega) (by omega) (by assumption) (by assumption)))); clear hK K)
                  refine step_read 32 95 rfl rfl (by kernel_rfl) (by kernel_rfl) (by kernel_rfl) (fun _ _ _ h => h) (by rfl) (v := ?_) (fun w hSw => ?_) (by assumption) ?_; rotate_left; (focus ((try dsimp only at hSw); go_simp; first | done | exact rfl)); simp only [List.set]
                  (refine wpAnyH_ready (rs := [33]) (by kernel_rfl) (by simp) ?_; refine AllReadyH.cons rfl (fun K hK => ?_) AllReadyH.nil; go_simp; skip; refine hK.out _ _ ?_ (fun hHeld => ?_); (focus ((first | assumption | exact rr5_start k0 k1 k2 k3 k4 | exact rr5_drew (rr5_start k0 k1 k2 k3 k4) | exact rr5_drew (by assumption) | exact rr5_keep (by omega) (by omega) (by omega) (by omega) (by omega) (by assumption) (by assumption)))); clear hK K)
                  refine step_read 34 97 rfl rfl (by kernel_rfl) (by kernel_rfl) (by kernel_rfl) (fun _ _ _ h => h) (by rfl) (v := ?_) (fun w hSw => ?_) (by assumption) ?_; rotate_left; (focus ((try dsimp only at hSw); go_simp; first | done | exact rfl)); simp only [List.set]
                  refine step_read 36 99 rfl rfl (by kernel_rfl) (by kernel_rfl) (by kernel_rfl) (fun _ _ _ h => h) (by rfl) (v := ?_) (fun w hSw => ?_) (by assumption) ?_; rotate_left; (focus ((try dsimp only at hSw); go_simp; first | done | exact rfl)); simp only [List.set]
                  refine step_read 37 100 rfl rfl (by kernel_rfl) (by kernel_rfl) (by kernel_rfl) (fun _ _ _ h => h) (by rfl) (v := ?_) (fun w hSw => ?_) (by assumption) ?_; rotate_left; (focus ((try dsimp only at hSw); go_simp; first | done | exact rfl)); simp only [List.set]
                  refine wpAnyH_done (by kernel_rfl) ?_ _
                  go_wp2_with fail
                  go_roundw
                  case rel => exact ⟨j + 1, by omega, rfl, by go_num, Lib.hid (hM.out.grow (rr5_out (by assumption)).2)⟩
                  case measure => simp [intOf]; omega
              · have d3 : (sj + 1 == sx) = false := by simp [h3]
                have hne := Hnext.out (fun hn => h3 (by rw [Hsj.out, Hsx.out]; exact hn.2))
                go_wp2_with fail
                go_quiet (fail)
                go_wp2_with fail
                go_roundw
                case rel => exact ⟨j + 1, by omega, rfl, by go_num, Lib.hid (hM.out.drewN _)⟩
                case measure => simp [intOf]; omega
            · have d2 : decide (0 < wj) = false := decide_eq_false h2
              have hne := Hnext.out (fun hn => h2 (by rw [Hwj.out]; exact (Hst1.out hn.1.2.1).2.1))
              go_wp2_with fail
              go_quiet (fail)
              go_wp2_with fail
              go_roundw
              case rel => exact ⟨j + 1, by omega, rfl, by go_num, Lib.hid (hM.out.drewN _)⟩
              case measure => simp [intOf]; omega
          · have d1 : decide (c < 1000000) = false := decide_eq_false h1
            have hne := Hnext.out (fun hn => hn.1.1 (by rw [← Hc.out]; unfold Far; omega))
            go_wp2_with fail
            go_quiet (fail)
            go_wp2_with fail
            go_roundw
            case rel => exact ⟨j + 1, by omega, rfl, by go_num, Lib.hid (hM.out.drewN _)⟩
            case measure => simp [intOf]; omega
  

end Go.Proofs.Ytjenjdhoblcohaa
