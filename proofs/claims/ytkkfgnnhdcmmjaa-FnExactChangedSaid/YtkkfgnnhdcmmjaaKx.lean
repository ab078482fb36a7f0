/- Changed of both, whatever comes in. -/
import Derived.Test.YtkkfgnnhdcmmjaaKq
import Derived.Test.YtkkfgnnhdcmmjaaGk
import Derived.Deep.DeepCutAuto
import Derived.Test.YtkkfgnnhdcmmjaaKu
import Derived.Test.YtkkfgnnhdcmmjaaReg
namespace Go.Proofs.Ytkkfgnnhdcmmjaa
open Go.RowKit
open Go.Maps

/-- The nodes below k whose first hops differ, and what Changed answers. -/
def chK (N : Int) (L L' : List Ed) (x : Int) (k : Nat) : List Int := ((List.range k).map fun (i : Nat) => (i : Int)).filter fun z => !decide (hopsL N L x z = hopsL N L' x z)
theorem chK_succ (N : Int) (L L' : List Ed) (x : Int) (k : Nat) : chK N L L' x (k + 1) = chK N L L' x k ++ if hopsL N L x (k : Int) = hopsL N L' x (k : Int) then [] else [(k : Int)] := by
  unfold chK
  rw [List.range_succ, List.map_append, List.filter_append]
  congr 1
  by_cases h : hopsL N L x (k : Int) = hopsL N L' x (k : Int)
  · rw [if_pos h]; simp [h]
  · rw [if_neg h]; simp [h]
theorem chK_len (N : Int) (L L' : List Ed) (x : Int) (k : Nat) : (chK N L L' x k).length ≤ k := by
  unfold chK
  exact Nat.le_trans (List.length_filter_le _ _) (by simp)
def chL (N : Int) (L : List Ed) (N' : Int) (L' : List Ed) (x : Int) : List Int := if gok N L = true ∧ gok N' L' = true ∧ N = N' ∧ ndB N x = true then chK N L L' x N.toNat else []
set_option maxHeartbeats 2400000 in
theorem same_any (n m lo hi lo' hi' : Nat) (v v' : Value) (Z Y : List Int) (w : World) (hr : Row 1 w lo hi v n Z) (hr' : Row 1 w lo' hi' v' m Y) (hh : hi ≤ w.heap.size) (hh' : hi' ≤ w.heap.size) :
    Calls Try.prog 69 #[v, v'] w fun e w' => e = .returned (.bool (decide (Z = Y))) ∧ Below w.heap.size w w' := by
  have h0 := Lib.hid hr.1
  have h0' := Lib.hid hr'.1
  obtain ⟨a, c, rfl, hn, hc⟩ := hr.opened
  obtain ⟨a', c', rfl, hn', hc'⟩ := hr'.opened
  have H := Lib.hid hc
  have H' := Lib.hid hc'
  clear hc hc' hr hr'
  by_cases hnm : n = m
  · subst hnm
    go_enter Try.func69, Try.ntmps69
    go_wp2
    go_loopw [5] (fun i wr => ∃ k : Nat, k ≤ n ∧ i = .int .i64 (k : Int) ∧ Hid (Z.take k = Y.take k) ∧ Hid (Below w.heap.size w wr)) (fun i _ => n - (intOf i).toNat)
    case atStart => exact ⟨0, Nat.zero_le _, rfl, by show _ = _; simp, Below.refl _ _⟩
    case round =>
      obtain ⟨k, hk, rfl, hT, hB⟩ := hrel
      by_cases hlt : k < n
      · obtain ⟨g, rfl, hg, hq⟩ := H.out (by omega)
        obtain ⟨g', rfl, hg', hq'⟩ := H'.out (by omega)
        obtain ⟨z, hz⟩ := at_one h0.out hlt
        obtain ⟨y, hy⟩ := at_one h0'.out hlt
        have d0 : wr.cell? ⟨g, k, none⟩ = some (.int .i64 z) := by rw [hB.out.cell (p := ⟨g, k, none⟩) (by show g < _; omega)]; exact hq _ _ hz
        have d1 : wr.cell? ⟨g', k, none⟩ = some (.int .i64 y) := by rw [hB.out.cell (p := ⟨g', k, none⟩) (by show g' < _; omega)]; exact hq' _ _ hy
        have Hz := Lib.hid hz
        have Hy := Lib.hid hy
        clear hq hq' hz hy
        have hk0 : (0 : Int) ≤ (k : Int) := by omega
        have hk1 : (k : Int) < (n : Int) := by omega
        by_cases hzy : z = y
        · subst hzy
          go_wp2_with fail
          go_quiet (fail)
          go_wp2_with fail
          go_roundw
          case rel => exact ⟨k + 1, by omega, by go_num, by show _ = _; rw [List.take_add_one, List.take_add_one, hT.out, Hz.out, Hy.out], hB.out.trans ((below_drewN _ _).mono hB.out.size)⟩
          case measure => simp [intOf]; omega
        · have hne : ¬ (Z = Y) := fun e => hzy (by have h := Hz.out; rw [e, Hy.out] at h; cases h; rfl)
          have HD : Hid (decide (Z = Y) = false) := decide_eq_false hne
          have e1 : (z == y) = false := by simp [hzy]
          have e2 : (z != y) = true := by simp [hzy]
          clear hne
          go_wp2_with fail
          go_quiet (fail)
          go_wp2_with fail
          go_ret
          rw [HD.out]
          exact ⟨rfl, hB.out.trans ((below_drewN _ _).mono hB.out.size)⟩
      · have hge : ¬ ((k : Int) < (n : Int)) := by omega
        have e : Z = Y := by
          have h := hT.out
          rw [List.take_of_length_le (by have := h0.out; omega), List.take_of_length_le (by have := h0'.out; omega)] at h
          exact h
        have HD : Hid (decide (Z = Y) = true) := decide_eq_true e
        clear e
        go_wp2
        go_ret
        rw [HD.out]
        exact ⟨rfl, hB.out⟩
  · have HD : Hid (decide (Z = Y) = false) := decide_eq_false (fun e => hnm (by have h := h0.out; have h' := h0'.out; rw [e] at h; omega))
    have e0 : ¬ ((n : Int) = (m : Int)) := by omega
    have e1 : ((n : Int) == (m : Int)) = false := by simp; omega
    have e2 : ((n : Int) != (m : Int)) = true := by simp; omega
    go_enter Try.func69, Try.ntmps69
    go_wp2_with fail
    go_ret
    rw [HD.out]
    exact ⟨rfl, Below.refl _ _⟩

set_option maxRecDepth 100000 in
set_option maxHeartbeats 2400000 in
theorem ich_no0 (lo hi n : Nat) (v : Value) (L : List Ed) (N : Int) (lo' hi' n' : Nat) (v' : Value) (L' : List Ed) (N' x : Int) (w : World) (hL : L.length = n) (hr : Row 3 w lo hi v n (flat L)) (hh : hi ≤ w.heap.size) (_hL' : L'.length = n') (hr' : Row 3 w lo' hi' v' n' (flat L')) (hh' : hi' ≤ w.heap.size) (hn : gok N L = false) :
    Calls Try.prog 46 #[.agg #[.int .i64 N, v], .agg #[.int .i64 N', v'], .int .i64 x] w (LiPost [] w) := by
  have HR := Lib.hid hr
  have HR' := Lib.hid hr'
  have Hn := Lib.hid hn
  obtain ⟨ad, cp, rfl⟩ := hr.slice
  obtain ⟨bd, cq, rfl⟩ := hr'.slice
  clear hr hr' hn
  go_enter Try.func46, Try.ntmps46
  go_wp2_with fail
  go_at_call 53
  refine (igok_any N lo hi n _ L _ hL (HR.out.below (B := w.heap.size) (by go_grown) (by omega)) (by simp; omega)).mono ?_
  rw [Hn.out]
  rintro e v1 ⟨rfl, hb1⟩
  have sz1 : w.heap.size + 2 ≤ v1.heap.size := by have hh := hb1.size; simp at hh; omega
  have st1 : Below w.heap.size w v1 := Below.trans (by go_grown) (hb1.mono (by simp <;> omega))
  have c1_0 : v1.cell? ⟨w.heap.size, 0, none⟩ = some (.int .i64 N) := by rw [(bcell hb1).1 _ _ (by simp <;> omega), old_box (by simp <;> omega)]; first | (rw [new_at (by simp)]; rfl) | simp
  have c1_1 : v1.cell? ⟨w.heap.size, 1, none⟩ = some (.slice ad n cp) := by rw [(bcell hb1).1 _ _ (by simp <;> omega), old_box (by simp <;> omega)]; first | (rw [new_at (by simp)]; rfl) | simp
  have c1_2 : v1.cell? ⟨w.heap.size + 1, 0, none⟩ = some (.int .i64 N') := by rw [(bcell hb1).1 _ _ (by simp)]; first | (rw [new_at (by simp)]; rfl) | simp
  have c1_3 : v1.cell? ⟨w.heap.size + 1, 1, none⟩ = some (.slice bd n' cq) := by rw [(bcell hb1).1 _ _ (by simp)]; first | (rw [new_at (by simp)]; rfl) | simp
  have B1 : Hid (Below w.heap.size w v1) := st1
  have R1_0 : Hid (Row 3 v1 (lo) (hi) (.slice ad n cp) n (flat L)) := HR.out.below st1 (by omega)
  have R1_1 : Hid (Row 3 v1 (lo') (hi') (.slice bd n' cq) n' (flat L')) := HR'.out.below st1 (by omega)
  have d1_0 : w.heap.size < v1.heap.size := by omega
  have e1_0 : w.heap.size ≠ v1.heap.size := by omega
  have d1_1 : w.heap.size + 1 < v1.heap.size := by omega
  have e1_1 : w.heap.size + 1 ≠ v1.heap.size := by omega
  clear st1 HR HR' hb1
  go_wp2_with fail
  go_ret
  exact ⟨_, rfl, Row.empty 1 _ _ _ _ _, B1.out⟩

set_option maxRecDepth 100000 in
set_option maxHeartbeats 2400000 in
theorem ich_no1 (lo hi n : Nat) (v : Value) (L : List Ed) (N : Int) (lo' hi' n' : Nat) (v' : Value) (L' : List Ed) (N' x : Int) (w : World) (hL : L.length = n) (hr : Row 3 w lo hi v n (flat L)) (hh : hi ≤ w.heap.size) (hL' : L'.length = n') (hr' : Row 3 w lo' hi' v' n' (flat L')) (hh' : hi' ≤ w.heap.size) (hn : gok N L = true ∧ gok N' L' = false) :
    Calls Try.prog 46 #[.agg #[.int .i64 N, v], .agg #[.int .i64 N', v'], .int .i64 x] w (LiPost [] w) := by
  have HR := Lib.hid hr
  have HR' := Lib.hid hr'
  have Hn := Lib.hid hn
  obtain ⟨ad, cp, rfl⟩ := hr.slice
  obtain ⟨bd, cq, rfl⟩ := hr'.slice
  clear hr hr' hn
  go_enter Try.func46, Try.ntmps46
  go_wp2_with fail
  go_at_call 53
  refine (igok_any N lo hi n _ L _ hL (HR.out.below (B := w.heap.size) (by go_grown) (by omega)) (by simp; omega)).mono ?_
  rw [Hn.out.1]
  rintro e v1 ⟨rfl, hb1⟩
  have sz1 : w.heap.size + 2 ≤ v1.heap.size := by have hh := hb1.size; simp at hh; omega
  have st1 : Below w.heap.size w v1 := Below.trans (by go_grown) (hb1.mono (by simp <;> omega))
  have c1_0 : v1.cell? ⟨w.heap.size, 0, none⟩ = some (.int .i64 N) := by rw [(bcell hb1).1 _ _ (by simp <;> omega), old_box (by simp <;> omega)]; first | (rw [new_at (by simp)]; rfl) | simp
  have c1_1 : v1.cell? ⟨w.heap.size, 1, none⟩ = some (.slice ad n cp) := by rw [(bcell hb1).1 _ _ (by simp <;> omega), old_box (by simp <;> omega)]; first | (rw [new_at (by simp)]; rfl) | simp
  have c1_2 : v1.cell? ⟨w.heap.size + 1, 0, none⟩ = some (.int .i64 N') := by rw [(bcell hb1).1 _ _ (by simp)]; first | (rw [new_at (by simp)]; rfl) | simp
  have c1_3 : v1.cell? ⟨w.heap.size + 1, 1, none⟩ = some (.slice bd n' cq) := by rw [(bcell hb1).1 _ _ (by simp)]; first | (rw [new_at (by simp)]; rfl) | simp
  have B1 : Hid (Below w.heap.size w v1) := st1
  have R1_0 : Hid (Row 3 v1 (lo) (hi) (.slice ad n cp) n (flat L)) := HR.out.below st1 (by omega)
  have R1_1 : Hid (Row 3 v1 (lo') (hi') (.slice bd n' cq) n' (flat L')) := HR'.out.below st1 (by omega)
  have d1_0 : w.heap.size < v1.heap.size := by omega
  have e1_0 : w.heap.size ≠ v1.heap.size := by omega
  have d1_1 : w.heap.size + 1 < v1.heap.size := by omega
  have e1_1 : w.heap.size + 1 ≠ v1.heap.size := by omega
  clear st1 HR HR' hb1
  go_wp2_with fail
  go_at_call 53
  refine (igok_any N' lo' hi' n' _ L' _ hL' R1_1.out (by omega)).mono ?_
  rw [Hn.out.2]
  rintro e v2 ⟨rfl, hb2⟩
  have sz2 : v1.heap.size ≤ v2.heap.size := hb2.size
  have st2 : Below v1.heap.size v1 v2 := hb2
  have c2_0 : v2.cell? ⟨w.heap.size, 0, none⟩ = some (.int .i64 N) := by rw [(bcell st2).1 _ _ (by omega)]; exact c1_0
  have c2_1 : v2.cell? ⟨w.heap.size, 1, none⟩ = some (.slice ad n cp) := by rw [(bcell st2).1 _ _ (by omega)]; exact c1_1
  have c2_2 : v2.cell? ⟨w.heap.size + 1, 0, none⟩ = some (.int .i64 N') := by rw [(bcell st2).1 _ _ (by omega)]; exact c1_2
  have c2_3 : v2.cell? ⟨w.heap.size + 1, 1, none⟩ = some (.slice bd n' cq) := by rw [(bcell st2).1 _ _ (by omega)]; exact c1_3
  have B2 : Hid (Below w.heap.size w v2) := B1.out.trans (st2.mono (by omega))
  have R2_0 : Hid (Row 3 v2 (lo) (hi) (.slice ad n cp) n (flat L)) := R1_0.out.below st2 (by omega)
  have R2_1 : Hid (Row 3 v2 (lo') (hi') (.slice bd n' cq) n' (flat L')) := R1_1.out.below st2 (by omega)
  have d2_0 : w.heap.size < v2.heap.size := by omega
  have e2_0 : w.heap.size ≠ v2.heap.size := by omega
  have d2_1 : w.heap.size + 1 < v2.heap.size := by omega
  have e2_1 : w.heap.size + 1 ≠ v2.heap.size := by omega
  clear d1_0 e1_0 d1_1 e1_1 c1_0 c1_1 c1_2 c1_3 B1 st2 R1_0 R1_1 hb2
  go_wp2_with fail
  go_ret
  exact ⟨_, rfl, Row.empty 1 _ _ _ _ _, B2.out⟩

set_option maxRecDepth 100000 in
set_option maxHeartbeats 2400000 in
theorem ich_no2 (lo hi n : Nat) (v : Value) (L : List Ed) (N : Int) (lo' hi' n' : Nat) (v' : Value) (L' : List Ed) (N' x : Int) (w : World) (hL : L.length = n) (hr : Row 3 w lo hi v n (flat L)) (hh : hi ≤ w.heap.size) (hL' : L'.length = n') (hr' : Row 3 w lo' hi' v' n' (flat L')) (hh' : hi' ≤ w.heap.size) (hn : gok N L = true ∧ gok N' L' = true ∧ ¬ (N = N')) :
    Calls Try.prog 46 #[.agg #[.int .i64 N, v], .agg #[.int .i64 N', v'], .int .i64 x] w (LiPost [] w) := by
  have HR := Lib.hid hr
  have HR' := Lib.hid hr'
  have Hn := Lib.hid hn
  obtain ⟨ad, cp, rfl⟩ := hr.slice
  obtain ⟨bd, cq, rfl⟩ := hr'.slice
  clear hr hr' hn
  have e0 : ¬ (N = N') := Hn.out.2.2
  have e1 : (N == N') = false := by simp [e0]
  have e2 : (N != N') = true := by simp [e0]
  go_enter Try.func46, Try.ntmps46
  go_wp2_with fail
  go_at_call 53
  refine (igok_any N lo hi n _ L _ hL (HR.out.below (B := w.heap.size) (by go_grown) (by omega)) (by simp; omega)).mono ?_
  rw [Hn.out.1]
  rintro e v1 ⟨rfl, hb1⟩
  have sz1 : w.heap.size + 2 ≤ v1.heap.size := by have hh := hb1.size; simp at hh; omega
  have st1 : Below w.heap.size w v1 := Below.trans (by go_grown) (hb1.mono (by simp <;> omega))
  have c1_0 : v1.cell? ⟨w.heap.size, 0, none⟩ = some (.int .i64 N) := by rw [(bcell hb1).1 _ _ (by simp <;> omega), old_box (by simp <;> omega)]; first | (rw [new_at (by simp)]; rfl) | simp
  have c1_1 : v1.cell? ⟨w.heap.size, 1, none⟩ = some (.slice ad n cp) := by rw [(bcell hb1).1 _ _ (by simp <;> omega), old_box (by simp <;> omega)]; first | (rw [new_at (by simp)]; rfl) | simp
  have c1_2 : v1.cell? ⟨w.heap.size + 1, 0, none⟩ = some (.int .i64 N') := by rw [(bcell hb1).1 _ _ (by simp)]; first | (rw [new_at (by simp)]; rfl) | simp
  have c1_3 : v1.cell? ⟨w.heap.size + 1, 1, none⟩ = some (.slice bd n' cq) := by rw [(bcell hb1).1 _ _ (by simp)]; first | (rw [new_at (by simp)]; rfl) | simp
  have B1 : Hid (Below w.heap.size w v1) := st1
  have R1_0 : Hid (Row 3 v1 (lo) (hi) (.slice ad n cp) n (flat L)) := HR.out.below st1 (by omega)
  have R1_1 : Hid (Row 3 v1 (lo') (hi') (.slice bd n' cq) n' (flat L')) := HR'.out.below st1 (by omega)
  have d1_0 : w.heap.size < v1.heap.size := by omega
  have e1_0 : w.heap.size ≠ v1.heap.size := by omega
  have d1_1 : w.heap.size + 1 < v1.heap.size := by omega
  have e1_1 : w.heap.size + 1 ≠ v1.heap.size := by omega
  clear st1 HR HR' hb1
  go_wp2_with fail
  go_at_call 53
  refine (igok_any N' lo' hi' n' _ L' _ hL' R1_1.out (by omega)).mono ?_
  rw [Hn.out.2.1]
  rintro e v2 ⟨rfl, hb2⟩
  have sz2 : v1.heap.size ≤ v2.heap.size := hb2.size
  have st2 : Below v1.heap.size v1 v2 := hb2
  have c2_0 : v2.cell? ⟨w.heap.size, 0, none⟩ = some (.int .i64 N) := by rw [(bcell st2).1 _ _ (by omega)]; exact c1_0
  have c2_1 : v2.cell? ⟨w.heap.size, 1, none⟩ = some (.slice ad n cp) := by rw [(bcell st2).1 _ _ (by omega)]; exact c1_1
  have c2_2 : v2.cell? ⟨w.heap.size + 1, 0, none⟩ = some (.int .i64 N') := by rw [(bcell st2).1 _ _ (by omega)]; exact c1_2
  have c2_3 : v2.cell? ⟨w.heap.size + 1, 1, none⟩ = some (.slice bd n' cq) := by rw [(bcell st2).1 _ _ (by omega)]; exact c1_3
  have B2 : Hid (Below w.heap.size w v2) := B1.out.trans (st2.mono (by omega))
  have R2_0 : Hid (Row 3 v2 (lo) (hi) (.slice ad n cp) n (flat L)) := R1_0.out.below st2 (by omega)
  have R2_1 : Hid (Row 3 v2 (lo') (hi') (.slice bd n' cq) n' (flat L')) := R1_1.out.below st2 (by omega)
  have d2_0 : w.heap.size < v2.heap.size := by omega
  have e2_0 : w.heap.size ≠ v2.heap.size := by omega
  have d2_1 : w.heap.size + 1 < v2.heap.size := by omega
  have e2_1 : w.heap.size + 1 ≠ v2.heap.size := by omega
  clear d1_0 e1_0 d1_1 e1_1 c1_0 c1_1 c1_2 c1_3 B1 st2 R1_0 R1_1 hb2
  go_wp2_with fail
  go_ret
  exact ⟨_, rfl, Row.empty 1 _ _ _ _ _, B2.out⟩

set_option maxRecDepth 100000 in
set_option maxHeartbeats 2400000 in
theorem ich_no3 (lo hi n : Nat) (v : Value) (L : List Ed) (N : Int) (lo' hi' n' : Nat) (v' : Value) (L' : List Ed) (N' x : Int) (w : World) (hL : L.length = n) (hr : Row 3 w lo hi v n (flat L)) (hh : hi ≤ w.heap.size) (hL' : L'.length = n') (hr' : Row 3 w lo' hi' v' n' (flat L')) (hh' : hi' ≤ w.heap.size) (hn : gok N L = true ∧ gok N' L' = true ∧ N = N' ∧ ndB N x = false) :
    Calls Try.prog 46 #[.agg #[.int .i64 N, v], .agg #[.int .i64 N', v'], .int .i64 x] w (LiPost [] w) := by
  have HR := Lib.hid hr
  have HR' := Lib.hid hr'
  have Hn := Lib.hid hn
  obtain ⟨ad, cp, rfl⟩ := hr.slice
  obtain ⟨bd, cq, rfl⟩ := hr'.slice
  clear hr hr' hn
  have ee := Hn.out.2.2.1
  subst ee
  go_enter Try.func46, Try.ntmps46
  go_wp2_with fail
  go_at_call 53
  refine (igok_any N lo hi n _ L _ hL (HR.out.below (B := w.heap.size) (by go_grown) (by omega)) (by simp; omega)).mono ?_
  rw [Hn.out.1]
  rintro e v1 ⟨rfl, hb1⟩
  have sz1 : w.heap.size + 2 ≤ v1.heap.size := by have hh := hb1.size; simp at hh; omega
  have st1 : Below w.heap.size w v1 := Below.trans (by go_grown) (hb1.mono (by simp <;> omega))
  have c1_0 : v1.cell? ⟨w.heap.size, 0, none⟩ = some (.int .i64 N) := by rw [(bcell hb1).1 _ _ (by simp <;> omega), old_box (by simp <;> omega)]; first | (rw [new_at (by simp)]; rfl) | simp
  have c1_1 : v1.cell? ⟨w.heap.size, 1, none⟩ = some (.slice ad n cp) := by rw [(bcell hb1).1 _ _ (by simp <;> omega), old_box (by simp <;> omega)]; first | (rw [new_at (by simp)]; rfl) | simp
  have c1_2 : v1.cell? ⟨w.heap.size + 1, 0, none⟩ = some (.int .i64 N) := by rw [(bcell hb1).1 _ _ (by simp)]; first | (rw [new_at (by simp)]; rfl) | simp
  have c1_3 : v1.cell? ⟨w.heap.size + 1, 1, none⟩ = some (.slice bd n' cq) := by rw [(bcell hb1).1 _ _ (by simp)]; first | (rw [new_at (by simp)]; rfl) | simp
  have B1 : Hid (Below w.heap.size w v1) := st1
  have R1_0 : Hid (Row 3 v1 (lo) (hi) (.slice ad n cp) n (flat L)) := HR.out.below st1 (by omega)
  have R1_1 : Hid (Row 3 v1 (lo') (hi') (.slice bd n' cq) n' (flat L')) := HR'.out.below st1 (by omega)
  have d1_0 : w.heap.size < v1.heap.size := by omega
  have e1_0 : w.heap.size ≠ v1.heap.size := by omega
  have d1_1 : w.heap.size + 1 < v1.heap.size := by omega
  have e1_1 : w.heap.size + 1 ≠ v1.heap.size := by omega
  clear st1 HR HR' hb1
  go_wp2_with fail
  go_at_call 53
  refine (igok_any N lo' hi' n' _ L' _ hL' R1_1.out (by omega)).mono ?_
  rw [Hn.out.2.1]
  rintro e v2 ⟨rfl, hb2⟩
  have sz2 : v1.heap.size ≤ v2.heap.size := hb2.size
  have st2 : Below v1.heap.size v1 v2 := hb2
  have c2_0 : v2.cell? ⟨w.heap.size, 0, none⟩ = some (.int .i64 N) := by rw [(bcell st2).1 _ _ (by omega)]; exact c1_0
  have c2_1 : v2.cell? ⟨w.heap.size, 1, none⟩ = some (.slice ad n cp) := by rw [(bcell st2).1 _ _ (by omega)]; exact c1_1
  have c2_2 : v2.cell? ⟨w.heap.size + 1, 0, none⟩ = some (.int .i64 N) := by rw [(bcell st2).1 _ _ (by omega)]; exact c1_2
  have c2_3 : v2.cell? ⟨w.heap.size + 1, 1, none⟩ = some (.slice bd n' cq) := by rw [(bcell st2).1 _ _ (by omega)]; exact c1_3
  have B2 : Hid (Below w.heap.size w v2) := B1.out.trans (st2.mono (by omega))
  have R2_0 : Hid (Row 3 v2 (lo) (hi) (.slice ad n cp) n (flat L)) := R1_0.out.below st2 (by omega)
  have R2_1 : Hid (Row 3 v2 (lo') (hi') (.slice bd n' cq) n' (flat L')) := R1_1.out.below st2 (by omega)
  have d2_0 : w.heap.size < v2.heap.size := by omega
  have e2_0 : w.heap.size ≠ v2.heap.size := by omega
  have d2_1 : w.heap.size + 1 < v2.heap.size := by omega
  have e2_1 : w.heap.size + 1 ≠ v2.heap.size := by omega
  clear d1_0 e1_0 d1_1 e1_1 c1_0 c1_1 c1_2 c1_3 B1 st2 R1_0 R1_1 hb2
  go_wp2_with fail
  go_at_call 54
  refine (hasNode_any N _ _ _ x _).mono ?_
  rw [Hn.out.2.2.2]
  rintro e v3 ⟨rfl, hb3⟩
  have sz3 : v2.heap.size ≤ v3.heap.size := hb3.size
  have st3 : Below v2.heap.size v2 v3 := hb3
  have c3_0 : v3.cell? ⟨w.heap.size, 0, none⟩ = some (.int .i64 N) := by rw [(bcell st3).1 _ _ (by omega)]; exact c2_0
  have c3_1 : v3.cell? ⟨w.heap.size, 1, none⟩ = some (.slice ad n cp) := by rw [(bcell st3).1 _ _ (by omega)]; exact c2_1
  have c3_2 : v3.cell? ⟨w.heap.size + 1, 0, none⟩ = some (.int .i64 N) := by rw [(bcell st3).1 _ _ (by omega)]; exact c2_2
  have c3_3 : v3.cell? ⟨w.heap.size + 1, 1, none⟩ = some (.slice bd n' cq) := by rw [(bcell st3).1 _ _ (by omega)]; exact c2_3
  have B3 : Hid (Below w.heap.size w v3) := B2.out.trans (st3.mono (by omega))
  have R3_0 : Hid (Row 3 v3 (lo) (hi) (.slice ad n cp) n (flat L)) := R2_0.out.below st3 (by omega)
  have R3_1 : Hid (Row 3 v3 (lo') (hi') (.slice bd n' cq) n' (flat L')) := R2_1.out.below st3 (by omega)
  have d3_0 : w.heap.size < v3.heap.size := by omega
  have e3_0 : w.heap.size ≠ v3.heap.size := by omega
  have d3_1 : w.heap.size + 1 < v3.heap.size := by omega
  have e3_1 : w.heap.size + 1 ≠ v3.heap.size := by omega
  clear d2_0 e2_0 d2_1 e2_1 c2_0 c2_1 c2_2 c2_3 B2 st3 R2_0 R2_1 hb3
  go_wp2_with fail
  go_ret
  exact ⟨_, rfl, Row.empty 1 _ _ _ _ _, B3.out⟩

set_option maxRecDepth 100000 in
set_option maxHeartbeats 2400000 in
theorem sch_no0 (lo hi n : Nat) (v : Value) (L : List Ed) (N : Int) (lo' hi' n' : Nat) (v' : Value) (L' : List Ed) (N' x : Int) (w : World) (hL : L.length = n) (hr : Row 3 w lo hi v n (flat L)) (hh : hi ≤ w.heap.size) (_hL' : L'.length = n') (hr' : Row 3 w lo' hi' v' n' (flat L')) (hh' : hi' ≤ w.heap.size) (hn : gok N L = false) :
    Calls Try.prog 45 #[.agg #[.int .i64 N, v], .agg #[.int .i64 N', v'], .int .i64 x] w (LiPost [] w) := by
  have HR := Lib.hid hr
  have HR' := Lib.hid hr'
  have Hn := Lib.hid hn
  obtain ⟨ad, cp, rfl⟩ := hr.slice
  obtain ⟨bd, cq, rfl⟩ := hr'.slice
  clear hr hr' hn
  go_enter Try.func45, Try.ntmps45
  go_wp2_with fail
  go_at_call 50
  refine (sgok_any N lo hi n _ L _ hL (HR.out.below (B := w.heap.size) (by go_grown) (by omega)) (by simp; omega)).mono ?_
  rw [Hn.out]
  rintro e v1 ⟨rfl, hb1⟩
  have sz1 : w.heap.size + 3 ≤ v1.heap.size := by have hh := hb1.size; simp at hh; omega
  have st1 : Below w.heap.size w v1 := Below.trans (by go_grown) (hb1.mono (by simp <;> omega))
  have c1_0 : v1.cell? ⟨w.heap.size, 0, none⟩ = some (.int .i64 N) := by rw [(bcell hb1).1 _ _ (by simp <;> omega), old_box (by simp <;> omega), old_box (by simp <;> omega)]; first | (rw [new_at (by simp)]; rfl) | simp
  have c1_1 : v1.cell? ⟨w.heap.size, 1, none⟩ = some (.slice ad n cp) := by rw [(bcell hb1).1 _ _ (by simp <;> omega), old_box (by simp <;> omega), old_box (by simp <;> omega)]; first | (rw [new_at (by simp)]; rfl) | simp
  have c1_2 : v1.cell? ⟨w.heap.size + 1, 0, none⟩ = some (.int .i64 N') := by rw [(bcell hb1).1 _ _ (by simp <;> omega), old_box (by simp <;> omega)]; first | (rw [new_at (by simp)]; rfl) | simp
  have c1_3 : v1.cell? ⟨w.heap.size + 1, 1, none⟩ = some (.slice bd n' cq) := by rw [(bcell hb1).1 _ _ (by simp <;> omega), old_box (by simp <;> omega)]; first | (rw [new_at (by simp)]; rfl) | simp
  have B1 : Hid (Below w.heap.size w v1) := st1
  have R1_0 : Hid (Row 3 v1 (lo) (hi) (.slice ad n cp) n (flat L)) := HR.out.below st1 (by omega)
  have R1_1 : Hid (Row 3 v1 (lo') (hi') (.slice bd n' cq) n' (flat L')) := HR'.out.below st1 (by omega)
  have d1_0 : w.heap.size < v1.heap.size := by omega
  have e1_0 : w.heap.size ≠ v1.heap.size := by omega
  have d1_1 : w.heap.size + 1 < v1.heap.size := by omega
  have e1_1 : w.heap.size + 1 ≠ v1.heap.size := by omega
  clear st1 HR HR' hb1
  go_wp2_with fail
  go_ret
  exact ⟨_, rfl, Row.empty 1 _ _ _ _ _, B1.out⟩

set_option maxRecDepth 100000 in
set_option maxHeartbeats 2400000 in
theorem sch_no1 (lo hi n : Nat) (v : Value) (L : List Ed) (N : Int) (lo' hi' n' : Nat) (v' : Value) (L' : List Ed) (N' x : Int) (w : World) (hL : L.length = n) (hr : Row 3 w lo hi v n (flat L)) (hh : hi ≤ w.heap.size) (hL' : L'.length = n') (hr' : Row 3 w lo' hi' v' n' (flat L')) (hh' : hi' ≤ w.heap.size) (hn : gok N L = true ∧ gok N' L' = false) :
    Calls Try.prog 45 #[.agg #[.int .i64 N, v], .agg #[.int .i64 N', v'], .int .i64 x] w (LiPost [] w) := by
  have HR := Lib.hid hr
  have HR' := Lib.hid hr'
  have Hn := Lib.hid hn
  obtain ⟨ad, cp, rfl⟩ := hr.slice
  obtain ⟨bd, cq, rfl⟩ := hr'.slice
  clear hr hr' hn
  go_enter Try.func45, Try.ntmps45
  go_wp2_with fail
  go_at_call 50
  refine (sgok_any N lo hi n _ L _ hL (HR.out.below (B := w.heap.size) (by go_grown) (by omega)) (by simp; omega)).mono ?_
  rw [Hn.out.1]
  rintro e v1 ⟨rfl, hb1⟩
  have sz1 : w.heap.size + 3 ≤ v1.heap.size := by have hh := hb1.size; simp at hh; omega
  have st1 : Below w.heap.size w v1 := Below.trans (by go_grown) (hb1.mono (by simp <;> omega))
  have c1_0 : v1.cell? ⟨w.heap.size, 0, none⟩ = some (.int .i64 N) := by rw [(bcell hb1).1 _ _ (by simp <;> omega), old_box (by simp <;> omega), old_box (by simp <;> omega)]; first | (rw [new_at (by simp)]; rfl) | simp
  have c1_1 : v1.cell? ⟨w.heap.size, 1, none⟩ = some (.slice ad n cp) := by rw [(bcell hb1).1 _ _ (by simp <;> omega), old_box (by simp <;> omega), old_box (by simp <;> omega)]; first | (rw [new_at (by simp)]; rfl) | simp
  have c1_2 : v1.cell? ⟨w.heap.size + 1, 0, none⟩ = some (.int .i64 N') := by rw [(bcell hb1).1 _ _ (by simp <;> omega), old_box (by simp <;> omega)]; first | (rw [new_at (by simp)]; rfl) | simp
  have c1_3 : v1.cell? ⟨w.heap.size + 1, 1, none⟩ = some (.slice bd n' cq) := by rw [(bcell hb1).1 _ _ (by simp <;> omega), old_box (by simp <;> omega)]; first | (rw [new_at (by simp)]; rfl) | simp
  have B1 : Hid (Below w.heap.size w v1) := st1
  have R1_0 : Hid (Row 3 v1 (lo) (hi) (.slice ad n cp) n (flat L)) := HR.out.below st1 (by omega)
  have R1_1 : Hid (Row 3 v1 (lo') (hi') (.slice bd n' cq) n' (flat L')) := HR'.out.below st1 (by omega)
  have d1_0 : w.heap.size < v1.heap.size := by omega
  have e1_0 : w.heap.size ≠ v1.heap.size := by omega
  have d1_1 : w.heap.size + 1 < v1.heap.size := by omega
  have e1_1 : w.heap.size + 1 ≠ v1.heap.size := by omega
  clear st1 HR HR' hb1
  go_wp2_with fail
  go_at_call 50
  refine (sgok_any N' lo' hi' n' _ L' _ hL' R1_1.out (by omega)).mono ?_
  rw [Hn.out.2]
  rintro e v2 ⟨rfl, hb2⟩
  have sz2 : v1.heap.size ≤ v2.heap.size := hb2.size
  have st2 : Below v1.heap.size v1 v2 := hb2
  have c2_0 : v2.cell? ⟨w.heap.size, 0, none⟩ = some (.int .i64 N) := by rw [(bcell st2).1 _ _ (by omega)]; exact c1_0
  have c2_1 : v2.cell? ⟨w.heap.size, 1, none⟩ = some (.slice ad n cp) := by rw [(bcell st2).1 _ _ (by omega)]; exact c1_1
  have c2_2 : v2.cell? ⟨w.heap.size + 1, 0, none⟩ = some (.int .i64 N') := by rw [(bcell st2).1 _ _ (by omega)]; exact c1_2
  have c2_3 : v2.cell? ⟨w.heap.size + 1, 1, none⟩ = some (.slice bd n' cq) := by rw [(bcell st2).1 _ _ (by omega)]; exact c1_3
  have B2 : Hid (Below w.heap.size w v2) := B1.out.trans (st2.mono (by omega))
  have R2_0 : Hid (Row 3 v2 (lo) (hi) (.slice ad n cp) n (flat L)) := R1_0.out.below st2 (by omega)
  have R2_1 : Hid (Row 3 v2 (lo') (hi') (.slice bd n' cq) n' (flat L')) := R1_1.out.below st2 (by omega)
  have d2_0 : w.heap.size < v2.heap.size := by omega
  have e2_0 : w.heap.size ≠ v2.heap.size := by omega
  have d2_1 : w.heap.size + 1 < v2.heap.size := by omega
  have e2_1 : w.heap.size + 1 ≠ v2.heap.size := by omega
  clear d1_0 e1_0 d1_1 e1_1 c1_0 c1_1 c1_2 c1_3 B1 st2 R1_0 R1_1 hb2
  go_wp2_with fail
  go_ret
  exact ⟨_, rfl, Row.empty 1 _ _ _ _ _, B2.out⟩

set_option maxRecDepth 100000 in
set_option maxHeartbeats 2400000 in
theorem sch_no2 (lo hi n : Nat) (v : Value) (L : List Ed) (N : Int) (lo' hi' n' : Nat) (v' : Value) (L' : List Ed) (N' x : Int) (w : World) (hL : L.length = n) (hr : Row 3 w lo hi v n (flat L)) (hh : hi ≤ w.heap.size) (hL' : L'.length = n') (hr' : Row 3 w lo' hi' v' n' (flat L')) (hh' : hi' ≤ w.heap.size) (hn : gok N L = true ∧ gok N' L' = true ∧ ¬ (N = N')) :
    Calls Try.prog 45 #[.agg #[.int .i64 N, v], .agg #[.int .i64 N', v'], .int .i64 x] w (LiPost [] w) := by
  have HR := Lib.hid hr
  have HR' := Lib.hid hr'
  have Hn := Lib.hid hn
  obtain ⟨ad, cp, rfl⟩ := hr.slice
  obtain ⟨bd, cq, rfl⟩ := hr'.slice
  clear hr hr' hn
  have e0 : ¬ (N = N') := Hn.out.2.2
  have e1 : (N == N') = false := by simp [e0]
  have e2 : (N != N') = true := by simp [e0]
  go_enter Try.func45, Try.ntmps45
  go_wp2_with fail
  go_at_call 50
  refine (sgok_any N lo hi n _ L _ hL (HR.out.below (B := w.heap.size) (by go_grown) (by omega)) (by simp; omega)).mono ?_
  rw [Hn.out.1]
  rintro e v1 ⟨rfl, hb1⟩
  have sz1 : w.heap.size + 3 ≤ v1.heap.size := by have hh := hb1.size; simp at hh; omega
  have st1 : Below w.heap.size w v1 := Below.trans (by go_grown) (hb1.mono (by simp <;> omega))
  have c1_0 : v1.cell? ⟨w.heap.size, 0, none⟩ = some (.int .i64 N) := by rw [(bcell hb1).1 _ _ (by simp <;> omega), old_box (by simp <;> omega), old_box (by simp <;> omega)]; first | (rw [new_at (by simp)]; rfl) | simp
  have c1_1 : v1.cell? ⟨w.heap.size, 1, none⟩ = some (.slice ad n cp) := by rw [(bcell hb1).1 _ _ (by simp <;> omega), old_box (by simp <;> omega), old_box (by simp <;> omega)]; first | (rw [new_at (by simp)]; rfl) | simp
  have c1_2 : v1.cell? ⟨w.heap.size + 1, 0, none⟩ = some (.int .i64 N') := by rw [(bcell hb1).1 _ _ (by simp <;> omega), old_box (by simp <;> omega)]; first | (rw [new_at (by simp)]; rfl) | simp
  have c1_3 : v1.cell? ⟨w.heap.size + 1, 1, none⟩ = some (.slice bd n' cq) := by rw [(bcell hb1).1 _ _ (by simp <;> omega), old_box (by simp <;> omega)]; first | (rw [new_at (by simp)]; rfl) | simp
  have B1 : Hid (Below w.heap.size w v1) := st1
  have R1_0 : Hid (Row 3 v1 (lo) (hi) (.slice ad n cp) n (flat L)) := HR.out.below st1 (by omega)
  have R1_1 : Hid (Row 3 v1 (lo') (hi') (.slice bd n' cq) n' (flat L')) := HR'.out.below st1 (by omega)
  have d1_0 : w.heap.size < v1.heap.size := by omega
  have e1_0 : w.heap.size ≠ v1.heap.size := by omega
  have d1_1 : w.heap.size + 1 < v1.heap.size := by omega
  have e1_1 : w.heap.size + 1 ≠ v1.heap.size := by omega
  clear st1 HR HR' hb1
  go_wp2_with fail
  go_at_call 50
  refine (sgok_any N' lo' hi' n' _ L' _ hL' R1_1.out (by omega)).mono ?_
  rw [Hn.out.2.1]
  rintro e v2 ⟨rfl, hb2⟩
  have sz2 : v1.heap.size ≤ v2.heap.size := hb2.size
  have st2 : Below v1.heap.size v1 v2 := hb2
  have c2_0 : v2.cell? ⟨w.heap.size, 0, none⟩ = some (.int .i64 N) := by rw [(bcell st2).1 _ _ (by omega)]; exact c1_0
  have c2_1 : v2.cell? ⟨w.heap.size, 1, none⟩ = some (.slice ad n cp) := by rw [(bcell st2).1 _ _ (by omega)]; exact c1_1
  have c2_2 : v2.cell? ⟨w.heap.size + 1, 0, none⟩ = some (.int .i64 N') := by rw [(bcell st2).1 _ _ (by omega)]; exact c1_2
  have c2_3 : v2.cell? ⟨w.heap.size + 1, 1, none⟩ = some (.slice bd n' cq) := by rw [(bcell st2).1 _ _ (by omega)]; exact c1_3
  have B2 : Hid (Below w.heap.size w v2) := B1.out.trans (st2.mono (by omega))
  have R2_0 : Hid (Row 3 v2 (lo) (hi) (.slice ad n cp) n (flat L)) := R1_0.out.below st2 (by omega)
  have R2_1 : Hid (Row 3 v2 (lo') (hi') (.slice bd n' cq) n' (flat L')) := R1_1.out.below st2 (by omega)
  have d2_0 : w.heap.size < v2.heap.size := by omega
  have e2_0 : w.heap.size ≠ v2.heap.size := by omega
  have d2_1 : w.heap.size + 1 < v2.heap.size := by omega
  have e2_1 : w.heap.size + 1 ≠ v2.heap.size := by omega
  clear d1_0 e1_0 d1_1 e1_1 c1_0 c1_1 c1_2 c1_3 B1 st2 R1_0 R1_1 hb2
  go_wp2_with fail
  go_ret
  exact ⟨_, rfl, Row.empty 1 _ _ _ _ _, B2.out⟩

set_option maxRecDepth 100000 in
set_option maxHeartbeats 2400000 in
theorem sch_no3 (lo hi n : Nat) (v : Value) (L : List Ed) (N : Int) (lo' hi' n' : Nat) (v' : Value) (L' : List Ed) (N' x : Int) (w : World) (hL : L.length = n) (hr : Row 3 w lo hi v n (flat L)) (hh : hi ≤ w.heap.size) (hL' : L'.length = n') (hr' : Row 3 w lo' hi' v' n' (flat L')) (hh' : hi' ≤ w.heap.size) (hn : gok N L = true ∧ gok N' L' = true ∧ N = N' ∧ ndB N x = false) :
    Calls Try.prog 45 #[.agg #[.int .i64 N, v], .agg #[.int .i64 N', v'], .int .i64 x] w (LiPost [] w) := by
  have HR := Lib.hid hr
  have HR' := Lib.hid hr'
  have Hn := Lib.hid hn
  obtain ⟨ad, cp, rfl⟩ := hr.slice
  obtain ⟨bd, cq, rfl⟩ := hr'.slice
  clear hr hr' hn
  have ee := Hn.out.2.2.1
  subst ee
  have hN1 := (gok_parts Hn.out.1).1
  have hN2 := (gok_parts Hn.out.1).2.1
  go_enter Try.func45, Try.ntmps45
  go_wp2_with fail
  go_at_call 50
  refine (sgok_any N lo hi n _ L _ hL (HR.out.below (B := w.heap.size) (by go_grown) (by omega)) (by simp; omega)).mono ?_
  rw [Hn.out.1]
  rintro e v1 ⟨rfl, hb1⟩
  have sz1 : w.heap.size + 3 ≤ v1.heap.size := by have hh := hb1.size; simp at hh; omega
  have st1 : Below w.heap.size w v1 := Below.trans (by go_grown) (hb1.mono (by simp <;> omega))
  have c1_0 : v1.cell? ⟨w.heap.size, 0, none⟩ = some (.int .i64 N) := by rw [(bcell hb1).1 _ _ (by simp <;> omega), old_box (by simp <;> omega), old_box (by simp <;> omega)]; first | (rw [new_at (by simp)]; rfl) | simp
  have c1_1 : v1.cell? ⟨w.heap.size, 1, none⟩ = some (.slice ad n cp) := by rw [(bcell hb1).1 _ _ (by simp <;> omega), old_box (by simp <;> omega), old_box (by simp <;> omega)]; first | (rw [new_at (by simp)]; rfl) | simp
  have c1_2 : v1.cell? ⟨w.heap.size + 1, 0, none⟩ = some (.int .i64 N) := by rw [(bcell hb1).1 _ _ (by simp <;> omega), old_box (by simp <;> omega)]; first | (rw [new_at (by simp)]; rfl) | simp
  have c1_3 : v1.cell? ⟨w.heap.size + 1, 1, none⟩ = some (.slice bd n' cq) := by rw [(bcell hb1).1 _ _ (by simp <;> omega), old_box (by simp <;> omega)]; first | (rw [new_at (by simp)]; rfl) | simp
  have B1 : Hid (Below w.heap.size w v1) := st1
  have R1_0 : Hid (Row 3 v1 (lo) (hi) (.slice ad n cp) n (flat L)) := HR.out.below st1 (by omega)
  have R1_1 : Hid (Row 3 v1 (lo') (hi') (.slice bd n' cq) n' (flat L')) := HR'.out.below st1 (by omega)
  have d1_0 : w.heap.size < v1.heap.size := by omega
  have e1_0 : w.heap.size ≠ v1.heap.size := by omega
  have d1_1 : w.heap.size + 1 < v1.heap.size := by omega
  have e1_1 : w.heap.size + 1 ≠ v1.heap.size := by omega
  clear st1 HR HR' hb1
  go_wp2_with fail
  go_at_call 50
  refine (sgok_any N lo' hi' n' _ L' _ hL' R1_1.out (by omega)).mono ?_
  rw [Hn.out.2.1]
  rintro e v2 ⟨rfl, hb2⟩
  have sz2 : v1.heap.size ≤ v2.heap.size := hb2.size
  have st2 : Below v1.heap.size v1 v2 := hb2
  have c2_0 : v2.cell? ⟨w.heap.size, 0, none⟩ = some (.int .i64 N) := by rw [(bcell st2).1 _ _ (by omega)]; exact c1_0
  have c2_1 : v2.cell? ⟨w.heap.size, 1, none⟩ = some (.slice ad n cp) := by rw [(bcell st2).1 _ _ (by omega)]; exact c1_1
  have c2_2 : v2.cell? ⟨w.heap.size + 1, 0, none⟩ = some (.int .i64 N) := by rw [(bcell st2).1 _ _ (by omega)]; exact c1_2
  have c2_3 : v2.cell? ⟨w.heap.size + 1, 1, none⟩ = some (.slice bd n' cq) := by rw [(bcell st2).1 _ _ (by omega)]; exact c1_3
  have B2 : Hid (Below w.heap.size w v2) := B1.out.trans (st2.mono (by omega))
  have R2_0 : Hid (Row 3 v2 (lo) (hi) (.slice ad n cp) n (flat L)) := R1_0.out.below st2 (by omega)
  have R2_1 : Hid (Row 3 v2 (lo') (hi') (.slice bd n' cq) n' (flat L')) := R1_1.out.below st2 (by omega)
  have d2_0 : w.heap.size < v2.heap.size := by omega
  have e2_0 : w.heap.size ≠ v2.heap.size := by omega
  have d2_1 : w.heap.size + 1 < v2.heap.size := by omega
  have e2_1 : w.heap.size + 1 ≠ v2.heap.size := by omega
  clear d1_0 e1_0 d1_1 e1_1 c1_0 c1_1 c1_2 c1_3 B1 st2 R1_0 R1_1 hb2
  go_wp2_with fail
  go_at_call 51
  refine (node_any N _ _ _ x _ hN1 hN2).mono ?_
  rw [Hn.out.2.2.2]
  rintro e v3 ⟨rfl, hb3⟩
  have sz3 : v2.heap.size ≤ v3.heap.size := hb3.size
  have st3 : Below v2.heap.size v2 v3 := hb3
  have c3_0 : v3.cell? ⟨w.heap.size, 0, none⟩ = some (.int .i64 N) := by rw [(bcell st3).1 _ _ (by omega)]; exact c2_0
  have c3_1 : v3.cell? ⟨w.heap.size, 1, none⟩ = some (.slice ad n cp) := by rw [(bcell st3).1 _ _ (by omega)]; exact c2_1
  have c3_2 : v3.cell? ⟨w.heap.size + 1, 0, none⟩ = some (.int .i64 N) := by rw [(bcell st3).1 _ _ (by omega)]; exact c2_2
  have c3_3 : v3.cell? ⟨w.heap.size + 1, 1, none⟩ = some (.slice bd n' cq) := by rw [(bcell st3).1 _ _ (by omega)]; exact c2_3
  have B3 : Hid (Below w.heap.size w v3) := B2.out.trans (st3.mono (by omega))
  have R3_0 : Hid (Row 3 v3 (lo) (hi) (.slice ad n cp) n (flat L)) := R2_0.out.below st3 (by omega)
  have R3_1 : Hid (Row 3 v3 (lo') (hi') (.slice bd n' cq) n' (flat L')) := R2_1.out.below st3 (by omega)
  have d3_0 : w.heap.size < v3.heap.size := by omega
  have e3_0 : w.heap.size ≠ v3.heap.size := by omega
  have d3_1 : w.heap.size + 1 < v3.heap.size := by omega
  have e3_1 : w.heap.size + 1 ≠ v3.heap.size := by omega
  clear d2_0 e2_0 d2_1 e2_1 c2_0 c2_1 c2_2 c2_3 B2 st3 R2_0 R2_1 hb3
  go_wp2_with fail
  go_ret
  exact ⟨_, rfl, Row.empty 1 _ _ _ _ _, B3.out⟩

set_option maxRecDepth 100000 in
set_option maxHeartbeats 4000000 in
theorem sch_yes (M : Nat) (lo hi n : Nat) (v : Value) (L : List Ed) (s : Nat) (lo' hi' n' : Nat) (v' : Value) (L' : List Ed) (hs : s < M) (w : World) (hL : L.length = n) (hr : Row 3 w lo hi v n (flat L)) (hh : hi ≤ w.heap.size) (hL' : L'.length = n') (hr' : Row 3 w lo' hi' v' n' (flat L')) (hh' : hi' ≤ w.heap.size) (hG : gok (M : Int) L = true) (hG' : gok (M : Int) L' = true) :
    Calls Try.prog 45 #[.agg #[.int .i64 (M : Int), v], .agg #[.int .i64 (M : Int), v'], .int .i64 (s : Int)] w (LiPost (chK (M : Int) L L' (s : Int) M) w) := by
  have HR := Lib.hid hr
  have HR' := Lib.hid hr'
  have HG := Lib.hid hG
  have HG' := Lib.hid hG'
  have HL := Lib.hid hL
  have HL' := Lib.hid hL'
  have hN1 := (gok_parts hG).1
  have hN2 := (gok_parts hG).2.1
  have hns : ndB (M : Int) (s : Int) = true := by unfold ndB; rw [inB_iff]; omega
  obtain ⟨ad, cp, rfl⟩ := hr.slice
  obtain ⟨bd, cq, rfl⟩ := hr'.slice
  obtain ⟨i3, hi3, hz0, hz1, hz2⟩ := info_parts Try.info3
  have I := Lib.hid (And.intro hi3 (And.intro hz0 (And.intro hz1 hz2)))
  clear hr hr' hG hG' hL hL' hi3 hz0 hz1 hz2
  go_enter Try.func45, Try.ntmps45
  go_wp2_with fail
  obtain ⟨v0, hv0⟩ : ∃ v0, v0 = (w.alloc (.cells #[.int .i64 (M : Int), .slice ad n cp] 30)).alloc (.cells #[.int .i64 (M : Int), .slice bd n' cq] 30) := ⟨_, rfl⟩
  have hv0s : v0.heap.size = w.heap.size + 1 + 1 := by rw [hv0]; simp
  have hwv : w.heap.size < v0.heap.size := by omega
  have hwv' : w.heap.size + 1 < v0.heap.size := by omega
  have K0 : Hid (v0.cell? ⟨w.heap.size, 0, none⟩ = some (.int .i64 (M : Int))) := by rw [hv0]; show _ = _; rw [old_box (by simp)]; simp
  have K1 : Hid (v0.cell? ⟨w.heap.size, 1, none⟩ = some (.slice ad n cp)) := by rw [hv0]; show _ = _; rw [old_box (by simp)]; simp
  have K2 : Hid (v0.cell? ⟨w.heap.size + 1, 0, none⟩ = some (.int .i64 (M : Int))) := by rw [hv0]; show _ = _; first | (rw [new_at (by simp)]; rfl) | simp
  have K3 : Hid (v0.cell? ⟨w.heap.size + 1, 1, none⟩ = some (.slice bd n' cq)) := by rw [hv0]; show _ = _; first | (rw [new_at (by simp)]; rfl) | simp
  have HBv : Hid (Below w.heap.size w v0) := by rw [hv0]; show Below _ _ _; go_grown
  have HRv : Hid (Row 3 v0 lo hi (.slice ad n cp) n (flat L)) := HR.out.below HBv.out (by omega)
  have HRv' : Hid (Row 3 v0 lo' hi' (.slice bd n' cq) n' (flat L')) := HR'.out.below HBv.out (by omega)
  obtain ⟨v1, hv1⟩ : ∃ v1, v1 = v0.alloc (.cells #[] 3) := ⟨_, rfl⟩
  have HO : Hid (OwnI v0 v1 (.slice (some ⟨v0.heap.size, 0, none⟩) 0 0) 0 []) := by rw [hv1]; exact Lib.hid (OwnI.lit0 v0)
  rw [← hv0]
  rw [← hv1]
  rw [hv0s] at HO
  have HV := Lib.hid hv0s
  have k0 : v1.cell? ⟨w.heap.size, 0, none⟩ = some (.int .i64 (M : Int)) := by rw [HO.out.below.cell (p := ⟨w.heap.size, 0, none⟩) hwv]; exact K0.out
  have k1 : v1.cell? ⟨w.heap.size, 1, none⟩ = some (.slice ad n cp) := by rw [HO.out.below.cell (p := ⟨w.heap.size, 1, none⟩) hwv]; exact K1.out
  have k2 : v1.cell? ⟨w.heap.size + 1, 0, none⟩ = some (.int .i64 (M : Int)) := by rw [HO.out.below.cell (p := ⟨w.heap.size + 1, 0, none⟩) hwv']; exact K2.out
  have k3 : v1.cell? ⟨w.heap.size + 1, 1, none⟩ = some (.slice bd n' cq) := by rw [HO.out.below.cell (p := ⟨w.heap.size + 1, 1, none⟩) hwv']; exact K3.out
  have hs1 := HO.out.below.size
  have HR1 : Hid (Row 3 v1 lo hi (.slice ad n cp) n (flat L)) := HRv.out.below HO.out.below (by rw [HV.out]; omega)
  have HR1' : Hid (Row 3 v1 lo' hi' (.slice bd n' cq) n' (flat L')) := HRv'.out.below HO.out.below (by rw [HV.out]; omega)
  have hh1 : hi ≤ v1.heap.size := by rw [HV.out] at hs1; omega
  have hh1' : hi' ≤ v1.heap.size := by rw [HV.out] at hs1; omega
  clear hv0 hv1 HR HR' hv0s
  go_at_call 50
  refine (sgok_any (M : Int) lo hi n _ L _ HL.out HR1.out hh1).mono ?_
  rw [HG.out]
  rintro e v2 ⟨rfl, hb2⟩
  have hs2 := hb2.size
  have k0 : v2.cell? ⟨w.heap.size, 0, none⟩ = some (.int .i64 (M : Int)) := by rw [hb2.cell (p := ⟨w.heap.size, 0, none⟩) (by show w.heap.size < _; omega)]; exact k0
  have k1 : v2.cell? ⟨w.heap.size, 1, none⟩ = some (.slice ad n cp) := by rw [hb2.cell (p := ⟨w.heap.size, 1, none⟩) (by show w.heap.size < _; omega)]; exact k1
  have k2 : v2.cell? ⟨w.heap.size + 1, 0, none⟩ = some (.int .i64 (M : Int)) := by rw [hb2.cell (p := ⟨w.heap.size + 1, 0, none⟩) (by show w.heap.size + 1 < _; omega)]; exact k2
  have k3 : v2.cell? ⟨w.heap.size + 1, 1, none⟩ = some (.slice bd n' cq) := by rw [hb2.cell (p := ⟨w.heap.size + 1, 1, none⟩) (by show w.heap.size + 1 < _; omega)]; exact k3
  have HO2 := Lib.hid (HO.out.grow hb2)
  have HR2' : Hid (Row 3 v2 lo' hi' (.slice bd n' cq) n' (flat L')) := HR1'.out.below hb2 hh1'
  clear hb2 HO HR1 hh1 HR1'
  go_wp2_with fail
  go_at_call 50
  refine (sgok_any (M : Int) lo' hi' n' _ L' _ HL'.out HR2'.out (by omega)).mono ?_
  rw [HG'.out]
  rintro e v3 ⟨rfl, hb3⟩
  have hs3 := hb3.size
  have k0 : v3.cell? ⟨w.heap.size, 0, none⟩ = some (.int .i64 (M : Int)) := by rw [hb3.cell (p := ⟨w.heap.size, 0, none⟩) (by show w.heap.size < _; omega)]; exact k0
  have k1 : v3.cell? ⟨w.heap.size, 1, none⟩ = some (.slice ad n cp) := by rw [hb3.cell (p := ⟨w.heap.size, 1, none⟩) (by show w.heap.size < _; omega)]; exact k1
  have k2 : v3.cell? ⟨w.heap.size + 1, 0, none⟩ = some (.int .i64 (M : Int)) := by rw [hb3.cell (p := ⟨w.heap.size + 1, 0, none⟩) (by show w.heap.size + 1 < _; omega)]; exact k2
  have HO3 := Lib.hid (HO2.out.grow hb3)
  clear hb3 HO2 HR2' k3
  go_wp2_with fail
  go_at_call 51
  refine (node_any (M : Int) _ _ _ (s : Int) _ hN1 hN2).mono ?_
  rw [hns]
  rintro e v4 ⟨rfl, hb4⟩
  have HO4 : Hid (OwnI v0 v4 (.slice (some ⟨w.heap.size + 1 + 1, 0, none⟩) 0 0) (chK (M : Int) L L' (s : Int) 0).length (chK (M : Int) L L' (s : Int) 0)) := Lib.hid (HO3.out.grow hb4)
  clear hb4 HO3 hns hs1 hs2 hs3 hh1' k0 k1 k2
  go_wp2_with fail
  go_loopw [7, 8] (fun v i wr => ∃ k : Nat, k ≤ M ∧ i = .int .i64 (k : Int) ∧ Hid (OwnI v0 wr v (chK (M : Int) L L' (s : Int) k).length (chK (M : Int) L L' (s : Int) k))) (fun _ i _ => M - (intOf i).toNat)
  case atStart => exact ⟨0, Nat.zero_le _, rfl, HO4⟩
  case round =>
    obtain ⟨k, hk, rfl, hR⟩ := hrel
    have k0 : wr.cell? ⟨w.heap.size, 0, none⟩ = some (.int .i64 (M : Int)) := by rw [hR.out.below.cell (p := ⟨w.heap.size, 0, none⟩) hwv]; exact K0.out
    have k1 : wr.cell? ⟨w.heap.size, 1, none⟩ = some (.slice ad n cp) := by rw [hR.out.below.cell (p := ⟨w.heap.size, 1, none⟩) hwv]; exact K1.out
    have k2 : wr.cell? ⟨w.heap.size + 1, 0, none⟩ = some (.int .i64 (M : Int)) := by rw [hR.out.below.cell (p := ⟨w.heap.size + 1, 0, none⟩) hwv']; exact K2.out
    have k3 : wr.cell? ⟨w.heap.size + 1, 1, none⟩ = some (.slice bd n' cq) := by rw [hR.out.below.cell (p := ⟨w.heap.size + 1, 1, none⟩) hwv']; exact K3.out
    have hsz := hR.out.below.size
    have hw0 : w.heap.size < wr.heap.size := by omega
    have hw1 : w.heap.size + 1 < wr.heap.size := by omega
    have HRw : Hid (Row 3 wr lo hi (.slice ad n cp) n (flat L)) := HRv.out.below hR.out.below (by rw [HV.out]; omega)
    have HRw' : Hid (Row 3 wr lo' hi' (.slice bd n' cq) n' (flat L')) := HRv'.out.below hR.out.below (by rw [HV.out]; omega)
    have hhw : hi ≤ wr.heap.size := by rw [HV.out] at hsz; omega
    have hhw' : hi' ≤ wr.heap.size := by rw [HV.out] at hsz; omega
    have hkl := chK_len (M : Int) L L' (s : Int) k
    have hkn := chK_succ (M : Int) L L' (s : Int) k
    obtain ⟨Z, hZ⟩ : ∃ Z, Z = chK (M : Int) L L' (s : Int) k := ⟨_, rfl⟩
    rw [← hZ] at hR hkl hkn
    have Hkn := Lib.hid hkn
    have HZ := Lib.hid hZ
    clear hZ hkn
    obtain ⟨oa, oc, hov⟩ := own_slice hR.out.row
    subst hov
    by_cases hlt : k < M
    · have q0 : (k : Int) < (M : Int) := by omega
      by_cases hc : hopsL (M : Int) L (s : Int) (k : Int) = hopsL (M : Int) L' (s : Int) (k : Int)
      · have hd := decide_eq_true hc
        have Hc := Lib.hid hc
        have Hd := Lib.hid hd
        clear hc hd
        go_wp2_with fail
        have tk0 : True := trivial
        have tk1 : True := trivial
        go_region_held3 (fun w' => w'.cell? ⟨w.heap.size, 0, none⟩ = some (.int .i64 (M : Int)) ∧ w'.cell? ⟨w.heap.size, 1, none⟩ = some (.slice ad n cp) ∧ w'.cell? ⟨w.heap.size + 1, 0, none⟩ = some (.int .i64 (M : Int)) ∧ w'.cell? ⟨w.heap.size + 1, 1, none⟩ = some (.slice bd n' cq) ∧ wr.heap.size ≤ w'.heap.size ∧ Below wr.heap.size wr w') (first | assumption | exact rr4_start k0 k1 k2 k3 | exact rr4_drew (by assumption) | exact rr4_keep (by omega) (by omega) (by omega) (by omega) (by assumption) (by assumption) | exact rr4_box (by omega) (by omega) (by omega) (by omega) (by assumption))
          (first | (go_at_call 35; clear tk0; refine (shop_any (M : Int) lo hi n _ L (s : Int) (k : Int) _ HL.out (HRw.out.below (rr4_out (by assumption)).2 (by omega)) (by have hq := (rr4_out (by assumption)).1; omega)).mono ?_; rintro e w3 ⟨y0, rfl, ry0, hb⟩; have hz3 := hb.size) | (go_at_call 35; clear tk1; refine (shop_any (M : Int) lo' hi' n' _ L' (s : Int) (k : Int) _ HL'.out (HRw'.out.below (rr4_out (by assumption)).2 (by omega)) (by have hq := (rr4_out (by assumption)).1; omega)).mono ?_; rintro e w4 ⟨y1, rfl, ry1, hb⟩; have hz4 := hb.size; have ry0 := ry0.below hb (by first | exact Nat.le_refl _ | omega)) | (go_at_call 69; refine (same_any _ _ _ _ _ _ _ _ _ _ _ ry0 ry1 (by first | exact Nat.le_refl _ | omega) (by first | exact Nat.le_refl _ | omega)).mono ?_; rw [Hd.out]; rintro e w5 ⟨rfl, hb⟩))
        have hb5 : Below wr.heap.size wr w5 := (rr4_out (by assumption)).2
        have HF : Hid (OwnI v0 w5 (.slice oa Z.length oc) (chK (M : Int) L L' (s : Int) (k + 1)).length (chK (M : Int) L L' (s : Int) (k + 1))) := by
          rw [Hkn.out, if_pos Hc.out, List.append_nil]
          exact hR.out.grow hb5
        clear hb5
        go_wp2_with fail
        go_roundw
        case rel => exact ⟨k + 1, by omega, by go_num, HF⟩
        case measure => simp [intOf]; omega
      · have hd := decide_eq_false hc
        have Hc := Lib.hid hc
        have Hd := Lib.hid hd
        clear hc hd
        go_wp2_with fail
        have tk0 : True := trivial
        have tk1 : True := trivial
        go_region_held3 (fun w' => w'.cell? ⟨w.heap.size, 0, none⟩ = some (.int .i64 (M : Int)) ∧ w'.cell? ⟨w.heap.size, 1, none⟩ = some (.slice ad n cp) ∧ w'.cell? ⟨w.heap.size + 1, 0, none⟩ = some (.int .i64 (M : Int)) ∧ w'.cell? ⟨w.heap.size + 1, 1, none⟩ = some (.slice bd n' cq) ∧ wr.heap.size ≤ w'.heap.size ∧ Below wr.heap.size wr w') (first | assumption | exact rr4_start k0 k1 k2 k3 | exact rr4_drew (by assumption) | exact rr4_keep (by omega) (by omega) (by omega) (by omega) (by assumption) (by assumption) | exact rr4_box (by omega) (by omega) (by omega) (by omega) (by assumption))
          (first | (go_at_call 35; clear tk0; refine (shop_any (M : Int) lo hi n _ L (s : Int) (k : Int) _ HL.out (HRw.out.below (rr4_out (by assumption)).2 (by omega)) (by have hq := (rr4_out (by assumption)).1; omega)).mono ?_; rintro e w3 ⟨y0, rfl, ry0, hb⟩; have hz3 := hb.size) | (go_at_call 35; clear tk1; refine (shop_any (M : Int) lo' hi' n' _ L' (s : Int) (k : Int) _ HL'.out (HRw'.out.below (rr4_out (by assumption)).2 (by omega)) (by have hq := (rr4_out (by assumption)).1; omega)).mono ?_; rintro e w4 ⟨y1, rfl, ry1, hb⟩; have hz4 := hb.size; have ry0 := ry0.below hb (by first | exact Nat.le_refl _ | omega)) | (go_at_call 69; refine (same_any _ _ _ _ _ _ _ _ _ _ _ ry0 ry1 (by first | exact Nat.le_refl _ | omega) (by first | exact Nat.le_refl _ | omega)).mono ?_; rw [Hd.out]; rintro e w5 ⟨rfl, hb⟩))
        have hb5 : Below wr.heap.size wr w5 := (rr4_out (by assumption)).2
        have HR5 := Lib.hid (hR.out.grow hb5)
        have Hw := Lib.hid HR5.out.row
        clear hb5
        go_wp2_with (at_builtin; refine wpList_append_lies _ rfl _ _ 26 rfl v0.heap.size 3 i3 (.int .i64 0) 1 8 Try.underlying26 I.out.1 I.out.2.1 I.out.2.2.1 I.out.2.2.2 rfl (by decide) _ Z.length (ints Z) rfl (Hw.out.alloc _) ⟨w5.heap.size, 0, none⟩ 1 1 [.int .i64 (k : Int)] rfl rfl ?d0 (int_one _) (by decide) ?d1 ?d2 ?d3 _ rfl ?_)
        case d0 => exact fun a u ha => cell_one_new _ _ 3 rfl a u ha
        case d1 => unfold maxLen; omega
        case d2 => omega
        case d3 => simp; omega
        intro g4 cap4 w4 hown4 hgrow4 hat4 hlt4
        have HF : Hid (OwnI v0 w4 (.slice (some ⟨g4, 0, none⟩) (Z.length + 1) cap4) (chK (M : Int) L L' (s : Int) (k + 1)).length (chK (M : Int) L L' (s : Int) (k + 1))) := by
          rw [Hkn.out, if_neg Hc.out, show (Z ++ [(k : Int)]).length = Z.length + 1 by simp]
          exact (HR5.out.grow ((Below.refl _ _).alloc (Nat.le_refl _) _)).app hgrow4 hown4
        clear hown4 hgrow4 hat4 hlt4 HR5 Hw
        go_wp2_with fail
        go_roundw
        case rel => exact ⟨k + 1, by omega, by go_num, HF⟩
        case measure => simp [intOf]; omega
    · obtain rfl : M = k := by omega
      have hge : ¬ ((M : Int) < (M : Int)) := by omega
      have Hrow := Lib.hid hR.out
      clear hR
      go_wp2_with fail
      go_ret
      rw [← HZ.out]
      exact ⟨_, rfl, (Hrow.out.toRow (by omega)).wider (by omega), HBv.out.trans (Hrow.out.below.mono (by omega))⟩

/-- What lies while Changed's two tables are made, in whatever order. -/
structure Rg (v W : World) (F1 F2 : Nat → Int → Bool) (m1 m2 : Option (Nat → Nat)) (p7 p8 : Option Nat) : Prop where
  below : Below v.heap.size v W
  s1 : ∀ mp, m1 = some mp → ∃ q bs, SetsS W bs 10 q mp F1
  s2 : ∀ mp, m2 = some mp → ∃ q bs, SetsS W bs 10 q mp F2
  a7 : ∀ X, p7 = some X → v.heap.size ≤ X ∧ W.heap[X]? = some (.cells nilA 77 (0, 0))
  a8 : ∀ X, p8 = some X → v.heap.size ≤ X ∧ W.heap[X]? = some (.cells nilA 77 (0, 0))
  ne : ∀ X Y, p7 = some X → p8 = some Y → X ≠ Y
theorem Rg.start (v : World) (F1 F2 : Nat → Int → Bool) : Rg v v.drew F1 F2 none none none none := ⟨(Below.refl _ _).drew, nofun, nofun, nofun, nofun, nofun⟩
theorem heap_lt {W : World} {X : Nat} {o : Obj} (h : W.heap[X]? = some o) : X < W.heap.size := (Array.getElem?_eq_some_iff.1 h).1
variable {v W W' : World} {F1 F2 : Nat → Int → Bool} {m1 m2 : Option (Nat → Nat)} {p7 p8 : Option Nat}
theorem Rg.grow (h : Rg v W F1 F2 m1 m2 p7 p8) (hb : Below W.heap.size W W') : Rg v W' F1 F2 m1 m2 p7 p8 where
  below := h.below.trans (hb.mono h.below.size)
  s1 mp e := by obtain ⟨q, bs, hs⟩ := h.s1 mp e; exact ⟨q, bs, hs.below hb⟩
  s2 mp e := by obtain ⟨q, bs, hs⟩ := h.s2 mp e; exact ⟨q, bs, hs.below hb⟩
  a7 X e := ⟨(h.a7 X e).1, (hb.block X (heap_lt (h.a7 X e).2)).trans (h.a7 X e).2⟩
  a8 X e := ⟨(h.a8 X e).1, (hb.block X (heap_lt (h.a8 X e).2)).trans (h.a8 X e).2⟩
  ne := h.ne
theorem Rg.call1 {mp : Nat → Nat} {q bs : Nat} (h : Rg v W F1 F2 m1 m2 p7 p8) (hb : Below W.heap.size W W') (hs : SetsS W' bs 10 q mp F1) : Rg v W' F1 F2 (some mp) m2 p7 p8 :=
  { h.grow hb with s1 := fun _ e => by cases e; exact ⟨q, bs, hs⟩ }
theorem Rg.call2 {mp : Nat → Nat} {q bs : Nat} (h : Rg v W F1 F2 m1 m2 p7 p8) (hb : Below W.heap.size W W') (hs : SetsS W' bs 10 q mp F2) : Rg v W' F1 F2 m1 (some mp) p7 p8 :=
  { h.grow hb with s2 := fun _ e => by cases e; exact ⟨q, bs, hs⟩ }
theorem Rg.new7 (h : Rg v W F1 F2 m1 m2 none p8) : Rg v (W.alloc (.cells nilA 77)) F1 F2 m1 m2 (some W.heap.size) p8 :=
  { h.grow ((Below.refl _ _).alloc (Nat.le_refl _) _) with
    a7 := fun X e => by cases e; exact ⟨h.below.size, heap_alloc_new _ _⟩
    ne := fun X Y e e' => by cases e; have := heap_lt (h.a8 Y e').2; omega }
theorem Rg.new8 (h : Rg v W F1 F2 m1 m2 p7 none) : Rg v (W.alloc (.cells nilA 77)) F1 F2 m1 m2 p7 (some W.heap.size) :=
  { h.grow ((Below.refl _ _).alloc (Nat.le_refl _) _) with
    a8 := fun X e => by cases e; exact ⟨h.below.size, heap_alloc_new _ _⟩
    ne := fun X Y e e' => by cases e'; have := heap_lt (h.a7 X e).2; omega }
theorem SetsS.row {W : World} {bs q : Nat} {mp : Nat → Nat} {F : Nat → Int → Bool} {X : Nat} (h : SetsS W bs 10 q mp F) (hX : W.heap[X]? = some (.cells nilA 77 (0, 0))) (cs : Array Value) : SetsS (W.setRow X cs) bs 10 q mp F := by
  refine h.kept (grown_setRow W X cs) (fun e => ?_) (fun i hi e => ?_)
  · cases e
    have h0 := h.cell 0 (by omega)
    rw [cell_of_row W _ _ _ _ _ hX] at h0
    cases h0
  · obtain ⟨D, ⟨es, clock, hb, _⟩, _⟩ := h.set i hi
    cases e
    rw [hX] at hb
    cases hb
/-- Both tables, made. -/
structure TwoS (v W : World) (F1 F2 : Nat → Int → Bool) (m1 m2 : Nat → Nat) (X Y : Nat) : Prop where
  below : Below v.heap.size v W
  s1 : ∃ q bs, SetsS W bs 10 q m1 F1
  s2 : ∃ q bs, SetsS W bs 10 q m2 F2
  c1 : ∀ i, i < 10 → W.cell? ⟨X, i, none⟩ = some (.map (some (m1 i)))
  c2 : ∀ i, i < 10 → W.cell? ⟨Y, i, none⟩ = some (.map (some (m2 i)))
  l1 : X < W.heap.size
  l2 : Y < W.heap.size
theorem mapsA_cell {W : World} {X : Nat} {mp : Nat → Nat} (h : W.heap[X]? = some (.cells (mapsA mp) 77 (0, 0))) (i : Nat) (hi : i < 10) : W.cell? ⟨X, i, none⟩ = some (.map (some (mp i))) := by
  rw [cell_of_row W _ _ _ _ _ h]
  have : i = 0 ∨ i = 1 ∨ i = 2 ∨ i = 3 ∨ i = 4 ∨ i = 5 ∨ i = 6 ∨ i = 7 ∨ i = 8 ∨ i = 9 := by omega
  rcases this with rfl | rfl | rfl | rfl | rfl | rfl | rfl | rfl | rfl | rfl <;> rfl
theorem Rg.fin {mp mp' : Nat → Nat} {X Y : Nat} (h : Rg v W F1 F2 (some mp) (some mp') (some X) (some Y)) : TwoS v ((W.setRow X (mapsA mp)).setRow Y (mapsA mp')) F1 F2 mp mp' X Y := by
  obtain ⟨q, bs, hs⟩ := h.s1 mp rfl
  obtain ⟨q', bs', hs'⟩ := h.s2 mp' rfl
  obtain ⟨x1, x2⟩ := h.a7 X rfl
  obtain ⟨y1, y2⟩ := h.a8 Y rfl
  have hne := h.ne X Y rfl rfl
  have y3 : (W.setRow X (mapsA mp)).heap[Y]? = some (.cells nilA 77 (0, 0)) := by rw [setRow_other W X Y _ (fun e => hne e.symm)]; exact y2
  have x3 : (W.setRow X (mapsA mp)).heap[X]? = some (.cells (mapsA mp) 77 (0, 0)) := setRow_heap _ _ _ _ _ _ x2
  refine ⟨below_setRow (below_setRow h.below x1 _) y1 _, ⟨q, bs, (hs.row x2 _).row y3 _⟩, ⟨q', bs', (hs'.row x2 _).row y3 _⟩, mapsA_cell ?_, mapsA_cell (setRow_heap _ _ _ _ _ _ y3), ?_, ?_⟩
  · rw [setRow_other _ Y X _ hne]; exact x3
  · rw [size_setRow, size_setRow]; exact heap_lt x2
  · rw [size_setRow, size_setRow]; exact heap_lt y2
theorem Rg.row7 {mp : Nat → Nat} {X : Nat} (h : Rg v W F1 F2 m1 m2 (some X) p8) : W.heap[X]? = some (.cells nilA 77 (0, 0)) ∧ ∀ Y, p8 = some Y → (W.setRow X (mapsA mp)).heap[Y]? = some (.cells nilA 77 (0, 0)) :=
  ⟨(h.a7 X rfl).2, fun Y e => by rw [setRow_other W X Y _ (fun e' => h.ne X Y rfl e e'.symm)]; exact (h.a8 Y e).2⟩

theorem step_store_row {P : Program} {md : Region.Mode} {ops : Array Oper} {Q : Exit → Act → World → Prop} {S : World → Prop} {fuel : Nat} {listed : Array Bool} {w : World} {a : Act} (i : Nat) {oi : Oper} (hr : Region.ready md ops listed = [i]) (hi : ops[i]? = some oi) (hd : oi.dst = none) (hw : oi.guard = none) (ty : TypeId) (x y : Operand) (ho : oi.op = .store ty x y)
    (g : Nat) (cells : Array Value) (hx : a.eval x = .pointer (some ⟨g, 0, none⟩)) (hy : a.eval y = .agg cells) (t : TypeId) (old : Array Value) (hg : w.heap[g]? = some (.cells old t (0, 0))) (hsz : (P.info? ty).map (·.size) = some cells.size)
    (hold : old.size = cells.size) (h1 : cells.all (·.oneCell') = true) (hS : S (w.setRow g cells))
    (h : wpAnyH P md ops Q S fuel (listed.setIfInBounds i true) a (w.setRow g cells)) : wpAnyH P md ops Q S (fuel + 1) listed a w := by
  refine wpAnyH_ready hr (by simp) ?_
  refine AllReadyH.cons hi (fun K hK => ?_) AllReadyH.nil
  rw [if_pos (by simp [Region.wanted, hw])]
  refine wp_store_row ty x y ho g cells hx hy t old hg hsz hold h1 ?_
  rw [hd]
  exact hK.out a _ hS (fun _ => h)

set_option maxRecDepth 100000 in
set_option maxHeartbeats 4000000 in
theorem ich_yes (M : Nat) (lo hi n : Nat) (v : Value) (L : List Ed) (s : Nat) (lo' hi' n' : Nat) (v' : Value) (L' : List Ed) (hs : s < M) (w : World) (hL : L.length = n) (hr : Row 3 w lo hi v n (flat L)) (hh : hi ≤ w.heap.size) (hL' : L'.length = n') (hr' : Row 3 w lo' hi' v' n' (flat L')) (hh' : hi' ≤ w.heap.size) (hG : gok (M : Int) L = true) (hG' : gok (M : Int) L' = true) :
    Calls Try.prog 46 #[.agg #[.int .i64 (M : Int), v], .agg #[.int .i64 (M : Int), v'], .int .i64 (s : Int)] w (LiPost (chK (M : Int) L L' (s : Int) M) w) := by
  have HR := Lib.hid hr
  have HR' := Lib.hid hr'
  have HG := Lib.hid hG
  have HG' := Lib.hid hG'
  have HL := Lib.hid hL
  have HL' := Lib.hid hL'
  have hN1 := (gok_parts hG).1
  have hN2 := (gok_parts hG).2.1
  have hns : ndB (M : Int) (s : Int) = true := by unfold ndB; rw [inB_iff]; omega
  have Hns := Lib.hid hns
  obtain ⟨ad, cp, rfl⟩ := hr.slice
  obtain ⟨bd, cq, rfl⟩ := hr'.slice
  obtain ⟨i3, hi3, hz0, hz1, hz2⟩ := info_parts Try.info3
  have I := Lib.hid (And.intro hi3 (And.intro hz0 (And.intro hz1 hz2)))
  clear hr hr' hG hG' hL hL' hi3 hz0 hz1 hz2
  go_enter Try.func46, Try.ntmps46
  go_wp2_with fail
  go_at_call 53
  refine (igok_any (M : Int) lo hi n _ L _ HL.out (HR.out.below (B := w.heap.size) (by go_grown) (by omega)) (by simp; omega)).mono ?_
  rw [HG.out]
  rintro e v1 ⟨rfl, hb1⟩
  have sz1 : w.heap.size + 2 ≤ v1.heap.size := by have hh := hb1.size; simp at hh; omega
  have st1 : Below w.heap.size w v1 := Below.trans (by go_grown) (hb1.mono (by simp <;> omega))
  have c1_0 : v1.cell? ⟨w.heap.size, 0, none⟩ = some (.int .i64 (M : Int)) := by rw [(bcell hb1).1 _ _ (by simp <;> omega), old_box (by simp <;> omega)]; first | (rw [new_at (by simp)]; rfl) | simp
  have c1_1 : v1.cell? ⟨w.heap.size, 1, none⟩ = some (.slice ad n cp) := by rw [(bcell hb1).1 _ _ (by simp <;> omega), old_box (by simp <;> omega)]; first | (rw [new_at (by simp)]; rfl) | simp
  have c1_2 : v1.cell? ⟨w.heap.size + 1, 0, none⟩ = some (.int .i64 (M : Int)) := by rw [(bcell hb1).1 _ _ (by simp)]; first | (rw [new_at (by simp)]; rfl) | simp
  have c1_3 : v1.cell? ⟨w.heap.size + 1, 1, none⟩ = some (.slice bd n' cq) := by rw [(bcell hb1).1 _ _ (by simp)]; first | (rw [new_at (by simp)]; rfl) | simp
  have B1 : Hid (Below w.heap.size w v1) := st1
  have R1_0 : Hid (Row 3 v1 (lo) (hi) (.slice ad n cp) n (flat L)) := HR.out.below st1 (by omega)
  have R1_1 : Hid (Row 3 v1 (lo') (hi') (.slice bd n' cq) n' (flat L')) := HR'.out.below st1 (by omega)
  have d1_0 : w.heap.size < v1.heap.size := by omega
  have e1_0 : w.heap.size ≠ v1.heap.size := by omega
  have d1_1 : w.heap.size + 1 < v1.heap.size := by omega
  have e1_1 : w.heap.size + 1 ≠ v1.heap.size := by omega
  clear st1 HR HR' hb1
  go_wp2_with fail
  go_at_call 53
  refine (igok_any (M : Int) lo' hi' n' _ L' _ HL'.out R1_1.out (by omega)).mono ?_
  rw [HG'.out]
  rintro e v2 ⟨rfl, hb2⟩
  have sz2 : v1.heap.size ≤ v2.heap.size := hb2.size
  have st2 : Below v1.heap.size v1 v2 := hb2
  have c2_0 : v2.cell? ⟨w.heap.size, 0, none⟩ = some (.int .i64 (M : Int)) := by rw [(bcell st2).1 _ _ (by omega)]; exact c1_0
  have c2_1 : v2.cell? ⟨w.heap.size, 1, none⟩ = some (.slice ad n cp) := by rw [(bcell st2).1 _ _ (by omega)]; exact c1_1
  have c2_2 : v2.cell? ⟨w.heap.size + 1, 0, none⟩ = some (.int .i64 (M : Int)) := by rw [(bcell st2).1 _ _ (by omega)]; exact c1_2
  have c2_3 : v2.cell? ⟨w.heap.size + 1, 1, none⟩ = some (.slice bd n' cq) := by rw [(bcell st2).1 _ _ (by omega)]; exact c1_3
  have B2 : Hid (Below w.heap.size w v2) := B1.out.trans (st2.mono (by omega))
  have R2_0 : Hid (Row 3 v2 (lo) (hi) (.slice ad n cp) n (flat L)) := R1_0.out.below st2 (by omega)
  have R2_1 : Hid (Row 3 v2 (lo') (hi') (.slice bd n' cq) n' (flat L')) := R1_1.out.below st2 (by omega)
  have d2_0 : w.heap.size < v2.heap.size := by omega
  have e2_0 : w.heap.size ≠ v2.heap.size := by omega
  have d2_1 : w.heap.size + 1 < v2.heap.size := by omega
  have e2_1 : w.heap.size + 1 ≠ v2.heap.size := by omega
  clear d1_0 e1_0 d1_1 e1_1 c1_0 c1_1 c1_2 c1_3 B1 st2 R1_0 R1_1 hb2
  go_wp2_with fail
  go_at_call 54
  refine (hasNode_any (M : Int) _ _ _ (s : Int) _).mono ?_
  rw [hns]
  rintro e v3 ⟨rfl, hb3⟩
  have sz3 : v2.heap.size ≤ v3.heap.size := hb3.size
  have st3 : Below v2.heap.size v2 v3 := hb3
  have c3_0 : v3.cell? ⟨w.heap.size, 0, none⟩ = some (.int .i64 (M : Int)) := by rw [(bcell st3).1 _ _ (by omega)]; exact c2_0
  have c3_1 : v3.cell? ⟨w.heap.size, 1, none⟩ = some (.slice ad n cp) := by rw [(bcell st3).1 _ _ (by omega)]; exact c2_1
  have c3_2 : v3.cell? ⟨w.heap.size + 1, 0, none⟩ = some (.int .i64 (M : Int)) := by rw [(bcell st3).1 _ _ (by omega)]; exact c2_2
  have c3_3 : v3.cell? ⟨w.heap.size + 1, 1, none⟩ = some (.slice bd n' cq) := by rw [(bcell st3).1 _ _ (by omega)]; exact c2_3
  have B3 : Hid (Below w.heap.size w v3) := B2.out.trans (st3.mono (by omega))
  have R3_0 : Hid (Row 3 v3 (lo) (hi) (.slice ad n cp) n (flat L)) := R2_0.out.below st3 (by omega)
  have R3_1 : Hid (Row 3 v3 (lo') (hi') (.slice bd n' cq) n' (flat L')) := R2_1.out.below st3 (by omega)
  have d3_0 : w.heap.size < v3.heap.size := by omega
  have e3_0 : w.heap.size ≠ v3.heap.size := by omega
  have d3_1 : w.heap.size + 1 < v3.heap.size := by omega
  have e3_1 : w.heap.size + 1 ≠ v3.heap.size := by omega
  clear d2_0 e2_0 d2_1 e2_1 c2_0 c2_1 c2_2 c2_3 B2 st3 R2_0 R2_1 hb3
  clear hns
  have HSo : Hid (∀ W', Below v3.heap.size v3 W' → (fun w' => w'.cell? ⟨w.heap.size, 0, none⟩ = some (.int .i64 (M : Int)) ∧ w'.cell? ⟨w.heap.size, 1, none⟩ = some (.slice ad n cp) ∧ w'.cell? ⟨w.heap.size + 1, 0, none⟩ = some (.int .i64 (M : Int)) ∧ w'.cell? ⟨w.heap.size + 1, 1, none⟩ = some (.slice bd n' cq) ∧ v3.heap.size ≤ w'.heap.size ∧ Below v3.heap.size v3 w') W') := Lib.hid (fun W' hW => rr4_keep (by omega) (by omega) (by omega) (by omega) hW ⟨c3_0, c3_1, c3_2, c3_3, Nat.le_refl _, Below.refl _ _⟩)
  go_upto_region 3 with fail
  go_cut [7, 8] (fun t7 t8 wx => ∃ (X Y : Nat) (m1 m2 : Nat → Nat), t7 = .pointer (some ⟨X, 0, none⟩) ∧ t8 = .pointer (some ⟨Y, 0, none⟩) ∧ Hid (TwoS v3 wx (fun (i : Nat) z => decide (tgP (M : Int) L (i : Int) (s : Int) z)) (fun (i : Nat) z => decide (tgP (M : Int) L' (i : Int) (s : Int) z)) m1 m2 X Y))
  case first =>
    have HRg : Hid (Rg v3 v3.drew (fun (i : Nat) z => decide (tgP (M : Int) L (i : Int) (s : Int) z)) (fun (i : Nat) z => decide (tgP (M : Int) L' (i : Int) (s : Int) z)) none none none none) := Lib.hid (Rg.start _ _ _)
    refine wp_region_held_drew (S := (fun w' => w'.cell? ⟨w.heap.size, 0, none⟩ = some (.int .i64 (M : Int)) ∧ w'.cell? ⟨w.heap.size, 1, none⟩ = some (.slice ad n cp) ∧ w'.cell? ⟨w.heap.size + 1, 0, none⟩ = some (.int .i64 (M : Int)) ∧ w'.cell? ⟨w.heap.size + 1, 1, none⟩ = some (.slice bd n' cq) ∧ v3.heap.size ≤ w'.heap.size ∧ Below v3.heap.size v3 w')) (by kernel_rfl) (HSo.out _ (Below.refl _ _).drew) (fun hHeld => ?_)
    refine step_read 0 32 rfl rfl (by kernel_rfl) (by kernel_rfl) (by kernel_rfl) (fun _ _ _ h => h) (by rfl) (v := ?_) (fun w hSw => ?_) (by assumption) ?_; rotate_left; (focus ((try dsimp only at hSw); go_simp; first | done | exact rfl)); simp only [List.set]
    refine step_read 1 33 rfl rfl (by kernel_rfl) (by kernel_rfl) (by kernel_rfl) (fun _ _ _ h => h) (by rfl) (v := ?_) (fun w hSw => ?_) (by assumption) ?_; rotate_left; (focus ((try dsimp only at hSw); go_simp; first | done | exact rfl)); simp only [List.set]
    refine step_read 3 35 rfl rfl (by kernel_rfl) (by kernel_rfl) (by kernel_rfl) (fun _ _ _ h => h) (by rfl) (v := ?_) (fun w hSw => ?_) (by assumption) ?_; rotate_left; (focus ((try dsimp only at hSw); go_simp; first | done | exact rfl)); simp only [List.set]
    refine step_read 4 36 rfl rfl (by kernel_rfl) (by kernel_rfl) (by kernel_rfl) (fun _ _ _ h => h) (by rfl) (v := ?_) (fun w hSw => ?_) (by assumption) ?_; rotate_left; (focus ((try dsimp only at hSw); go_simp; first | done | exact rfl)); simp only [List.set]
    refine wpAnyH_ready (rs := [2, 6, 7]) (by kernel_rfl) (by simp) ?_
    refine AllReadyH.cons rfl (fun K hK => ?_) ?_
    · go_simp
      go_at_call 64
      refine (hopsets_any M lo hi n _ L s _ HL.out (R3_0.out.below HRg.out.below (by omega)) (by have hq := HRg.out.below.size; omega) HG.out hs).mono ?_
      rintro e u1 ⟨⟨m1, rfl, q, bs, hbs, hS⟩, hb⟩
      have HRg := Lib.hid (HRg.out.call1 hb hS)
      clear hbs hS hb
      refine hK.out _ _ (HSo.out _ HRg.out.below) (fun hHeld => ?_)
      clear hK K
      refine wpAnyH_ready (rs := [5, 6, 7]) (by kernel_rfl) (by simp) ?_
      refine AllReadyH.cons rfl (fun K hK => ?_) ?_
      · go_simp
        go_at_call 64
        refine (hopsets_any M lo' hi' n' _ L' s _ HL'.out (R3_1.out.below HRg.out.below (by omega)) (by have hq := HRg.out.below.size; omega) HG'.out hs).mono ?_
        rintro e u2 ⟨⟨m2, rfl, q, bs, hbs, hS⟩, hb⟩
        have HRg := Lib.hid (HRg.out.call2 hb hS)
        clear hbs hS hb
        refine hK.out _ _ (HSo.out _ HRg.out.below) (fun hHeld => ?_)
        clear hK K
        refine wpAnyH_ready (rs := [6, 7]) (by kernel_rfl) (by simp) ?_
        refine AllReadyH.cons rfl (fun K hK => ?_) ?_
        · go_simp
          have HRg := Lib.hid HRg.out.new7
          refine hK.out _ _ (HSo.out _ HRg.out.below) (fun hHeld => ?_)
          clear hK K
          obtain ⟨u3, hW2⟩ : ∃ x, x = World.alloc u2 (.cells nilA 77) := ⟨_, rfl⟩
          rw [← hW2] at HRg
          change wpAnyH _ _ _ _ _ _ _ _ (World.alloc u2 (.cells nilA 77))
          rw [← hW2]
          clear hW2 hHeld
          have hHeld := HSo.out _ HRg.out.below
          refine wpAnyH_ready (rs := [7]) (by kernel_rfl) (by simp) ?_
          refine AllReadyH.cons rfl (fun K hK => ?_) AllReadyH.nil
          · go_simp
            have HRg := Lib.hid HRg.out.new8
            refine hK.out _ _ (HSo.out _ HRg.out.below) (fun hHeld => ?_)
            clear hK K
            obtain ⟨u4, hW2⟩ : ∃ x, x = World.alloc u3 (.cells nilA 77) := ⟨_, rfl⟩
            rw [← hW2] at HRg
            change wpAnyH _ _ _ _ _ _ _ _ (World.alloc u3 (.cells nilA 77))
            rw [← hW2]
            clear hW2 hHeld
            have hHeld := HSo.out _ HRg.out.below
            obtain ⟨x1, x2⟩ := HRg.out.row7 (mp := m1)
            have y2 := x2 _ rfl
            have HT := Lib.hid HRg.out.fin
            have HB7 : Hid (Below v3.heap.size v3 (World.setRow _ _ (mapsA m1))) := Lib.hid (below_setRow HRg.out.below (HRg.out.a7 _ rfl).1 (mapsA m1))
            clear x2
            refine step_store_row 8 (by kernel_rfl) rfl rfl rfl 77 _ _ rfl _ (mapsA m1) rfl rfl 77 nilA x1 (by rw [Try.size77]; rfl) rfl (mapsA_one m1) (HSo.out _ HB7.out) ?_
            refine step_store_row 9 (by kernel_rfl) rfl rfl rfl 77 _ _ rfl _ (mapsA m2) rfl rfl 77 nilA y2 (by rw [Try.size77]; rfl) rfl (mapsA_one m2) (HSo.out _ HT.out.below) ?_
            clear x1 y2
            refine wpAnyH_done (by kernel_rfl) ?_ _
            go_wp2_with fail
            go_meet
            exact ⟨_, _, m1, m2, rfl, rfl, HT⟩
        refine AllReadyH.cons rfl (fun K hK => ?_) AllReadyH.nil
        · go_simp
          have HRg := Lib.hid HRg.out.new8
          refine hK.out _ _ (HSo.out _ HRg.out.below) (fun hHeld => ?_)
          clear hK K
          obtain ⟨u3, hW2⟩ : ∃ x, x = World.alloc u2 (.cells nilA 77) := ⟨_, rfl⟩
          rw [← hW2] at HRg
          change wpAnyH _ _ _ _ _ _ _ _ (World.alloc u2 (.cells nilA 77))
          rw [← hW2]
          clear hW2 hHeld
          have hHeld := HSo.out _ HRg.out.below
          refine wpAnyH_ready (rs := [6]) (by kernel_rfl) (by simp) ?_
          refine AllReadyH.cons rfl (fun K hK => ?_) AllReadyH.nil
          · go_simp
            have HRg := Lib.hid HRg.out.new7
            refine hK.out _ _ (HSo.out _ HRg.out.below) (fun hHeld => ?_)
            clear hK K
            obtain ⟨u4, hW2⟩ : ∃ x, x = World.alloc u3 (.cells nilA 77) := ⟨_, rfl⟩
            rw [← hW2] at HRg
            change wpAnyH _ _ _ _ _ _ _ _ (World.alloc u3 (.cells nilA 77))
            rw [← hW2]
            clear hW2 hHeld
            have hHeld := HSo.out _ HRg.out.below
            obtain ⟨x1, x2⟩ := HRg.out.row7 (mp := m1)
            have y2 := x2 _ rfl
            have HT := Lib.hid HRg.out.fin
            have HB7 : Hid (Below v3.heap.size v3 (World.setRow _ _ (mapsA m1))) := Lib.hid (below_setRow HRg.out.below (HRg.out.a7 _ rfl).1 (mapsA m1))
            clear x2
            refine step_store_row 8 (by kernel_rfl) rfl rfl rfl 77 _ _ rfl _ (mapsA m1) rfl rfl 77 nilA x1 (by rw [Try.size77]; rfl) rfl (mapsA_one m1) (HSo.out _ HB7.out) ?_
            refine step_store_row 9 (by kernel_rfl) rfl rfl rfl 77 _ _ rfl _ (mapsA m2) rfl rfl 77 nilA y2 (by rw [Try.size77]; rfl) rfl (mapsA_one m2) (HSo.out _ HT.out.below) ?_
            clear x1 y2
            refine wpAnyH_done (by kernel_rfl) ?_ _
            go_wp2_with fail
            go_meet
            exact ⟨_, _, m1, m2, rfl, rfl, HT⟩
      refine AllReadyH.cons rfl (fun K hK => ?_) ?_
      · go_simp
        have HRg := Lib.hid HRg.out.new7
        refine hK.out _ _ (HSo.out _ HRg.out.below) (fun hHeld => ?_)
        clear hK K
        obtain ⟨u2, hW2⟩ : ∃ x, x = World.alloc u1 (.cells nilA 77) := ⟨_, rfl⟩
        rw [← hW2] at HRg
        change wpAnyH _ _ _ _ _ _ _ _ (World.alloc u1 (.cells nilA 77))
        rw [← hW2]
        clear hW2 hHeld
        have hHeld := HSo.out _ HRg.out.below
        refine wpAnyH_ready (rs := [5, 7]) (by kernel_rfl) (by simp) ?_
        refine AllReadyH.cons rfl (fun K hK => ?_) ?_
        · go_simp
          go_at_call 64
          refine (hopsets_any M lo' hi' n' _ L' s _ HL'.out (R3_1.out.below HRg.out.below (by omega)) (by have hq := HRg.out.below.size; omega) HG'.out hs).mono ?_
          rintro e u3 ⟨⟨m2, rfl, q, bs, hbs, hS⟩, hb⟩
          have HRg := Lib.hid (HRg.out.call2 hb hS)
          clear hbs hS hb
          refine hK.out _ _ (HSo.out _ HRg.out.below) (fun hHeld => ?_)
          clear hK K
          refine wpAnyH_ready (rs := [7]) (by kernel_rfl) (by simp) ?_
          refine AllReadyH.cons rfl (fun K hK => ?_) AllReadyH.nil
          · go_simp
            have HRg := Lib.hid HRg.out.new8
            refine hK.out _ _ (HSo.out _ HRg.out.below) (fun hHeld => ?_)
            clear hK K
            obtain ⟨u4, hW2⟩ : ∃ x, x = World.alloc u3 (.cells nilA 77) := ⟨_, rfl⟩
            rw [← hW2] at HRg
            change wpAnyH _ _ _ _ _ _ _ _ (World.alloc u3 (.cells nilA 77))
            rw [← hW2]
            clear hW2 hHeld
            have hHeld := HSo.out _ HRg.out.below
            obtain ⟨x1, x2⟩ := HRg.out.row7 (mp := m1)
            have y2 := x2 _ rfl
            have HT := Lib.hid HRg.out.fin
            have HB7 : Hid (Below v3.heap.size v3 (World.setRow _ _ (mapsA m1))) := Lib.hid (below_setRow HRg.out.below (HRg.out.a7 _ rfl).1 (mapsA m1))
            clear x2
            refine step_store_row 8 (by kernel_rfl) rfl rfl rfl 77 _ _ rfl _ (mapsA m1) rfl rfl 77 nilA x1 (by rw [Try.size77]; rfl) rfl (mapsA_one m1) (HSo.out _ HB7.out) ?_
            refine step_store_row 9 (by kernel_rfl) rfl rfl rfl 77 _ _ rfl _ (mapsA m2) rfl rfl 77 nilA y2 (by rw [Try.size77]; rfl) rfl (mapsA_one m2) (HSo.out _ HT.out.below) ?_
            clear x1 y2
            refine wpAnyH_done (by kernel_rfl) ?_ _
            go_wp2_with fail
            go_meet
            exact ⟨_, _, m1, m2, rfl, rfl, HT⟩
        refine AllReadyH.cons rfl (fun K hK => ?_) AllReadyH.nil
        · go_simp
          have HRg := Lib.hid HRg.out.new8
          refine hK.out _ _ (HSo.out _ HRg.out.below) (fun hHeld => ?_)
          clear hK K
          obtain ⟨u3, hW2⟩ : ∃ x, x = World.alloc u2 (.cells nilA 77) := ⟨_, rfl⟩
          rw [← hW2] at HRg
          change wpAnyH _ _ _ _ _ _ _ _ (World.alloc u2 (.cells nilA 77))
          rw [← hW2]
          clear hW2 hHeld
          have hHeld := HSo.out _ HRg.out.below
          refine wpAnyH_ready (rs := [5]) (by kernel_rfl) (by simp) ?_
          refine AllReadyH.cons rfl (fun K hK => ?_) AllReadyH.nil
          · go_simp
            go_at_call 64
            refine (hopsets_any M lo' hi' n' _ L' s _ HL'.out (R3_1.out.below HRg.out.below (by omega)) (by have hq := HRg.out.below.size; omega) HG'.out hs).mono ?_
            rintro e u4 ⟨⟨m2, rfl, q, bs, hbs, hS⟩, hb⟩
            have HRg := Lib.hid (HRg.out.call2 hb hS)
            clear hbs hS hb
            refine hK.out _ _ (HSo.out _ HRg.out.below) (fun hHeld => ?_)
            clear hK K
            obtain ⟨x1, x2⟩ := HRg.out.row7 (mp := m1)
            have y2 := x2 _ rfl
            have HT := Lib.hid HRg.out.fin
            have HB7 : Hid (Below v3.heap.size v3 (World.setRow _ _ (mapsA m1))) := Lib.hid (below_setRow HRg.out.below (HRg.out.a7 _ rfl).1 (mapsA m1))
            clear x2
            refine step_store_row 8 (by kernel_rfl) rfl rfl rfl 77 _ _ rfl _ (mapsA m1) rfl rfl 77 nilA x1 (by rw [Try.size77]; rfl) rfl (mapsA_one m1) (HSo.out _ HB7.out) ?_
            refine step_store_row 9 (by kernel_rfl) rfl rfl rfl 77 _ _ rfl _ (mapsA m2) rfl rfl 77 nilA y2 (by rw [Try.size77]; rfl) rfl (mapsA_one m2) (HSo.out _ HT.out.below) ?_
            clear x1 y2
            refine wpAnyH_done (by kernel_rfl) ?_ _
            go_wp2_with fail
            go_meet
            exact ⟨_, _, m1, m2, rfl, rfl, HT⟩
      refine AllReadyH.cons rfl (fun K hK => ?_) AllReadyH.nil
      · go_simp
        have HRg := Lib.hid HRg.out.new8
        refine hK.out _ _ (HSo.out _ HRg.out.below) (fun hHeld => ?_)
        clear hK K
        obtain ⟨u2, hW2⟩ : ∃ x, x = World.alloc u1 (.cells nilA 77) := ⟨_, rfl⟩
        rw [← hW2] at HRg
        change wpAnyH _ _ _ _ _ _ _ _ (World.alloc u1 (.cells nilA 77))
        rw [← hW2]
        clear hW2 hHeld
        have hHeld := HSo.out _ HRg.out.below
        refine wpAnyH_ready (rs := [5, 6]) (by kernel_rfl) (by simp) ?_
        refine AllReadyH.cons rfl (fun K hK => ?_) ?_
        · go_simp
          go_at_call 64
          refine (hopsets_any M lo' hi' n' _ L' s _ HL'.out (R3_1.out.below HRg.out.below (by omega)) (by have hq := HRg.out.below.size; omega) HG'.out hs).mono ?_
          rintro e u3 ⟨⟨m2, rfl, q, bs, hbs, hS⟩, hb⟩
          have HRg := Lib.hid (HRg.out.call2 hb hS)
          clear hbs hS hb
          refine hK.out _ _ (HSo.out _ HRg.out.below) (fun hHeld => ?_)
          clear hK K
          refine wpAnyH_ready (rs := [6]) (by kernel_rfl) (by simp) ?_
          refine AllReadyH.cons rfl (fun K hK => ?_) AllReadyH.nil
          · go_simp
            have HRg := Lib.hid HRg.out.new7
            refine hK.out _ _ (HSo.out _ HRg.out.below) (fun hHeld => ?_)
            clear hK K
            obtain ⟨u4, hW2⟩ : ∃ x, x = World.alloc u3 (.cells nilA 77) := ⟨_, rfl⟩
            rw [← hW2] at HRg
            change wpAnyH _ _ _ _ _ _ _ _ (World.alloc u3 (.cells nilA 77))
            rw [← hW2]
            clear hW2 hHeld
            have hHeld := HSo.out _ HRg.out.below
            obtain ⟨x1, x2⟩ := HRg.out.row7 (mp := m1)
            have y2 := x2 _ rfl
            have HT := Lib.hid HRg.out.fin
            have HB7 : Hid (Below v3.heap.size v3 (World.setRow _ _ (mapsA m1))) := Lib.hid (below_setRow HRg.out.below (HRg.out.a7 _ rfl).1 (mapsA m1))
            clear x2
            refine step_store_row 8 (by kernel_rfl) rfl rfl rfl 77 _ _ rfl _ (mapsA m1) rfl rfl 77 nilA x1 (by rw [Try.size77]; rfl) rfl (mapsA_one m1) (HSo.out _ HB7.out) ?_
            refine step_store_row 9 (by kernel_rfl) rfl rfl rfl 77 _ _ rfl _ (mapsA m2) rfl rfl 77 nilA y2 (by rw [Try.size77]; rfl) rfl (mapsA_one m2) (HSo.out _ HT.out.below) ?_
            clear x1 y2
            refine wpAnyH_done (by kernel_rfl) ?_ _
            go_wp2_with fail
            go_meet
            exact ⟨_, _, m1, m2, rfl, rfl, HT⟩
        refine AllReadyH.cons rfl (fun K hK => ?_) AllReadyH.nil
        · go_simp
          have HRg := Lib.hid HRg.out.new7
          refine hK.out _ _ (HSo.out _ HRg.out.below) (fun hHeld => ?_)
          clear hK K
          obtain ⟨u3, hW2⟩ : ∃ x, x = World.alloc u2 (.cells nilA 77) := ⟨_, rfl⟩
          rw [← hW2] at HRg
          change wpAnyH _ _ _ _ _ _ _ _ (World.alloc u2 (.cells nilA 77))
          rw [← hW2]
          clear hW2 hHeld
          have hHeld := HSo.out _ HRg.out.below
          refine wpAnyH_ready (rs := [5]) (by kernel_rfl) (by simp) ?_
          refine AllReadyH.cons rfl (fun K hK => ?_) AllReadyH.nil
          · go_simp
            go_at_call 64
            refine (hopsets_any M lo' hi' n' _ L' s _ HL'.out (R3_1.out.below HRg.out.below (by omega)) (by have hq := HRg.out.below.size; omega) HG'.out hs).mono ?_
            rintro e u4 ⟨⟨m2, rfl, q, bs, hbs, hS⟩, hb⟩
            have HRg := Lib.hid (HRg.out.call2 hb hS)
            clear hbs hS hb
            refine hK.out _ _ (HSo.out _ HRg.out.below) (fun hHeld => ?_)
            clear hK K
            obtain ⟨x1, x2⟩ := HRg.out.row7 (mp := m1)
            have y2 := x2 _ rfl
            have HT := Lib.hid HRg.out.fin
            have HB7 : Hid (Below v3.heap.size v3 (World.setRow _ _ (mapsA m1))) := Lib.hid (below_setRow HRg.out.below (HRg.out.a7 _ rfl).1 (mapsA m1))
            clear x2
            refine step_store_row 8 (by kernel_rfl) rfl rfl rfl 77 _ _ rfl _ (mapsA m1) rfl rfl 77 nilA x1 (by rw [Try.size77]; rfl) rfl (mapsA_one m1) (HSo.out _ HB7.out) ?_
            refine step_store_row 9 (by kernel_rfl) rfl rfl rfl 77 _ _ rfl _ (mapsA m2) rfl rfl 77 nilA y2 (by rw [Try.size77]; rfl) rfl (mapsA_one m2) (HSo.out _ HT.out.below) ?_
            clear x1 y2
            refine wpAnyH_done (by kernel_rfl) ?_ _
            go_wp2_with fail
            go_meet
            exact ⟨_, _, m1, m2, rfl, rfl, HT⟩
    refine AllReadyH.cons rfl (fun K hK => ?_) ?_
    · go_simp
      have HRg := Lib.hid HRg.out.new7
      refine hK.out _ _ (HSo.out _ HRg.out.below) (fun hHeld => ?_)
      clear hK K
      obtain ⟨u1, hW2⟩ : ∃ x, x = World.alloc v3.drew (.cells nilA 77) := ⟨_, rfl⟩
      rw [← hW2] at HRg
      change wpAnyH _ _ _ _ _ _ _ _ (World.alloc v3.drew (.cells nilA 77))
      rw [← hW2]
      clear hW2 hHeld
      have hHeld := HSo.out _ HRg.out.below
      refine wpAnyH_ready (rs := [2, 7]) (by kernel_rfl) (by simp) ?_
      refine AllReadyH.cons rfl (fun K hK => ?_) ?_
      · go_simp
        go_at_call 64
        refine (hopsets_any M lo hi n _ L s _ HL.out (R3_0.out.below HRg.out.below (by omega)) (by have hq := HRg.out.below.size; omega) HG.out hs).mono ?_
        rintro e u2 ⟨⟨m1, rfl, q, bs, hbs, hS⟩, hb⟩
        have HRg := Lib.hid (HRg.out.call1 hb hS)
        clear hbs hS hb
        refine hK.out _ _ (HSo.out _ HRg.out.below) (fun hHeld => ?_)
        clear hK K
        refine wpAnyH_ready (rs := [5, 7]) (by kernel_rfl) (by simp) ?_
        refine AllReadyH.cons rfl (fun K hK => ?_) ?_
        · go_simp
          go_at_call 64
          refine (hopsets_any M lo' hi' n' _ L' s _ HL'.out (R3_1.out.below HRg.out.below (by omega)) (by have hq := HRg.out.below.size; omega) HG'.out hs).mono ?_
          rintro e u3 ⟨⟨m2, rfl, q, bs, hbs, hS⟩, hb⟩
          have HRg := Lib.hid (HRg.out.call2 hb hS)
          clear hbs hS hb
          refine hK.out _ _ (HSo.out _ HRg.out.below) (fun hHeld => ?_)
          clear hK K
          refine wpAnyH_ready (rs := [7]) (by kernel_rfl) (by simp) ?_
          refine AllReadyH.cons rfl (fun K hK => ?_) AllReadyH.nil
          · go_simp
            have HRg := Lib.hid HRg.out.new8
            refine hK.out _ _ (HSo.out _ HRg.out.below) (fun hHeld => ?_)
            clear hK K
            obtain ⟨u4, hW2⟩ : ∃ x, x = World.alloc u3 (.cells nilA 77) := ⟨_, rfl⟩
            rw [← hW2] at HRg
            change wpAnyH _ _ _ _ _ _ _ _ (World.alloc u3 (.cells nilA 77))
            rw [← hW2]
            clear hW2 hHeld
            have hHeld := HSo.out _ HRg.out.below
            obtain ⟨x1, x2⟩ := HRg.out.row7 (mp := m1)
            have y2 := x2 _ rfl
            have HT := Lib.hid HRg.out.fin
            have HB7 : Hid (Below v3.heap.size v3 (World.setRow _ _ (mapsA m1))) := Lib.hid (below_setRow HRg.out.below (HRg.out.a7 _ rfl).1 (mapsA m1))
            clear x2
            refine step_store_row 8 (by kernel_rfl) rfl rfl rfl 77 _ _ rfl _ (mapsA m1) rfl rfl 77 nilA x1 (by rw [Try.size77]; rfl) rfl (mapsA_one m1) (HSo.out _ HB7.out) ?_
            refine step_store_row 9 (by kernel_rfl) rfl rfl rfl 77 _ _ rfl _ (mapsA m2) rfl rfl 77 nilA y2 (by rw [Try.size77]; rfl) rfl (mapsA_one m2) (HSo.out _ HT.out.below) ?_
            clear x1 y2
            refine wpAnyH_done (by kernel_rfl) ?_ _
            go_wp2_with fail
            go_meet
            exact ⟨_, _, m1, m2, rfl, rfl, HT⟩
        refine AllReadyH.cons rfl (fun K hK => ?_) AllReadyH.nil
        · go_simp
          have HRg := Lib.hid HRg.out.new8
          refine hK.out _ _ (HSo.out _ HRg.out.below) (fun hHeld => ?_)
          clear hK K
          obtain ⟨u3, hW2⟩ : ∃ x, x = World.alloc u2 (.cells nilA 77) := ⟨_, rfl⟩
          rw [← hW2] at HRg
          change wpAnyH _ _ _ _ _ _ _ _ (World.alloc u2 (.cells nilA 77))
          rw [← hW2]
          clear hW2 hHeld
          have hHeld := HSo.out _ HRg.out.below
          refine wpAnyH_ready (rs := [5]) (by kernel_rfl) (by simp) ?_
          refine AllReadyH.cons rfl (fun K hK => ?_) AllReadyH.nil
          · go_simp
            go_at_call 64
            refine (hopsets_any M lo' hi' n' _ L' s _ HL'.out (R3_1.out.below HRg.out.below (by omega)) (by have hq := HRg.out.below.size; omega) HG'.out hs).mono ?_
            rintro e u4 ⟨⟨m2, rfl, q, bs, hbs, hS⟩, hb⟩
            have HRg := Lib.hid (HRg.out.call2 hb hS)
            clear hbs hS hb
            refine hK.out _ _ (HSo.out _ HRg.out.below) (fun hHeld => ?_)
            clear hK K
            obtain ⟨x1, x2⟩ := HRg.out.row7 (mp := m1)
            have y2 := x2 _ rfl
            have HT := Lib.hid HRg.out.fin
            have HB7 : Hid (Below v3.heap.size v3 (World.setRow _ _ (mapsA m1))) := Lib.hid (below_setRow HRg.out.below (HRg.out.a7 _ rfl).1 (mapsA m1))
            clear x2
            refine step_store_row 8 (by kernel_rfl) rfl rfl rfl 77 _ _ rfl _ (mapsA m1) rfl rfl 77 nilA x1 (by rw [Try.size77]; rfl) rfl (mapsA_one m1) (HSo.out _ HB7.out) ?_
            refine step_store_row 9 (by kernel_rfl) rfl rfl rfl 77 _ _ rfl _ (mapsA m2) rfl rfl 77 nilA y2 (by rw [Try.size77]; rfl) rfl (mapsA_one m2) (HSo.out _ HT.out.below) ?_
            clear x1 y2
            refine wpAnyH_done (by kernel_rfl) ?_ _
            go_wp2_with fail
            go_meet
            exact ⟨_, _, m1, m2, rfl, rfl, HT⟩
      refine AllReadyH.cons rfl (fun K hK => ?_) AllReadyH.nil
      · go_simp
        have HRg := Lib.hid HRg.out.new8
        refine hK.out _ _ (HSo.out _ HRg.out.below) (fun hHeld => ?_)
        clear hK K
        obtain ⟨u2, hW2⟩ : ∃ x, x = World.alloc u1 (.cells nilA 77) := ⟨_, rfl⟩
        rw [← hW2] at HRg
        change wpAnyH _ _ _ _ _ _ _ _ (World.alloc u1 (.cells nilA 77))
        rw [← hW2]
        clear hW2 hHeld
        have hHeld := HSo.out _ HRg.out.below
        refine wpAnyH_ready (rs := [2]) (by kernel_rfl) (by simp) ?_
        refine AllReadyH.cons rfl (fun K hK => ?_) AllReadyH.nil
        · go_simp
          go_at_call 64
          refine (hopsets_any M lo hi n _ L s _ HL.out (R3_0.out.below HRg.out.below (by omega)) (by have hq := HRg.out.below.size; omega) HG.out hs).mono ?_
          rintro e u3 ⟨⟨m1, rfl, q, bs, hbs, hS⟩, hb⟩
          have HRg := Lib.hid (HRg.out.call1 hb hS)
          clear hbs hS hb
          refine hK.out _ _ (HSo.out _ HRg.out.below) (fun hHeld => ?_)
          clear hK K
          refine wpAnyH_ready (rs := [5]) (by kernel_rfl) (by simp) ?_
          refine AllReadyH.cons rfl (fun K hK => ?_) AllReadyH.nil
          · go_simp
            go_at_call 64
            refine (hopsets_any M lo' hi' n' _ L' s _ HL'.out (R3_1.out.below HRg.out.below (by omega)) (by have hq := HRg.out.below.size; omega) HG'.out hs).mono ?_
            rintro e u4 ⟨⟨m2, rfl, q, bs, hbs, hS⟩, hb⟩
            have HRg := Lib.hid (HRg.out.call2 hb hS)
            clear hbs hS hb
            refine hK.out _ _ (HSo.out _ HRg.out.below) (fun hHeld => ?_)
            clear hK K
            obtain ⟨x1, x2⟩ := HRg.out.row7 (mp := m1)
            have y2 := x2 _ rfl
            have HT := Lib.hid HRg.out.fin
            have HB7 : Hid (Below v3.heap.size v3 (World.setRow _ _ (mapsA m1))) := Lib.hid (below_setRow HRg.out.below (HRg.out.a7 _ rfl).1 (mapsA m1))
            clear x2
            refine step_store_row 8 (by kernel_rfl) rfl rfl rfl 77 _ _ rfl _ (mapsA m1) rfl rfl 77 nilA x1 (by rw [Try.size77]; rfl) rfl (mapsA_one m1) (HSo.out _ HB7.out) ?_
            refine step_store_row 9 (by kernel_rfl) rfl rfl rfl 77 _ _ rfl _ (mapsA m2) rfl rfl 77 nilA y2 (by rw [Try.size77]; rfl) rfl (mapsA_one m2) (HSo.out _ HT.out.below) ?_
            clear x1 y2
            refine wpAnyH_done (by kernel_rfl) ?_ _
            go_wp2_with fail
            go_meet
            exact ⟨_, _, m1, m2, rfl, rfl, HT⟩
    refine AllReadyH.cons rfl (fun K hK => ?_) AllReadyH.nil
    · go_simp
      have HRg := Lib.hid HRg.out.new8
      refine hK.out _ _ (HSo.out _ HRg.out.below) (fun hHeld => ?_)
      clear hK K
      obtain ⟨u1, hW2⟩ : ∃ x, x = World.alloc v3.drew (.cells nilA 77) := ⟨_, rfl⟩
      rw [← hW2] at HRg
      change wpAnyH _ _ _ _ _ _ _ _ (World.alloc v3.drew (.cells nilA 77))
      rw [← hW2]
      clear hW2 hHeld
      have hHeld := HSo.out _ HRg.out.below
      refine wpAnyH_ready (rs := [2, 6]) (by kernel_rfl) (by simp) ?_
      refine AllReadyH.cons rfl (fun K hK => ?_) ?_
      · go_simp
        go_at_call 64
        refine (hopsets_any M lo hi n _ L s _ HL.out (R3_0.out.below HRg.out.below (by omega)) (by have hq := HRg.out.below.size; omega) HG.out hs).mono ?_
        rintro e u2 ⟨⟨m1, rfl, q, bs, hbs, hS⟩, hb⟩
        have HRg := Lib.hid (HRg.out.call1 hb hS)
        clear hbs hS hb
        refine hK.out _ _ (HSo.out _ HRg.out.below) (fun hHeld => ?_)
        clear hK K
        refine wpAnyH_ready (rs := [5, 6]) (by kernel_rfl) (by simp) ?_
        refine AllReadyH.cons rfl (fun K hK => ?_) ?_
        · go_simp
          go_at_call 64
          refine (hopsets_any M lo' hi' n' _ L' s _ HL'.out (R3_1.out.below HRg.out.below (by omega)) (by have hq := HRg.out.below.size; omega) HG'.out hs).mono ?_
          rintro e u3 ⟨⟨m2, rfl, q, bs, hbs, hS⟩, hb⟩
          have HRg := Lib.hid (HRg.out.call2 hb hS)
          clear hbs hS hb
          refine hK.out _ _ (HSo.out _ HRg.out.below) (fun hHeld => ?_)
          clear hK K
          refine wpAnyH_ready (rs := [6]) (by kernel_rfl) (by simp) ?_
          refine AllReadyH.cons rfl (fun K hK => ?_) AllReadyH.nil
          · go_simp
            have HRg := Lib.hid HRg.out.new7
            refine hK.out _ _ (HSo.out _ HRg.out.below) (fun hHeld => ?_)
            clear hK K
            obtain ⟨u4, hW2⟩ : ∃ x, x = World.alloc u3 (.cells nilA 77) := ⟨_, rfl⟩
            rw [← hW2] at HRg
            change wpAnyH _ _ _ _ _ _ _ _ (World.alloc u3 (.cells nilA 77))
            rw [← hW2]
            clear hW2 hHeld
            have hHeld := HSo.out _ HRg.out.below
            obtain ⟨x1, x2⟩ := HRg.out.row7 (mp := m1)
            have y2 := x2 _ rfl
            have HT := Lib.hid HRg.out.fin
            have HB7 : Hid (Below v3.heap.size v3 (World.setRow _ _ (mapsA m1))) := Lib.hid (below_setRow HRg.out.below (HRg.out.a7 _ rfl).1 (mapsA m1))
            clear x2
            refine step_store_row 8 (by kernel_rfl) rfl rfl rfl 77 _ _ rfl _ (mapsA m1) rfl rfl 77 nilA x1 (by rw [Try.size77]; rfl) rfl (mapsA_one m1) (HSo.out _ HB7.out) ?_
            refine step_store_row 9 (by kernel_rfl) rfl rfl rfl 77 _ _ rfl _ (mapsA m2) rfl rfl 77 nilA y2 (by rw [Try.size77]; rfl) rfl (mapsA_one m2) (HSo.out _ HT.out.below) ?_
            clear x1 y2
            refine wpAnyH_done (by kernel_rfl) ?_ _
            go_wp2_with fail
            go_meet
            exact ⟨_, _, m1, m2, rfl, rfl, HT⟩
        refine AllReadyH.cons rfl (fun K hK => ?_) AllReadyH.nil
        · go_simp
          have HRg := Lib.hid HRg.out.new7
          refine hK.out _ _ (HSo.out _ HRg.out.below) (fun hHeld => ?_)
          clear hK K
          obtain ⟨u3, hW2⟩ : ∃ x, x = World.alloc u2 (.cells nilA 77) := ⟨_, rfl⟩
          rw [← hW2] at HRg
          change wpAnyH _ _ _ _ _ _ _ _ (World.alloc u2 (.cells nilA 77))
          rw [← hW2]
          clear hW2 hHeld
          have hHeld := HSo.out _ HRg.out.below
          refine wpAnyH_ready (rs := [5]) (by kernel_rfl) (by simp) ?_
          refine AllReadyH.cons rfl (fun K hK => ?_) AllReadyH.nil
          · go_simp
            go_at_call 64
            refine (hopsets_any M lo' hi' n' _ L' s _ HL'.out (R3_1.out.below HRg.out.below (by omega)) (by have hq := HRg.out.below.size; omega) HG'.out hs).mono ?_
            rintro e u4 ⟨⟨m2, rfl, q, bs, hbs, hS⟩, hb⟩
            have HRg := Lib.hid (HRg.out.call2 hb hS)
            clear hbs hS hb
            refine hK.out _ _ (HSo.out _ HRg.out.below) (fun hHeld => ?_)
            clear hK K
            obtain ⟨x1, x2⟩ := HRg.out.row7 (mp := m1)
            have y2 := x2 _ rfl
            have HT := Lib.hid HRg.out.fin
            have HB7 : Hid (Below v3.heap.size v3 (World.setRow _ _ (mapsA m1))) := Lib.hid (below_setRow HRg.out.below (HRg.out.a7 _ rfl).1 (mapsA m1))
            clear x2
            refine step_store_row 8 (by kernel_rfl) rfl rfl rfl 77 _ _ rfl _ (mapsA m1) rfl rfl 77 nilA x1 (by rw [Try.size77]; rfl) rfl (mapsA_one m1) (HSo.out _ HB7.out) ?_
            refine step_store_row 9 (by kernel_rfl) rfl rfl rfl 77 _ _ rfl _ (mapsA m2) rfl rfl 77 nilA y2 (by rw [Try.size77]; rfl) rfl (mapsA_one m2) (HSo.out _ HT.out.below) ?_
            clear x1 y2
            refine wpAnyH_done (by kernel_rfl) ?_ _
            go_wp2_with fail
            go_meet
            exact ⟨_, _, m1, m2, rfl, rfl, HT⟩
      refine AllReadyH.cons rfl (fun K hK => ?_) AllReadyH.nil
      · go_simp
        have HRg := Lib.hid HRg.out.new7
        refine hK.out _ _ (HSo.out _ HRg.out.below) (fun hHeld => ?_)
        clear hK K
        obtain ⟨u2, hW2⟩ : ∃ x, x = World.alloc u1 (.cells nilA 77) := ⟨_, rfl⟩
        rw [← hW2] at HRg
        change wpAnyH _ _ _ _ _ _ _ _ (World.alloc u1 (.cells nilA 77))
        rw [← hW2]
        clear hW2 hHeld
        have hHeld := HSo.out _ HRg.out.below
        refine wpAnyH_ready (rs := [2]) (by kernel_rfl) (by simp) ?_
        refine AllReadyH.cons rfl (fun K hK => ?_) AllReadyH.nil
        · go_simp
          go_at_call 64
          refine (hopsets_any M lo hi n _ L s _ HL.out (R3_0.out.below HRg.out.below (by omega)) (by have hq := HRg.out.below.size; omega) HG.out hs).mono ?_
          rintro e u3 ⟨⟨m1, rfl, q, bs, hbs, hS⟩, hb⟩
          have HRg := Lib.hid (HRg.out.call1 hb hS)
          clear hbs hS hb
          refine hK.out _ _ (HSo.out _ HRg.out.below) (fun hHeld => ?_)
          clear hK K
          refine wpAnyH_ready (rs := [5]) (by kernel_rfl) (by simp) ?_
          refine AllReadyH.cons rfl (fun K hK => ?_) AllReadyH.nil
          · go_simp
            go_at_call 64
            refine (hopsets_any M lo' hi' n' _ L' s _ HL'.out (R3_1.out.below HRg.out.below (by omega)) (by have hq := HRg.out.below.size; omega) HG'.out hs).mono ?_
            rintro e u4 ⟨⟨m2, rfl, q, bs, hbs, hS⟩, hb⟩
            have HRg := Lib.hid (HRg.out.call2 hb hS)
            clear hbs hS hb
            refine hK.out _ _ (HSo.out _ HRg.out.below) (fun hHeld => ?_)
            clear hK K
            obtain ⟨x1, x2⟩ := HRg.out.row7 (mp := m1)
            have y2 := x2 _ rfl
            have HT := Lib.hid HRg.out.fin
            have HB7 : Hid (Below v3.heap.size v3 (World.setRow _ _ (mapsA m1))) := Lib.hid (below_setRow HRg.out.below (HRg.out.a7 _ rfl).1 (mapsA m1))
            clear x2
            refine step_store_row 8 (by kernel_rfl) rfl rfl rfl 77 _ _ rfl _ (mapsA m1) rfl rfl 77 nilA x1 (by rw [Try.size77]; rfl) rfl (mapsA_one m1) (HSo.out _ HB7.out) ?_
            refine step_store_row 9 (by kernel_rfl) rfl rfl rfl 77 _ _ rfl _ (mapsA m2) rfl rfl 77 nilA y2 (by rw [Try.size77]; rfl) rfl (mapsA_one m2) (HSo.out _ HT.out.below) ?_
            clear x1 y2
            refine wpAnyH_done (by kernel_rfl) ?_ _
            go_wp2_with fail
            go_meet
            exact ⟨_, _, m1, m2, rfl, rfl, HT⟩
  case rest =>
    obtain ⟨X, Y, m1, m2, rfl, rfl, HT⟩ := hcut
    obtain ⟨wb, rfl⟩ : ∃ x, x = wc := ⟨_, rfl⟩
    have k0 : wb.cell? ⟨w.heap.size, 0, none⟩ = some (.int .i64 (M : Int)) := by rw [HT.out.below.cell (p := ⟨w.heap.size, 0, none⟩) (by show w.heap.size < _; omega)]; exact c3_0
    have HB : Hid (Below w.heap.size w wb) := B3.out.trans (HT.out.below.mono (by omega))
    obtain ⟨q, bs1, hs1⟩ := HT.out.s1
    obtain ⟨q', bs2, hs2⟩ := HT.out.s2
    have HS1 := Lib.hid hs1
    have HS2 := Lib.hid hs2
    have hX := HT.out.l1
    have hY := HT.out.l2
    have HC1 := Lib.hid HT.out.c1
    have HC2 := Lib.hid HT.out.c2
    have HO : Hid (OwnI wb wb (.slice none 0 0) (chK (M : Int) L L' (s : Int) 0).length (chK (M : Int) L L' (s : Int) 0)) := Lib.hid (OwnI.nil wb)
    have hwb := HB.out.size
    clear hs1 hs2 HT HSo c3_0 c3_1 c3_2 c3_3 B3 R3_0 R3_1 d3_0 e3_0 d3_1 e3_1
    go_wp2_with fail
    go_loopw [9, 40] (fun v i wr => ∃ k : Nat, k ≤ M ∧ i = .int .i64 (k : Int) ∧ Hid (OwnI wb wr v (chK (M : Int) L L' (s : Int) k).length (chK (M : Int) L L' (s : Int) k))) (fun _ i _ => M - (intOf i).toNat)
    case atStart => exact ⟨0, Nat.zero_le _, rfl, HO⟩
    case round =>
      obtain ⟨k, hk, rfl, hR⟩ := hrel
      have hsz := hR.out.below.size
      have hkl := chK_len (M : Int) L L' (s : Int) k
      have hkn := chK_succ (M : Int) L L' (s : Int) k
      obtain ⟨Z, hZ⟩ : ∃ Z, Z = chK (M : Int) L L' (s : Int) k := ⟨_, rfl⟩
      rw [← hZ] at hR hkl hkn
      have Hkn := Lib.hid hkn
      have HZ := Lib.hid hZ
      clear hZ hkn
      obtain ⟨oa, oc, hov⟩ := own_slice hR.out.row
      subst hov
      by_cases hlt : k < M
      · have q0 : (k : Int) < (M : Int) := by omega
        have q1 : (k : Int) < 10 := by omega
        have q2 : (0 : Int) ≤ (k : Int) := by omega
        have hk10 : k < 10 := by omega
        have z0 : wr.cell? ⟨X, k, none⟩ = some (.map (some (m1 k))) := by rw [hR.out.below.cell (p := ⟨X, k, none⟩) hX]; exact HC1.out k hk10
        have z1 : wr.cell? ⟨Y, k, none⟩ = some (.map (some (m2 k))) := by rw [hR.out.below.cell (p := ⟨Y, k, none⟩) hY]; exact HC2.out k hk10
        have HW1 := Lib.hid (HS1.out.below hR.out.below)
        have HW2 := Lib.hid (HS2.out.below hR.out.below)
        have hXw : X < wr.heap.size := by omega
        have hYw : Y < wr.heap.size := by omega
        have hnk : ndB (M : Int) (k : Int) = true := by unfold ndB; rw [inB_iff]; omega
        have e1 : hopsL (M : Int) L (s : Int) (k : Int) = setL (fun z => decide (tgP (M : Int) L (k : Int) (s : Int) z)) := by unfold hopsL; rw [if_pos ⟨HG.out, Hns.out, hnk⟩]
        have e2 : hopsL (M : Int) L' (s : Int) (k : Int) = setL (fun z => decide (tgP (M : Int) L' (k : Int) (s : Int) z)) := by unfold hopsL; rw [if_pos ⟨HG'.out, Hns.out, hnk⟩]
        have E1 := Lib.hid e1
        have E2 := Lib.hid e2
        clear hnk e1 e2
        by_cases hc : setL (fun z => decide (tgP (M : Int) L (k : Int) (s : Int) z)) = setL (fun z => decide (tgP (M : Int) L' (k : Int) (s : Int) z))
        · have hd := decide_eq_true hc
          have Hc : Hid (hopsL (M : Int) L (s : Int) (k : Int) = hopsL (M : Int) L' (s : Int) (k : Int)) := by show _ = _; rw [E1.out, E2.out]; exact hc
          have Hd := Lib.hid hd
          clear hc hd
          go_wp2_with fail
          go_region_held3 (fun w' => w'.cell? ⟨X, k, none⟩ = some (.map (some (m1 k))) ∧ w'.cell? ⟨Y, k, none⟩ = some (.map (some (m2 k))) ∧ wr.heap.size ≤ w'.heap.size ∧ Below wr.heap.size wr w') (first | assumption | exact rr2_start z0 z1 | exact rr2_drew (by assumption) | exact rr2_keep (by omega) (by omega) (by assumption) (by assumption) | exact rr2_box (by omega) (by omega) (by assumption))
            (first | (go_at_call 70; refine (equal_any (m1 k) (m2 k) q q' (fun z => decide (tgP (M : Int) L (k : Int) (s : Int) z)) (fun z => decide (tgP (M : Int) L' (k : Int) (s : Int) z)) _ ((HW1.out.below (rr2_out (by assumption)).2).set k hk10) ((HW2.out.below (rr2_out (by assumption)).2).set k hk10)).mono ?_; rw [Hd.out]; rintro e w5 ⟨rfl, hb⟩))
          have hb5 : Below wr.heap.size wr w5 := (rr2_out (by assumption)).2
          have HF : Hid (OwnI wb w5 (.slice oa Z.length oc) (chK (M : Int) L L' (s : Int) (k + 1)).length (chK (M : Int) L L' (s : Int) (k + 1))) := by
            rw [Hkn.out, if_pos Hc.out, List.append_nil]
            exact hR.out.grow hb5
          clear hb5
          go_wp2_with fail
          go_roundw
          case rel => exact ⟨k + 1, by omega, by go_num, HF⟩
          case measure => simp [intOf]; omega
        · have hd := decide_eq_false hc
          have Hc : Hid (¬ (hopsL (M : Int) L (s : Int) (k : Int) = hopsL (M : Int) L' (s : Int) (k : Int))) := by show ¬ _; rw [E1.out, E2.out]; exact hc
          have Hd := Lib.hid hd
          clear hc hd
          go_wp2_with fail
          go_region_held3 (fun w' => w'.cell? ⟨X, k, none⟩ = some (.map (some (m1 k))) ∧ w'.cell? ⟨Y, k, none⟩ = some (.map (some (m2 k))) ∧ wr.heap.size ≤ w'.heap.size ∧ Below wr.heap.size wr w') (first | assumption | exact rr2_start z0 z1 | exact rr2_drew (by assumption) | exact rr2_keep (by omega) (by omega) (by assumption) (by assumption) | exact rr2_box (by omega) (by omega) (by assumption))
            (first | (go_at_call 70; refine (equal_any (m1 k) (m2 k) q q' (fun z => decide (tgP (M : Int) L (k : Int) (s : Int) z)) (fun z => decide (tgP (M : Int) L' (k : Int) (s : Int) z)) _ ((HW1.out.below (rr2_out (by assumption)).2).set k hk10) ((HW2.out.below (rr2_out (by assumption)).2).set k hk10)).mono ?_; rw [Hd.out]; rintro e w5 ⟨rfl, hb⟩))
          have hb5 : Below wr.heap.size wr w5 := (rr2_out (by assumption)).2
          have HR5 := Lib.hid (hR.out.grow hb5)
          have Hw := Lib.hid HR5.out.row
          clear hb5
          go_wp2_with (at_builtin; refine wpList_append_lies _ rfl _ _ 26 rfl wb.heap.size 3 i3 (.int .i64 0) 1 8 Try.underlying26 I.out.1 I.out.2.1 I.out.2.2.1 I.out.2.2.2 rfl (by decide) _ Z.length (ints Z) rfl (Hw.out.alloc _) ⟨w5.heap.size, 0, none⟩ 1 1 [.int .i64 (k : Int)] rfl rfl ?d0 (int_one _) (by decide) ?d1 ?d2 ?d3 _ rfl ?_)
          case d0 => exact fun a u ha => cell_one_new _ _ 3 rfl a u ha
          case d1 => unfold maxLen; omega
          case d2 => omega
          case d3 => simp; omega
          intro g4 cap4 w4 hown4 hgrow4 hat4 hlt4
          have HF : Hid (OwnI wb w4 (.slice (some ⟨g4, 0, none⟩) (Z.length + 1) cap4) (chK (M : Int) L L' (s : Int) (k + 1)).length (chK (M : Int) L L' (s : Int) (k + 1))) := by
            rw [Hkn.out, if_neg Hc.out, show (Z ++ [(k : Int)]).length = Z.length + 1 by simp]
            exact (HR5.out.grow ((Below.refl _ _).alloc (Nat.le_refl _) _)).app hgrow4 hown4
          clear hown4 hgrow4 hat4 hlt4 HR5 Hw
          go_wp2_with fail
          go_roundw
          case rel => exact ⟨k + 1, by omega, by go_num, HF⟩
          case measure => simp [intOf]; omega
      · obtain rfl : M = k := by omega
        have hge : ¬ ((M : Int) < (M : Int)) := by omega
        have Hrow := Lib.hid hR.out
        clear hR
        go_wp2_with fail
        refine bodyPost_ret (v := .slice oa Z.length oc) (by simp [results, Try.results46, go_sem]) rfl ⟨_, rfl, ?_⟩
        rw [← HZ.out]
        exact ⟨(Hrow.out.toRow (by omega)).wider (by omega), HB.out.trans (Hrow.out.below.mono (by omega))⟩

theorem ich_any (lo hi n : Nat) (v : Value) (L : List Ed) (N : Int) (lo' hi' n' : Nat) (v' : Value) (L' : List Ed) (N' x : Int) (w : World) (hL : L.length = n) (hr : Row 3 w lo hi v n (flat L)) (hh : hi ≤ w.heap.size) (hL' : L'.length = n') (hr' : Row 3 w lo' hi' v' n' (flat L')) (hh' : hi' ≤ w.heap.size) :
    Calls Try.prog 46 #[.agg #[.int .i64 N, v], .agg #[.int .i64 N', v'], .int .i64 x] w (LiPost (chL N L N' L' x) w) := by
  unfold chL
  by_cases hG : gok N L = true
  · by_cases hG' : gok N' L' = true
    · by_cases hN : N = N'
      · subst hN
        by_cases hx : ndB N x = true
        · rw [if_pos ⟨hG, hG', rfl, hx⟩]
          have hN := gok_parts hG
          obtain ⟨M, rfl⟩ : ∃ M : Nat, N = (M : Int) := ⟨N.toNat, by omega⟩
          unfold ndB at hx
          rw [inB_iff] at hx
          obtain ⟨s, rfl⟩ : ∃ s : Nat, x = (s : Int) := ⟨x.toNat, by omega⟩
          exact ich_yes M lo hi n v L s lo' hi' n' v' L' (by omega) w hL hr hh hL' hr' hh' hG hG'
        · rw [if_neg (fun h => hx h.2.2.2)]
          exact ich_no3 lo hi n v L N lo' hi' n' v' L' N x w hL hr hh hL' hr' hh' ⟨hG, hG', rfl, by simpa using hx⟩
      · rw [if_neg (fun h => hN h.2.2.1)]
        exact ich_no2 lo hi n v L N lo' hi' n' v' L' N' x w hL hr hh hL' hr' hh' ⟨hG, hG', hN⟩
    · rw [if_neg (fun h => hG' h.2.1)]
      exact ich_no1 lo hi n v L N lo' hi' n' v' L' N' x w hL hr hh hL' hr' hh' ⟨hG, by simpa using hG'⟩
  · rw [if_neg (fun h => hG h.1)]
    exact ich_no0 lo hi n v L N lo' hi' n' v' L' N' x w hL hr hh hL' hr' hh' (by simpa using hG)

theorem sch_any (lo hi n : Nat) (v : Value) (L : List Ed) (N : Int) (lo' hi' n' : Nat) (v' : Value) (L' : List Ed) (N' x : Int) (w : World) (hL : L.length = n) (hr : Row 3 w lo hi v n (flat L)) (hh : hi ≤ w.heap.size) (hL' : L'.length = n') (hr' : Row 3 w lo' hi' v' n' (flat L')) (hh' : hi' ≤ w.heap.size) :
    Calls Try.prog 45 #[.agg #[.int .i64 N, v], .agg #[.int .i64 N', v'], .int .i64 x] w (LiPost (chL N L N' L' x) w) := by
  unfold chL
  by_cases hG : gok N L = true
  · by_cases hG' : gok N' L' = true
    · by_cases hN : N = N'
      · subst hN
        by_cases hx : ndB N x = true
        · rw [if_pos ⟨hG, hG', rfl, hx⟩]
          have hN := gok_parts hG
          obtain ⟨M, rfl⟩ : ∃ M : Nat, N = (M : Int) := ⟨N.toNat, by omega⟩
          unfold ndB at hx
          rw [inB_iff] at hx
          obtain ⟨s, rfl⟩ : ∃ s : Nat, x = (s : Int) := ⟨x.toNat, by omega⟩
          exact sch_yes M lo hi n v L s lo' hi' n' v' L' (by omega) w hL hr hh hL' hr' hh' hG hG'
        · rw [if_neg (fun h => hx h.2.2.2)]
          exact sch_no3 lo hi n v L N lo' hi' n' v' L' N x w hL hr hh hL' hr' hh' ⟨hG, hG', rfl, by simpa using hx⟩
      · rw [if_neg (fun h => hN h.2.2.1)]
        exact sch_no2 lo hi n v L N lo' hi' n' v' L' N' x w hL hr hh hL' hr' hh' ⟨hG, hG', hN⟩
    · rw [if_neg (fun h => hG' h.2.1)]
      exact sch_no1 lo hi n v L N lo' hi' n' v' L' N' x w hL hr hh hL' hr' hh' ⟨hG, by simpa using hG'⟩
  · rw [if_neg (fun h => hG h.1)]
    exact sch_no0 lo hi n v L N lo' hi' n' v' L' N' x w hL hr hh hL' hr' hh' (by simpa using hG)

end Go.Proofs.Ytkkfgnnhdcmmjaa
