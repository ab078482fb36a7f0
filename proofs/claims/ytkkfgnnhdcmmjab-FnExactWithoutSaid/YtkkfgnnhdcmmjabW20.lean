/- Without: the model. -/
import Derived.Test.YtkkfgnnhdcmmjabW19
namespace Go.Proofs.Ytkkfgnnhdcmmjab
open Go.RowKit


theorem cell_three_new' (w : World) (x y z : Value) (T : TypeId) {B : Nat} (hB : B = w.heap.size) (j : Nat) (u : Value) (h : [x, y, z][j]? = some u) : (w.alloc (.cells #[x, y, z] T)).cell? ((⟨B, 0, none⟩ : Addr).add j) = some u := by
  subst hB; exact cell_three_new w x y z T j u h

set_option maxRecDepth 100000 in
set_option maxHeartbeats 4000000 in
theorem scopy_any (N : Int) (lo hi n : Nat) (v : Value) (L : List Ed) (w : World) (hL : L.length = n) (hr : Row 3 w lo hi v n (flat L)) (hh : hi ≤ w.heap.size) (hn : n ≤ 1048576) :
    Calls Try.prog 41 #[.agg #[.int .i64 N, v]] w fun e w' => ∃ rv, e = .returned (.agg #[.int .i64 N, rv]) ∧ Row 3 w' w.heap.size w'.heap.size rv n (flat L) ∧ Below w.heap.size w w' := by
  have HR := Lib.hid hr
  have HG0 := HR
  obtain ⟨ad, cp, rfl, _, hc⟩ := hr.opened
  have HC := Lib.hid hc
  have HL := Lib.hid hL
  obtain ⟨i59, hi, hz0, hz1, hz2⟩ := info_parts Try.info56
  have I := Lib.hid (And.intro hi (And.intro hz0 (And.intro hz1 hz2)))
  clear hr hc hi hz0 hz1 hz2
  go_enter Try.func41, Try.ntmps41
  go_wp2_with fail
  have x0 : (((w.alloc (.cells #[.int .i64 N, .slice ad n cp] 29)).alloc (.cells #[.int .i64 0, .slice none 0 0] 29)).alloc (.cells #[.int .i64 N, .slice none 0 0] 29)).cell? ⟨w.heap.size, 0, none⟩ = some (.int .i64 N) := by simp [go_sem]
  have x1 : (((w.alloc (.cells #[.int .i64 N, .slice ad n cp] 29)).alloc (.cells #[.int .i64 0, .slice none 0 0] 29)).alloc (.cells #[.int .i64 N, .slice none 0 0] 29)).cell? ⟨w.heap.size, 1, none⟩ = some (.slice ad n cp) := by simp [go_sem]
  have y0 : (((w.alloc (.cells #[.int .i64 N, .slice ad n cp] 29)).alloc (.cells #[.int .i64 0, .slice none 0 0] 29)).alloc (.cells #[.int .i64 N, .slice none 0 0] 29)).cell? ⟨w.heap.size + 1, 0, none⟩ = some (.int .i64 0) := by simp [go_sem]
  have y1 : (((w.alloc (.cells #[.int .i64 N, .slice ad n cp] 29)).alloc (.cells #[.int .i64 0, .slice none 0 0] 29)).alloc (.cells #[.int .i64 N, .slice none 0 0] 29)).cell? ⟨w.heap.size + 1, 1, none⟩ = some (.slice none 0 0) := by simp [go_sem]
  have y2 : (((w.alloc (.cells #[.int .i64 N, .slice ad n cp] 29)).alloc (.cells #[.int .i64 0, .slice none 0 0] 29)).alloc (.cells #[.int .i64 N, .slice none 0 0] 29)).frozen? ⟨w.heap.size + 1, 0, none⟩ = false := by simp [go_sem]
  have y3 : (((w.alloc (.cells #[.int .i64 N, .slice ad n cp] 29)).alloc (.cells #[.int .i64 0, .slice none 0 0] 29)).alloc (.cells #[.int .i64 N, .slice none 0 0] 29)).frozen? ⟨w.heap.size + 1, 1, none⟩ = false := by simp [go_sem]
  have HO : Hid (OutG (((w.alloc (.cells #[.int .i64 N, .slice ad n cp] 29)).alloc (.cells #[.int .i64 0, .slice none 0 0] 29)).alloc (.cells #[.int .i64 N, .slice none 0 0] 29)) (((w.alloc (.cells #[.int .i64 N, .slice ad n cp] 29)).alloc (.cells #[.int .i64 0, .slice none 0 0] 29)).alloc (.cells #[.int .i64 N, .slice none 0 0] 29)) (w.heap.size + 1 + 1) N []) := OutG.start (by simp) (by simp [go_sem]) (by rw [new_at (by simp)]; rfl) (by rw [new_at (by simp)]; rfl)
  have HB : Hid (Below w.heap.size w (((w.alloc (.cells #[.int .i64 N, .slice ad n cp] 29)).alloc (.cells #[.int .i64 0, .slice none 0 0] 29)).alloc (.cells #[.int .i64 N, .slice none 0 0] 29))) := by show Below _ _ _; go_grown
  have hs3 : (((w.alloc (.cells #[.int .i64 N, .slice ad n cp] 29)).alloc (.cells #[.int .i64 0, .slice none 0 0] 29)).alloc (.cells #[.int .i64 N, .slice none 0 0] 29)).heap.size = w.heap.size + 1 + 1 + 1 := by simp
  generalize ((w.alloc (.cells #[.int .i64 N, .slice ad n cp] 29)).alloc (.cells #[.int .i64 0, .slice none 0 0] 29)).alloc (.cells #[.int .i64 N, .slice none 0 0] 29) = w3 at *
  obtain ⟨X, hX⟩ : ∃ X, X = w.heap.size + 1 + 1 := ⟨_, rfl⟩
  obtain ⟨R, hR⟩ : ∃ R, R = w.heap.size + 1 := ⟨_, rfl⟩
  rw [← hX] at HO ⊢
  rw [← hR] at y0 y1 y2 y3 ⊢
  have n1 : w.heap.size < R := by omega
  have n2 : R < X := by omega
  have n3 : R ≠ X := by omega
  have n4 : X < w3.heap.size := by omega
  have n5 : w.heap.size < X := by omega
  have HXR := Lib.hid (And.intro hX hR)
  clear hX hR hs3
  go_loopw [4] (fun i wr => ∃ k : Nat, k ≤ n ∧ i = .int .i64 (k : Int) ∧ Hid (OutG w3 wr X N (L.take k))) (fun i _ => n - (intOf i).toNat)
  case atStart => exact ⟨0, Nat.zero_le _, rfl, HO⟩
  case round =>
    obtain ⟨k, hk, rfl, hR⟩ := hrel
    have hBw : Below w.heap.size w wr := HB.out.trans (hR.out.1.mono (by omega))
    have k1 : wr.cell? ⟨w.heap.size, 1, none⟩ = some (.slice ad n cp) := by rw [hR.out.1.cell (p := ⟨w.heap.size, 1, none⟩) n5]; exact x1
    have hXl := hR.out.size
    by_cases hlt : k < n
    · obtain ⟨g, rfl, hg, hcell⟩ := HC.out (by omega)
      obtain ⟨r, hrk⟩ : ∃ r, L[k]? = some r := ⟨L[k]'(by rw [HL.out]; exact hlt), List.getElem?_eq_getElem _⟩
      obtain ⟨a, b, c⟩ := r
      obtain ⟨r0, r1, r2⟩ := flat_at L k _ hrk
      have z0 : wr.cell? ⟨g, k * 3, none⟩ = some (.int .i64 a) := by rw [hBw.cell (p := ⟨g, k * 3, none⟩) (by show g < _; omega)]; exact hcell _ _ r0
      have z1 : wr.cell? ⟨g, k * 3 + 1, none⟩ = some (.int .i64 b) := by rw [hBw.cell (p := ⟨g, k * 3 + 1, none⟩) (by show g < _; omega)]; exact hcell _ _ r1
      have z2 : wr.cell? ⟨g, k * 3 + 2, none⟩ = some (.int .i64 c) := by rw [hBw.cell (p := ⟨g, k * 3 + 2, none⟩) (by show g < _; omega)]; exact hcell _ _ r2
      have q0 : (0 : Int) ≤ (k : Int) := by omega
      have q1 : (k : Int) < (n : Int) := by omega
      have Ht := Lib.hid (take_snoc3 hrk)
      have hgl : g < wr.heap.size := by omega
      have hwl : w.heap.size < wr.heap.size := by omega
      obtain ⟨rv, hrv, hown⟩ := hR.out.2.2.2.2
      obtain ⟨ra, rc, hra⟩ := own_slice hown
      subst hra
      have hfX := hR.out.2.2.1
      have hll : (L.take k).length ≤ k := by rw [List.length_take]; exact Nat.min_le_left _ _
      have Hw := Lib.hid hown
      obtain ⟨m, hm⟩ : ∃ m, m = (L.take k).length := ⟨_, rfl⟩
      rw [← hm] at hrv hll Hw
      have Hm := Lib.hid hm
      clear hm hown r0 r1 r2 hrk hcell hBw
      go_wp2_with fail
      go_region_law (first
        | (refine step_append_lies _ rfl _ _ 27 rfl (X + 1) 56 i59 (.agg #[.int .i64 0, .int .i64 0, .int .i64 0]) 3 24 Try.underlying27 I.out.1 I.out.2.1 I.out.2.2.1 I.out.2.2.2 rfl (by decide) _ m (ints (flat (L.take k))) rfl (Hw.out.drew.alloc _) ⟨wr.heap.size, 0, none⟩ 1 1 [.int .i64 a, .int .i64 b, .int .i64 c] rfl rfl (fun j u hj => cell_three_new wr.drew (.int .i64 a) (.int .i64 b) (.int .i64 c) 56 j u hj) (three_one _ _ _) (by decide) (by unfold maxLen; omega) (by omega) (by simp; omega) _ rfl ?_; intro g4 cap4 w4 hown4 hgrow4 hat4 hlt4; obtain ⟨⟨uu, hc4⟩, hf4, hF4⟩ := OutG.app hR.out.drew (by rw [← Hm.out]; exact Hw.out.drew) hgrow4 (show m + 1 = (L.take k).length + 1 by rw [Hm.out]) hown4; have HF := Lib.hid hF4; clear hF4 hown4 hgrow4 hat4 hlt4))
      all_goals
        go_wp2_with fail
        go_roundw
        case rel => exact ⟨k + 1, by omega, by go_num, by rw [Ht.out]; exact HF.out⟩
        case measure => simp [intOf]; omega
    · have hge : ¬ ((k : Int) < (n : Int)) := by omega
      obtain rfl : k = n := by omega
      have ht : L.take k = L := List.take_of_length_le (by rw [HL.out]; exact Nat.le_refl _)
      have HBw := Lib.hid hBw
      rw [ht] at hR
      obtain ⟨_, _, _, o0, rv, hrv, hown⟩ := hR.out
      obtain ⟨ra, rc, hra⟩ := own_slice hown
      subst hra
      have hrow := row_of_own hown (by rw [HL.out]; omega)
      have b0 : wr.cell? ⟨R, 0, none⟩ = some (.int .i64 0) := by rw [hR.out.1.cell (p := ⟨R, 0, none⟩) n2]; exact y0
      have b1 : wr.cell? ⟨R, 1, none⟩ = some (.slice none 0 0) := by rw [hR.out.1.cell (p := ⟨R, 1, none⟩) n2]; exact y1
      have b2 : wr.frozen? ⟨R, 0, none⟩ = false := by rw [hR.out.1.frozen (p := ⟨R, 0, none⟩) n2]; exact y2
      have b3 : wr.frozen? ⟨R, 1, none⟩ = false := by rw [hR.out.1.frozen (p := ⟨R, 1, none⟩) n2]; exact y3
      rw [HL.out] at hrv hrow
      have Hrow := Lib.hid (Row.set2 (w0 := w) hrow (R := R) (.inl (by omega)) (.int .i64 N) (.slice ra k rc) (by omega) (Nat.le_refl _))
      have r0 := set2_0 (x := .int .i64 N) (y := .slice ra k rc) b0
      have r1 := set2_1 (x := .int .i64 N) (y := .slice ra k rc) b1
      clear hown hrow ht hBw
      go_wp2_with fail
      refine bodyPost_ret (v := .agg #[.int .i64 N, .slice ra k rc]) (by simp [results, Try.results41, go_sem, r0, r1]) rfl ⟨_, rfl, Hrow.out, ?_⟩
      exact (HBw.out.setCell (by show _ ≤ R; omega) _).setCell (by show _ ≤ R; omega) _

set_option maxRecDepth 100000 in
set_option maxHeartbeats 8000000 in
theorem swo_any (N : Int) (lo hi n : Nat) (v : Value) (L : List Ed) (x y : Int) (w : World) (hL : L.length = n) (hn : n ≤ 1048576) (hr : Row 3 w lo hi v n (flat L)) (hh : hi ≤ w.heap.size) :
    Calls Try.prog 20 #[.agg #[.int .i64 N, v], .int .i64 x, .int .i64 y] w (WPost N L x y w) := by
  have HR := Lib.hid hr
  have HG0 := HR
  obtain ⟨ad, cp, rfl, _, hc⟩ := hr.opened
  have HC := Lib.hid hc
  have HL := Lib.hid hL
  obtain ⟨i59, hi, hz0, hz1, hz2⟩ := info_parts Try.info56
  have I := Lib.hid (And.intro hi (And.intro hz0 (And.intro hz1 hz2)))
  clear hr hc hi hz0 hz1 hz2
  go_enter Try.func20, Try.ntmps20
  go_wp2_with fail
  have x0 : (((w.alloc (.cells #[.int .i64 N, .slice ad n cp] 29)).alloc (.cells #[.int .i64 0, .slice none 0 0] 29)).alloc (.cells #[.int .i64 N, .slice none 0 0] 29)).cell? ⟨w.heap.size, 0, none⟩ = some (.int .i64 N) := by simp [go_sem]
  have x1 : (((w.alloc (.cells #[.int .i64 N, .slice ad n cp] 29)).alloc (.cells #[.int .i64 0, .slice none 0 0] 29)).alloc (.cells #[.int .i64 N, .slice none 0 0] 29)).cell? ⟨w.heap.size, 1, none⟩ = some (.slice ad n cp) := by simp [go_sem]
  have y0 : (((w.alloc (.cells #[.int .i64 N, .slice ad n cp] 29)).alloc (.cells #[.int .i64 0, .slice none 0 0] 29)).alloc (.cells #[.int .i64 N, .slice none 0 0] 29)).cell? ⟨w.heap.size + 1, 0, none⟩ = some (.int .i64 0) := by simp [go_sem]
  have y1 : (((w.alloc (.cells #[.int .i64 N, .slice ad n cp] 29)).alloc (.cells #[.int .i64 0, .slice none 0 0] 29)).alloc (.cells #[.int .i64 N, .slice none 0 0] 29)).cell? ⟨w.heap.size + 1, 1, none⟩ = some (.slice none 0 0) := by simp [go_sem]
  have y2 : (((w.alloc (.cells #[.int .i64 N, .slice ad n cp] 29)).alloc (.cells #[.int .i64 0, .slice none 0 0] 29)).alloc (.cells #[.int .i64 N, .slice none 0 0] 29)).frozen? ⟨w.heap.size + 1, 0, none⟩ = false := by simp [go_sem]
  have y3 : (((w.alloc (.cells #[.int .i64 N, .slice ad n cp] 29)).alloc (.cells #[.int .i64 0, .slice none 0 0] 29)).alloc (.cells #[.int .i64 N, .slice none 0 0] 29)).frozen? ⟨w.heap.size + 1, 1, none⟩ = false := by simp [go_sem]
  have HO : Hid (OutG (((w.alloc (.cells #[.int .i64 N, .slice ad n cp] 29)).alloc (.cells #[.int .i64 0, .slice none 0 0] 29)).alloc (.cells #[.int .i64 N, .slice none 0 0] 29)) (((w.alloc (.cells #[.int .i64 N, .slice ad n cp] 29)).alloc (.cells #[.int .i64 0, .slice none 0 0] 29)).alloc (.cells #[.int .i64 N, .slice none 0 0] 29)) (w.heap.size + 1 + 1) N []) := OutG.start (by simp) (by simp [go_sem]) (by rw [new_at (by simp)]; rfl) (by rw [new_at (by simp)]; rfl)
  have HB : Hid (Below w.heap.size w (((w.alloc (.cells #[.int .i64 N, .slice ad n cp] 29)).alloc (.cells #[.int .i64 0, .slice none 0 0] 29)).alloc (.cells #[.int .i64 N, .slice none 0 0] 29))) := by show Below _ _ _; go_grown
  have hs3 : (((w.alloc (.cells #[.int .i64 N, .slice ad n cp] 29)).alloc (.cells #[.int .i64 0, .slice none 0 0] 29)).alloc (.cells #[.int .i64 N, .slice none 0 0] 29)).heap.size = w.heap.size + 1 + 1 + 1 := by simp
  generalize ((w.alloc (.cells #[.int .i64 N, .slice ad n cp] 29)).alloc (.cells #[.int .i64 0, .slice none 0 0] 29)).alloc (.cells #[.int .i64 N, .slice none 0 0] 29) = w3 at *
  obtain ⟨X, hX⟩ : ∃ X, X = w.heap.size + 1 + 1 := ⟨_, rfl⟩
  obtain ⟨R, hR⟩ : ∃ R, R = w.heap.size + 1 := ⟨_, rfl⟩
  rw [← hX] at HO ⊢
  rw [← hR] at y0 y1 y2 y3 ⊢
  have n1 : w.heap.size < R := by omega
  have n2 : R < X := by omega
  have n3 : R ≠ X := by omega
  have n4 : X < w3.heap.size := by omega
  have n5 : w.heap.size < X := by omega
  have HXR := Lib.hid (And.intro hX hR)
  clear hX hR hs3
  go_loopw [9] (fun i wr => ∃ k : Nat, k ≤ n ∧ i = .int .i64 (k : Int) ∧ Hid (OutG w3 wr X N (wkeep (L.take k) x y))) (fun i _ => n - (intOf i).toNat)
  case atStart => exact ⟨0, Nat.zero_le _, rfl, HO⟩
  case round =>
    obtain ⟨k, hk, rfl, hR⟩ := hrel
    have hBw : Below w.heap.size w wr := HB.out.trans (hR.out.1.mono (by omega))
    have k0 : wr.cell? ⟨w.heap.size, 0, none⟩ = some (.int .i64 N) := by rw [hR.out.1.cell (p := ⟨w.heap.size, 0, none⟩) n5]; exact x0
    have k1 : wr.cell? ⟨w.heap.size, 1, none⟩ = some (.slice ad n cp) := by rw [hR.out.1.cell (p := ⟨w.heap.size, 1, none⟩) n5]; exact x1
    have hXl := hR.out.size
    by_cases hlt : k < n
    · obtain ⟨g, rfl, hg, hcell⟩ := HC.out (by omega)
      obtain ⟨r, hrk⟩ : ∃ r, L[k]? = some r := ⟨L[k]'(by rw [HL.out]; exact hlt), List.getElem?_eq_getElem _⟩
      obtain ⟨a, b, c⟩ := r
      obtain ⟨r0, r1, r2⟩ := flat_at L k _ hrk
      have z0 : wr.cell? ⟨g, k * 3, none⟩ = some (.int .i64 a) := by rw [hBw.cell (p := ⟨g, k * 3, none⟩) (by show g < _; omega)]; exact hcell _ _ r0
      have z1 : wr.cell? ⟨g, k * 3 + 1, none⟩ = some (.int .i64 b) := by rw [hBw.cell (p := ⟨g, k * 3 + 1, none⟩) (by show g < _; omega)]; exact hcell _ _ r1
      have z2 : wr.cell? ⟨g, k * 3 + 2, none⟩ = some (.int .i64 c) := by rw [hBw.cell (p := ⟨g, k * 3 + 2, none⟩) (by show g < _; omega)]; exact hcell _ _ r2
      have q0 : (0 : Int) ≤ (k : Int) := by omega
      have q1 : (k : Int) < (n : Int) := by omega
      have hks : Hid (wkeep (L.take (k + 1)) x y = wkeep (L.take k) x y ++ if jnB a b x y then [] else [(a, b, c)]) := keep_snoc (P := fun e => jnB e.1 e.2.1 x y) hrk
      have hll : (wkeep (L.take k) x y).length ≤ k := filter_len _ L k
      obtain ⟨m, hm⟩ : ∃ m, m = (wkeep (L.take k) x y).length := ⟨_, rfl⟩
      rw [← hm] at hll
      have Hm := Lib.hid hm
      have HE := Lib.hid (hR.out.below ((Below.refl _ _).alloc (Nat.le_refl _) (.cells #[.int .i64 a, .int .i64 b, .int .i64 c] 56)))
      obtain ⟨rv, hrv, hown⟩ := HE.out.2.2.2.2
      obtain ⟨ra, rc, hra⟩ := own_slice hown
      subst hra
      rw [← Hm.out] at hrv
      have hfX := HE.out.2.2.1
      have Hw := Lib.hid hown
      rw [← Hm.out] at Hw
      have hXne : X ≠ wr.heap.size := by omega
      clear hm hown r0 r1 r2 hrk hcell hBw hR
      by_cases h1 : a = x
      · have e1 : (a == x) = true := by simp [h1]
        clear h1
        by_cases h2 : b = y
        · have e2 : (b == y) = true := by simp [h2]
          clear h2
          have hJ : Hid (jnB a b x y = true) := by show jnB a b x y = true; unfold jnB; simp [e1, e2]
          rw [hJ.out, if_pos rfl, List.append_nil] at hks
          clear Hw
          go_wp2_with fail
          go_roundw
          case rel => exact ⟨k + 1, by omega, by go_num, by rw [hks.out]; exact HE.out⟩
          case measure => simp [intOf]; omega
        · have e2 : (b == y) = false := by simp [h2]
          clear h2
          by_cases h3 : a = y
          · have e3 : (a == y) = true := by simp [h3]
            clear h3
            by_cases h4 : b = x
            · have e4 : (b == x) = true := by simp [h4]
              clear h4
              have hJ : Hid (jnB a b x y = true) := by show jnB a b x y = true; unfold jnB; simp [e1, e2, e3, e4]
              rw [hJ.out, if_pos rfl, List.append_nil] at hks
              clear Hw
              go_wp2_with fail
              go_roundw
              case rel => exact ⟨k + 1, by omega, by go_num, by rw [hks.out]; exact HE.out⟩
              case measure => simp [intOf]; omega
            · have e4 : (b == x) = false := by simp [h4]
              clear h4
              have hJ : Hid (jnB a b x y = false) := by show jnB a b x y = false; unfold jnB; simp [e1, e2, e3, e4]
              rw [hJ.out, if_neg (by decide)] at hks
              go_wp2_with (at_builtin; refine wpList_append_lies _ rfl _ _ 27 rfl (X + 1) 56 i59 (.agg #[.int .i64 0, .int .i64 0, .int .i64 0]) 3 24 Try.underlying27 I.out.1 I.out.2.1 I.out.2.2.1 I.out.2.2.2 rfl (by decide) _ m (ints (flat (wkeep (L.take k) x y))) rfl (Hw.out.alloc _) ⟨wr.heap.size + 1, 0, none⟩ 1 1 [.int .i64 a, .int .i64 b, .int .i64 c] rfl rfl ?c0 (three_one _ _ _) (by decide) ?c1 ?c2 ?c3 _ rfl ?_)
              case c0 => exact fun j u hj => cell_three_new' _ (.int .i64 a) (.int .i64 b) (.int .i64 c) 56 (by simp) j u hj
              case c1 => unfold maxLen; omega
              case c2 => omega
              case c3 => simp; omega
              intro g4 cap4 w4 hown4 hgrow4 hat4 hlt4
              obtain ⟨⟨uu, hc4⟩, hf4, hF4⟩ := OutG.app HE.out (by rw [← Hm.out]; exact Hw.out) hgrow4 (show m + 1 = (wkeep (L.take k) x y).length + 1 by rw [Hm.out]) hown4
              have HF := Lib.hid hF4
              clear hF4 hown4 hgrow4 hat4 hlt4 Hw HE
              go_wp2_with fail
              go_roundw
              case rel => exact ⟨k + 1, by omega, by go_num, by rw [hks.out]; exact HF.out⟩
              case measure => simp [intOf]; omega
          · have e3 : (a == y) = false := by simp [h3]
            clear h3
            have hJ : Hid (jnB a b x y = false) := by show jnB a b x y = false; unfold jnB; simp [e1, e2, e3]
            rw [hJ.out, if_neg (by decide)] at hks
            go_wp2_with (at_builtin; refine wpList_append_lies _ rfl _ _ 27 rfl (X + 1) 56 i59 (.agg #[.int .i64 0, .int .i64 0, .int .i64 0]) 3 24 Try.underlying27 I.out.1 I.out.2.1 I.out.2.2.1 I.out.2.2.2 rfl (by decide) _ m (ints (flat (wkeep (L.take k) x y))) rfl (Hw.out.alloc _) ⟨wr.heap.size + 1, 0, none⟩ 1 1 [.int .i64 a, .int .i64 b, .int .i64 c] rfl rfl ?c0 (three_one _ _ _) (by decide) ?c1 ?c2 ?c3 _ rfl ?_)
            case c0 => exact fun j u hj => cell_three_new' _ (.int .i64 a) (.int .i64 b) (.int .i64 c) 56 (by simp) j u hj
            case c1 => unfold maxLen; omega
            case c2 => omega
            case c3 => simp; omega
            intro g4 cap4 w4 hown4 hgrow4 hat4 hlt4
            obtain ⟨⟨uu, hc4⟩, hf4, hF4⟩ := OutG.app HE.out (by rw [← Hm.out]; exact Hw.out) hgrow4 (show m + 1 = (wkeep (L.take k) x y).length + 1 by rw [Hm.out]) hown4
            have HF := Lib.hid hF4
            clear hF4 hown4 hgrow4 hat4 hlt4 Hw HE
            go_wp2_with fail
            go_roundw
            case rel => exact ⟨k + 1, by omega, by go_num, by rw [hks.out]; exact HF.out⟩
            case measure => simp [intOf]; omega
      · have e1 : (a == x) = false := by simp [h1]
        clear h1
        by_cases h3 : a = y
        · have e3 : (a == y) = true := by simp [h3]
          clear h3
          by_cases h4 : b = x
          · have e4 : (b == x) = true := by simp [h4]
            clear h4
            have hJ : Hid (jnB a b x y = true) := by show jnB a b x y = true; unfold jnB; simp [e1, e3, e4]
            rw [hJ.out, if_pos rfl, List.append_nil] at hks
            clear Hw
            go_wp2_with fail
            go_roundw
            case rel => exact ⟨k + 1, by omega, by go_num, by rw [hks.out]; exact HE.out⟩
            case measure => simp [intOf]; omega
          · have e4 : (b == x) = false := by simp [h4]
            clear h4
            have hJ : Hid (jnB a b x y = false) := by show jnB a b x y = false; unfold jnB; simp [e1, e3, e4]
            rw [hJ.out, if_neg (by decide)] at hks
            go_wp2_with (at_builtin; refine wpList_append_lies _ rfl _ _ 27 rfl (X + 1) 56 i59 (.agg #[.int .i64 0, .int .i64 0, .int .i64 0]) 3 24 Try.underlying27 I.out.1 I.out.2.1 I.out.2.2.1 I.out.2.2.2 rfl (by decide) _ m (ints (flat (wkeep (L.take k) x y))) rfl (Hw.out.alloc _) ⟨wr.heap.size + 1, 0, none⟩ 1 1 [.int .i64 a, .int .i64 b, .int .i64 c] rfl rfl ?c0 (three_one _ _ _) (by decide) ?c1 ?c2 ?c3 _ rfl ?_)
            case c0 => exact fun j u hj => cell_three_new' _ (.int .i64 a) (.int .i64 b) (.int .i64 c) 56 (by simp) j u hj
            case c1 => unfold maxLen; omega
            case c2 => omega
            case c3 => simp; omega
            intro g4 cap4 w4 hown4 hgrow4 hat4 hlt4
            obtain ⟨⟨uu, hc4⟩, hf4, hF4⟩ := OutG.app HE.out (by rw [← Hm.out]; exact Hw.out) hgrow4 (show m + 1 = (wkeep (L.take k) x y).length + 1 by rw [Hm.out]) hown4
            have HF := Lib.hid hF4
            clear hF4 hown4 hgrow4 hat4 hlt4 Hw HE
            go_wp2_with fail
            go_roundw
            case rel => exact ⟨k + 1, by omega, by go_num, by rw [hks.out]; exact HF.out⟩
            case measure => simp [intOf]; omega
        · have e3 : (a == y) = false := by simp [h3]
          clear h3
          have hJ : Hid (jnB a b x y = false) := by show jnB a b x y = false; unfold jnB; simp [e1, e3]
          rw [hJ.out, if_neg (by decide)] at hks
          go_wp2_with (at_builtin; refine wpList_append_lies _ rfl _ _ 27 rfl (X + 1) 56 i59 (.agg #[.int .i64 0, .int .i64 0, .int .i64 0]) 3 24 Try.underlying27 I.out.1 I.out.2.1 I.out.2.2.1 I.out.2.2.2 rfl (by decide) _ m (ints (flat (wkeep (L.take k) x y))) rfl (Hw.out.alloc _) ⟨wr.heap.size + 1, 0, none⟩ 1 1 [.int .i64 a, .int .i64 b, .int .i64 c] rfl rfl ?c0 (three_one _ _ _) (by decide) ?c1 ?c2 ?c3 _ rfl ?_)
          case c0 => exact fun j u hj => cell_three_new' _ (.int .i64 a) (.int .i64 b) (.int .i64 c) 56 (by simp) j u hj
          case c1 => unfold maxLen; omega
          case c2 => omega
          case c3 => simp; omega
          intro g4 cap4 w4 hown4 hgrow4 hat4 hlt4
          obtain ⟨⟨uu, hc4⟩, hf4, hF4⟩ := OutG.app HE.out (by rw [← Hm.out]; exact Hw.out) hgrow4 (show m + 1 = (wkeep (L.take k) x y).length + 1 by rw [Hm.out]) hown4
          have HF := Lib.hid hF4
          clear hF4 hown4 hgrow4 hat4 hlt4 Hw HE
          go_wp2_with fail
          go_roundw
          case rel => exact ⟨k + 1, by omega, by go_num, by rw [hks.out]; exact HF.out⟩
          case measure => simp [intOf]; omega
    · have hge : ¬ ((k : Int) < (n : Int)) := by omega
      obtain rfl : k = n := by omega
      have ht : L.take k = L := List.take_of_length_le (by rw [HL.out]; exact Nat.le_refl _)
      rw [ht] at hR
      have HBw := Lib.hid hBw
      clear hBw
      obtain ⟨_, _, _, o0, rv, hrv, hown⟩ := hR.out
      obtain ⟨ra, rc, hra⟩ := own_slice hown
      subst hra
      have hml : (wkeep L x y).length ≤ k := by have := wkeep_len L x y; have h2 := HL.out; omega
      have hrow := row_of_own hown (by omega)
      have b0 : wr.cell? ⟨R, 0, none⟩ = some (.int .i64 0) := by rw [hR.out.1.cell (p := ⟨R, 0, none⟩) n2]; exact y0
      have b1 : wr.cell? ⟨R, 1, none⟩ = some (.slice none 0 0) := by rw [hR.out.1.cell (p := ⟨R, 1, none⟩) n2]; exact y1
      have b2 : wr.frozen? ⟨R, 0, none⟩ = false := by rw [hR.out.1.frozen (p := ⟨R, 0, none⟩) n2]; exact y2
      have b3 : wr.frozen? ⟨R, 1, none⟩ = false := by rw [hR.out.1.frozen (p := ⟨R, 1, none⟩) n2]; exact y3
      obtain ⟨m, hm⟩ : ∃ m, m = (wkeep L x y).length := ⟨_, rfl⟩
      rw [← hm] at hrv hrow hml
      have Hm := Lib.hid hm
      have HOw := Lib.hid hrow
      have HRw : Hid (Row 3 wr lo hi (.slice ad k cp) k (flat L)) := HG0.out.below HBw.out hh
      have hRl : R < wr.heap.size := by omega
      have hwl : w.heap.size < wr.heap.size := by omega
      have hRX : R ≠ X := n3
      have n6 : w.heap.size ≤ R := by omega
      clear hown hrow hm hR ht
      by_cases hG : gok N L = true
      · by_cases hmk : m = k
        · have hmk2 : ((m : Int) == (k : Int)) = true := by simp [hmk]
          have Hfl : Hid (wflag N L x y = false) := by show wflag N L x y = false; unfold wflag; rw [← Hm.out, HL.out, hmk]; simp
          have Hout := Lib.hid (wout_no Hfl.out)
          have Hmk := Lib.hid hmk
          clear hmk
          go_wp2_with fail
          go_at_call 10
          refine (sgok_any N lo hi k _ L _ HL.out HRw.out (by omega)).mono ?_
          rw [hG]
          rintro e v1 ⟨rfl, hb1⟩
          have sz1 : wr.heap.size ≤ v1.heap.size := hb1.size
          have st1 : Below wr.heap.size wr v1 := hb1
          have c1_0 : v1.cell? ⟨w.heap.size, 0, none⟩ = some (.int .i64 N) := by rw [(bcell st1).1 _ _ (by omega)]; exact k0
          have c1_1 : v1.cell? ⟨w.heap.size, 1, none⟩ = some (.slice ad k cp) := by rw [(bcell st1).1 _ _ (by omega)]; exact k1
          have c1_2 : v1.cell? ⟨X, 0, none⟩ = some (.int .i64 N) := by rw [(bcell st1).1 _ _ (by omega)]; exact o0
          have c1_3 : v1.cell? ⟨X, 1, none⟩ = some (.slice ra m rc) := by rw [(bcell st1).1 _ _ (by omega)]; exact hrv
          have c1_4 : v1.cell? ⟨R, 0, none⟩ = some (.int .i64 0) := by rw [(bcell st1).1 _ _ (by omega)]; exact b0
          have c1_5 : v1.cell? ⟨R, 1, none⟩ = some (.slice none 0 0) := by rw [(bcell st1).1 _ _ (by omega)]; exact b1
          have g1_0 : v1.frozen? ⟨R, 0, none⟩ = false := by rw [(bcell st1).2 _ _ (by omega)]; exact b2
          have g1_1 : v1.frozen? ⟨R, 1, none⟩ = false := by rw [(bcell st1).2 _ _ (by omega)]; exact b3
          have B1 : Hid (Below w.heap.size w v1) := HBw.out.trans (st1.mono (by omega))
          have R1_0 : Hid (Row 3 v1 (lo) (hi) (.slice ad k cp) k (flat L)) := HRw.out.below st1 (by omega)
          have R1_1 : Hid (Row 3 v1 (X + 1) (wr.heap.size) (.slice ra m rc) m (flat (wkeep L x y))) := HOw.out.below st1 (by omega)
          have d1_0 : w.heap.size < v1.heap.size := by omega
          have e1_0 : w.heap.size ≠ v1.heap.size := by omega
          clear k0 k1 o0 hrv b0 b1 b2 b3 HBw st1 HRw HOw hb1
          go_wp2_with fail
          go_at_call 41
          refine (scopy_any N lo hi k _ L _ HL.out R1_0.out (by omega) hn).mono ?_
          rintro e v2 ⟨rv2, rfl, hr2, hb2⟩
          have sz2 : v1.heap.size ≤ v2.heap.size := hb2.size
          have st2 : Below v1.heap.size v1 v2 := hb2
          have c2_0 : v2.cell? ⟨w.heap.size, 0, none⟩ = some (.int .i64 N) := by rw [(bcell st2).1 _ _ (by omega)]; exact c1_0
          have c2_1 : v2.cell? ⟨w.heap.size, 1, none⟩ = some (.slice ad k cp) := by rw [(bcell st2).1 _ _ (by omega)]; exact c1_1
          have c2_2 : v2.cell? ⟨X, 0, none⟩ = some (.int .i64 N) := by rw [(bcell st2).1 _ _ (by omega)]; exact c1_2
          have c2_3 : v2.cell? ⟨X, 1, none⟩ = some (.slice ra m rc) := by rw [(bcell st2).1 _ _ (by omega)]; exact c1_3
          have c2_4 : v2.cell? ⟨R, 0, none⟩ = some (.int .i64 0) := by rw [(bcell st2).1 _ _ (by omega)]; exact c1_4
          have c2_5 : v2.cell? ⟨R, 1, none⟩ = some (.slice none 0 0) := by rw [(bcell st2).1 _ _ (by omega)]; exact c1_5
          have g2_0 : v2.frozen? ⟨R, 0, none⟩ = false := by rw [(bcell st2).2 _ _ (by omega)]; exact g1_0
          have g2_1 : v2.frozen? ⟨R, 1, none⟩ = false := by rw [(bcell st2).2 _ _ (by omega)]; exact g1_1
          have B2 : Hid (Below w.heap.size w v2) := B1.out.trans (st2.mono (by omega))
          have R2_0 : Hid (Row 3 v2 (lo) (hi) (.slice ad k cp) k (flat L)) := R1_0.out.below st2 (by omega)
          have R2_1 : Hid (Row 3 v2 (X + 1) (wr.heap.size) (.slice ra m rc) m (flat (wkeep L x y))) := R1_1.out.below st2 (by omega)
          have R2_2 : Hid (Row 3 v2 (v1.heap.size) (v2.heap.size) rv2 k (flat L)) := hr2
          have d2_0 : w.heap.size < v2.heap.size := by omega
          have e2_0 : w.heap.size ≠ v2.heap.size := by omega
          clear d1_0 e1_0 c1_0 c1_1 c1_2 c1_3 c1_4 c1_5 g1_0 g1_1 B1 st2 R1_0 R1_1 hr2 hb2
          obtain ⟨rva, rvc, rfl⟩ := R2_2.out.slice
          have r0 := set2_0 (x := .int .i64 N) (y := .slice rva k rvc) c2_4
          have r1 := set2_1 (x := .int .i64 N) (y := .slice rva k rvc) c2_5
          go_wp2_with fail
          refine bodyPost_ret (v := .tuple #[.agg #[.int .i64 N, .slice rva k rvc], .bool false]) (by simp [results, Try.results20, go_sem, r0, r1]) rfl ⟨_, by rw [Hfl.out], ?_, ?_⟩
          · rw [Hout.out, HL.out]; exact Row.set2 (w0 := w) R2_2.out (R := R) (.inl (by omega)) _ _ (by omega) (by omega)
          · exact (B2.out.setCell (by show _ ≤ R; omega) _).setCell (by show _ ≤ R; omega) _
        · have hmk2 : ((m : Int) == (k : Int)) = false := by simp; omega
          have Hfl : Hid (wflag N L x y = true) := by show wflag N L x y = true; unfold wflag; rw [hG, ← Hm.out, HL.out]; simp; omega
          have Hout := Lib.hid (wout_yes Hfl.out)
          clear hmk
          go_wp2_with fail
          go_at_call 10
          refine (sgok_any N lo hi k _ L _ HL.out HRw.out (by omega)).mono ?_
          rw [hG]
          rintro e v1 ⟨rfl, hb1⟩
          have sz1 : wr.heap.size ≤ v1.heap.size := hb1.size
          have st1 : Below wr.heap.size wr v1 := hb1
          have c1_0 : v1.cell? ⟨w.heap.size, 0, none⟩ = some (.int .i64 N) := by rw [(bcell st1).1 _ _ (by omega)]; exact k0
          have c1_1 : v1.cell? ⟨w.heap.size, 1, none⟩ = some (.slice ad k cp) := by rw [(bcell st1).1 _ _ (by omega)]; exact k1
          have c1_2 : v1.cell? ⟨X, 0, none⟩ = some (.int .i64 N) := by rw [(bcell st1).1 _ _ (by omega)]; exact o0
          have c1_3 : v1.cell? ⟨X, 1, none⟩ = some (.slice ra m rc) := by rw [(bcell st1).1 _ _ (by omega)]; exact hrv
          have c1_4 : v1.cell? ⟨R, 0, none⟩ = some (.int .i64 0) := by rw [(bcell st1).1 _ _ (by omega)]; exact b0
          have c1_5 : v1.cell? ⟨R, 1, none⟩ = some (.slice none 0 0) := by rw [(bcell st1).1 _ _ (by omega)]; exact b1
          have g1_0 : v1.frozen? ⟨R, 0, none⟩ = false := by rw [(bcell st1).2 _ _ (by omega)]; exact b2
          have g1_1 : v1.frozen? ⟨R, 1, none⟩ = false := by rw [(bcell st1).2 _ _ (by omega)]; exact b3
          have B1 : Hid (Below w.heap.size w v1) := HBw.out.trans (st1.mono (by omega))
          have R1_0 : Hid (Row 3 v1 (lo) (hi) (.slice ad k cp) k (flat L)) := HRw.out.below st1 (by omega)
          have R1_1 : Hid (Row 3 v1 (X + 1) (wr.heap.size) (.slice ra m rc) m (flat (wkeep L x y))) := HOw.out.below st1 (by omega)
          have d1_0 : w.heap.size < v1.heap.size := by omega
          have e1_0 : w.heap.size ≠ v1.heap.size := by omega
          clear k0 k1 o0 hrv b0 b1 b2 b3 HBw st1 HRw HOw hb1
          have r0 := set2_0 (x := .int .i64 N) (y := .slice ra m rc) c1_4
          have r1 := set2_1 (x := .int .i64 N) (y := .slice ra m rc) c1_5
          go_wp2_with fail
          refine bodyPost_ret (v := .tuple #[.agg #[.int .i64 N, .slice ra m rc], .bool true]) (by simp [results, Try.results20, go_sem, r0, r1]) rfl ⟨_, by rw [Hfl.out], ?_, ?_⟩
          · rw [Hout.out, ← Hm.out]; exact Row.set2 (w0 := w) R1_1.out (R := R) (.inl (by omega)) _ _ (by omega) (by omega)
          · exact (B1.out.setCell (by show _ ≤ R; omega) _).setCell (by show _ ≤ R; omega) _
      · rw [Bool.not_eq_true] at hG
        have Hfl : Hid (wflag N L x y = false) := by show wflag N L x y = false; unfold wflag; rw [hG]; rfl
        have Hout := Lib.hid (wout_no Hfl.out)
        go_wp2_with fail
        go_at_call 10
        refine (sgok_any N lo hi k _ L _ HL.out HRw.out (by omega)).mono ?_
        rw [hG]
        rintro e v1 ⟨rfl, hb1⟩
        have sz1 : wr.heap.size ≤ v1.heap.size := hb1.size
        have st1 : Below wr.heap.size wr v1 := hb1
        have c1_0 : v1.cell? ⟨w.heap.size, 0, none⟩ = some (.int .i64 N) := by rw [(bcell st1).1 _ _ (by omega)]; exact k0
        have c1_1 : v1.cell? ⟨w.heap.size, 1, none⟩ = some (.slice ad k cp) := by rw [(bcell st1).1 _ _ (by omega)]; exact k1
        have c1_2 : v1.cell? ⟨X, 0, none⟩ = some (.int .i64 N) := by rw [(bcell st1).1 _ _ (by omega)]; exact o0
        have c1_3 : v1.cell? ⟨X, 1, none⟩ = some (.slice ra m rc) := by rw [(bcell st1).1 _ _ (by omega)]; exact hrv
        have c1_4 : v1.cell? ⟨R, 0, none⟩ = some (.int .i64 0) := by rw [(bcell st1).1 _ _ (by omega)]; exact b0
        have c1_5 : v1.cell? ⟨R, 1, none⟩ = some (.slice none 0 0) := by rw [(bcell st1).1 _ _ (by omega)]; exact b1
        have g1_0 : v1.frozen? ⟨R, 0, none⟩ = false := by rw [(bcell st1).2 _ _ (by omega)]; exact b2
        have g1_1 : v1.frozen? ⟨R, 1, none⟩ = false := by rw [(bcell st1).2 _ _ (by omega)]; exact b3
        have B1 : Hid (Below w.heap.size w v1) := HBw.out.trans (st1.mono (by omega))
        have R1_0 : Hid (Row 3 v1 (lo) (hi) (.slice ad k cp) k (flat L)) := HRw.out.below st1 (by omega)
        have R1_1 : Hid (Row 3 v1 (X + 1) (wr.heap.size) (.slice ra m rc) m (flat (wkeep L x y))) := HOw.out.below st1 (by omega)
        have d1_0 : w.heap.size < v1.heap.size := by omega
        have e1_0 : w.heap.size ≠ v1.heap.size := by omega
        clear k0 k1 o0 hrv b0 b1 b2 b3 HBw st1 HRw HOw hb1
        go_wp2_with fail
        go_at_call 41
        refine (scopy_any N lo hi k _ L _ HL.out R1_0.out (by omega) hn).mono ?_
        rintro e v2 ⟨rv2, rfl, hr2, hb2⟩
        have sz2 : v1.heap.size ≤ v2.heap.size := hb2.size
        have st2 : Below v1.heap.size v1 v2 := hb2
        have c2_0 : v2.cell? ⟨w.heap.size, 0, none⟩ = some (.int .i64 N) := by rw [(bcell st2).1 _ _ (by omega)]; exact c1_0
        have c2_1 : v2.cell? ⟨w.heap.size, 1, none⟩ = some (.slice ad k cp) := by rw [(bcell st2).1 _ _ (by omega)]; exact c1_1
        have c2_2 : v2.cell? ⟨X, 0, none⟩ = some (.int .i64 N) := by rw [(bcell st2).1 _ _ (by omega)]; exact c1_2
        have c2_3 : v2.cell? ⟨X, 1, none⟩ = some (.slice ra m rc) := by rw [(bcell st2).1 _ _ (by omega)]; exact c1_3
        have c2_4 : v2.cell? ⟨R, 0, none⟩ = some (.int .i64 0) := by rw [(bcell st2).1 _ _ (by omega)]; exact c1_4
        have c2_5 : v2.cell? ⟨R, 1, none⟩ = some (.slice none 0 0) := by rw [(bcell st2).1 _ _ (by omega)]; exact c1_5
        have g2_0 : v2.frozen? ⟨R, 0, none⟩ = false := by rw [(bcell st2).2 _ _ (by omega)]; exact g1_0
        have g2_1 : v2.frozen? ⟨R, 1, none⟩ = false := by rw [(bcell st2).2 _ _ (by omega)]; exact g1_1
        have B2 : Hid (Below w.heap.size w v2) := B1.out.trans (st2.mono (by omega))
        have R2_0 : Hid (Row 3 v2 (lo) (hi) (.slice ad k cp) k (flat L)) := R1_0.out.below st2 (by omega)
        have R2_1 : Hid (Row 3 v2 (X + 1) (wr.heap.size) (.slice ra m rc) m (flat (wkeep L x y))) := R1_1.out.below st2 (by omega)
        have R2_2 : Hid (Row 3 v2 (v1.heap.size) (v2.heap.size) rv2 k (flat L)) := hr2
        have d2_0 : w.heap.size < v2.heap.size := by omega
        have e2_0 : w.heap.size ≠ v2.heap.size := by omega
        clear d1_0 e1_0 c1_0 c1_1 c1_2 c1_3 c1_4 c1_5 g1_0 g1_1 B1 st2 R1_0 R1_1 hr2 hb2
        obtain ⟨rva, rvc, rfl⟩ := R2_2.out.slice
        have r0 := set2_0 (x := .int .i64 N) (y := .slice rva k rvc) c2_4
        have r1 := set2_1 (x := .int .i64 N) (y := .slice rva k rvc) c2_5
        go_wp2_with fail
        refine bodyPost_ret (v := .tuple #[.agg #[.int .i64 N, .slice rva k rvc], .bool false]) (by simp [results, Try.results20, go_sem, r0, r1]) rfl ⟨_, by rw [Hfl.out], ?_, ?_⟩
        · rw [Hout.out, HL.out]; exact Row.set2 (w0 := w) R2_2.out (R := R) (.inl (by omega)) _ _ (by omega) (by omega)
        · exact (B2.out.setCell (by show _ ≤ R; omega) _).setCell (by show _ ≤ R; omega) _

end Go.Proofs.Ytkkfgnnhdcmmjab
