/- Through of the model. -/
import Derived.Test.YtkkfgnnhdcmmjaaTh
import Derived.Test.YtkkfgnnhdcmmjaaOs
namespace Go.Proofs.Ytkkfgnnhdcmmjaa
open Go.RowKit


set_option maxRecDepth 100000 in
set_option maxHeartbeats 2400000 in
theorem sthr_no0 (N : Int) (lo hi n : Nat) (v : Value) (L : List Ed) (z : Int) (w : World) (hL : L.length = n) (hr : Row 3 w lo hi v n (flat L)) (hh : hi ≤ w.heap.size) (hn : gok N L = false) :
    Calls Try.prog 47 #[.agg #[.int .i64 N, v], .int .i64 z] w fun e w' => e = .returned (.int .i64 (thR N L z)) ∧ Below w.heap.size w w' := by
  have HR := Lib.hid hr
  have Hn := Lib.hid hn
  have e0 : Hid (thR N L z = -1) := thR_no (.inl hn)
  rw [e0.out]
  obtain ⟨ad, cp, rfl⟩ := hr.slice
  clear hr hn
  go_enter Try.func47, Try.ntmps47
  go_wp2_with fail
  go_at_call 50
  refine (sgok_any N lo hi n _ L _ hL (HR.out.below (B := w.heap.size) (by go_grown) (by omega)) (by simp; omega)).mono ?_
  rw [Hn.out]
  rintro e v1 ⟨rfl, hb1⟩
  have sz1 : w.heap.size + 1 ≤ v1.heap.size := by have hh := hb1.size; simp at hh; omega
  have st1 : Below w.heap.size w v1 := Below.trans (by go_grown) (hb1.mono (by simp))
  have c1_0 : v1.cell? ⟨w.heap.size, 0, none⟩ = some (.int .i64 N) := by rw [(bcell hb1).1 _ _ (by simp)]; first | (rw [new_at (by simp)]; rfl) | simp
  have c1_1 : v1.cell? ⟨w.heap.size, 1, none⟩ = some (.slice ad n cp) := by rw [(bcell hb1).1 _ _ (by simp)]; first | (rw [new_at (by simp)]; rfl) | simp
  have B1 : Hid (Below w.heap.size w v1) := st1
  have R1_0 : Hid (Row 3 v1 (lo) (hi) (.slice ad n cp) n (flat L)) := HR.out.below st1 (by omega)
  have d1_0 : w.heap.size < v1.heap.size := by omega
  have e1_0 : w.heap.size ≠ v1.heap.size := by omega
  clear st1 HR hb1
  go_wp2_with fail
  go_ret
  exact ⟨rfl, B1.out⟩

set_option maxRecDepth 100000 in
set_option maxHeartbeats 2400000 in
theorem sthr_no1 (N : Int) (lo hi n : Nat) (v : Value) (L : List Ed) (z : Int) (w : World) (hL : L.length = n) (hr : Row 3 w lo hi v n (flat L)) (hh : hi ≤ w.heap.size) (hn : gok N L = true ∧ ndB N z = false) :
    Calls Try.prog 47 #[.agg #[.int .i64 N, v], .int .i64 z] w fun e w' => e = .returned (.int .i64 (thR N L z)) ∧ Below w.heap.size w w' := by
  have HR := Lib.hid hr
  have Hn := Lib.hid hn
  have e0 : Hid (thR N L z = -1) := thR_no (.inr hn.2)
  rw [e0.out]
  obtain ⟨ad, cp, rfl⟩ := hr.slice
  clear hr hn
  have hN1 := (gok_parts Hn.out.1).1
  have hN2 := (gok_parts Hn.out.1).2.1
  go_enter Try.func47, Try.ntmps47
  go_wp2_with fail
  go_at_call 50
  refine (sgok_any N lo hi n _ L _ hL (HR.out.below (B := w.heap.size) (by go_grown) (by omega)) (by simp; omega)).mono ?_
  rw [Hn.out.1]
  rintro e v1 ⟨rfl, hb1⟩
  have sz1 : w.heap.size + 1 ≤ v1.heap.size := by have hh := hb1.size; simp at hh; omega
  have st1 : Below w.heap.size w v1 := Below.trans (by go_grown) (hb1.mono (by simp))
  have c1_0 : v1.cell? ⟨w.heap.size, 0, none⟩ = some (.int .i64 N) := by rw [(bcell hb1).1 _ _ (by simp)]; first | (rw [new_at (by simp)]; rfl) | simp
  have c1_1 : v1.cell? ⟨w.heap.size, 1, none⟩ = some (.slice ad n cp) := by rw [(bcell hb1).1 _ _ (by simp)]; first | (rw [new_at (by simp)]; rfl) | simp
  have B1 : Hid (Below w.heap.size w v1) := st1
  have R1_0 : Hid (Row 3 v1 (lo) (hi) (.slice ad n cp) n (flat L)) := HR.out.below st1 (by omega)
  have d1_0 : w.heap.size < v1.heap.size := by omega
  have e1_0 : w.heap.size ≠ v1.heap.size := by omega
  clear st1 HR hb1
  go_wp2_with fail
  go_at_call 51
  refine (node_any N _ _ _ z _ hN1 hN2).mono ?_
  rw [Hn.out.2]
  rintro e v2 ⟨rfl, hb2⟩
  have sz2 : v1.heap.size ≤ v2.heap.size := hb2.size
  have st2 : Below v1.heap.size v1 v2 := hb2
  have c2_0 : v2.cell? ⟨w.heap.size, 0, none⟩ = some (.int .i64 N) := by rw [(bcell st2).1 _ _ (by omega)]; exact c1_0
  have c2_1 : v2.cell? ⟨w.heap.size, 1, none⟩ = some (.slice ad n cp) := by rw [(bcell st2).1 _ _ (by omega)]; exact c1_1
  have B2 : Hid (Below w.heap.size w v2) := B1.out.trans (st2.mono (by omega))
  have R2_0 : Hid (Row 3 v2 (lo) (hi) (.slice ad n cp) n (flat L)) := R1_0.out.below st2 (by omega)
  have d2_0 : w.heap.size < v2.heap.size := by omega
  have e2_0 : w.heap.size ≠ v2.heap.size := by omega
  clear d1_0 e1_0 c1_0 c1_1 B1 st2 R1_0 hb2
  go_wp2_with fail
  go_ret
  exact ⟨rfl, B2.out⟩

set_option maxRecDepth 100000 in
set_option maxHeartbeats 4000000 in
theorem sthr_yes (M : Nat) (lo hi n : Nat) (v : Value) (L : List Ed) (z : Nat) (w : World) (hL : L.length = n) (hr : Row 3 w lo hi v n (flat L)) (hh : hi ≤ w.heap.size) (hG : gok (M : Int) L = true) (hz : ndB (M : Int) (z : Int) = true) :
    Calls Try.prog 47 #[.agg #[.int .i64 (M : Int), v], .int .i64 (z : Int)] w fun e w' => e = .returned (.int .i64 (thR (M : Int) L (z : Int))) ∧ Below w.heap.size w w' := by
  have HR := Lib.hid hr
  have HG := Lib.hid hG
  have HZ := Lib.hid hz
  have hN1 := (gok_parts hG).1
  have hN2 := (gok_parts hG).2.1
  rw [thR_yes hG hz]
  have hz2 := ndB_lt hz
  obtain ⟨ad, cp, rfl⟩ := hr.slice
  clear hr hG hz
  go_enter Try.func47, Try.ntmps47
  go_wp2_with fail
  go_at_call 50
  refine (sgok_any (M : Int) lo hi n _ L _ hL (HR.out.below (B := w.heap.size) (by go_grown) (by omega)) (by simp; omega)).mono ?_
  rw [HG.out]
  rintro e v1 ⟨rfl, hb1⟩
  have sz1 : w.heap.size + 1 ≤ v1.heap.size := by have hh := hb1.size; simp at hh; omega
  have st1 : Below w.heap.size w v1 := Below.trans (by go_grown) (hb1.mono (by simp))
  have c1_0 : v1.cell? ⟨w.heap.size, 0, none⟩ = some (.int .i64 (M : Int)) := by rw [(bcell hb1).1 _ _ (by simp)]; first | (rw [new_at (by simp)]; rfl) | simp
  have c1_1 : v1.cell? ⟨w.heap.size, 1, none⟩ = some (.slice ad n cp) := by rw [(bcell hb1).1 _ _ (by simp)]; first | (rw [new_at (by simp)]; rfl) | simp
  have B1 : Hid (Below w.heap.size w v1) := st1
  have R1_0 : Hid (Row 3 v1 (lo) (hi) (.slice ad n cp) n (flat L)) := HR.out.below st1 (by omega)
  have d1_0 : w.heap.size < v1.heap.size := by omega
  have e1_0 : w.heap.size ≠ v1.heap.size := by omega
  clear st1 HR hb1
  go_wp2_with fail
  go_at_call 51
  refine (node_any (M : Int) _ _ _ (z : Int) _ hN1 hN2).mono ?_
  rw [HZ.out]
  rintro e v2 ⟨rfl, hb2⟩
  have sz2 : v1.heap.size ≤ v2.heap.size := hb2.size
  have st2 : Below v1.heap.size v1 v2 := hb2
  have c2_0 : v2.cell? ⟨w.heap.size, 0, none⟩ = some (.int .i64 (M : Int)) := by rw [(bcell st2).1 _ _ (by omega)]; exact c1_0
  have c2_1 : v2.cell? ⟨w.heap.size, 1, none⟩ = some (.slice ad n cp) := by rw [(bcell st2).1 _ _ (by omega)]; exact c1_1
  have B2 : Hid (Below w.heap.size w v2) := B1.out.trans (st2.mono (by omega))
  have R2_0 : Hid (Row 3 v2 (lo) (hi) (.slice ad n cp) n (flat L)) := R1_0.out.below st2 (by omega)
  have d2_0 : w.heap.size < v2.heap.size := by omega
  have e2_0 : w.heap.size ≠ v2.heap.size := by omega
  clear d1_0 e1_0 c1_0 c1_1 B1 st2 R1_0 hb2
  have K0 := Lib.hid c2_0
  have K1 := Lib.hid c2_1
  have RB := R2_0
  have HB := B2
  have HW : Hid (Below v2.heap.size v2 v2) := Below.refl _ _
  have hwv : w.heap.size < v2.heap.size := by omega
  clear c2_0 c2_1 B2 R2_0
  go_wp2_with fail
  go_loopw [5, 6] (fun c i wr => ∃ k : Nat, k ≤ M ∧ i = .int .i64 (k : Int) ∧ c = .int .i64 (thC M L (z : Int) (k * M) : Int) ∧ Hid (Below v2.heap.size v2 wr)) (fun _ i _ => M - (intOf i).toNat)
  case atStart => exact ⟨0, Nat.zero_le _, rfl, by rw [Nat.zero_mul, thC_zero]; rfl, HW⟩
  case round =>
    obtain ⟨k, hk, rfl, rfl, hB⟩ := hrel
    have k0 : wr.cell? ⟨w.heap.size, 0, none⟩ = some (.int .i64 (M : Int)) := by rw [hB.out.cell (p := ⟨w.heap.size, 0, none⟩) hwv]; exact K0.out
    by_cases hlt : k < M
    · have q0 : (k : Int) < (M : Int) := by omega
      go_wp2_with fail
      obtain ⟨wo, rfl⟩ : ∃ wo : World, wo = wr := ⟨_, rfl⟩
      clear k0
      go_loopw [5, 7] (fun c i wr => ∃ j : Nat, j ≤ M ∧ i = .int .i64 (j : Int) ∧ c = .int .i64 (thC M L (z : Int) (k * M + j) : Int) ∧ Hid (Below v2.heap.size v2 wr)) (fun _ i _ => M - (intOf i).toNat)
      case atStart => exact ⟨0, Nat.zero_le _, rfl, rfl, hB⟩
      case round =>
        clear hB
        obtain ⟨j, hj, rfl, rfl, hB⟩ := hrel
        have k0 : wr.cell? ⟨w.heap.size, 0, none⟩ = some (.int .i64 (M : Int)) := by rw [hB.out.cell (p := ⟨w.heap.size, 0, none⟩) hwv]; exact K0.out
        by_cases hlt2 : j < M
        · have p0 : (j : Int) < (M : Int) := by omega
          have hsucc := thC_succ M L (z : Int) (k * M + j)
          rw [th_at L (z : Int) hlt2] at hsucc
          have hcle := thC_le M L (z : Int) (k * M + j)
          have hmul : k * M + j ≤ 100 := by
            have h1 : k * M ≤ 9 * M := Nat.mul_le_mul_right M (by omega)
            omega
          obtain ⟨c0, hc0⟩ : ∃ c : Nat, c = thC M L (z : Int) (k * M + j) := ⟨_, rfl⟩
          obtain ⟨c1, hc1⟩ : ∃ c : Nat, c = thC M L (z : Int) (k * M + j + 1) := ⟨_, rfl⟩
          have HC1 := Lib.hid hc1
          rw [← hc0, ← hc1] at hsucc
          rw [← hc0] at hcle
          rw [← hc0]
          clear hc0 hc1
          by_cases h1 : (k : Int) = (j : Int)
          · have g1 : ((k : Int) != (j : Int)) = false := by simp [h1]
            have HS1 : Hid (c1 = c0) := by show _ = _; rw [hsucc, g1]; simp
            clear h1 hsucc
            go_wp2_with fail
            go_roundw
            case rel => exact ⟨j + 1, by omega, by go_num, by rw [show k * M + (j + 1) = k * M + j + 1 by omega, ← HC1.out, HS1.out], hB⟩
            case measure => simp [intOf]; omega
          · have g1 : ((k : Int) != (j : Int)) = true := by simp [h1]
            by_cases h2 : (k : Int) = (z : Int)
            · have g2 : ((k : Int) != (z : Int)) = false := by simp [h2]
              have HS1 : Hid (c1 = c0) := by show _ = _; rw [hsucc, g1, g2]; simp
              clear h1 h2 hsucc
              go_wp2_with fail
              go_roundw
              case rel => exact ⟨j + 1, by omega, by go_num, by rw [show k * M + (j + 1) = k * M + j + 1 by omega, ← HC1.out, HS1.out], hB⟩
              case measure => simp [intOf]; omega
            · have g2 : ((k : Int) != (z : Int)) = true := by simp [h2]
              by_cases h3 : (j : Int) = (z : Int)
              · have g3 : ((j : Int) != (z : Int)) = false := by simp [h3]
                have HS1 : Hid (c1 = c0) := by show _ = _; rw [hsucc, g1, g2, g3]; simp
                clear h1 h2 h3 hsucc
                go_wp2_with fail
                go_roundw
                case rel => exact ⟨j + 1, by omega, by go_num, by rw [show k * M + (j + 1) = k * M + j + 1 by omega, ← HC1.out, HS1.out], hB⟩
                case measure => simp [intOf]; omega
              · have g3 : ((j : Int) != (z : Int)) = true := by simp [h3]
                rw [g1, g2, g3, Bool.true_and, Bool.true_and, Bool.true_and] at hsucc
                clear h1 h2 h3
                have k1 : wr.cell? ⟨w.heap.size, 1, none⟩ = some (.slice ad n cp) := by rw [hB.out.cell (p := ⟨w.heap.size, 1, none⟩) hwv]; exact K1.out
                have HRw : Hid (Row 3 wr lo hi (.slice ad n cp) n (flat L)) := RB.out.below hB.out (by omega)
                have hsw := hB.out.size
                have Hsucc := Lib.hid hsucc
                clear hsucc
                go_wp2_with fail
                go_at_call 41
                refine (sonw_any (M : Int) lo hi n _ L (k : Int) (j : Int) (z : Int) _ hL HRw.out (by omega)).mono ?_
                rw [onw_yes HG.out (by unfold ndB; rw [inB_iff]; omega) (by unfold ndB; rw [inB_iff]; omega) HZ.out]
                rintro e w9 ⟨rfl, hb9⟩
                have HB9 : Hid (Below v2.heap.size v2 w9) := hB.out.trans (hb9.mono hB.out.size)
                clear hb9
                by_cases hb : btwB (M : Int) L (k : Int) (j : Int) (z : Int) = true
                · rw [hb]
                  have HS1 : Hid (c1 = c0 + 1) := by show _ = _; rw [Hsucc.out, if_pos hb]
                  have e1 : IntKind.i64.wrap ((c0 : Int) + 1) = (c0 : Int) + 1 := IntWalk.i64_in _ (by omega)
                  clear hb
                  go_wp2_with fail
                  go_roundw
                  case rel => exact ⟨j + 1, by omega, by go_num, by rw [show k * M + (j + 1) = k * M + j + 1 by omega, ← HC1.out, HS1.out]; rw [Int.natCast_add]; rfl, HB9⟩
                  case measure => simp [intOf]; omega
                · have hb : btwB (M : Int) L (k : Int) (j : Int) (z : Int) = false := by simpa using hb
                  rw [hb]
                  have HS1 : Hid (c1 = c0) := by show _ = _; rw [Hsucc.out, hb]; simp
                  clear hb
                  go_wp2_with fail
                  go_roundw
                  case rel => exact ⟨j + 1, by omega, by go_num, by rw [show k * M + (j + 1) = k * M + j + 1 by omega, ← HC1.out, HS1.out], HB9⟩
                  case measure => simp [intOf]; omega
        · obtain rfl : M = j := by omega
          have hge : ¬ ((M : Int) < (M : Int)) := by omega
          have e3 : k * M + M = (k + 1) * M := by rw [Nat.add_mul, Nat.one_mul]
          rw [e3]
          have Hm : Hid (k < M) := hlt
          go_wp2_with fail
          go_roundw
          case rel => exact ⟨k + 1, Hm.out, by go_num, rfl, hB⟩
          case measure => simp [intOf]; omega
    · obtain rfl : M = k := by omega
      have hge : ¬ ((M : Int) < (M : Int)) := by omega
      go_wp2_with fail
      go_ret
      exact ⟨rfl, HB.out.trans (hB.out.mono (by omega))⟩

theorem sthr_any (N : Int) (lo hi n : Nat) (v : Value) (L : List Ed) (z : Int) (w : World) (hL : L.length = n) (hr : Row 3 w lo hi v n (flat L)) (hh : hi ≤ w.heap.size) :
    Calls Try.prog 47 #[.agg #[.int .i64 N, v], .int .i64 z] w fun e w' => e = .returned (.int .i64 (thR N L z)) ∧ Below w.heap.size w w' := by
  by_cases hG : gok N L = true
  · by_cases hz : ndB N z = true
    · have hN := gok_parts hG
      have hz' := hz
      unfold ndB at hz'
      rw [inB_iff] at hz'
      obtain ⟨M, rfl⟩ : ∃ M : Nat, N = (M : Int) := ⟨N.toNat, by omega⟩
      obtain ⟨r, rfl⟩ : ∃ q : Nat, z = (q : Int) := ⟨z.toNat, by omega⟩
      exact sthr_yes M lo hi n v L r w hL hr hh hG hz
    · exact sthr_no1 N lo hi n v L z w hL hr hh ⟨hG, by simpa using hz⟩
  · exact sthr_no0 N lo hi n v L z w hL hr hh (by simpa using hG)

end Go.Proofs.Ytkkfgnnhdcmmjaa
