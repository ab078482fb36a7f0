/- AllDistances of the model. -/
import Derived.Test.YtfkpefbahpjinaaAs
namespace Go.Proofs.Ytfkpefbahpjinaa
open Go.RowKit


set_option maxRecDepth 100000 in
set_option maxHeartbeats 2400000 in
theorem sad_yes (M : Nat) (lo hi n : Nat) (v : Value) (L : List Ed) (w : World) (hL : L.length = n) (hr : Row 3 w lo hi v n (flat L)) (hh : hi ≤ w.heap.size) (hG : gok (M : Int) L = true) :
    Calls Try.prog 14 #[.agg #[.int .i64 (M : Int), v]] w (AdPost (M : Int) L w) := by
  have HR := Lib.hid hr
  have HR0 := Lib.hid hr
  have HG := Lib.hid hG
  have hN1 := (gok_parts hG).1
  have hN2 := (gok_parts hG).2.1
  obtain ⟨ad, cp, rfl⟩ := hr.slice
  obtain ⟨iS, hi, hz0, hz1, hz2⟩ := info_parts Try.info32
  have I := Lib.hid (And.intro hi (And.intro hz0 (And.intro hz1 hz2)))
  clear hr hi hz0 hz1 hz2 hG
  go_enter Try.func14, Try.ntmps14
  go_wp2_with fail
  go_at_call 12
  refine (sgok_any (M : Int) lo hi n _ L _ hL (HR.out.below (B := w.heap.size) (by go_grown) (by omega)) (by simp; omega)).mono ?_
  rw [HG.out]
  rintro e v1 ⟨rfl, hb1⟩
  have HB0 := Lib.hid hb1
  have sz1 : w.heap.size + 2 ≤ v1.heap.size := by have hh := hb1.size; simp at hh; omega
  have st1 : Below w.heap.size w v1 := Below.trans (by go_grown) (hb1.mono (by simp <;> omega))
  have c1_0 : v1.cell? ⟨w.heap.size, 0, none⟩ = some (.int .i64 (M : Int)) := by rw [(bcell hb1).1 _ _ (by simp <;> omega), old_box (by simp <;> omega)]; first | (rw [new_at (by simp)]; rfl) | simp
  have c1_1 : v1.cell? ⟨w.heap.size, 1, none⟩ = some (.slice ad n cp) := by rw [(bcell hb1).1 _ _ (by simp <;> omega), old_box (by simp <;> omega)]; first | (rw [new_at (by simp)]; rfl) | simp
  have B1 : Hid (Below w.heap.size w v1) := st1
  have R1_0 : Hid (Row 3 v1 (lo) (hi) (.slice ad n cp) n (flat L)) := HR.out.below st1 (by omega)
  have d1_0 : w.heap.size < v1.heap.size := by omega
  have e1_0 : w.heap.size ≠ v1.heap.size := by omega
  clear st1 HR hb1
  have K0 := Lib.hid c1_0
  have K1 := Lib.hid c1_1
  have RB := R1_0
  have HB := B1
  obtain ⟨w0, hw0⟩ : ∃ w0, w0 = (w.alloc (.cells #[.int .i64 (M : Int), .slice ad n cp] 26)) := ⟨_, rfl⟩
  have HO : Hid (SSx w0 v1 (.slice (some ⟨w.heap.size + 1, 0, none⟩) 0 0) 0 (adZ (M : Int) L)) := by
    show SSx _ _ _ _ _
    have e : w.heap.size + 1 = w0.heap.size := by rw [hw0]; simp
    rw [e]
    refine (SSx.lit0 w0 _).grow ?_
    rw [hw0]
    exact HB0.out
  have hw0s : w0.heap.size = w.heap.size + 1 := by rw [hw0]; simp
  have k0w : w0.cell? ⟨w.heap.size, 0, none⟩ = some (.int .i64 (M : Int)) := by rw [hw0]; simp
  have k1w : w0.cell? ⟨w.heap.size, 1, none⟩ = some (.slice ad n cp) := by rw [hw0]; simp
  have K0w := Lib.hid k0w
  have K1w := Lib.hid k1w
  have RB0 : Hid (Row 3 w0 lo hi (.slice ad n cp) n (flat L)) := by rw [hw0]; exact HR0.out.below (B := w.heap.size) (by go_grown) (by omega)
  have HBw : Hid (Below w.heap.size w w0) := by rw [hw0]; show Below _ _ _; go_grown
  have hwv : w.heap.size < w0.heap.size := by omega
  clear k0w k1w hw0 hw0s HB0
  go_wp2_with fail
  go_loopw [3, 4] (fun v i wr => ∃ k : Nat, k ≤ M ∧ i = .int .i64 (k : Int) ∧ Hid (SSx w0 wr v k (adZ (M : Int) L))) (fun _ i _ => M - (intOf i).toNat)
  case atStart => exact ⟨0, Nat.zero_le _, rfl, HO⟩
  case round =>
    obtain ⟨k, hk, rfl, hR⟩ := hrel
    obtain ⟨vs, bs, hS⟩ := hR.out
    obtain ⟨oa, oc, ho⟩ := own_slice hS.row
    subst ho
    have hsz := hS.below.size
    have k0 : wr.cell? ⟨w.heap.size, 0, none⟩ = some (.int .i64 (M : Int)) := by rw [hS.below.cell (p := ⟨w.heap.size, 0, none⟩) hwv]; exact K0w.out
    have k1 : wr.cell? ⟨w.heap.size, 1, none⟩ = some (.slice ad n cp) := by rw [hS.below.cell (p := ⟨w.heap.size, 1, none⟩) hwv]; exact K1w.out
    have HRw : Hid (Row 3 wr lo hi (.slice ad n cp) n (flat L)) := RB0.out.below hS.below (by omega)
    have HS := Lib.hid hR.out
    clear hS hR
    by_cases hlt : k < M
    · have q0 : (k : Int) < (M : Int) := by omega
      go_wp2_with fail
      go_at_call 25
      refine (sdist_any (M : Int) lo hi n _ L (k : Int) _ hL HRw.out (by omega)).mono ?_
      rintro e w2 ⟨dv, rfl, hrd, hb2⟩
      have hdz : Hid (Row 1 w2 wr.heap.size w2.heap.size dv (adZ (M : Int) L k).length (adZ (M : Int) L k)) := by
        show Row _ _ _ _ _ _ _
        rw [adZ_len HG.out hlt]
        rw [distN_yes HG.out hlt] at hrd
        exact hrd
      rw [distN_yes HG.out hlt] at hrd
      obtain ⟨da, dc, hd⟩ := hrd.slice
      subst hd
      have HB2 := Lib.hid hb2
      have hs2 := hb2.size
      obtain ⟨vs, bs, hS⟩ := HS.out
      have Hw := Lib.hid (hS.grow hb2).row
      have HSt := Lib.hid hS
      clear hrd hb2 hS k0 k1
      go_wp2_with (at_builtin; refine wpList_append_lies _ rfl _ _ 29 rfl w0.heap.size 32 iS (.slice none 0 0) 1 24 Try.underlying29 I.out.1 I.out.2.1 I.out.2.2.1 I.out.2.2.2 rfl (by decide) _ k ((List.range k).map vs) rfl (Hw.out.alloc _) ⟨w2.heap.size, 0, none⟩ 1 1 [.slice da M dc] rfl rfl ?d0 (slice_one _ _ _) (by decide) ?d1 ?d2 ?d3 _ rfl ?_)
      case d0 => exact fun j u hj => cell_one_new _ _ 32 rfl j u hj
      case d1 => unfold maxLen; omega
      case d2 => omega
      case d3 => simp; omega
      intro g4 cap4 w4 hown4 hgrow4 hat4 hlt4
      have HE : Hid (SSx w0 w4 (.slice (some ⟨g4, 0, none⟩) (k + 1) cap4) (k + 1) (adZ (M : Int) L)) :=
        HSt.out.app HB2.out hdz.out ((Below.refl _ _).alloc (Nat.le_refl _) (.cells #[.slice da M dc] 32)) hgrow4 rfl (hat4.imp id (fun e => by rw [e]; simp)) hown4
      clear hown4 hgrow4 hat4 hlt4 Hw HS HB2 hdz HSt
      go_wp2_with fail
      go_roundw
      case rel => exact ⟨k + 1, by omega, by go_num, HE⟩
      case measure => simp [intOf]; omega
    · obtain rfl : M = k := by omega
      have hge : ¬ ((M : Int) < (M : Int)) := by omega
      go_wp2_with fail
      refine bodyPost_ret (v := .slice oa M oc) (by simp [results, Try.results14, go_sem]) rfl ⟨_, rfl, ?_⟩
      rw [adN_yes HG.out]
      exact HS.out.base HBw.out

set_option maxRecDepth 100000 in
set_option maxHeartbeats 2400000 in
theorem sad_no (N : Int) (lo hi n : Nat) (v : Value) (L : List Ed) (w : World) (hL : L.length = n) (hr : Row 3 w lo hi v n (flat L)) (hh : hi ≤ w.heap.size) (hG : gok N L = false) :
    Calls Try.prog 14 #[.agg #[.int .i64 N, v]] w (AdPost N L w) := by
  have HR := Lib.hid hr
  have e0 : Hid (adN N L = 0) := by show _ = _; unfold adN; rw [hG]; rfl
  obtain ⟨ad, cp, rfl⟩ := hr.slice
  clear hr
  go_enter Try.func14, Try.ntmps14
  go_wp2_with fail
  go_at_call 12
  refine (sgok_any N lo hi n _ L _ hL (HR.out.below (B := w.heap.size) (by go_grown) (by omega)) (by simp; omega)).mono ?_
  rw [hG]
  rintro e v1 ⟨rfl, hb1⟩
  have sz1 : w.heap.size + 2 ≤ v1.heap.size := by have hh := hb1.size; simp at hh; omega
  have st1 : Below w.heap.size w v1 := Below.trans (by go_grown) (hb1.mono (by simp <;> omega))
  have c1_0 : v1.cell? ⟨w.heap.size, 0, none⟩ = some (.int .i64 N) := by rw [(bcell hb1).1 _ _ (by simp <;> omega), old_box (by simp <;> omega)]; first | (rw [new_at (by simp)]; rfl) | simp
  have c1_1 : v1.cell? ⟨w.heap.size, 1, none⟩ = some (.slice ad n cp) := by rw [(bcell hb1).1 _ _ (by simp <;> omega), old_box (by simp <;> omega)]; first | (rw [new_at (by simp)]; rfl) | simp
  have B1 : Hid (Below w.heap.size w v1) := st1
  have R1_0 : Hid (Row 3 v1 (lo) (hi) (.slice ad n cp) n (flat L)) := HR.out.below st1 (by omega)
  have d1_0 : w.heap.size < v1.heap.size := by omega
  have e1_0 : w.heap.size ≠ v1.heap.size := by omega
  clear st1 HR hb1
  go_wp2_with fail
  go_ret
  refine ⟨.slice none 0 0, rfl, ?_⟩
  rw [e0.out]
  exact (SSx.nil _ _).base B1.out

theorem sad_any (N : Int) (lo hi n : Nat) (v : Value) (L : List Ed) (w : World) (hL : L.length = n) (hr : Row 3 w lo hi v n (flat L)) (hh : hi ≤ w.heap.size) :
    Calls Try.prog 14 #[.agg #[.int .i64 N, v]] w (AdPost N L w) := by
  by_cases hG : gok N L = true
  · have hN := gok_parts hG
    obtain ⟨M, rfl⟩ : ∃ M : Nat, N = (M : Int) := ⟨N.toNat, by omega⟩
    exact sad_yes M lo hi n v L w hL hr hh hG
  · exact sad_no N lo hi n v L w hL hr hh (by simpa using hG)

end Go.Proofs.Ytfkpefbahpjinaa
