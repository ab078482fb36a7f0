/- TreeOf of the model. -/
import Derived.Test.YtkkfgnnhdcmmjaaCw
namespace Go.Proofs.Ytkkfgnnhdcmmjaa
open Go.RowKit


/-- What TreeOf answers. -/
def TrPost (m : Nat) (Z : List Int) (w : World) (e : Ending) (w' : World) : Prop := ∃ rv, e = .returned rv ∧ Row 1 w' w.heap.size w'.heap.size rv m Z ∧ Below w.heap.size w w'

set_option maxRecDepth 100000 in
set_option maxHeartbeats 2400000 in
theorem stree_no0 (N : Int) (lo hi n : Nat) (v : Value) (L : List Ed) (x : Int) (w : World) (hL : L.length = n) (hr : Row 3 w lo hi v n (flat L)) (hh : hi ≤ w.heap.size) (hn : gok N L = false) :
    Calls Try.prog 39 #[.agg #[.int .i64 N, v], .int .i64 x] w (TrPost 0 [] w) := by
  have HR := Lib.hid hr
  have Hn := Lib.hid hn
  obtain ⟨ad, cp, rfl⟩ := hr.slice
  clear hr hn
  go_enter Try.func39, Try.ntmps39
  go_wp2_with fail
  go_at_call 50
  refine (sgok_any N lo hi n _ L _ hL (HR.out.below (B := w.heap.size) (by go_grown) (by omega)) (by simp; omega)).mono ?_
  rw [Hn.out]
  rintro e v1 ⟨rfl, hb1⟩
  have sz1 : w.heap.size + 2 ≤ v1.heap.size := by have hh := hb1.size; simp at hh; omega
  have st1 : Below w.heap.size w v1 := Below.trans (by go_grown) (hb1.mono (by simp <;> omega))
  have c1_0 : v1.cell? ⟨w.heap.size, 0, none⟩ = some (.int .i64 N) := by rw [(bcell hb1).1 _ _ (by simp <;> omega), old_box (by simp <;> omega)]; first | (rw [new_at (by simp)]; rfl) | simp
  have c1_1 : v1.cell? ⟨w.heap.size, 1, none⟩ = some (.slice ad n cp) := by rw [(bcell hb1).1 _ _ (by simp <;> omega), old_box (by simp <;> omega)]; first | (rw [new_at (by simp)]; rfl) | simp
  have B1 : Hid (Below w.heap.size w v1) := st1
  have R1_0 : Hid (Row 3 v1 (lo) (hi) (.slice ad n cp) n (flat L)) := HR.out.below st1 (by omega)
  have d1_0 : w.heap.size < v1.heap.size := by omega
  have e1_0 : w.heap.size ≠ v1.heap.size := by omega
  clear st1 HR hb1
  go_wp2_with fail
  go_ret
  exact ⟨_, rfl, Row.empty 1 _ _ _ _ _, B1.out⟩

set_option maxRecDepth 100000 in
set_option maxHeartbeats 2400000 in
theorem stree_no1 (N : Int) (lo hi n : Nat) (v : Value) (L : List Ed) (x : Int) (w : World) (hL : L.length = n) (hr : Row 3 w lo hi v n (flat L)) (hh : hi ≤ w.heap.size) (hn : gok N L = true ∧ ndB N x = false) :
    Calls Try.prog 39 #[.agg #[.int .i64 N, v], .int .i64 x] w (TrPost 0 [] w) := by
  have HR := Lib.hid hr
  have Hn := Lib.hid hn
  obtain ⟨ad, cp, rfl⟩ := hr.slice
  clear hr hn
  have hN1 := (gok_parts Hn.out.1).1
  have hN2 := (gok_parts Hn.out.1).2.1
  go_enter Try.func39, Try.ntmps39
  go_wp2_with fail
  go_at_call 50
  refine (sgok_any N lo hi n _ L _ hL (HR.out.below (B := w.heap.size) (by go_grown) (by omega)) (by simp; omega)).mono ?_
  rw [Hn.out.1]
  rintro e v1 ⟨rfl, hb1⟩
  have sz1 : w.heap.size + 2 ≤ v1.heap.size := by have hh := hb1.size; simp at hh; omega
  have st1 : Below w.heap.size w v1 := Below.trans (by go_grown) (hb1.mono (by simp <;> omega))
  have c1_0 : v1.cell? ⟨w.heap.size, 0, none⟩ = some (.int .i64 N) := by rw [(bcell hb1).1 _ _ (by simp <;> omega), old_box (by simp <;> omega)]; first | (rw [new_at (by simp)]; rfl) | simp
  have c1_1 : v1.cell? ⟨w.heap.size, 1, none⟩ = some (.slice ad n cp) := by rw [(bcell hb1).1 _ _ (by simp <;> omega), old_box (by simp <;> omega)]; first | (rw [new_at (by simp)]; rfl) | simp
  have B1 : Hid (Below w.heap.size w v1) := st1
  have R1_0 : Hid (Row 3 v1 (lo) (hi) (.slice ad n cp) n (flat L)) := HR.out.below st1 (by omega)
  have d1_0 : w.heap.size < v1.heap.size := by omega
  have e1_0 : w.heap.size ≠ v1.heap.size := by omega
  clear st1 HR hb1
  go_wp2_with fail
  go_at_call 51
  refine (node_any N _ _ _ x _ hN1 hN2).mono ?_
  rw [Hn.out.2]
  rintro e v2 ⟨rfl, hb2⟩
  have sz2 : v1.heap.size ≤ v2.heap.size := hb2.size
  have st2 : Below v1.heap.size v1 v2 := hb2
  have c2_0 : v2.cell? ⟨w.heap.size, 0, none⟩ = some (.int .i64 N) := by rw [(bcell st2).1 _ _ (by omega)]; exact c1_0
  have c2_1 : v2.cell? ⟨w.heap.size, 1, none⟩ = some (.slice ad n cp) := by rw [(bcell st2).1 _ _ (by omega)]; exact c1_1
  have B2 : Hid (Below w.heap.size w v2) := B1.out.trans (st2.mono (by omega))
  have R2_0 : Hid (Row 3 v2 (lo) (hi) (.slice ad n cp) n (flat L)) := R1_0.out.below st2 (by omega)
  have d2_0 : w.heap.size < v2.heap.size := by omega
  have e2_0 : w.heap.size ≠ v2.heap.size := by omega
  clear d1_0 e1_0 c1_0 c1_1 B1 st2 R1_0 hb2
  go_wp2_with fail
  go_ret
  exact ⟨_, rfl, Row.empty 1 _ _ _ _ _, B2.out⟩

set_option maxRecDepth 100000 in
set_option maxHeartbeats 4000000 in
theorem stree_yes (M : Nat) (lo hi n : Nat) (v : Value) (L : List Ed) (s : Nat) (f : Int → Int) (w : World) (hL : L.length = n) (hr : Row 3 w lo hi v n (flat L)) (hh : hi ≤ w.heap.size) (hG : gok (M : Int) L = true) (hs : s < M) (hf : TreeP (M : Int) L (s : Int) f) :
    Calls Try.prog 39 #[.agg #[.int .i64 (M : Int), v], .int .i64 (s : Int)] w (TrPost M (tabI M f) w) := by
  have HR := Lib.hid hr
  have HG := Lib.hid hG
  have HL := Lib.hid hL
  have HT := Lib.hid hf
  have hN1 := (gok_parts hG).1
  have hN2 := (gok_parts hG).2.1
  have HS2 : Hid (0 ≤ (s : Int) ∧ (s : Int) < (M : Int)) := ⟨by omega, by omega⟩
  have hns : ndB (M : Int) (s : Int) = true := by unfold ndB; rw [inB_iff]; omega
  obtain ⟨ad, cp, rfl⟩ := hr.slice
  obtain ⟨i3, hi3, hz0, hz1, hz2⟩ := info_parts Try.info3
  have I := Lib.hid (And.intro hi3 (And.intro hz0 (And.intro hz1 hz2)))
  clear hr hG hi3 hz0 hz1 hz2 hf
  go_enter Try.func39, Try.ntmps39
  go_wp2_with fail
  obtain ⟨v0, hv0⟩ : ∃ v0, v0 = w.alloc (.cells #[.int .i64 (M : Int), .slice ad n cp] 30) := ⟨_, rfl⟩
  have hv0s : v0.heap.size = w.heap.size + 1 := by rw [hv0]; simp
  have hwv : w.heap.size < v0.heap.size := by omega
  have K0 : Hid (v0.cell? ⟨w.heap.size, 0, none⟩ = some (.int .i64 (M : Int))) := by rw [hv0]; show _ = _; simp
  have K1 : Hid (v0.cell? ⟨w.heap.size, 1, none⟩ = some (.slice ad n cp)) := by rw [hv0]; show _ = _; simp
  have HBv : Hid (Below w.heap.size w v0) := by rw [hv0]; show Below _ _ _; go_grown
  have HRv : Hid (Row 3 v0 lo hi (.slice ad n cp) n (flat L)) := HR.out.below HBv.out (by omega)
  obtain ⟨v1, hv1⟩ : ∃ v1, v1 = v0.alloc (.cells #[] 3) := ⟨_, rfl⟩
  have HO : Hid (OwnI v0 v1 (.slice (some ⟨v0.heap.size, 0, none⟩) 0 0) 0 (tabI 0 f)) := by rw [hv1]; exact Lib.hid (OwnI.lit0 v0)
  rw [← hv0]
  rw [← hv1]
  rw [hv0s] at HO
  have HV := Lib.hid hv0s
  have k0 : v1.cell? ⟨w.heap.size, 0, none⟩ = some (.int .i64 (M : Int)) := by rw [HO.out.below.cell (p := ⟨w.heap.size, 0, none⟩) hwv]; exact K0.out
  have k1 : v1.cell? ⟨w.heap.size, 1, none⟩ = some (.slice ad n cp) := by rw [HO.out.below.cell (p := ⟨w.heap.size, 1, none⟩) hwv]; exact K1.out
  have hs1 := HO.out.below.size
  have hwv1 : w.heap.size < v1.heap.size := by omega
  have HR1 : Hid (Row 3 v1 lo hi (.slice ad n cp) n (flat L)) := HRv.out.below HO.out.below (by rw [HV.out]; omega)
  have hh1 : hi ≤ v1.heap.size := by rw [HV.out] at hs1; omega
  clear hv0 hv1 HR hv0s
  go_at_call 50
  refine (sgok_any (M : Int) lo hi n _ L _ hL HR1.out hh1).mono ?_
  rw [HG.out]
  rintro e v2 ⟨rfl, hb2⟩
  have k0 : v2.cell? ⟨w.heap.size, 0, none⟩ = some (.int .i64 (M : Int)) := by rw [hb2.cell (p := ⟨w.heap.size, 0, none⟩) hwv1]; exact k0
  have k1 : v2.cell? ⟨w.heap.size, 1, none⟩ = some (.slice ad n cp) := by rw [hb2.cell (p := ⟨w.heap.size, 1, none⟩) hwv1]; exact k1
  have HO2 := Lib.hid (HO.out.grow hb2)
  clear hb2 HO HR1 hh1
  go_wp2_with fail
  go_at_call 51
  refine (node_any (M : Int) _ _ _ (s : Int) _ hN1 hN2).mono ?_
  rw [hns]
  rintro e v3 ⟨rfl, hb3⟩
  have HO3 := Lib.hid (HO2.out.grow hb3)
  clear hb3 HO2 k0 k1 hns hs1
  go_wp2_with fail
  go_loopw [5, 6] (fun v i wr => ∃ k : Nat, k ≤ M ∧ i = .int .i64 (k : Int) ∧ Hid (OwnI v0 wr v k (tabI k f))) (fun _ i _ => M - (intOf i).toNat)
  case atStart => exact ⟨0, Nat.zero_le _, rfl, HO3⟩
  case round =>
    obtain ⟨k, hk, rfl, hR⟩ := hrel
    have k0 : wr.cell? ⟨w.heap.size, 0, none⟩ = some (.int .i64 (M : Int)) := by rw [hR.out.below.cell (p := ⟨w.heap.size, 0, none⟩) hwv]; exact K0.out
    have k1 : wr.cell? ⟨w.heap.size, 1, none⟩ = some (.slice ad n cp) := by rw [hR.out.below.cell (p := ⟨w.heap.size, 1, none⟩) hwv]; exact K1.out
    have hsz := hR.out.below.size
    have HRw : Hid (Row 3 wr lo hi (.slice ad n cp) n (flat L)) := HRv.out.below hR.out.below (by rw [HV.out]; omega)
    have hhw : hi ≤ wr.heap.size := by rw [HV.out] at hsz; omega
    obtain ⟨oa, oc, hov⟩ := own_slice hR.out.row
    subst hov
    by_cases hlt : k < M
    · have q0 : (k : Int) < (M : Int) := by omega
      have HK2 : Hid (0 ≤ (k : Int) ∧ (k : Int) < (M : Int)) := ⟨by omega, by omega⟩
      by_cases hd : dsT (M : Int) L (s : Int) (k : Int) = Far
      · have Hf : Hid (f (k : Int) = -1) := (HT.out _ HK2.out).1 hd
        go_wp2_with fail
        go_at_call 29
        refine (scw_far M lo hi n _ L s k _ HL.out HRw.out hhw HG.out hs hlt hd).mono ?_
        rintro e w2 ⟨rv, rfl, hrow, hb2⟩
        obtain ⟨ra, rc, hrv⟩ := hrow.slice
        subst hrv
        have HR2 : Hid (OwnI v0 w2 (.slice oa k oc) k (tabI k f)) := Lib.hid (hR.out.grow hb2)
        have Hw := Lib.hid HR2.out.row
        have hs2 := hb2.size
        clear hrow hb2 hR k0 k1 HRw hhw
        go_wp2_with (at_builtin; refine wpList_append_lies _ rfl _ _ 26 rfl v0.heap.size 3 i3 (.int .i64 0) 1 8 Try.underlying26 I.out.1 I.out.2.1 I.out.2.2.1 I.out.2.2.2 rfl (by decide) _ k (ints (tabI k f)) rfl (Hw.out.alloc _) ⟨w2.heap.size, 0, none⟩ 1 1 [.int .i64 (-1)] rfl rfl ?d0 (int_one _) (by decide) ?d1 ?d2 ?d3 _ rfl ?_)
        case d0 => exact fun a u ha => cell_one_new _ _ 3 rfl a u ha
        case d1 => unfold maxLen; omega
        case d2 => omega
        case d3 => simp; omega
        intro g4 cap4 w4 hown4 hgrow4 hat4 hlt4
        have HF : Hid (OwnI v0 w4 (.slice (some ⟨g4, 0, none⟩) (k + 1) cap4) (k + 1) (tabI (k + 1) f)) := by show OwnI _ _ _ _ _; rw [tabI_succ, Hf.out]; exact (HR2.out.grow ((Below.refl _ _).alloc (Nat.le_refl _) _)).app hgrow4 hown4
        clear hown4 hgrow4 hat4 hlt4 HR2 Hw
        go_wp2_with fail
        go_roundw
        case rel => exact ⟨k + 1, by omega, by go_num, HF⟩
        case measure => simp [intOf]; omega
      · obtain ⟨l, hl⟩ := WayP.ex HG.out HS2.out HK2.out hd
        have Hf : Hid (f (k : Int) = prd ((s : Int) :: l)) := (HT.out _ HK2.out).2 l hl
        go_wp2_with fail
        go_at_call 29
        refine (scw_yes M lo hi n _ L s k _ HL.out HRw.out hhw HG.out hs hlt l hl).mono ?_
        rintro e w2 ⟨rv, rfl, hrow, hb2⟩
        obtain ⟨rg, rc, hrv, hrl, hrh, hrc⟩ := row_cells (by omega) hrow
        subst hrv
        have hlen := Lib.hid (hl.len HG.out HK2.out)
        have HR2 : Hid (OwnI v0 w2 (.slice oa k oc) k (tabI k f)) := Lib.hid (hR.out.grow hb2)
        have Hw := Lib.hid HR2.out.row
        have hs2 := hb2.size
        by_cases h2 : 1 < ((s : Int) :: l).length
        · obtain ⟨q, hq⟩ : ∃ q, l.length + 1 = q + 2 := ⟨l.length - 1, by simp at h2; omega⟩
          have z0 : w2.cell? ⟨rg, q, none⟩ = some (.int .i64 (prd ((s : Int) :: l))) := hrc q _ (by have := prd_yes h2; rw [show ((s : Int) :: l).length - 2 = q by simp; omega] at this; exact this)
          obtain ⟨d, hd'⟩ : ∃ d, d = prd ((s : Int) :: l) := ⟨_, rfl⟩
          rw [← hd'] at z0
          have Hd := Lib.hid hd'
          have Hq := Lib.hid hq
          have hq10 : q ≤ 10 := by have := hlen.out; simp at this; omega
          rw [hq]
          have e1 : IntKind.i64.wrap ((q : Int) + 2 - 2) = (q : Int) := by rw [IntWalk.i64_in _ (by omega)]; omega
          have e2 : IntKind.i64.wrap (q : Int) = (q : Int) := IntWalk.i64_in _ (by omega)
          have p1 : (0 : Int) ≤ (q : Int) := by omega
          have p2 : (q : Int) < (q : Int) + 2 := by omega
          have p3 : ¬ ((q : Int) + 2 < 2) := by omega
          have hrw2 : rg < w2.heap.size := hrh
          clear hrow hrc hb2 hR k0 k1 HRw hhw h2 hl hd hd' hq hlen
          go_wp2_with (at_builtin; refine wpList_append_lies _ rfl _ _ 26 rfl v0.heap.size 3 i3 (.int .i64 0) 1 8 Try.underlying26 I.out.1 I.out.2.1 I.out.2.2.1 I.out.2.2.2 rfl (by decide) _ k (ints (tabI k f)) rfl (Hw.out.alloc _) ⟨w2.heap.size, 0, none⟩ 1 1 [.int .i64 (d)] rfl rfl ?d0 (int_one _) (by decide) ?d1 ?d2 ?d3 _ rfl ?_)
          case d0 => exact fun a u ha => cell_one_new _ _ 3 rfl a u ha
          case d1 => unfold maxLen; omega
          case d2 => omega
          case d3 => simp; omega
          intro g4 cap4 w4 hown4 hgrow4 hat4 hlt4
          have HF : Hid (OwnI v0 w4 (.slice (some ⟨g4, 0, none⟩) (k + 1) cap4) (k + 1) (tabI (k + 1) f)) := by show OwnI _ _ _ _ _; rw [tabI_succ, Hf.out, ← Hd.out]; exact (HR2.out.grow ((Below.refl _ _).alloc (Nat.le_refl _) _)).app hgrow4 hown4
          clear hown4 hgrow4 hat4 hlt4 HR2 Hw
          go_wp2_with fail
          go_roundw
          case rel => exact ⟨k + 1, by omega, by go_num, HF⟩
          case measure => simp [intOf]; omega
        · have Hm : Hid (prd ((s : Int) :: l) = -1) := prd_no h2
          have hl0 : l.length = 0 := by simp at h2; exact List.length_eq_zero_iff.2 h2
          rw [hl0]
          clear hrow hrc hb2 hR k0 k1 HRw hhw h2 hl hd hl0 hlen
          go_wp2_with (at_builtin; refine wpList_append_lies _ rfl _ _ 26 rfl v0.heap.size 3 i3 (.int .i64 0) 1 8 Try.underlying26 I.out.1 I.out.2.1 I.out.2.2.1 I.out.2.2.2 rfl (by decide) _ k (ints (tabI k f)) rfl (Hw.out.alloc _) ⟨w2.heap.size, 0, none⟩ 1 1 [.int .i64 (-1)] rfl rfl ?d0 (int_one _) (by decide) ?d1 ?d2 ?d3 _ rfl ?_)
          case d0 => exact fun a u ha => cell_one_new _ _ 3 rfl a u ha
          case d1 => unfold maxLen; omega
          case d2 => omega
          case d3 => simp; omega
          intro g4 cap4 w4 hown4 hgrow4 hat4 hlt4
          have HF : Hid (OwnI v0 w4 (.slice (some ⟨g4, 0, none⟩) (k + 1) cap4) (k + 1) (tabI (k + 1) f)) := by show OwnI _ _ _ _ _; rw [tabI_succ, Hf.out, Hm.out]; exact (HR2.out.grow ((Below.refl _ _).alloc (Nat.le_refl _) _)).app hgrow4 hown4
          clear hown4 hgrow4 hat4 hlt4 HR2 Hw
          go_wp2_with fail
          go_roundw
          case rel => exact ⟨k + 1, by omega, by go_num, HF⟩
          case measure => simp [intOf]; omega
    · obtain rfl : M = k := by omega
      have hge : ¬ ((M : Int) < (M : Int)) := by omega
      clear k1 HRw hhw
      go_wp2_with fail
      go_ret
      exact ⟨_, rfl, (hR.out.toRow (by omega)).wide (by rw [HV.out]; omega) (Nat.le_refl _), HBv.out.trans (hR.out.below.mono (by rw [HV.out]; omega))⟩
  

end Go.Proofs.Ytkkfgnnhdcmmjaa
