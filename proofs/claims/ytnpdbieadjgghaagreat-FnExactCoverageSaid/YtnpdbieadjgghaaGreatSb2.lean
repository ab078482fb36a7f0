/- BestAlternate of the model. -/
import Derived.Test.YtnpdbieadjgghaaGreatGd
import Derived.Test.YtnpdbieadjgghaaGreatOi
namespace Go.Proofs.YtnpdbieadjgghaaGreat
open Go.RowKit

set_option maxRecDepth 100000 in
set_option maxHeartbeats 4000000 in
theorem slf_any (N : Int) (lo hi n : Nat) (v : Value) (L : List Ed) (s f d : Int) (w : World) (hL : L.length = n) (hr : Row 3 w lo hi v n (flat L)) (hh : hi ≤ w.heap.size) :
    Calls Tryz.prog 46 #[.agg #[.int .i64 N, v], .int .i64 s, .int .i64 f, .int .i64 d] w fun e w' => e = .returned (.bool (loopV N L s f d)) ∧ Below w.heap.size w w' := by
  obtain ⟨ad, cp, rfl⟩ := hr.slice
  have HG := Lib.hid (Gx.start (N := N) hr hh)
  have HX0 : Hid (Row 1 ((w.alloc (.cells #[.int .i64 N, .slice ad n cp] 30)).alloc (.cells #[.int .i64 s, .int .i64 f, .int .i64 d] 3)) (w.heap.size + 1) (w.heap.size + 1 + 1) (.slice (some ⟨w.heap.size + 1, 0, none⟩) 3 3) 3 [s, f, d]) := by
    refine ⟨rfl, .inr ⟨_, 3, rfl, Nat.le_refl _, by omega, by omega, fun q z hz => ?_, fun o => by simp [go_sem]⟩⟩
    rcases q with _ | _ | _ | q
    · simp at hz; subst hz; simp [go_sem]
    · simp at hz; subst hz; simp [go_sem]
    · simp at hz; subst hz; simp [go_sem]
    · simp at hz
  have HGX := Lib.hid (HG.out.grow ((Below.refl _ _).alloc (Nat.le_refl _) (.cells #[.int .i64 s, .int .i64 f, .int .i64 d] 3)))
  clear hr
  go_enter Tryz.func46, Tryz.ntmps46
  go_wp2_with fail
  go_at_call 30
  refine (sgood_any N lo hi n _ L _ _ 3 _ [s, f, d] _ hL HGX.out.row HGX.out.hi HX0.out (by simp) (by omega)).mono ?_
  rintro e v1 ⟨rfl, b1⟩
  have H1 := Lib.hid (HGX.out.grow b1)
  have c10 := H1.out.c0
  have c11 := H1.out.c1
  clear b1 HX0 HGX
  by_cases hg : g10 N L [s, f, d] = true
  · have HK := Lib.hid (g10_gok hg)
    have HND := Lib.hid (g10_nodes hg)
    have HGG := Lib.hid hg
    rw [hg]
    clear hg
    by_cases hsd : s = d
    · have z1 : (s == d) = true := by rw [hsd]; simp
      have HV : Hid (loopV N L s f d = false) := by
        show loopV _ _ _ _ _ = false
        unfold loopV
        rw [HGG.out, Bool.true_and, Bool.eq_false_iff]
        intro h
        have h1 := HND.out s (by simp)
        have h2 := HND.out f (by simp)
        exact ((lfB_iff HK.out h1 h2).1 h).1 hsd
      clear hsd
      go_wp2
      go_ret
      exact ⟨by rw [HV.out]; rfl, H1.out.below⟩
    · have z1 : (s == d) = false := beq_eq_false_iff_ne.2 hsd
      have HSD := Lib.hid hsd
      clear hsd
      go_wp2_with fail
      go_at_call 45
      refine (snear_any N lo hi n _ L s f _ HK.out hL H1.out.row H1.out.hi).mono ?_
      rintro e v2 ⟨rfl, b2⟩
      have H2 := Lib.hid (H1.out.grow b2)
      have c20 := H2.out.c0
      have c21 := H2.out.c1
      clear b2 c10 c11
      by_cases hnr : nearB L s f = true
      · have HNR := Lib.hid hnr
        rw [hnr]
        clear hnr
        obtain ⟨M, rfl⟩ : ∃ M : Nat, N = (M : Int) := ⟨N.toNat, by have := (gok_parts HK.out).1; omega⟩
        obtain ⟨s', rfl⟩ : ∃ q : Nat, s = (q : Int) := ⟨s.toNat, by have := HND.out s (by simp); omega⟩
        obtain ⟨f', rfl⟩ : ∃ q : Nat, f = (q : Int) := ⟨f.toNat, by have := HND.out f (by simp); omega⟩
        obtain ⟨d', rfl⟩ : ∃ q : Nat, d = (q : Int) := ⟨d.toNat, by have := HND.out d (by simp); omega⟩
        have hsM : s' < M := by have := HND.out (s' : Int) (by simp); omega
        have hfM : f' < M := by have := HND.out (f' : Int) (by simp); omega
        have hdM : d' < M := by have := HND.out (d' : Int) (by simp); omega
        go_wp2_with fail
        go_at_call 55
        refine (sdst_any M lo hi n _ L f' d' _ HK.out hL H2.out.row H2.out.hi hfM hdM).mono ?_
        rintro e v3 ⟨rfl, b3⟩
        have H3 := Lib.hid (H2.out.grow b3)
        have c30 := H3.out.c0
        have c31 := H3.out.c1
        clear b3 c20 c21
        go_wp2_with fail
        go_at_call 55
        refine (sdst_any M lo hi n _ L f' s' _ HK.out hL H3.out.row H3.out.hi hfM hsM).mono ?_
        rintro e v4 ⟨rfl, b4⟩
        have H4 := Lib.hid (H3.out.grow b4)
        have c40 := H4.out.c0
        have c41 := H4.out.c1
        clear b4 c30 c31
        go_wp2_with fail
        go_at_call 55
        refine (sdst_any M lo hi n _ L s' d' _ HK.out hL H4.out.row H4.out.hi hsM hdM).mono ?_
        rintro e v5 ⟨rfl, b5⟩
        have H5 := Lib.hid (H4.out.grow b5)
        have c50 := H5.out.c0
        have c51 := H5.out.c1
        clear b5 c40 c41
        have g1 := dsT_in HK.out hfM (d' : Int)
        have g2 := dsT_in HK.out hfM (s' : Int)
        have g3 := dsT_in HK.out hsM (d' : Int)
        have HV : Hid (loopV (M : Int) L (s' : Int) (f' : Int) (d' : Int) = (decide (dsT (M : Int) L (f' : Int) (d' : Int) < 1000000) && (decide (dsT (M : Int) L (f' : Int) (s' : Int) < 1000000) && (decide (dsT (M : Int) L (s' : Int) (d' : Int) < 1000000) && decide (dsT (M : Int) L (f' : Int) (d' : Int) < dsT (M : Int) L (f' : Int) (s' : Int) + dsT (M : Int) L (s' : Int) (d' : Int)))))) := by
          show loopV _ _ _ _ _ = _
          unfold loopV
          rw [HGG.out, Bool.true_and, Bool.eq_iff_iff, lfB_iff HK.out (HND.out _ (by simp)) (HND.out _ (by simp)), far_val]
          simp only [Bool.and_eq_true, decide_eq_true_iff]
          exact ⟨fun h => h.2.2, fun h => ⟨HSD.out, HNR.out, h⟩⟩
        generalize dsT (M : Int) L (f' : Int) (d' : Int) = q1 at *
        generalize dsT (M : Int) L (f' : Int) (s' : Int) = q2 at *
        generalize dsT (M : Int) L (s' : Int) (d' : Int) = q3 at *
        have wr : wrap64 (q2 + q3) = q2 + q3 := by unfold wrap64; omega
        clear g1 g2 g3
        by_cases a1 : q1 < 1000000
        · have z2 : decide (q1 < 1000000) = true := decide_eq_true a1
          by_cases a2 : q2 < 1000000
          · have z3 : decide (q2 < 1000000) = true := decide_eq_true a2
            by_cases a3 : q3 < 1000000
            · have z4 : decide (q3 < 1000000) = true := decide_eq_true a3
              clear a1 a2 a3
              go_wp2
              go_ret
              exact ⟨by rw [HV.out, z2, z3, z4]; rfl, H5.out.below⟩
            · have z4 : decide (q3 < 1000000) = false := decide_eq_false a3
              clear a1 a2 a3
              go_wp2
              go_ret
              exact ⟨by rw [HV.out, z2, z3, z4]; rfl, H5.out.below⟩
          · have z3 : decide (q2 < 1000000) = false := decide_eq_false a2
            clear a1 a2
            go_wp2
            go_ret
            exact ⟨by rw [HV.out, z2, z3]; rfl, H5.out.below⟩
        · have z2 : decide (q1 < 1000000) = false := decide_eq_false a1
          clear a1
          go_wp2
          go_ret
          exact ⟨by rw [HV.out, z2]; rfl, H5.out.below⟩
      · rw [Bool.not_eq_true] at hnr
        have HV : Hid (loopV N L s f d = false) := by show loopV _ _ _ _ _ = false; unfold loopV lfB; rw [hnr]; simp
        rw [hnr]
        clear hnr
        go_wp2
        go_ret
        exact ⟨by rw [HV.out]; rfl, H2.out.below⟩
  · rw [Bool.not_eq_true] at hg
    have HV : Hid (loopV N L s f d = false) := by show loopV _ _ _ _ _ = false; unfold loopV; rw [hg, Bool.false_and]
    rw [hg]
    clear hg
    go_wp2
    go_ret
    exact ⟨by rw [HV.out]; rfl, H1.out.below⟩

set_option maxRecDepth 100000 in
set_option maxHeartbeats 4000000 in
theorem salt_any (N : Int) (lo hi n : Nat) (v : Value) (L : List Ed) (s f d : Int) (w : World) (hL : L.length = n) (hr : Row 3 w lo hi v n (flat L)) (hh : hi ≤ w.heap.size) :
    Calls Tryz.prog 17 #[.agg #[.int .i64 N, v], .int .i64 s, .int .i64 f, .int .i64 d] w (LjPost (altL N L s f d) w) := by
  obtain ⟨ad, cp, rfl⟩ := hr.slice
  have HG := Lib.hid (Gx.start (N := N) hr hh)
  have HG1 := Lib.hid (HG.out.grow ((Below.refl _ _).alloc (Nat.le_refl _) (.cells #[] 3)))
  obtain ⟨i3, hi3, hz0, hz1, hz2⟩ := info_parts Tryz.info3
  have I := Lib.hid (And.intro hi3 (And.intro hz0 (And.intro hz1 hz2)))
  clear hi3 hz0 hz1 hz2
  have HX0 : Hid (Row 1 (((w.alloc (.cells #[.int .i64 N, .slice ad n cp] 30)).alloc (.cells #[] 3)).alloc (.cells #[.int .i64 s, .int .i64 f, .int .i64 d] 3)) (w.heap.size + 1 + 1) (w.heap.size + 1 + 1 + 1) (.slice (some ⟨w.heap.size + 1 + 1, 0, none⟩) 3 3) 3 [s, f, d]) := by
    refine ⟨rfl, .inr ⟨_, 3, rfl, Nat.le_refl _, by omega, by omega, fun q z hz => ?_, fun o => by simp [go_sem]⟩⟩
    rcases q with _ | _ | _ | q
    · simp at hz; subst hz; simp [go_sem]
    · simp at hz; subst hz; simp [go_sem]
    · simp at hz; subst hz; simp [go_sem]
    · simp at hz
  have HGX := Lib.hid (HG1.out.grow ((Below.refl _ _).alloc (Nat.le_refl _) (.cells #[.int .i64 s, .int .i64 f, .int .i64 d] 3)))
  clear hr
  go_enter Tryz.func17, Tryz.ntmps17
  go_wp2_with fail
  go_at_call 30
  refine (sgood_any N lo hi n _ L _ _ 3 _ [s, f, d] _ hL HGX.out.row HGX.out.hi HX0.out (by simp) (by omega)).mono ?_
  rintro e v1 ⟨rfl, b1⟩
  have H1 := Lib.hid (HGX.out.grow b1)
  have c10 := H1.out.c0
  have c11 := H1.out.c1
  have HOW : Hid (OwnI (w.alloc (.cells #[.int .i64 N, .slice ad n cp] 30)) v1 (.slice (some ⟨w.heap.size + 1, 0, none⟩) 0 0) 0 []) := by
    have h := OwnI.lit0 (w.alloc (.cells #[.int .i64 N, .slice ad n cp] 30))
    simp only [World.size_alloc] at h
    exact (h.grow ((Below.refl _ _).alloc (Nat.le_refl _) (.cells #[.int .i64 s, .int .i64 f, .int .i64 d] 3))).grow b1
  clear b1 HX0 HGX
  by_cases hg : g10 N L [s, f, d] = true
  · have HK := Lib.hid (g10_gok hg)
    have HPR := Lib.hid (g10_pair hg)
    have HND := Lib.hid (g10_nodes hg)
    have HGG := Lib.hid hg
    rw [hg]
    clear hg
    go_wp2_with fail
    go_at_call 45
    refine (snear_any N lo hi n _ L s f _ HK.out hL H1.out.row H1.out.hi).mono ?_
    rintro e v2 ⟨rfl, b2⟩
    have HO2 := Lib.hid (HOW.out.grow b2)
    clear HOW
    have H2 := Lib.hid (H1.out.grow b2)
    have c20 := H2.out.c0
    have c21 := H2.out.c1
    clear b2 c10 c11
    by_cases hnr : nearB L s f = true
    · have HRP : Hid (repB N L s f d = true) := by show repB _ _ _ _ _ = true; unfold repB; rw [HGG.out, hnr]; rfl
      rw [hnr]
      clear hnr
      obtain ⟨M, rfl⟩ : ∃ M : Nat, N = (M : Int) := ⟨N.toNat, by have := (gok_parts HK.out).1; omega⟩
      obtain ⟨s', rfl⟩ : ∃ q : Nat, s = (q : Int) := ⟨s.toNat, by have := HND.out s (by simp); omega⟩
      obtain ⟨f', rfl⟩ : ∃ q : Nat, f = (q : Int) := ⟨f.toNat, by have := HND.out f (by simp); omega⟩
      obtain ⟨d', rfl⟩ : ∃ q : Nat, d = (q : Int) := ⟨d.toNat, by have := HND.out d (by simp); omega⟩
      have hsM : s' < M := by have := HND.out (s' : Int) (by simp); omega
      have hfM : f' < M := by have := HND.out (f' : Int) (by simp); omega
      have hdM : d' < M := by have := HND.out (d' : Int) (by simp); omega
      have hM10 : M ≤ 10 := by have := (gok_parts HK.out).2.1; omega
      clear c20 c21
      have HS0 := H2.out.below.size
      have HW0 : Hid ((w.alloc (.cells #[.int .i64 (M : Int), .slice ad n cp] 30)).heap.size = w.heap.size + 1) := by show _ = _; simp
      have HB0 : Hid (Below w.heap.size w (w.alloc (.cells #[.int .i64 (M : Int), .slice ad n cp] 30))) := (Below.refl _ _).alloc (Nat.le_refl _) _
      generalize (w.alloc (.cells #[.int .i64 (M : Int), .slice ad n cp] 30)) = w0 at *
      go_wp2_with fail
      go_loopw [9, 10] (fun v i wr => ∃ k : Nat, k ≤ M ∧ i = .int .i64 (k : Int) ∧ Hid (Gx w wr (M : Int) ad n cp lo hi L) ∧ Hid (OwnI w0 wr v (firstN k (altB (M : Int) L (s' : Int) (f' : Int) (d' : Int))).length (firstN k (altB (M : Int) L (s' : Int) (f' : Int) (d' : Int))))) (fun _ i _ => M - (intOf i).toNat)
      case atStart => exact ⟨0, Nat.zero_le _, rfl, H2, HO2⟩
      case round =>
        obtain ⟨k, hk, rfl, hR, hO⟩ := hrel
        have c0 := hR.out.c0
        have c1 := hR.out.c1
        by_cases hlt : k < M
        · have q1 : (k : Int) < (M : Int) := by omega
          have hlen := firstN_len k (altB (M : Int) L (s' : Int) (f' : Int) (d' : Int))
          by_cases hkf : (k : Int) = (f' : Int)
          · have z1 : ((k : Int) != (f' : Int)) = false := by rw [hkf]; simp
            have HF := Lib.hid (firstN_no (i := k) (p := altB (M : Int) L (s' : Int) (f' : Int) (d' : Int)) (by unfold altB; rw [hkf]; simp))
            clear hkf
            go_wp2_with fail
            go_roundw
            case rel => exact ⟨k + 1, by omega, by go_num, hR, by rw [HF.out]; exact hO⟩
            case measure => simp [intOf]; omega
          · have z1 : ((k : Int) != (f' : Int)) = true := by simp [bne, beq_eq_false_iff_ne.2 hkf]
            have HLV : Hid (loopV (M : Int) L (s' : Int) (k : Int) (d' : Int) = altB (M : Int) L (s' : Int) (f' : Int) (d' : Int) (k : Int)) := by
              show loopV _ _ _ _ _ = _
              unfold loopV altB
              rw [beq_eq_false_iff_ne.2 hkf, g10_of HK.out HPR.out (fun y hy => by simp at hy; rcases hy with rfl | rfl | rfl <;> omega)]
              rfl
            clear hkf
            go_wp2_with fail
            go_at_call 46
            refine (slf_any (M : Int) lo hi n _ L (s' : Int) (k : Int) (d' : Int) _ hL hR.out.row hR.out.hi).mono ?_
            rw [HLV.out]
            rintro e v3 ⟨rfl, b3⟩
            have H3 := Lib.hid (hR.out.grow b3)
            have HO3 := Lib.hid (hO.out.grow b3)
            clear b3 hR hO c0 c1
            by_cases hp : altB (M : Int) L (s' : Int) (f' : Int) (d' : Int) (k : Int) = true
            · have HF := Lib.hid (firstN_yes (i := k) hp)
              rw [hp]
              clear hp
              obtain ⟨ra, rc, hra⟩ := own_slice HO3.out.row
              subst hra
              have hsb := HO3.out.below.size
              go_wp2_with (at_builtin; refine wpList_append_lies _ rfl _ _ 38 rfl w0.heap.size 3 i3 (.int .i64 0) 1 8 Tryz.underlying38 I.out.1 I.out.2.1 I.out.2.2.1 I.out.2.2.2 rfl (by decide) _ (firstN k (altB (M : Int) L (s' : Int) (f' : Int) (d' : Int))).length (ints (firstN k (altB (M : Int) L (s' : Int) (f' : Int) (d' : Int)))) rfl (HO3.out.row.alloc _) ⟨v3.heap.size, 0, none⟩ 1 1 [.int .i64 (k : Int)] rfl rfl ?d0 (int_one _) (by decide) ?d1 ?d2 ?d3 _ rfl ?_)
              case d0 => exact fun j u hj => cell_one_new v3 (.int .i64 (k : Int)) 3 rfl j u hj
              case d1 => unfold maxLen; omega
              case d2 => omega
              case d3 => simp; omega
              intro g4 cap4 w4 hown4 hgrow4 hat4 hlt4
              have hO3 := HO3.out.grow ((Below.refl _ _).alloc (Nat.le_refl _) (.cells #[.int .i64 (k : Int)] 3))
              have hO4 := Lib.hid (hO3.app hgrow4 hown4)
              have H4 : Hid (Gx w w4 (M : Int) ad n cp lo hi L) := by
                refine (H3.out.grow ((Below.refl _ _).alloc (Nat.le_refl _) (.cells #[.int .i64 (k : Int)] 3))).grownBy hgrow4 (fun g hg => ?_)
                have := (HO3.out.row.lt g hg).1
                rw [HW0.out] at this
                omega
              clear hown4 hgrow4 hat4 hlt4 hO3 HO3 H3
              go_wp2_with fail
              go_roundw
              case rel => exact ⟨k + 1, by omega, by go_num, H4, by rw [HF.out, List.length_append]; exact hO4⟩
              case measure => simp [intOf]; omega
            · rw [Bool.not_eq_true] at hp
              have HF := Lib.hid (firstN_no (i := k) hp)
              rw [hp]
              clear hp
              go_wp2_with fail
              go_roundw
              case rel => exact ⟨k + 1, by omega, by go_num, H3, by rw [HF.out]; exact HO3⟩
              case measure => simp [intOf]; omega
        · have hge : ¬ ((k : Int) < (M : Int)) := by omega
          obtain rfl : k = M := by omega
          have hlen := firstN_len k (altB (k : Int) L (s' : Int) (f' : Int) (d' : Int))
          have HV : Hid (altL (k : Int) L (s' : Int) (f' : Int) (d' : Int) = firstN k (altB (k : Int) L (s' : Int) (f' : Int) (d' : Int))) := by show altL _ _ _ _ _ = _; unfold altL; rw [HRP.out, if_pos rfl, firstN_nodes]
          go_wp2_with fail
          go_ret
          exact ⟨_, rfl, by rw [HV.out]; exact (hO.out.toRow (by omega)).wide (by rw [HW0.out]; omega) (Nat.le_refl _), hR.out.below⟩
    · rw [Bool.not_eq_true] at hnr
      have HV : Hid (altL N L s f d = []) := by show altL _ _ _ _ _ = []; unfold altL repB; rw [hnr, Bool.and_false, if_neg (by decide)]
      rw [hnr]
      clear hnr
      go_wp2
      go_ret
      exact ⟨_, rfl, by rw [HV.out]; exact Row.empty _ _ _ _ _ _, H2.out.below⟩
  · rw [Bool.not_eq_true] at hg
    have HV : Hid (altL N L s f d = []) := by show altL _ _ _ _ _ = []; unfold altL repB; rw [hg, Bool.false_and, if_neg (by decide)]
    rw [hg]
    clear hg
    go_wp2
    go_ret
    exact ⟨_, rfl, by rw [HV.out]; exact Row.empty _ _ _ _ _ _, H1.out.below⟩

set_option maxRecDepth 100000 in
set_option maxHeartbeats 4000000 in
theorem sbest_any (N : Int) (lo hi n : Nat) (v : Value) (L : List Ed) (s f d : Int) (w : World) (hL : L.length = n) (hr : Row 3 w lo hi v n (flat L)) (hh : hi ≤ w.heap.size) :
    Calls Tryz.prog 32 #[.agg #[.int .i64 N, v], .int .i64 s, .int .i64 f, .int .i64 d] w fun e w' => e = .returned (.int .i64 (bstL N L s f d)) ∧ Below w.heap.size w w' := by
  obtain ⟨ad, cp, rfl⟩ := hr.slice
  have HG := Lib.hid (Gx.start (N := N) hr hh)
  clear hr
  go_enter Tryz.func32, Tryz.ntmps32
  go_wp2_with fail
  go_at_call 17
  refine (salt_any N lo hi n _ L s f d _ hL HG.out.row HG.out.hi).mono ?_
  rintro e v1 ⟨rv, rfl, hrow, b1⟩
  have H1 := Lib.hid (HG.out.grow b1)
  clear b1
  have HBV : Hid (bstL N L s f d = (pickS (fun n => cst L s n + dsT N L n d) (altL N L s f d) (-1, 0)).1) := by show _ = _; rfl
  have HMEM : Hid (∀ x ∈ altL N L s f d, ∃ M s' x' d' : Nat, N = (M : Int) ∧ s = (s' : Int) ∧ x = (x' : Int) ∧ d = (d' : Int) ∧ gok (M : Int) L = true ∧ s' < M ∧ x' < M ∧ d' < M ∧ s ≠ x) := fun x hx => by
    unfold altL at hx
    split at hx
    · rename_i hrep
      obtain ⟨hG, hp, hs1, hf1, hd1, hc⟩ := repB_parts hrep
      have hm := nodesL_mem.1 hx
      refine ⟨N.toNat, s.toNat, x.toNat, d.toNat, by omega, by omega, by omega, by omega, by rw [show ((N.toNat : Nat) : Int) = N by omega]; exact hG, by omega, by omega, by omega, fun e => ?_⟩
      have h2 := hm.2
      unfold altB at h2
      rw [Bool.and_eq_true] at h2
      exact ((nearB_iff hG).1 ((lfB_iff hG hs1 hm.1).1 h2.2).2.1).1 e
    · cases hx
  have hlen : (altL N L s f d).length ≤ 10 := by
    by_cases hrep : repB N L s f d = true
    · have hN := gok_parts (repB_parts hrep).1
      unfold altL
      rw [if_pos hrep]
      obtain ⟨M, rfl⟩ : ∃ M : Nat, N = (M : Int) := ⟨N.toNat, by omega⟩
      rw [firstN_nodes]
      exact Nat.le_trans (firstN_len _ _) (by omega)
    · unfold altL
      rw [if_neg hrep]
      simp
  generalize altL N L s f d = Z at *
  obtain ⟨az, cz, rfl, hzn, hzc⟩ := hrow.opened
  have HZC := Lib.hid hzc
  obtain ⟨m, hm⟩ : ∃ m, m = Z.length := ⟨_, rfl⟩
  have HZL := Lib.hid hm
  rw [← hm] at hlen HZC ⊢
  clear hrow hzn hzc hm
  go_wp2_with fail
  go_loopw [10, 11, 12] (fun b c i wr => ∃ (k : Nat) (bb cc : Int), k ≤ m ∧ i = .int .i64 (k : Int) ∧ b = .int .i64 bb ∧ c = .int .i64 cc ∧ Hid (Gx w wr N ad n cp lo hi L) ∧ Hid (Below v1.heap.size v1 wr) ∧ Hid (pickS (fun n => cst L s n + dsT N L n d) (Z.take k) (-1, 0) = (bb, cc))) (fun _ _ i _ => m - (intOf i).toNat)
  case atStart => exact ⟨0, -1, 0, Nat.zero_le _, rfl, rfl, rfl, H1, Below.refl _ _, rfl⟩
  case round =>
    obtain ⟨k, bb, cc, hk, rfl, rfl, rfl, hR, HB1, HP⟩ := hrel
    have c0 := hR.out.c0
    have c1 := hR.out.c1
    by_cases hlt : k < m
    · obtain ⟨gz, rfl, hgz, hcell⟩ := HZC.out (by omega)
      obtain ⟨x, hxk⟩ : ∃ x, Z[k]? = some x := ⟨Z[k]'(by rw [← HZL.out]; exact hlt), List.getElem?_eq_getElem _⟩
      have hgr : gz < wr.heap.size := by have := HB1.out.size; omega
      have y0 : wr.cell? ⟨gz, k, none⟩ = some (.int .i64 x) := by rw [HB1.out.cell (p := ⟨gz, k, none⟩) (by show gz < _; omega)]; exact hcell _ _ hxk
      have q0 : (0 : Int) ≤ (k : Int) := by omega
      have q1 : (k : Int) < (m : Int) := by omega
      have HT : Hid (Z.take (k + 1) = Z.take k ++ [x]) := by show _ = _; rw [List.take_add_one, hxk]; rfl
      have hE : (∀ w lo hi n v, L.length = n → Row 3 w lo hi v n (flat L) → hi ≤ w.heap.size → Calls Tryz.prog 62 #[.agg #[.int .i64 N, v], .int .i64 s, .int .i64 x] w fun e w' => e = .returned (.int .i64 (cst L s x)) ∧ Below w.heap.size w w') ∧ (∀ w lo hi n v, L.length = n → Row 3 w lo hi v n (flat L) → hi ≤ w.heap.size → Calls Tryz.prog 55 #[.agg #[.int .i64 N, v], .int .i64 x, .int .i64 d] w fun e w' => e = .returned (.int .i64 (dsT N L x d)) ∧ Below w.heap.size w w') ∧ (1 ≤ cst L s x ∧ cst L s x ≤ 1000000) ∧ (0 ≤ dsT N L x d ∧ dsT N L x d ≤ 1000000) := by
        obtain ⟨M, s', x', d', rfl, rfl, rfl, rfl, hG, hsM, hxM, hdM, hne⟩ := HMEM.out x (List.mem_of_getElem? hxk)
        exact ⟨fun w lo hi n v hL hr hh => by rw [← scost_cst hG hne]; exact scost_any (M : Int) lo hi n v L _ _ w hG hL hr hh, fun w lo hi n v hL hr hh => sdst_any M lo hi n v L x' d' w hG hL hr hh hxM hdM, cst_bound hG _ _, dsT_in hG hxM _⟩
      obtain ⟨h1, h2, g1, g2⟩ := hE
      have E1 := Lib.hid h1
      have E2 := Lib.hid h2
      obtain ⟨p1, hp1⟩ : ∃ q, q = cst L s x := ⟨_, rfl⟩
      obtain ⟨p2, hp2⟩ : ∃ q, q = dsT N L x d := ⟨_, rfl⟩
      rw [← hp1] at g1 E1
      rw [← hp2] at g2 E2
      have u1 : IntKind.i64.wrap (p1 + p2) = p1 + p2 := by rw [IntKind.wrap_i64]; omega
      have HE1 := Lib.hid hp1
      have HE2 := Lib.hid hp2
      clear h1 h2 hcell hxk hp1 hp2 g1 g2 HMEM
      go_wp2_with fail
      refine wp_region_held_drew (S := (fun w' => w'.cell? ⟨w.heap.size, 0, none⟩ = some (.int .i64 N) ∧ w'.cell? ⟨w.heap.size, 1, none⟩ = some (.slice ad n cp) ∧ w'.cell? ⟨gz, k, none⟩ = some (.int .i64 x) ∧ Hid (Gx w w' N ad n cp lo hi L) ∧ Hid (Below wr.heap.size wr w'))) (by kernel_rfl) ?_ (fun hHeld => ?_)
      · exact ⟨c0, c1, y0, Lib.hid hR.out.drew, Lib.hid ((Below.refl _ _).drew)⟩
      refine step_read 0 25 rfl rfl (by kernel_rfl) (by kernel_rfl) (by kernel_rfl) (fun _ _ _ h => h) (by rfl) (v := ?_) (fun w hSw => ?_) (by assumption) ?_; rotate_left; (focus ((try dsimp only at hSw); go_simp; first | done | exact rfl)); simp only [List.set]
      refine step_read 1 26 rfl rfl (by kernel_rfl) (by kernel_rfl) (by kernel_rfl) (fun _ _ _ h => h) (by rfl) (v := ?_) (fun w hSw => ?_) (by assumption) ?_; rotate_left; (focus ((try dsimp only at hSw); go_simp; first | done | exact rfl)); simp only [List.set]
      refine step_read 2 27 rfl rfl (by kernel_rfl) (by kernel_rfl) (by kernel_rfl) (fun _ _ _ h => h) (by rfl) (v := ?_) (fun w hSw => ?_) (by assumption) ?_; rotate_left; (focus ((try dsimp only at hSw); go_simp; first | done | exact rfl)); simp only [List.set]
      refine step_read 3 28 rfl rfl (by kernel_rfl) (by kernel_rfl) (by kernel_rfl) (fun _ _ _ h => h) (by rfl) (v := ?_) (fun w hSw => ?_) (by assumption) ?_; rotate_left; (focus ((try dsimp only at hSw); go_simp; first | done | exact rfl)); simp only [List.set]
      refine step_read 4 29 rfl rfl (by kernel_rfl) (by kernel_rfl) (by kernel_rfl) (fun _ _ _ h => h) (by rfl) (v := ?_) (fun w hSw => ?_) (by assumption) ?_; rotate_left; (focus ((try dsimp only at hSw); go_simp; first | done | exact rfl)); simp only [List.set]
      refine step_read 5 30 rfl rfl (by kernel_rfl) (by kernel_rfl) (by kernel_rfl) (fun _ _ _ h => h) (by rfl) (v := ?_) (fun w hSw => ?_) (by assumption) ?_; rotate_left; (focus ((try dsimp only at hSw); go_simp; first | done | exact rfl)); simp only [List.set]
      refine step_read 7 32 rfl rfl (by kernel_rfl) (by kernel_rfl) (by kernel_rfl) (fun _ _ _ h => h) (by rfl) (v := ?_) (fun w hSw => ?_) (by assumption) ?_; rotate_left; (focus ((try dsimp only at hSw); go_simp; first | done | exact rfl)); simp only [List.set]
      refine step_read 8 33 rfl rfl (by kernel_rfl) (by kernel_rfl) (by kernel_rfl) (fun _ _ _ h => h) (by rfl) (v := ?_) (fun w hSw => ?_) (by assumption) ?_; rotate_left; (focus ((try dsimp only at hSw); go_simp; first | done | exact rfl)); simp only [List.set]
      refine step_read 9 34 rfl rfl (by kernel_rfl) (by kernel_rfl) (by kernel_rfl) (fun _ _ _ h => h) (by rfl) (v := ?_) (fun w hSw => ?_) (by assumption) ?_; rotate_left; (focus ((try dsimp only at hSw); go_simp; first | done | exact rfl)); simp only [List.set]
      refine step_read 10 35 rfl rfl (by kernel_rfl) (by kernel_rfl) (by kernel_rfl) (fun _ _ _ h => h) (by rfl) (v := ?_) (fun w hSw => ?_) (by assumption) ?_; rotate_left; (focus ((try dsimp only at hSw); go_simp; first | done | exact rfl)); simp only [List.set]
      refine step_read 11 36 rfl rfl (by kernel_rfl) (by kernel_rfl) (by kernel_rfl) (fun _ _ _ h => h) (by rfl) (v := ?_) (fun w hSw => ?_) (by assumption) ?_; rotate_left; (focus ((try dsimp only at hSw); go_simp; first | done | exact rfl)); simp only [List.set]
      refine step_read 12 37 rfl rfl (by kernel_rfl) (by kernel_rfl) (by kernel_rfl) (fun _ _ _ h => h) (by rfl) (v := ?_) (fun w hSw => ?_) (by assumption) ?_; rotate_left; (focus ((try dsimp only at hSw); go_simp; first | done | exact rfl)); simp only [List.set]
      refine wpAnyH_ready (rs := [6]) (by kernel_rfl) (by simp) ?_
      refine AllReadyH.cons rfl (fun Kc hK => ?_) (AllReadyH.nil)
      go_simp
      go_at_call 62
      refine (E1.out _ lo hi n _ hL hHeld.2.2.2.1.out.row hHeld.2.2.2.1.out.hi).mono ?_
      rintro e w31 ⟨rfl, b31⟩
      have Hh31 := Lib.hid hHeld
      have B31 := Lib.hid b31
      clear hHeld b31
      refine hK.out _ _ ?_ (fun hHeld => ?_)
      · exact ⟨by rw [B31.out.cell (p := ⟨w.heap.size, 0, none⟩) Hh31.out.2.2.2.1.out.lt]; exact Hh31.out.1, by rw [B31.out.cell (p := ⟨w.heap.size, 1, none⟩) Hh31.out.2.2.2.1.out.lt]; exact Hh31.out.2.1, by rw [B31.out.cell (p := ⟨gz, k, none⟩) (by have := Hh31.out.2.2.2.2.out.size; show gz < _; exact Nat.lt_of_lt_of_le hgr this)]; exact Hh31.out.2.2.1, Hh31.out.2.2.2.1.out.grow B31.out, Hh31.out.2.2.2.2.out.trans (B31.out.mono Hh31.out.2.2.2.2.out.size)⟩
      clear hK Kc
      refine wpAnyH_ready (rs := [13]) (by kernel_rfl) (by simp) ?_
      refine AllReadyH.cons rfl (fun Kc hK => ?_) (AllReadyH.nil)
      go_simp
      go_at_call 55
      refine (E2.out _ lo hi n _ hL hHeld.2.2.2.1.out.row hHeld.2.2.2.1.out.hi).mono ?_
      rintro e w38 ⟨rfl, b38⟩
      have Hh38 := Lib.hid hHeld
      have B38 := Lib.hid b38
      clear hHeld b38
      refine hK.out _ _ ?_ (fun hHeld => ?_)
      · exact ⟨by rw [B38.out.cell (p := ⟨w.heap.size, 0, none⟩) Hh38.out.2.2.2.1.out.lt]; exact Hh38.out.1, by rw [B38.out.cell (p := ⟨w.heap.size, 1, none⟩) Hh38.out.2.2.2.1.out.lt]; exact Hh38.out.2.1, by rw [B38.out.cell (p := ⟨gz, k, none⟩) (by have := Hh38.out.2.2.2.2.out.size; show gz < _; exact Nat.lt_of_lt_of_le hgr this)]; exact Hh38.out.2.2.1, Hh38.out.2.2.2.1.out.grow B38.out, Hh38.out.2.2.2.2.out.trans (B38.out.mono Hh38.out.2.2.2.2.out.size)⟩
      clear hK Kc
      refine step_read 14 39 rfl rfl (by kernel_rfl) (by kernel_rfl) (by kernel_rfl) (fun _ _ _ h => h) (by rfl) (v := ?_) (fun w hSw => ?_) (by assumption) ?_; rotate_left; (focus ((try dsimp only at hSw); go_simp; first | done | exact rfl)); simp only [List.set]
      refine step_read 15 13 rfl rfl (by kernel_rfl) (by kernel_rfl) (by kernel_rfl) (fun _ _ _ h => h) (by rfl) (v := ?_) (fun w hSw => ?_) (by assumption) ?_; rotate_left; (focus ((try dsimp only at hSw); go_simp; first | done | exact rfl)); simp only [List.set]
      refine wpAnyH_done (by kernel_rfl) ?_ _
      have y9 := hHeld.2.2.1
      have H3 := Lib.hid hHeld.2.2.2
      clear hHeld
      by_cases a1 : bb < 0
      · have z1 : decide (bb < 0) = true := decide_eq_true a1
        have HN : Hid (pickS (fun n => cst L s n + dsT N L n d) (Z.take (k + 1)) (-1, 0) = (x, p1 + p2)) := by show _ = _; rw [HT.out, pickS_snoc, HP.out, if_pos (.inl a1)]; show (x, _) = _; rw [HE1.out, HE2.out]
        clear a1
        go_wp2_with fail
        go_roundw
        case rel => exact ⟨k + 1, x, p1 + p2, by omega, by go_num, rfl, rfl, H3.out.1, HB1.out.trans (H3.out.2.out.mono HB1.out.size), HN⟩
        case measure => simp [intOf]; omega
      · have z1 : decide (bb < 0) = false := decide_eq_false a1
        by_cases a2 : p1 + p2 < cc
        · have z2 : decide (p1 + p2 < cc) = true := decide_eq_true a2
          have HN : Hid (pickS (fun n => cst L s n + dsT N L n d) (Z.take (k + 1)) (-1, 0) = (x, p1 + p2)) := by show _ = _; rw [HT.out, pickS_snoc, HP.out, if_pos (.inr (by show cst L s x + dsT N L x d < cc; rw [← HE1.out, ← HE2.out]; exact a2))]; show (x, _) = _; rw [HE1.out, HE2.out]
          clear a1 a2
          go_wp2_with fail
          go_roundw
          case rel => exact ⟨k + 1, x, p1 + p2, by omega, by go_num, rfl, rfl, H3.out.1, HB1.out.trans (H3.out.2.out.mono HB1.out.size), HN⟩
          case measure => simp [intOf]; omega
        · have z2 : decide (p1 + p2 < cc) = false := decide_eq_false a2
          have HN : Hid (pickS (fun n => cst L s n + dsT N L n d) (Z.take (k + 1)) (-1, 0) = (bb, cc)) := by show _ = _; rw [HT.out, pickS_snoc, HP.out, if_neg (fun h => h.elim a1 (fun h => a2 (by rw [HE1.out, HE2.out]; exact h)))]
          clear a1 a2
          go_wp2_with fail
          go_roundw
          case rel => exact ⟨k + 1, bb, cc, by omega, by go_num, rfl, rfl, H3.out.1, HB1.out.trans (H3.out.2.out.mono HB1.out.size), HN⟩
          case measure => simp [intOf]; omega
    · have hge : ¬ ((k : Int) < (m : Int)) := by omega
      obtain rfl : k = m := by omega
      have HV : Hid ((pickS (fun n => cst L s n + dsT N L n d) Z (-1, 0)).1 = bb) := by
        show _ = _
        have e : Z.take k = Z := List.take_of_length_le (by rw [← HZL.out]; exact Nat.le_refl _)
        have h := HP.out
        rw [e] at h
        rw [h]
      go_wp2_with fail
      go_ret
      exact ⟨by rw [HBV.out, HV.out]; rfl, hR.out.below⟩

end Go.Proofs.YtnpdbieadjgghaaGreat
