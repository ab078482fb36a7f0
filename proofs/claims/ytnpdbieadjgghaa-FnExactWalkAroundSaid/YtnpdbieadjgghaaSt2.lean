/- Alternates of the model. -/
import Derived.Test.YtnpdbieadjgghaaGd
import Derived.Test.YtnpdbieadjgghaaOi
namespace Go.Proofs.Ytnpdbieadjgghaa
open Go.RowKit

set_option maxRecDepth 100000 in
set_option maxHeartbeats 4000000 in
theorem slf_any (N : Int) (lo hi n : Nat) (v : Value) (L : List Ed) (s f d : Int) (w : World) (hL : L.length = n) (hr : Row 3 w lo hi v n (flat L)) (hh : hi ≤ w.heap.size) :
    Calls Try.prog 13 #[.agg #[.int .i64 N, v], .int .i64 s, .int .i64 f, .int .i64 d] w fun e w' => e = .returned (.bool (loopV N L s f d)) ∧ Below w.heap.size w w' := by
  obtain ⟨ad, cp, rfl⟩ := hr.slice
  have HG := Lib.hid (Gx.start (N := N) hr hh)
  have HX0 : Hid (Row 1 ((w.alloc (.cells #[.int .i64 N, .slice ad n cp] 29)).alloc (.cells #[.int .i64 s, .int .i64 f, .int .i64 d] 3)) (w.heap.size + 1) (w.heap.size + 1 + 1) (.slice (some ⟨w.heap.size + 1, 0, none⟩) 3 3) 3 [s, f, d]) := by
    refine ⟨rfl, .inr ⟨_, 3, rfl, Nat.le_refl _, by omega, by omega, fun q z hz => ?_, fun o => by simp [go_sem]⟩⟩
    rcases q with _ | _ | _ | q
    · simp at hz; subst hz; simp [go_sem]
    · simp at hz; subst hz; simp [go_sem]
    · simp at hz; subst hz; simp [go_sem]
    · simp at hz
  have HGX := Lib.hid (HG.out.grow ((Below.refl _ _).alloc (Nat.le_refl _) (.cells #[.int .i64 s, .int .i64 f, .int .i64 d] 3)))
  clear hr
  go_enter Try.func13, Try.ntmps13
  go_wp2_with fail
  go_at_call 52
  refine (sgood_any N lo hi n _ L _ _ 3 _ [s, f, d] _ hL HGX.out.row HGX.out.hi HX0.out (by simp) (by omega)).mono ?_
  rintro e v1 ⟨rfl, b1⟩
  have H1 := Lib.hid (HGX.out.grow b1)
  have c10 := H1.out.c0
  have c11 := H1.out.c1
  clear b1 HX0 HGX
  by_cases hg : g10 N L [s, f, d] = true
  · have HK := Lib.hid (g10_gok hg)
    have HND := Lib.hid (g10_nodes hg)
    have HGG := Lib.hid hg
    rw [hg]
    clear hg
    by_cases hsd : s = d
    · have z1 : (s == d) = true := by rw [hsd]; simp
      have HV : Hid (loopV N L s f d = false) := by
        show loopV _ _ _ _ _ = false
        unfold loopV
        rw [HGG.out, Bool.true_and, Bool.eq_false_iff]
        intro h
        have h1 := HND.out s (by simp)
        have h2 := HND.out f (by simp)
        exact ((lfB_iff HK.out h1 h2).1 h).1 hsd
      clear hsd
      go_wp2
      go_ret
      exact ⟨by rw [HV.out]; rfl, H1.out.below⟩
    · have z1 : (s == d) = false := beq_eq_false_iff_ne.2 hsd
      have HSD := Lib.hid hsd
      clear hsd
      go_wp2_with fail
      go_at_call 53
      refine (snear_any N lo hi n _ L s f _ HK.out hL H1.out.row H1.out.hi).mono ?_
      rintro e v2 ⟨rfl, b2⟩
      have H2 := Lib.hid (H1.out.grow b2)
      have c20 := H2.out.c0
      have c21 := H2.out.c1
      clear b2 c10 c11
      by_cases hnr : nearB L s f = true
      · have HNR := Lib.hid hnr
        rw [hnr]
        clear hnr
        obtain ⟨M, rfl⟩ : ∃ M : Nat, N = (M : Int) := ⟨N.toNat, by have := (gok_parts HK.out).1; omega⟩
        obtain ⟨s', rfl⟩ : ∃ q : Nat, s = (q : Int) := ⟨s.toNat, by have := HND.out s (by simp); omega⟩
        obtain ⟨f', rfl⟩ : ∃ q : Nat, f = (q : Int) := ⟨f.toNat, by have := HND.out f (by simp); omega⟩
        obtain ⟨d', rfl⟩ : ∃ q : Nat, d = (q : Int) := ⟨d.toNat, by have := HND.out d (by simp); omega⟩
        have hsM : s' < M := by have := HND.out (s' : Int) (by simp); omega
        have hfM : f' < M := by have := HND.out (f' : Int) (by simp); omega
        have hdM : d' < M := by have := HND.out (d' : Int) (by simp); omega
        go_wp2_with fail
        go_at_call 54
        refine (sdst_any M lo hi n _ L f' d' _ HK.out hL H2.out.row H2.out.hi hfM hdM).mono ?_
        rintro e v3 ⟨rfl, b3⟩
        have H3 := Lib.hid (H2.out.grow b3)
        have c30 := H3.out.c0
        have c31 := H3.out.c1
        clear b3 c20 c21
        go_wp2_with fail
        go_at_call 54
        refine (sdst_any M lo hi n _ L f' s' _ HK.out hL H3.out.row H3.out.hi hfM hsM).mono ?_
        rintro e v4 ⟨rfl, b4⟩
        have H4 := Lib.hid (H3.out.grow b4)
        have c40 := H4.out.c0
        have c41 := H4.out.c1
        clear b4 c30 c31
        go_wp2_with fail
        go_at_call 54
        refine (sdst_any M lo hi n _ L s' d' _ HK.out hL H4.out.row H4.out.hi hsM hdM).mono ?_
        rintro e v5 ⟨rfl, b5⟩
        have H5 := Lib.hid (H4.out.grow b5)
        have c50 := H5.out.c0
        have c51 := H5.out.c1
        clear b5 c40 c41
        have g1 := dsT_in HK.out hfM (d' : Int)
        have g2 := dsT_in HK.out hfM (s' : Int)
        have g3 := dsT_in HK.out hsM (d' : Int)
        have HV : Hid (loopV (M : Int) L (s' : Int) (f' : Int) (d' : Int) = (decide (dsT (M : Int) L (f' : Int) (d' : Int) < 1000000) && (decide (dsT (M : Int) L (f' : Int) (s' : Int) < 1000000) && (decide (dsT (M : Int) L (s' : Int) (d' : Int) < 1000000) && decide (dsT (M : Int) L (f' : Int) (d' : Int) < dsT (M : Int) L (f' : Int) (s' : Int) + dsT (M : Int) L (s' : Int) (d' : Int)))))) := by
          show loopV _ _ _ _ _ = _
          unfold loopV
          rw [HGG.out, Bool.true_and, Bool.eq_iff_iff, lfB_iff HK.out (HND.out _ (by simp)) (HND.out _ (by simp)), far_val]
          simp only [Bool.and_eq_true, decide_eq_true_iff]
          exact ⟨fun h => h.2.2, fun h => ⟨HSD.out, HNR.out, h⟩⟩
        generalize dsT (M : Int) L (f' : Int) (d' : Int) = q1 at *
        generalize dsT (M : Int) L (f' : Int) (s' : Int) = q2 at *
        generalize dsT (M : Int) L (s' : Int) (d' : Int) = q3 at *
        have wr : wrap64 (q2 + q3) = q2 + q3 := by unfold wrap64; omega
        clear g1 g2 g3
        by_cases a1 : q1 < 1000000
        · have z2 : decide (q1 < 1000000) = true := decide_eq_true a1
          by_cases a2 : q2 < 1000000
          · have z3 : decide (q2 < 1000000) = true := decide_eq_true a2
            by_cases a3 : q3 < 1000000
            · have z4 : decide (q3 < 1000000) = true := decide_eq_true a3
              clear a1 a2 a3
              go_wp2
              go_ret
              exact ⟨by rw [HV.out, z2, z3, z4]; rfl, H5.out.below⟩
            · have z4 : decide (q3 < 1000000) = false := decide_eq_false a3
              clear a1 a2 a3
              go_wp2
              go_ret
              exact ⟨by rw [HV.out, z2, z3, z4]; rfl, H5.out.below⟩
          · have z3 : decide (q2 < 1000000) = false := decide_eq_false a2
            clear a1 a2
            go_wp2
            go_ret
            exact ⟨by rw [HV.out, z2, z3]; rfl, H5.out.below⟩
        · have z2 : decide (q1 < 1000000) = false := decide_eq_false a1
          clear a1
          go_wp2
          go_ret
          exact ⟨by rw [HV.out, z2]; rfl, H5.out.below⟩
      · rw [Bool.not_eq_true] at hnr
        have HV : Hid (loopV N L s f d = false) := by show loopV _ _ _ _ _ = false; unfold loopV lfB; rw [hnr]; simp
        rw [hnr]
        clear hnr
        go_wp2
        go_ret
        exact ⟨by rw [HV.out]; rfl, H2.out.below⟩
  · rw [Bool.not_eq_true] at hg
    have HV : Hid (loopV N L s f d = false) := by show loopV _ _ _ _ _ = false; unfold loopV; rw [hg, Bool.false_and]
    rw [hg]
    clear hg
    go_wp2
    go_ret
    exact ⟨by rw [HV.out]; rfl, H1.out.below⟩

set_option maxRecDepth 100000 in
set_option maxHeartbeats 4000000 in
theorem salt_any (N : Int) (lo hi n : Nat) (v : Value) (L : List Ed) (s f d : Int) (w : World) (hL : L.length = n) (hr : Row 3 w lo hi v n (flat L)) (hh : hi ≤ w.heap.size) :
    Calls Try.prog 17 #[.agg #[.int .i64 N, v], .int .i64 s, .int .i64 f, .int .i64 d] w (LjPost (altL N L s f d) w) := by
  obtain ⟨ad, cp, rfl⟩ := hr.slice
  have HG := Lib.hid (Gx.start (N := N) hr hh)
  have HG1 := Lib.hid (HG.out.grow ((Below.refl _ _).alloc (Nat.le_refl _) (.cells #[] 3)))
  obtain ⟨i3, hi3, hz0, hz1, hz2⟩ := info_parts Try.info3
  have I := Lib.hid (And.intro hi3 (And.intro hz0 (And.intro hz1 hz2)))
  clear hi3 hz0 hz1 hz2
  have HX0 : Hid (Row 1 (((w.alloc (.cells #[.int .i64 N, .slice ad n cp] 29)).alloc (.cells #[] 3)).alloc (.cells #[.int .i64 s, .int .i64 f, .int .i64 d] 3)) (w.heap.size + 1 + 1) (w.heap.size + 1 + 1 + 1) (.slice (some ⟨w.heap.size + 1 + 1, 0, none⟩) 3 3) 3 [s, f, d]) := by
    refine ⟨rfl, .inr ⟨_, 3, rfl, Nat.le_refl _, by omega, by omega, fun q z hz => ?_, fun o => by simp [go_sem]⟩⟩
    rcases q with _ | _ | _ | q
    · simp at hz; subst hz; simp [go_sem]
    · simp at hz; subst hz; simp [go_sem]
    · simp at hz; subst hz; simp [go_sem]
    · simp at hz
  have HGX := Lib.hid (HG1.out.grow ((Below.refl _ _).alloc (Nat.le_refl _) (.cells #[.int .i64 s, .int .i64 f, .int .i64 d] 3)))
  clear hr
  go_enter Try.func17, Try.ntmps17
  go_wp2_with fail
  go_at_call 52
  refine (sgood_any N lo hi n _ L _ _ 3 _ [s, f, d] _ hL HGX.out.row HGX.out.hi HX0.out (by simp) (by omega)).mono ?_
  rintro e v1 ⟨rfl, b1⟩
  have H1 := Lib.hid (HGX.out.grow b1)
  have c10 := H1.out.c0
  have c11 := H1.out.c1
  have HOW : Hid (OwnI (w.alloc (.cells #[.int .i64 N, .slice ad n cp] 29)) v1 (.slice (some ⟨w.heap.size + 1, 0, none⟩) 0 0) 0 []) := by
    have h := OwnI.lit0 (w.alloc (.cells #[.int .i64 N, .slice ad n cp] 29))
    simp only [World.size_alloc] at h
    exact (h.grow ((Below.refl _ _).alloc (Nat.le_refl _) (.cells #[.int .i64 s, .int .i64 f, .int .i64 d] 3))).grow b1
  clear b1 HX0 HGX
  by_cases hg : g10 N L [s, f, d] = true
  · have HK := Lib.hid (g10_gok hg)
    have HPR := Lib.hid (g10_pair hg)
    have HND := Lib.hid (g10_nodes hg)
    have HGG := Lib.hid hg
    rw [hg]
    clear hg
    go_wp2_with fail
    go_at_call 53
    refine (snear_any N lo hi n _ L s f _ HK.out hL H1.out.row H1.out.hi).mono ?_
    rintro e v2 ⟨rfl, b2⟩
    have HO2 := Lib.hid (HOW.out.grow b2)
    clear HOW
    have H2 := Lib.hid (H1.out.grow b2)
    have c20 := H2.out.c0
    have c21 := H2.out.c1
    clear b2 c10 c11
    by_cases hnr : nearB L s f = true
    · have HRP : Hid (repB N L s f d = true) := by show repB _ _ _ _ _ = true; unfold repB; rw [HGG.out, hnr]; rfl
      rw [hnr]
      clear hnr
      obtain ⟨M, rfl⟩ : ∃ M : Nat, N = (M : Int) := ⟨N.toNat, by have := (gok_parts HK.out).1; omega⟩
      obtain ⟨s', rfl⟩ : ∃ q : Nat, s = (q : Int) := ⟨s.toNat, by have := HND.out s (by simp); omega⟩
      obtain ⟨f', rfl⟩ : ∃ q : Nat, f = (q : Int) := ⟨f.toNat, by have := HND.out f (by simp); omega⟩
      obtain ⟨d', rfl⟩ : ∃ q : Nat, d = (q : Int) := ⟨d.toNat, by have := HND.out d (by simp); omega⟩
      have hsM : s' < M := by have := HND.out (s' : Int) (by simp); omega
      have hfM : f' < M := by have := HND.out (f' : Int) (by simp); omega
      have hdM : d' < M := by have := HND.out (d' : Int) (by simp); omega
      have hM10 : M ≤ 10 := by have := (gok_parts HK.out).2.1; omega
      clear c20 c21
      have HS0 := H2.out.below.size
      have HW0 : Hid ((w.alloc (.cells #[.int .i64 (M : Int), .slice ad n cp] 29)).heap.size = w.heap.size + 1) := by show _ = _; simp
      have HB0 : Hid (Below w.heap.size w (w.alloc (.cells #[.int .i64 (M : Int), .slice ad n cp] 29))) := (Below.refl _ _).alloc (Nat.le_refl _) _
      generalize (w.alloc (.cells #[.int .i64 (M : Int), .slice ad n cp] 29)) = w0 at *
      go_wp2_with fail
      go_loopw [9, 10] (fun v i wr => ∃ k : Nat, k ≤ M ∧ i = .int .i64 (k : Int) ∧ Hid (Gx w wr (M : Int) ad n cp lo hi L) ∧ Hid (OwnI w0 wr v (firstN k (altB (M : Int) L (s' : Int) (f' : Int) (d' : Int))).length (firstN k (altB (M : Int) L (s' : Int) (f' : Int) (d' : Int))))) (fun _ i _ => M - (intOf i).toNat)
      case atStart => exact ⟨0, Nat.zero_le _, rfl, H2, HO2⟩
      case round =>
        obtain ⟨k, hk, rfl, hR, hO⟩ := hrel
        have c0 := hR.out.c0
        have c1 := hR.out.c1
        by_cases hlt : k < M
        · have q1 : (k : Int) < (M : Int) := by omega
          have hlen := firstN_len k (altB (M : Int) L (s' : Int) (f' : Int) (d' : Int))
          by_cases hkf : (k : Int) = (f' : Int)
          · have z1 : ((k : Int) != (f' : Int)) = false := by rw [hkf]; simp
            have HF := Lib.hid (firstN_no (i := k) (p := altB (M : Int) L (s' : Int) (f' : Int) (d' : Int)) (by unfold altB; rw [hkf]; simp))
            clear hkf
            go_wp2_with fail
            go_roundw
            case rel => exact ⟨k + 1, by omega, by go_num, hR, by rw [HF.out]; exact hO⟩
            case measure => simp [intOf]; omega
          · have z1 : ((k : Int) != (f' : Int)) = true := by simp [bne, beq_eq_false_iff_ne.2 hkf]
            have HLV : Hid (loopV (M : Int) L (s' : Int) (k : Int) (d' : Int) = altB (M : Int) L (s' : Int) (f' : Int) (d' : Int) (k : Int)) := by
              show loopV _ _ _ _ _ = _
              unfold loopV altB
              rw [beq_eq_false_iff_ne.2 hkf, g10_of HK.out HPR.out (fun y hy => by simp at hy; rcases hy with rfl | rfl | rfl <;> omega)]
              rfl
            clear hkf
            go_wp2_with fail
            go_at_call 13
            refine (slf_any (M : Int) lo hi n _ L (s' : Int) (k : Int) (d' : Int) _ hL hR.out.row hR.out.hi).mono ?_
            rw [HLV.out]
            rintro e v3 ⟨rfl, b3⟩
            have H3 := Lib.hid (hR.out.grow b3)
            have HO3 := Lib.hid (hO.out.grow b3)
            clear b3 hR hO c0 c1
            by_cases hp : altB (M : Int) L (s' : Int) (f' : Int) (d' : Int) (k : Int) = true
            · have HF := Lib.hid (firstN_yes (i := k) hp)
              rw [hp]
              clear hp
              obtain ⟨ra, rc, hra⟩ := own_slice HO3.out.row
              subst hra
              have hsb := HO3.out.below.size
              go_wp2_with (at_builtin; refine wpList_append_lies _ rfl _ _ 33 rfl w0.heap.size 3 i3 (.int .i64 0) 1 8 Try.underlying33 I.out.1 I.out.2.1 I.out.2.2.1 I.out.2.2.2 rfl (by decide) _ (firstN k (altB (M : Int) L (s' : Int) (f' : Int) (d' : Int))).length (ints (firstN k (altB (M : Int) L (s' : Int) (f' : Int) (d' : Int)))) rfl (HO3.out.row.alloc _) ⟨v3.heap.size, 0, none⟩ 1 1 [.int .i64 (k : Int)] rfl rfl ?d0 (int_one _) (by decide) ?d1 ?d2 ?d3 _ rfl ?_)
              case d0 => exact fun j u hj => cell_one_new v3 (.int .i64 (k : Int)) 3 rfl j u hj
              case d1 => unfold maxLen; omega
              case d2 => omega
              case d3 => simp; omega
              intro g4 cap4 w4 hown4 hgrow4 hat4 hlt4
              have hO3 := HO3.out.grow ((Below.refl _ _).alloc (Nat.le_refl _) (.cells #[.int .i64 (k : Int)] 3))
              have hO4 := Lib.hid (hO3.app hgrow4 hown4)
              have H4 : Hid (Gx w w4 (M : Int) ad n cp lo hi L) := by
                refine (H3.out.grow ((Below.refl _ _).alloc (Nat.le_refl _) (.cells #[.int .i64 (k : Int)] 3))).grownBy hgrow4 (fun g hg => ?_)
                have := (HO3.out.row.lt g hg).1
                rw [HW0.out] at this
                omega
              clear hown4 hgrow4 hat4 hlt4 hO3 HO3 H3
              go_wp2_with fail
              go_roundw
              case rel => exact ⟨k + 1, by omega, by go_num, H4, by rw [HF.out, List.length_append]; exact hO4⟩
              case measure => simp [intOf]; omega
            · rw [Bool.not_eq_true] at hp
              have HF := Lib.hid (firstN_no (i := k) hp)
              rw [hp]
              clear hp
              go_wp2_with fail
              go_roundw
              case rel => exact ⟨k + 1, by omega, by go_num, H3, by rw [HF.out]; exact HO3⟩
              case measure => simp [intOf]; omega
        · have hge : ¬ ((k : Int) < (M : Int)) := by omega
          obtain rfl : k = M := by omega
          have hlen := firstN_len k (altB (k : Int) L (s' : Int) (f' : Int) (d' : Int))
          have HV : Hid (altL (k : Int) L (s' : Int) (f' : Int) (d' : Int) = firstN k (altB (k : Int) L (s' : Int) (f' : Int) (d' : Int))) := by show altL _ _ _ _ _ = _; unfold altL; rw [HRP.out, if_pos rfl, firstN_nodes]
          go_wp2_with fail
          go_ret
          exact ⟨_, rfl, by rw [HV.out]; exact (hO.out.toRow (by omega)).wide (by rw [HW0.out]; omega) (Nat.le_refl _), hR.out.below⟩
    · rw [Bool.not_eq_true] at hnr
      have HV : Hid (altL N L s f d = []) := by show altL _ _ _ _ _ = []; unfold altL repB; rw [hnr, Bool.and_false, if_neg (by decide)]
      rw [hnr]
      clear hnr
      go_wp2
      go_ret
      exact ⟨_, rfl, by rw [HV.out]; exact Row.empty _ _ _ _ _ _, H2.out.below⟩
  · rw [Bool.not_eq_true] at hg
    have HV : Hid (altL N L s f d = []) := by show altL _ _ _ _ _ = []; unfold altL repB; rw [hg, Bool.false_and, if_neg (by decide)]
    rw [hg]
    clear hg
    go_wp2
    go_ret
    exact ⟨_, rfl, by rw [HV.out]; exact Row.empty _ _ _ _ _ _, H1.out.below⟩

end Go.Proofs.Ytnpdbieadjgghaa
