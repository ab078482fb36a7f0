/- Bad orders, counted by the model. -/
import Derived.Test.YtjenjdhoblcohaaPd
import Derived.Test.YtjenjdhoblcohaaPg
namespace Go.Proofs.Ytjenjdhoblcohaa
open Go.RowKit

/-- The number of bad orders. -/
def cntV (N1 : Int) (L1 : List Ed) (N2 : Int) (L2 : List Ed) (d : Int) : Int := if fineB N1 L1 N2 L2 d = true ∧ N1 ≤ 6 then badC (towK N1 L2 d N1.toNat) d N1.toNat (towK N1 L1 d N1.toNat) (ndK N1.toNat) false else -1
theorem cntV_no {N1 N2 d : Int} {L1 L2 : List Ed} (h : ¬ (fineB N1 L1 N2 L2 d = true ∧ N1 ≤ 6)) : cntV N1 L1 N2 L2 d = -1 := by unfold cntV; rw [if_neg h]
theorem cntV_yes {N1 N2 d : Int} {L1 L2 : List Ed} (h : fineB N1 L1 N2 L2 d = true) (hl : N1 ≤ 6) : cntV N1 L1 N2 L2 d = badC (towK N1 L2 d N1.toNat) d N1.toNat (towK N1 L1 d N1.toNat) (ndK N1.toNat) false := by unfold cntV; rw [if_pos ⟨h, hl⟩]
theorem ufB_any (A B o : List Int) (d : Int) : (fstK (ufB A B o d) (o.length + 1) (o.length + 1) ≠ -1) ↔ anyP A d B o = true := fst_any A B d o
/-- How many of the first orders are bad. -/
def cntT (A B : List Int) (d : Int) (OO : List (List Int)) (q : Nat) : Int := (((OO.take q).filter fun o => anyP A d B o).length : Int)
theorem cntT_succ (A B : List Int) (d : Int) {OO : List (List Int)} {q : Nat} (h : q < OO.length) : cntT A B d OO (q + 1) = cntT A B d OO q + if anyP A d B (OO.getD q []) = true then 1 else 0 := by
  unfold cntT
  rw [List.take_add_one, List.getElem?_eq_getElem h, List.filter_append, List.length_append]
  rw [List.getD_eq_getElem?_getD, List.getElem?_eq_getElem h]
  simp only [Option.toList_some, Option.getD_some]
  by_cases e : anyP A d B (OO[q]'h) = true
  · rw [List.filter_cons_of_pos e, if_pos e]; simp
  · rw [List.filter_cons_of_neg e, if_neg e]; simp
theorem cntT_all (A B : List Int) (d : Int) (n : Nat) (l : List Int) : cntT A B d (ordF n l) (ordF n l).length = badC A d n B l false := by
  unfold cntT
  rw [List.take_length, badC_count]
  rfl
theorem cntT_le (A B : List Int) (d : Int) (OO : List (List Int)) (q : Nat) : 0 ≤ cntT A B d OO q ∧ cntT A B d OO q ≤ (OO.length : Int) := by
  unfold cntT
  have h1 := List.length_filter_le (fun o => anyP A d B o) (OO.take q)
  rw [List.length_take] at h1
  omega

set_option maxRecDepth 100000 in
set_option maxHeartbeats 4000000 in
theorem icnt2_any (N1 N2 : Int) (lo1 hi1 n1 lo2 hi2 n2 : Nat) (s1 s2 : Value) (L1 L2 : List Ed) (d : Int) (w : World) (hL1 : L1.length = n1) (hL2 : L2.length = n2) (hr1 : Row 3 w lo1 hi1 s1 n1 (flat L1)) (hr2 : Row 3 w lo2 hi2 s2 n2 (flat L2)) (hh1 : hi1 ≤ w.heap.size) (hh2 : hi2 ≤ w.heap.size) :
    Calls Try.prog 30 #[.agg #[.int .i64 N1, s1], .agg #[.int .i64 N2, s2], .int .i64 d] w fun e w' => e = .returned (.int .i64 (cntV N1 L1 N2 L2 d)) ∧ Below w.heap.size w w' := by
  obtain ⟨ad1, cp1, rfl⟩ := hr1.slice
  obtain ⟨ad2, cp2, rfl⟩ := hr2.slice
  have HY0 := Lib.hid (Gy.start (N1 := N1) (N2 := N2) hr1 hr2 hh1 hh2)
  have HB0 := Lib.hid HY0.out.below
  clear hr1 hr2 hh1 hh2
  obtain ⟨R, hR⟩ : ∃ R, R = cntV N1 L1 N2 L2 d := ⟨_, rfl⟩
  rw [← hR]
  have HR := Lib.hid hR
  clear hR
  go_enter Try.func30, Try.ntmps30
  go_wp2_with fail
  obtain ⟨v0, hv0⟩ : ∃ v0, v0 = ((w.alloc (.cells #[.int .i64 N1, .slice ad1 n1 cp1] 29)).alloc (.cells #[.int .i64 N2, .slice ad2 n2 cp2] 29)) := ⟨_, rfl⟩
  rw [← hv0] at HY0 HB0 ⊢
  clear hv0
  go_at_call 56
  refine (up_any N1 N2 lo1 hi1 n1 lo2 hi2 n2 _ _ L1 L2 d v0 hL1 hL2 HY0.out.row1 HY0.out.row2 HY0.out.hi1 HY0.out.hi2).mono ?_
  rintro e v1 ⟨hb1, hcase⟩
  have HB1 : Hid (Below w.heap.size w v1) := HB0.out.trans (hb1.mono HB0.out.size)
  have HY1 := Lib.hid (HY0.out.grow hb1)
  have hlt1 := HY1.out.lt
  have hd1 : w.heap.size < v1.heap.size := by omega
  have he1 : w.heap.size ≠ v1.heap.size := by omega
  have a0 := HY1.out.a0
  have a1 := HY1.out.a1
  clear hb1 HY0
  rcases hcase with ⟨hf, rfl⟩ | ⟨hf, bv, av, rfl, hbr, har⟩
  · have HE : Hid (R = -1) := HR.out.trans (cntV_no (fun h => by rw [hf] at h; exact Bool.false_ne_true h.1))
    clear hf
    go_wp2_with fail
    go_ret
    exact ⟨by rw [HE.out]; rfl, HB1.out.alloc HB1.out.size _⟩
  · have hG := (fineB_iff.1 hf).1
    have hN := gok_parts hG
    obtain ⟨M, rfl⟩ : ∃ M : Nat, N1 = (M : Int) := ⟨N1.toNat, by omega⟩
    rw [Int.toNat_natCast] at hbr har
    have hM0 : 0 < M := by omega
    have hM1 : M ≤ 10 := by omega
    have HF := Lib.hid hf
    obtain ⟨ba, bc, rfl⟩ := hbr.slice
    obtain ⟨aa, ac, rfl⟩ := har.slice
    have HBR := Lib.hid hbr
    have HAR := Lib.hid har
    clear hf hG hN hbr har
    by_cases hm : M ≤ 6
    · have hm3 : ¬ ((M : Int) > 6) := by omega
      have hm4 : decide ((M : Int) > 6) = false := decide_eq_false hm3
      have HE : Hid (R = badC (towK (M : Int) L2 d M) d M (towK (M : Int) L1 d M) (ndK M) false) := HR.out.trans (by rw [cntV_yes HF.out (by omega), Int.toNat_natCast])
      obtain ⟨v2, hv2⟩ : ∃ v2, v2 = v1.alloc (.cells #[.slice ba M bc, .slice aa M ac, .int .i64 d] 67) := ⟨_, rfl⟩
      have hb2 : Below v1.heap.size v1 v2 := by rw [hv2]; exact (Below.refl _ _).alloc (Nat.le_refl _) _
      have hs2 : v2.heap.size = v1.heap.size + 1 := by rw [hv2]; simp
      have u0 : v2.cell? ⟨v1.heap.size, 0, none⟩ = some (.slice ba M bc) := by rw [hv2]; simp
      have u1 : v2.cell? ⟨v1.heap.size, 1, none⟩ = some (.slice aa M ac) := by rw [hv2]; simp
      have u2 : v2.cell? ⟨v1.heap.size, 2, none⟩ = some (.int .i64 d) := by rw [hv2]; simp
      have HB2 := Lib.hid hb2
      have HU := Lib.hid (And.intro u0 (And.intro u1 u2))
      have HBR2 : Hid (Row 1 v2 v0.heap.size v1.heap.size (.slice ba M bc) M (towK (M : Int) L1 d M)) := HBR.out.below HB2.out (Nat.le_refl _)
      have HAR2 : Hid (Row 1 v2 v0.heap.size v1.heap.size (.slice aa M ac) M (towK (M : Int) L2 d M)) := HAR.out.below HB2.out (Nat.le_refl _)
      clear hb2 u0 u1 u2 HBR HAR
      go_wp2_with fail
      rw [← hv2]
      clear hv2
      go_at_call 62
      refine (nodes_any M _ v2 hM1 ⟨_, _, _, rfl⟩).mono ?_
      rintro e v3 ⟨nv, rfl, hO⟩
      obtain ⟨na, nc, rfl⟩ := own_slice hO.row
      have HO3 := Lib.hid hO
      have hs3 := hO.below.size
      clear hO a0 a1
      go_wp2_with fail
      go_at_call 68
      refine (ord_any M v2.heap.size v3.heap.size _ (ndK M) v3 hm (ndK_len M) HO3.out.cap (HO3.out.toRow (by omega)) (Nat.le_refl _)).mono ?_
      rintro e v4 ⟨ov, rfl, hS⟩
      obtain ⟨oa, oc, rfl⟩ := hS.form
      have HS := Lib.hid hS
      have HB4 : Hid (Below v2.heap.size v2 v4) := HO3.out.below.trans (hS.below.mono hs3)
      have hs4 := hS.below.size
      have hnum := ordF_num M hm (ndK M)
      have hpm := powS_mono M hm
      obtain ⟨OO, hOO⟩ : ∃ OO, OO = ordF M (ndK M) := ⟨_, rfl⟩
      rw [← hOO] at HS hnum ⊢
      have HOO := Lib.hid hOO
      have hOOb : OO.length ≤ 200000 := by omega
      have HT0 : Hid ((0 : Int) = cntT (towK (M : Int) L2 d M) (towK (M : Int) L1 d M) d OO 0) := by show _ = _; unfold cntT; simp
      clear hS hOO hnum hpm
      go_wp2_with fail
      go_loopw [9, 11, 30] (fun c _ i wr => ∃ (q : Nat) (cc : Int), q ≤ OO.length ∧ i = .int .i64 (q : Int) ∧ c = .int .i64 cc ∧ Hid (cc = cntT (towK (M : Int) L2 d M) (towK (M : Int) L1 d M) d OO q) ∧ Hid (Below v4.heap.size v4 wr)) (fun _ _ i _ => OO.length - (intOf i).toNat)
      case atStart => exact ⟨0, 0, Nat.zero_le _, rfl, rfl, HT0, Below.refl _ _⟩
      case round =>
        clear HT0
        obtain ⟨q, cc, hq, rfl, rfl, hC, hB⟩ := hrel
        have HBw : Hid (Below v2.heap.size v2 wr) := HB4.out.trans (hB.out.mono (by omega))
        have hcb := cntT_le (towK (M : Int) L2 d M) (towK (M : Int) L1 d M) d OO q
        rw [← hC.out] at hcb
        by_cases hql : q < OO.length
        · have p0 : (q : Int) < (OO.length : Int) := by omega
          have p1 : (0 : Int) ≤ (q : Int) := by omega
          obtain ⟨G, cap, pj, cj, lo3, hi3, hsv, hG1, hG2, hcj, hcc, hrj, hl1, hh1⟩ := (HS.out.grow hB.out).get hql
          cases hsv
          have HOL : Hid ((OO.getD q []).length = M) := by
            show _ = _
            refine ordF_len M (ndK M) (ndK_len M) _ ?_
            rw [← HOO.out, List.getD_eq_getElem?_getD, List.getElem?_eq_getElem hql]
            exact List.getElem_mem _
          have HSC := Lib.hid (cntT_succ (towK (M : Int) L2 d M) (towK (M : Int) L1 d M) d hql)
          obtain ⟨o, ho⟩ : ∃ o, o = OO.getD q [] := ⟨_, rfl⟩
          rw [← ho] at hcj hcc hrj HSC HOL
          rw [HOL.out] at hcj hcc hrj
          have HUA := Lib.hid (ufB_any (towK (M : Int) L2 d M) (towK (M : Int) L1 d M) o d)
          rw [HOL.out] at HUA
          have u0 : wr.cell? ⟨v1.heap.size, 0, none⟩ = some (.slice ba M bc) := by rw [HBw.out.cell (p := ⟨v1.heap.size, 0, none⟩) (by show v1.heap.size < _; omega)]; exact HU.out.1
          have u1 : wr.cell? ⟨v1.heap.size, 1, none⟩ = some (.slice aa M ac) := by rw [HBw.out.cell (p := ⟨v1.heap.size, 1, none⟩) (by show v1.heap.size < _; omega)]; exact HU.out.2.1
          have u2 : wr.cell? ⟨v1.heap.size, 2, none⟩ = some (.int .i64 d) := by rw [HBw.out.cell (p := ⟨v1.heap.size, 2, none⟩) (by show v1.heap.size < _; omega)]; exact HU.out.2.2
          have hszw := HBw.out.size
          have HRJ := Lib.hid hrj
          have HCC : Hid (capOk (.slice pj M cj) M) := ⟨_, _, rfl, hcc⟩
          clear ho hrj hcc
          go_wp2_with fail
          go_at_call 66
          refine (ufl_any M v0.heap.size v1.heap.size v0.heap.size v1.heap.size lo3 hi3 M _ _ _ (towK (M : Int) L1 d M) (towK (M : Int) L2 d M) o d wr hM0 hM1 (by omega) HCC.out (HBR2.out.below HBw.out (by omega)) (HAR2.out.below HBw.out (by omega)) HRJ.out (by omega) (by omega) hh1).mono ?_
          rintro e w5 ⟨rfl, hb5⟩
          have HB5 : Hid (Below v4.heap.size v4 w5) := hB.out.trans (hb5.mono hB.out.size)
          clear hb5 HRJ HCC u0 u1 u2 hcj
          generalize fstK (ufB (towK (M : Int) L2 d M) (towK (M : Int) L1 d M) o d) (M + 1) (M + 1) = fv at HUA ⊢
          by_cases hfv : fv = -1
          · have ha : anyP (towK (M : Int) L2 d M) d (towK (M : Int) L1 d M) o = false := by
              cases e : anyP (towK (M : Int) L2 d M) d (towK (M : Int) L1 d M) o with
              | false => rfl
              | true => exact absurd hfv (HUA.out.2 e)
            have HN : Hid (cc = cntT (towK (M : Int) L2 d M) (towK (M : Int) L1 d M) d OO (q + 1)) := by show _ = _; rw [HSC.out, ha, ← hC.out]; simp
            have x1 : (fv == -1) = true := by simp [hfv]
            have x2 : (fv != -1) = false := by simp [hfv]
            clear hfv ha hC HUA
            go_wp2_with fail
            go_roundw
            case rel => exact ⟨q + 1, cc, by omega, by go_num, rfl, HN, HB5⟩
            case measure => simp [intOf]; omega
          · have ha := HUA.out.1 hfv
            have HN : Hid (cc + 1 = cntT (towK (M : Int) L2 d M) (towK (M : Int) L1 d M) d OO (q + 1)) := by show _ = _; rw [HSC.out, ha, ← hC.out]; simp
            have x1 : (fv == -1) = false := by simp [hfv]
            have x2 : (fv != -1) = true := by simp [hfv]
            clear hfv ha hC HUA
            go_wp2_with fail
            go_roundw
            case rel => exact ⟨q + 1, cc + 1, by omega, by go_num, by go_num, HN, HB5⟩
            case measure => simp [intOf]; omega
        · obtain rfl : q = OO.length := by omega
          have hge : ¬ ((OO.length : Int) < (OO.length : Int)) := by omega
          have HV : Hid (R = cc) := by
            show _ = _
            rw [hC.out, HE.out, HOO.out, cntT_all]
          go_wp2_with fail
          go_ret
          exact ⟨by rw [HV.out]; rfl, (HB1.out.trans (HB2.out.mono HB1.out.size)).trans (HBw.out.mono (by have := HB1.out.size; omega))⟩
    · have hm3 : (M : Int) > 6 := by omega
      have hm4 : decide ((M : Int) > 6) = true := decide_eq_true hm3
      have HE : Hid (R = -1) := HR.out.trans (cntV_no (fun h => hm (by have := h.2; omega)))
      clear hm
      go_wp2_with fail
      go_ret
      exact ⟨by rw [HE.out]; rfl, HB1.out.alloc HB1.out.size _⟩

theorem take_snoc {l : List Int} {k : Nat} {x : Int} (h : l[k]? = some x) : l.take (k + 1) = l.take k ++ [x] := by rw [List.take_add_one, h]; rfl
/-- The first k of a list without number i. -/
def remK (l : List Int) (i k : Nat) : List Int := (l.take k).eraseIdx i
theorem remK_same {l : List Int} {i : Nat} {x : Int} (h : l[i]? = some x) : remK l i (i + 1) = remK l i i := by
  have hi : i < l.length := (List.getElem?_eq_some_iff.1 h).1
  unfold remK
  rw [take_snoc h, List.eraseIdx_append_of_length_le (by rw [List.length_take]; omega), List.length_take]
  rw [show i - min i l.length = 0 by omega, List.eraseIdx_of_length_le (l := l.take i) (by rw [List.length_take]; omega)]
  simp
theorem remK_other {l : List Int} {i k : Nat} {x : Int} (h : l[k]? = some x) (hn : k ≠ i) : remK l i (k + 1) = remK l i k ++ [x] := by
  have hk : k < l.length := (List.getElem?_eq_some_iff.1 h).1
  unfold remK
  rw [take_snoc h]
  by_cases hlt : i < k
  · rw [List.eraseIdx_append_of_lt_length (by rw [List.length_take]; omega)]
  · rw [List.eraseIdx_of_length_le (by simp; omega), List.eraseIdx_of_length_le (by rw [List.length_take]; omega)]
theorem remK_all (l : List Int) (i : Nat) : remK l i l.length = l.eraseIdx i := by unfold remK; rw [List.take_length]
theorem remK_len (l : List Int) (i k : Nat) : (remK l i k).length ≤ k := by
  unfold remK
  rw [List.length_eraseIdx, List.length_take]
  split <;> omega

set_option maxRecDepth 100000 in
set_option maxHeartbeats 4000000 in
theorem scopyI_any (Z : List Int) (lo hi n : Nat) (v : Value) (w : World) (hn : n ≤ 1000) (hr : Row 1 w lo hi v n Z) (hh : hi ≤ w.heap.size) :
    Calls Try.prog 92 #[v] w fun e w' => ∃ rv, e = .returned rv ∧ OwnI w w' rv n Z := by
  have hZl : Z.length = n := by have := hr.1; omega
  have HR := Lib.hid hr
  have HZ := Lib.hid hZl
  obtain ⟨ad, cp, rfl, hn1, hc⟩ := hr.opened
  have HC := Lib.hid hc
  obtain ⟨i3, hi3, hz0, hz1, hz2⟩ := info_parts Try.info3
  have I := Lib.hid (And.intro hi3 (And.intro hz0 (And.intro hz1 hz2)))
  clear hr hZl hi3 hz0 hz1 hz2 hc
  go_enter Try.func92, Try.ntmps92
  go_wp2_with fail
  obtain ⟨v1, hv1⟩ : ∃ v1, v1 = w.alloc (.cells #[] 3) := ⟨_, rfl⟩
  have HO : Hid (OwnI w v1 (.slice (some ⟨w.heap.size, 0, none⟩) 0 0) 0 (Z.take 0)) := by rw [hv1]; exact Lib.hid (OwnI.lit0 w)
  rw [← hv1]
  clear hv1
  go_loopw [3, 4] (fun v i wr => ∃ k : Nat, k ≤ n ∧ i = .int .i64 (k : Int) ∧ Hid (OwnI w wr v k (Z.take k))) (fun _ i _ => n - (intOf i).toNat)
  case atStart => exact ⟨0, Nat.zero_le _, rfl, HO⟩
  case round =>
    clear HO
    obtain ⟨k, hk, rfl, hR⟩ := hrel
    have hsz := hR.out.below.size
    obtain ⟨oa, oc, hov⟩ := own_slice hR.out.row
    subst hov
    by_cases hlt : k < n
    · have q0 : (k : Int) < (n : Int) := by omega
      have q1 : (0 : Int) ≤ (k : Int) := by omega
      obtain ⟨g, rfl, hg, hcell⟩ := HC.out (by omega)
      obtain ⟨x, hx⟩ : ∃ x, Z[k]? = some x := ⟨Z[k]'(by rw [HZ.out]; exact hlt), List.getElem?_eq_getElem _⟩
      have z0 : wr.cell? ⟨g, k, none⟩ = some (.int .i64 x) := by rw [hR.out.below.cell (p := ⟨g, k, none⟩) (by show g < _; omega)]; exact hcell k x hx
      have HT := Lib.hid (take_snoc hx)
      have Hw := Lib.hid hR.out.row
      clear hcell hx
      go_wp2_with (at_builtin; refine wpList_append_lies _ rfl _ _ 33 rfl w.heap.size 3 i3 (.int .i64 0) 1 8 Try.underlying33 I.out.1 I.out.2.1 I.out.2.2.1 I.out.2.2.2 rfl (by decide) _ k (ints (Z.take k)) rfl (Hw.out.alloc _) ⟨wr.heap.size, 0, none⟩ 1 1 [.int .i64 x] rfl rfl ?d0 (int_one _) (by decide) ?d1 ?d2 ?d3 _ rfl ?_)
      case d0 => exact fun a u ha => cell_one_new _ _ 3 rfl a u ha
      case d1 => unfold maxLen; omega
      case d2 => omega
      case d3 => simp; omega
      intro g4 cap4 w4 hown4 hgrow4 hat4 hlt4
      have HF : Hid (OwnI w w4 (.slice (some ⟨g4, 0, none⟩) (k + 1) cap4) (k + 1) (Z.take (k + 1))) := by
        rw [HT.out]
        exact (hR.out.grow ((Below.refl _ _).alloc (Nat.le_refl _) _)).app hgrow4 hown4
      clear hown4 hgrow4 hat4 hlt4 hR Hw z0
      go_wp2_with fail
      go_roundw
      case rel => exact ⟨k + 1, by omega, by go_num, HF⟩
      case measure => simp [intOf]; omega
    · obtain rfl : k = n := by omega
      have hge : ¬ ((k : Int) < (k : Int)) := by omega
      have HE : Hid (OwnI w wr (.slice oa k oc) k Z) := by
        have := hR.out
        rw [List.take_of_length_le (by rw [HZ.out]; exact Nat.le_refl _)] at this
        exact this
      go_wp2_with fail
      go_ret
      exact ⟨_, rfl, HE.out⟩

/-- What the model's count says at one length. -/
def BadI (M : Nat) (d : Int) (n : Nat) : Prop := ∀ (lo2 hi2 lo3 hi3 lo4 hi4 : Nat) (so sf sm sl : Value) (A h l : List Int) (b : Bool) (w : World), l.length = n → Row 1 w lo2 hi2 sf M A → Row 1 w lo3 hi3 sm M h → Row 1 w lo4 hi4 sl n l → hi2 ≤ w.heap.size → hi3 ≤ w.heap.size → hi4 ≤ w.heap.size → (∀ x ∈ l, 0 ≤ x ∧ x < (M : Int)) → Calls Try.prog 67 #[so, sf, sm, sl, .int .i64 d, .bool b] w fun e w' => e = .returned (.int .i64 (badC A d n h l b)) ∧ Below w.heap.size w w'

set_option maxRecDepth 100000 in
set_option maxHeartbeats 4000000 in
theorem bad_t (M : Nat) (d : Int) (hM0 : 0 < M) (hM : M ≤ 10) (n : Nat) (hn : n ≤ 6) (HIH : Hid (∀ j, j < n → BadI M d j)) (lo2 hi2 lo3 hi3 lo4 hi4 : Nat) (so sf sm sl : Value) (A h l : List Int) (b : Bool) (w : World) (hl : l.length = n) (hra : Row 1 w lo2 hi2 sf M A) (hrm : Row 1 w lo3 hi3 sm M h) (hrl : Row 1 w lo4 hi4 sl n l) (hh2 : hi2 ≤ w.heap.size) (hh3 : hi3 ≤ w.heap.size) (hh4 : hi4 ≤ w.heap.size) (hlb : ∀ x ∈ l, 0 ≤ x ∧ x < (M : Int)) (hb : b = true) :
    Calls Try.prog 67 #[so, sf, sm, sl, .int .i64 d, .bool b] w fun e w' => e = .returned (.int .i64 (badC A d n h l b)) ∧ Below w.heap.size w w' := by
  have HRa := Lib.hid hra
  have HRm := Lib.hid hrm
  have HRl := Lib.hid hrl
  have HLB := Lib.hid hlb
  obtain ⟨aa, ac, rfl⟩ := hra.slice
  obtain ⟨ma, mc, rfl⟩ := hrm.slice
  obtain ⟨la, lc, rfl⟩ := hrl.slice
  have HBV : Hid ((b || loopy d h) = true) := by show _ = _; rw [hb, Bool.true_or]
  obtain ⟨i3, hi3, hz0, hz1, hz2⟩ := info_parts Try.info3
  have I := Lib.hid (And.intro hi3 (And.intro hz0 (And.intro hz1 hz2)))
  clear hra hrm hrl hlb hi3 hz0 hz1 hz2
  subst hb
  match n, hn, hl, HIH with
  | 0, hn, hl, _ =>
    obtain ⟨R, hR⟩ : ∃ R, R = badC A d 0 h l true := ⟨_, rfl⟩
    rw [← hR]
    have hV : Hid (R = if true = true then 1 else 0) := by show R = _; rw [hR]; show (if _ then (1 : Int) else 0) = _; rw [HBV.out]
    clear hR
    go_enter Try.func67, Try.ntmps67
    have HBw : Hid (Below w.heap.size w w) := Below.refl _ _
    go_wp2_with fail
    go_ret
    exact ⟨by rw [hV.out]; rfl, HBw.out⟩
  | n + 1, hn, hl, HIH =>
    have hm9 : ((((n + 1 : Nat) : Int)) == 0) = false := by simp; omega
    obtain ⟨R, hR⟩ : ∃ R, R = badC A d (n + 1) h l true := ⟨_, rfl⟩
    rw [← hR]
    have HR : Hid (R = sumR (n + 1) fun i => badC A d n (upd1 A h (l.getD i 0)) (l.eraseIdx i) true) := by
      show R = _
      rw [hR]
      show sumR (n + 1) (fun i => badC A d n (upd1 A h (l.getD i 0)) (l.eraseIdx i) (true || loopy d h)) = _
      rw [HBV.out]
    obtain ⟨m, hm⟩ : ∃ m, m = n + 1 := ⟨_, rfl⟩
    rw [← hm] at hm9 HRl HR ⊢
    have HMn := Lib.hid hm
    have hm6 : m ≤ 6 := by omega
    clear hm hR
    go_enter Try.func67, Try.ntmps67
    have HBw : Hid (Below w.heap.size w w) := Below.refl _ _
    go_wp2_with fail
    go_loopw [13, 14, 15, 16, 17] (fun c i _ _ _ wr => ∃ (k : Nat) (cc : Int), k ≤ m ∧ i = .int .i64 (k : Int) ∧ c = .int .i64 cc ∧ Hid (cc = sumR k fun i => badC A d n (upd1 A h (l.getD i 0)) (l.eraseIdx i) true) ∧ Hid (Below w.heap.size w wr)) (fun _ i _ _ _ _ => m - (intOf i).toNat)
    case atStart => exact ⟨0, 0, Nat.zero_le _, rfl, rfl, rfl, HBw⟩
    case round =>
      clear HBw
      obtain ⟨k, cc, hk, rfl, rfl, hC, hB⟩ := hrel
      have hszw := hB.out.size
      by_cases hlt : k < m
      · have p0 : (k : Int) < (m : Int) := by omega
        have p1 : (0 : Int) ≤ (k : Int) := by omega
        obtain ⟨lg, lc, hlv, hlg1, hlg2, hlcell⟩ := row_cells (by omega) HRl.out
        cases hlv
        have hkl : k < l.length := by have h1 : l.length = n + 1 := hl; have h2 : m = n + 1 := HMn.out; omega
        obtain ⟨x, hx⟩ : ∃ x, l[k]? = some x := ⟨l[k]'hkl, List.getElem?_eq_getElem _⟩
        have hxb := HLB.out x (List.mem_of_getElem? hx)
        obtain ⟨xn, rfl⟩ : ∃ xn : Nat, x = (xn : Int) := ⟨x.toNat, by omega⟩
        have hxM : xn < M := by omega
        have HXD : Hid (l.getD k 0 = (xn : Int)) := by show _ = _; rw [List.getD_eq_getElem?_getD, hx]; rfl
        have HX := Lib.hid hx
        have HLC := Lib.hid hlcell
        have hcp := badC_part A d (n := n) (by have h2 : m = n + 1 := HMn.out; omega) h l true (k := k) (by omega)
        rw [← hC.out] at hcp
        have HRm1 : Hid (Row 1 wr lo3 hi3 (.slice ma M mc) M h) := HRm.out.below hB.out hh3
        clear hx hxb hlcell
        go_wp2_with fail
        go_at_call 92
        refine (scopyI_any h lo3 hi3 M _ wr (by omega) HRm1.out (by omega)).mono ?_
        rintro e u1 ⟨nv, rfl, hO⟩
        obtain ⟨ng, nc, rfl⟩ := hO.form hM0
        have HBu : Hid (Below w.heap.size w u1) := hB.out.trans (hO.below.mono hszw)
        obtain ⟨ag, ac, hav, ha1, ha2, hacell⟩ := row_cells hM0 HRa.out
        cases hav
        have hAl : A.length = M := by have := HRa.out.1; omega
        have hHl : h.length = M := by have := hO.row.1; simpa [ints] using this
        obtain ⟨z, hz⟩ : ∃ z, A[xn]? = some z := ⟨A[xn]'(by omega), List.getElem?_eq_getElem _⟩
        obtain ⟨y, hy⟩ : ∃ y, h[xn]? = some y := ⟨h[xn]'(by omega), List.getElem?_eq_getElem _⟩
        have z1 : u1.cell? ⟨lg, k, none⟩ = some (.int .i64 (xn : Int)) := by rw [HBu.out.cell (p := ⟨lg, k, none⟩) (by show lg < _; omega)]; exact HLC.out k _ HX.out
        have z2 : u1.cell? ⟨ag, xn, none⟩ = some (.int .i64 z) := by rw [HBu.out.cell (p := ⟨ag, xn, none⟩) (by show ag < _; omega)]; exact hacell xn z hz
        have z3 := hO.at hxM hy
        have f3 := hO.frz xn
        have p2 : (0 : Int) ≤ (xn : Int) := by omega
        have p3 : (xn : Int) < (M : Int) := by omega
        have hng := hO.lt
        have HO1 : Hid (OwnI wr (u1.setCell ⟨ng, xn, none⟩ (.int .i64 z)).drew (.slice (some ⟨ng, 0, none⟩) M nc) M (upd1 A h (xn : Int))) := by
          have e : upd1 A h (xn : Int) = h.set xn z := by unfold upd1; rw [if_pos ⟨by omega, by omega⟩, Int.toNat_natCast, List.getD_eq_getElem?_getD, hz]; rfl
          rw [e]
          exact Lib.hid (hO.set xn z).drew
        clear hO hz hy hacell HBu
        go_wp2_with fail
        go_region
        obtain ⟨y1, hy1⟩ : ∃ y1, y1 = (u1.setCell ⟨ng, xn, none⟩ (.int .i64 z)).drew := ⟨_, rfl⟩
        rw [← hy1] at HO1 ⊢
        clear hy1 z1 z2 z3 f3
        have hsy1 := HO1.out.below.size
        obtain ⟨lo9, HNx⟩ : ∃ lo9, Hid (Row 1 y1 lo9 y1.heap.size (.slice (some ⟨ng, 0, none⟩) M nc) M (upd1 A h (xn : Int))) := ⟨_, Lib.hid (HO1.out.toRow (by omega))⟩
        have HBy : Hid (Below w.heap.size w y1) := hB.out.trans (HO1.out.below.mono hszw)
        go_wp2_with fail
        obtain ⟨y2, hy2⟩ : ∃ y2, y2 = y1.alloc (.cells #[] 3) := ⟨_, rfl⟩
        have HQ2 : Hid (OwnI y1 y2 (.slice (some ⟨y1.heap.size, 0, none⟩) 0 0) (remK l k 0).length (remK l k 0)) := by
          have e : remK l k 0 = [] := by unfold remK; simp
          rw [e, hy2]
          exact Lib.hid (OwnI.lit0 y1)
        rw [← hy2]
        clear hy2
        go_loopw [16, 17] (fun v j wr3 => ∃ q : Nat, q ≤ m ∧ j = .int .i64 (q : Int) ∧ Hid (OwnI y1 wr3 v (remK l k q).length (remK l k q))) (fun _ j _ => m - (intOf j).toNat)
        case atStart => exact ⟨0, Nat.zero_le _, rfl, HQ2⟩
        case round =>
          clear HQ2
          obtain ⟨q, hq, rfl, hQ⟩ := hrel
          have hszq := hQ.out.below.size
          obtain ⟨ta, tc, htv⟩ := own_slice hQ.out.row
          subst htv
          have hkl2 := remK_len l k q
          by_cases hql : q < m
          · have p4 : (q : Int) < (m : Int) := by omega
            have p5 : (0 : Int) ≤ (q : Int) := by omega
            by_cases hqk : q = k
            · subst hqk
              have x1 : ((q : Int) == (q : Int)) = true := by simp
              have x2 : ((q : Int) != (q : Int)) = false := by simp
              have HN : Hid (OwnI y1 wr (.slice ta (remK l q q).length tc) (remK l q (q + 1)).length (remK l q (q + 1))) := by rw [remK_same HX.out]; exact hQ
              clear hQ
              go_wp2_with fail
              go_roundw
              case rel => exact ⟨q + 1, by omega, by go_num, HN⟩
              case measure => simp [intOf]; omega
            · have x1 : ((q : Int) == (k : Int)) = false := by simp; omega
              have x2 : ((q : Int) != (k : Int)) = true := by simp; omega
              obtain ⟨t, ht⟩ : ∃ t, l[q]? = some t := ⟨l[q]'(by have h1 : l.length = n + 1 := hl; have h2 : m = n + 1 := HMn.out; omega), List.getElem?_eq_getElem _⟩
              have HT := Lib.hid (remK_other ht hqk)
              have z4 : wr.cell? ⟨lg, q, none⟩ = some (.int .i64 t) := by rw [hQ.out.below.cell (p := ⟨lg, q, none⟩) (by show lg < _; omega), HBy.out.cell (p := ⟨lg, q, none⟩) (by show lg < _; omega)]; exact HLC.out q t ht
              obtain ⟨Y, hY⟩ : ∃ Y, Y = remK l k q := ⟨_, rfl⟩
              rw [← hY] at hQ HT hkl2 ⊢
              have Hw := Lib.hid hQ.out.row
              clear ht hY hqk
              go_wp2_with (at_builtin; refine wpList_append_lies _ rfl _ _ 33 rfl y1.heap.size 3 i3 (.int .i64 0) 1 8 Try.underlying33 I.out.1 I.out.2.1 I.out.2.2.1 I.out.2.2.2 rfl (by decide) _ Y.length (ints Y) rfl (Hw.out.alloc _) ⟨wr.heap.size, 0, none⟩ 1 1 [.int .i64 t] rfl rfl ?d0 (int_one _) (by decide) ?d1 ?d2 ?d3 _ rfl ?_)
              case d0 => exact fun a u ha => cell_one_new _ _ 3 rfl a u ha
              case d1 => unfold maxLen; omega
              case d2 => omega
              case d3 => simp; omega
              intro g4 cap4 w4 hown4 hgrow4 hat4 hlt4
              have HF : Hid (OwnI y1 w4 (.slice (some ⟨g4, 0, none⟩) (Y.length + 1) cap4) (remK l k (q + 1)).length (remK l k (q + 1))) := by
                rw [HT.out, show (Y ++ [t]).length = Y.length + 1 by simp]
                exact (hQ.out.grow ((Below.refl _ _).alloc (Nat.le_refl _) _)).app hgrow4 hown4
              clear hown4 hgrow4 hat4 hlt4 hQ Hw z4
              go_wp2_with fail
              go_roundw
              case rel => exact ⟨q + 1, by omega, by go_num, HF⟩
              case measure => simp [intOf]; omega
          · obtain rfl : q = m := by omega
            have hge : ¬ ((q : Int) < (q : Int)) := by omega
            have hrl : remK l k q = l.eraseIdx k := by
              have h1 : l.length = n + 1 := hl
              have h2 : q = n + 1 := HMn.out
              rw [h2, ← h1, remK_all]
            have hre : (l.eraseIdx k).length = n := by rw [List.length_eraseIdx, if_pos hkl]; have h1 : l.length = n + 1 := hl; omega
            have HQ3 : Hid (OwnI y1 wr (.slice ta n tc) n (l.eraseIdx k)) := by
              have := hQ.out
              rw [hrl, hre] at this
              exact this
            rw [show (remK l k q).length = n by rw [hrl, hre]]
            have HBz : Hid (Below w.heap.size w wr) := HBy.out.trans (hQ.out.below.mono (by omega))
            have hFb := badC_bound A d n (by have h2 : q = n + 1 := HMn.out; omega) (upd1 A h (xn : Int)) (l.eraseIdx k) true
            have hFm := powS_mono n (by have h2 : q = n + 1 := HMn.out; omega)
            have HC2 : Hid (cc + badC A d n (upd1 A h (xn : Int)) (l.eraseIdx k) true = sumR (k + 1) fun i => badC A d n (upd1 A h (l.getD i 0)) (l.eraseIdx i) true) := by
              show cc + badC A d n (upd1 A h (xn : Int)) (l.eraseIdx k) true = sumR k (fun i => badC A d n (upd1 A h (l.getD i 0)) (l.eraseIdx i) true) + badC A d n (upd1 A h (l.getD k 0)) (l.eraseIdx k) true
              rw [← hC.out, HXD.out]
            have HLB2 : Hid (∀ x ∈ l.eraseIdx k, 0 ≤ x ∧ x < (M : Int)) := fun x hx => HLB.out x (List.mem_of_mem_eraseIdx hx)
            have hIH := HIH.out n (by have h2 : q = n + 1 := HMn.out; omega)
            clear hQ hrl hC
            go_wp2_with fail
            go_at_call 67
            refine (hIH lo2 hi2 lo9 y1.heap.size y1.heap.size wr.heap.size so _ _ _ A (upd1 A h (xn : Int)) (l.eraseIdx k) true wr hre (HRa.out.below HBz.out hh2) (HNx.out.below HQ3.out.below (Nat.le_refl _)) (HQ3.out.toRow (by omega)) (by omega) (by omega) (Nat.le_refl _) HLB2.out).mono ?_
            rintro e w5 ⟨rfl, hb5⟩
            have HB5 : Hid (Below w.heap.size w w5) := HBz.out.trans (hb5.mono (by omega))
            clear hb5 hIH
            generalize badC A d n (upd1 A h (xn : Int)) (l.eraseIdx k) true = fv at HC2 hFb ⊢
            have hwr : IntKind.i64.wrap (cc + fv) = cc + fv := by rw [IntKind.wrap_i64]; omega
            go_wp2_with fail
            go_roundw
            case rel => exact ⟨k + 1, cc + fv, by omega, by go_num, rfl, HC2, HB5⟩
            case measure => simp [intOf]; omega
      · obtain rfl : k = m := by omega
        have hge : ¬ ((k : Int) < (k : Int)) := by omega
        have HV : Hid (R = cc) := by show _ = _; rw [HR.out, hC.out]
        go_wp2_with fail
        go_ret
        exact ⟨by rw [HV.out]; rfl, hB.out⟩

set_option maxRecDepth 100000 in
set_option maxHeartbeats 4000000 in
theorem bad_lt (M : Nat) (d : Int) (hM0 : 0 < M) (hM : M ≤ 10) (n : Nat) (hn : n ≤ 6) (HIH : Hid (∀ j, j < n → BadI M d j)) (lo2 hi2 lo3 hi3 lo4 hi4 : Nat) (so sf sm sl : Value) (A h l : List Int) (b : Bool) (w : World) (hl : l.length = n) (hra : Row 1 w lo2 hi2 sf M A) (hrm : Row 1 w lo3 hi3 sm M h) (hrl : Row 1 w lo4 hi4 sl n l) (hh2 : hi2 ≤ w.heap.size) (hh3 : hi3 ≤ w.heap.size) (hh4 : hi4 ≤ w.heap.size) (hlb : ∀ x ∈ l, 0 ≤ x ∧ x < (M : Int)) (hb : b = false ∧ loopy d h = true) :
    Calls Try.prog 67 #[so, sf, sm, sl, .int .i64 d, .bool b] w fun e w' => e = .returned (.int .i64 (badC A d n h l b)) ∧ Below w.heap.size w w' := by
  have HRa := Lib.hid hra
  have HRm := Lib.hid hrm
  have HRl := Lib.hid hrl
  have HLB := Lib.hid hlb
  obtain ⟨aa, ac, rfl⟩ := hra.slice
  obtain ⟨ma, mc, rfl⟩ := hrm.slice
  obtain ⟨la, lc, rfl⟩ := hrl.slice
  have HBV : Hid ((b || loopy d h) = true) := by show _ = _; rw [hb.1, hb.2]; rfl
  obtain ⟨i3, hi3, hz0, hz1, hz2⟩ := info_parts Try.info3
  have I := Lib.hid (And.intro hi3 (And.intro hz0 (And.intro hz1 hz2)))
  clear hra hrm hrl hlb hi3 hz0 hz1 hz2
  obtain ⟨hb0, hlo⟩ := hb
  subst hb0
  match n, hn, hl, HIH with
  | 0, hn, hl, _ =>
    obtain ⟨R, hR⟩ : ∃ R, R = badC A d 0 h l false := ⟨_, rfl⟩
    rw [← hR]
    have hV : Hid (R = if true = true then 1 else 0) := by show R = _; rw [hR]; show (if _ then (1 : Int) else 0) = _; rw [HBV.out]
    clear hR
    have hde : decide (0 < (loopsL h d).length) = true := by rw [empty_dec]; exact hlo
    go_enter Try.func67, Try.ntmps67
    go_wp2_with fail
    go_at_call 23
    refine (sloops_any h lo3 hi3 M _ d w HRm.out hh3).mono ?_
    rintro e w1 ⟨lv, rfl, hlr, hb1⟩
    obtain ⟨la1, lc1, rfl⟩ := hlr.slice
    have HBw := Lib.hid hb1
    clear hlr hb1 hlo
    go_wp2_with fail
    go_ret
    exact ⟨by rw [hV.out]; rfl, HBw.out⟩
  | n + 1, hn, hl, HIH =>
    have hm9 : ((((n + 1 : Nat) : Int)) == 0) = false := by simp; omega
    obtain ⟨R, hR⟩ : ∃ R, R = badC A d (n + 1) h l false := ⟨_, rfl⟩
    rw [← hR]
    have HR : Hid (R = sumR (n + 1) fun i => badC A d n (upd1 A h (l.getD i 0)) (l.eraseIdx i) true) := by
      show R = _
      rw [hR]
      show sumR (n + 1) (fun i => badC A d n (upd1 A h (l.getD i 0)) (l.eraseIdx i) (false || loopy d h)) = _
      rw [HBV.out]
    obtain ⟨m, hm⟩ : ∃ m, m = n + 1 := ⟨_, rfl⟩
    rw [← hm] at hm9 HRl HR ⊢
    have HMn := Lib.hid hm
    have hm6 : m ≤ 6 := by omega
    clear hm hR
    have hde : decide (0 < (loopsL h d).length) = true := by rw [empty_dec]; exact hlo
    go_enter Try.func67, Try.ntmps67
    go_wp2_with fail
    go_at_call 23
    refine (sloops_any h lo3 hi3 M _ d w HRm.out hh3).mono ?_
    rintro e w1 ⟨lv, rfl, hlr, hb1⟩
    obtain ⟨la1, lc1, rfl⟩ := hlr.slice
    have HBw := Lib.hid hb1
    clear hlr hb1 hlo
    go_wp2_with fail
    go_loopw [13, 14, 15, 16, 17] (fun c i _ _ _ wr => ∃ (k : Nat) (cc : Int), k ≤ m ∧ i = .int .i64 (k : Int) ∧ c = .int .i64 cc ∧ Hid (cc = sumR k fun i => badC A d n (upd1 A h (l.getD i 0)) (l.eraseIdx i) true) ∧ Hid (Below w.heap.size w wr)) (fun _ i _ _ _ _ => m - (intOf i).toNat)
    case atStart => exact ⟨0, 0, Nat.zero_le _, rfl, rfl, rfl, HBw⟩
    case round =>
      clear HBw
      obtain ⟨k, cc, hk, rfl, rfl, hC, hB⟩ := hrel
      have hszw := hB.out.size
      by_cases hlt : k < m
      · have p0 : (k : Int) < (m : Int) := by omega
        have p1 : (0 : Int) ≤ (k : Int) := by omega
        obtain ⟨lg, lc, hlv, hlg1, hlg2, hlcell⟩ := row_cells (by omega) HRl.out
        cases hlv
        have hkl : k < l.length := by have h1 : l.length = n + 1 := hl; have h2 : m = n + 1 := HMn.out; omega
        obtain ⟨x, hx⟩ : ∃ x, l[k]? = some x := ⟨l[k]'hkl, List.getElem?_eq_getElem _⟩
        have hxb := HLB.out x (List.mem_of_getElem? hx)
        obtain ⟨xn, rfl⟩ : ∃ xn : Nat, x = (xn : Int) := ⟨x.toNat, by omega⟩
        have hxM : xn < M := by omega
        have HXD : Hid (l.getD k 0 = (xn : Int)) := by show _ = _; rw [List.getD_eq_getElem?_getD, hx]; rfl
        have HX := Lib.hid hx
        have HLC := Lib.hid hlcell
        have hcp := badC_part A d (n := n) (by have h2 : m = n + 1 := HMn.out; omega) h l true (k := k) (by omega)
        rw [← hC.out] at hcp
        have HRm1 : Hid (Row 1 wr lo3 hi3 (.slice ma M mc) M h) := HRm.out.below hB.out hh3
        clear hx hxb hlcell
        go_wp2_with fail
        go_at_call 92
        refine (scopyI_any h lo3 hi3 M _ wr (by omega) HRm1.out (by omega)).mono ?_
        rintro e u1 ⟨nv, rfl, hO⟩
        obtain ⟨ng, nc, rfl⟩ := hO.form hM0
        have HBu : Hid (Below w.heap.size w u1) := hB.out.trans (hO.below.mono hszw)
        obtain ⟨ag, ac, hav, ha1, ha2, hacell⟩ := row_cells hM0 HRa.out
        cases hav
        have hAl : A.length = M := by have := HRa.out.1; omega
        have hHl : h.length = M := by have := hO.row.1; simpa [ints] using this
        obtain ⟨z, hz⟩ : ∃ z, A[xn]? = some z := ⟨A[xn]'(by omega), List.getElem?_eq_getElem _⟩
        obtain ⟨y, hy⟩ : ∃ y, h[xn]? = some y := ⟨h[xn]'(by omega), List.getElem?_eq_getElem _⟩
        have z1 : u1.cell? ⟨lg, k, none⟩ = some (.int .i64 (xn : Int)) := by rw [HBu.out.cell (p := ⟨lg, k, none⟩) (by show lg < _; omega)]; exact HLC.out k _ HX.out
        have z2 : u1.cell? ⟨ag, xn, none⟩ = some (.int .i64 z) := by rw [HBu.out.cell (p := ⟨ag, xn, none⟩) (by show ag < _; omega)]; exact hacell xn z hz
        have z3 := hO.at hxM hy
        have f3 := hO.frz xn
        have p2 : (0 : Int) ≤ (xn : Int) := by omega
        have p3 : (xn : Int) < (M : Int) := by omega
        have hng := hO.lt
        have HO1 : Hid (OwnI wr (u1.setCell ⟨ng, xn, none⟩ (.int .i64 z)).drew (.slice (some ⟨ng, 0, none⟩) M nc) M (upd1 A h (xn : Int))) := by
          have e : upd1 A h (xn : Int) = h.set xn z := by unfold upd1; rw [if_pos ⟨by omega, by omega⟩, Int.toNat_natCast, List.getD_eq_getElem?_getD, hz]; rfl
          rw [e]
          exact Lib.hid (hO.set xn z).drew
        clear hO hz hy hacell HBu
        go_wp2_with fail
        go_region
        obtain ⟨y1, hy1⟩ : ∃ y1, y1 = (u1.setCell ⟨ng, xn, none⟩ (.int .i64 z)).drew := ⟨_, rfl⟩
        rw [← hy1] at HO1 ⊢
        clear hy1 z1 z2 z3 f3
        have hsy1 := HO1.out.below.size
        obtain ⟨lo9, HNx⟩ : ∃ lo9, Hid (Row 1 y1 lo9 y1.heap.size (.slice (some ⟨ng, 0, none⟩) M nc) M (upd1 A h (xn : Int))) := ⟨_, Lib.hid (HO1.out.toRow (by omega))⟩
        have HBy : Hid (Below w.heap.size w y1) := hB.out.trans (HO1.out.below.mono hszw)
        go_wp2_with fail
        obtain ⟨y2, hy2⟩ : ∃ y2, y2 = y1.alloc (.cells #[] 3) := ⟨_, rfl⟩
        have HQ2 : Hid (OwnI y1 y2 (.slice (some ⟨y1.heap.size, 0, none⟩) 0 0) (remK l k 0).length (remK l k 0)) := by
          have e : remK l k 0 = [] := by unfold remK; simp
          rw [e, hy2]
          exact Lib.hid (OwnI.lit0 y1)
        rw [← hy2]
        clear hy2
        go_loopw [16, 17] (fun v j wr3 => ∃ q : Nat, q ≤ m ∧ j = .int .i64 (q : Int) ∧ Hid (OwnI y1 wr3 v (remK l k q).length (remK l k q))) (fun _ j _ => m - (intOf j).toNat)
        case atStart => exact ⟨0, Nat.zero_le _, rfl, HQ2⟩
        case round =>
          clear HQ2
          obtain ⟨q, hq, rfl, hQ⟩ := hrel
          have hszq := hQ.out.below.size
          obtain ⟨ta, tc, htv⟩ := own_slice hQ.out.row
          subst htv
          have hkl2 := remK_len l k q
          by_cases hql : q < m
          · have p4 : (q : Int) < (m : Int) := by omega
            have p5 : (0 : Int) ≤ (q : Int) := by omega
            by_cases hqk : q = k
            · subst hqk
              have x1 : ((q : Int) == (q : Int)) = true := by simp
              have x2 : ((q : Int) != (q : Int)) = false := by simp
              have HN : Hid (OwnI y1 wr (.slice ta (remK l q q).length tc) (remK l q (q + 1)).length (remK l q (q + 1))) := by rw [remK_same HX.out]; exact hQ
              clear hQ
              go_wp2_with fail
              go_roundw
              case rel => exact ⟨q + 1, by omega, by go_num, HN⟩
              case measure => simp [intOf]; omega
            · have x1 : ((q : Int) == (k : Int)) = false := by simp; omega
              have x2 : ((q : Int) != (k : Int)) = true := by simp; omega
              obtain ⟨t, ht⟩ : ∃ t, l[q]? = some t := ⟨l[q]'(by have h1 : l.length = n + 1 := hl; have h2 : m = n + 1 := HMn.out; omega), List.getElem?_eq_getElem _⟩
              have HT := Lib.hid (remK_other ht hqk)
              have z4 : wr.cell? ⟨lg, q, none⟩ = some (.int .i64 t) := by rw [hQ.out.below.cell (p := ⟨lg, q, none⟩) (by show lg < _; omega), HBy.out.cell (p := ⟨lg, q, none⟩) (by show lg < _; omega)]; exact HLC.out q t ht
              obtain ⟨Y, hY⟩ : ∃ Y, Y = remK l k q := ⟨_, rfl⟩
              rw [← hY] at hQ HT hkl2 ⊢
              have Hw := Lib.hid hQ.out.row
              clear ht hY hqk
              go_wp2_with (at_builtin; refine wpList_append_lies _ rfl _ _ 33 rfl y1.heap.size 3 i3 (.int .i64 0) 1 8 Try.underlying33 I.out.1 I.out.2.1 I.out.2.2.1 I.out.2.2.2 rfl (by decide) _ Y.length (ints Y) rfl (Hw.out.alloc _) ⟨wr.heap.size, 0, none⟩ 1 1 [.int .i64 t] rfl rfl ?d0 (int_one _) (by decide) ?d1 ?d2 ?d3 _ rfl ?_)
              case d0 => exact fun a u ha => cell_one_new _ _ 3 rfl a u ha
              case d1 => unfold maxLen; omega
              case d2 => omega
              case d3 => simp; omega
              intro g4 cap4 w4 hown4 hgrow4 hat4 hlt4
              have HF : Hid (OwnI y1 w4 (.slice (some ⟨g4, 0, none⟩) (Y.length + 1) cap4) (remK l k (q + 1)).length (remK l k (q + 1))) := by
                rw [HT.out, show (Y ++ [t]).length = Y.length + 1 by simp]
                exact (hQ.out.grow ((Below.refl _ _).alloc (Nat.le_refl _) _)).app hgrow4 hown4
              clear hown4 hgrow4 hat4 hlt4 hQ Hw z4
              go_wp2_with fail
              go_roundw
              case rel => exact ⟨q + 1, by omega, by go_num, HF⟩
              case measure => simp [intOf]; omega
          · obtain rfl : q = m := by omega
            have hge : ¬ ((q : Int) < (q : Int)) := by omega
            have hrl : remK l k q = l.eraseIdx k := by
              have h1 : l.length = n + 1 := hl
              have h2 : q = n + 1 := HMn.out
              rw [h2, ← h1, remK_all]
            have hre : (l.eraseIdx k).length = n := by rw [List.length_eraseIdx, if_pos hkl]; have h1 : l.length = n + 1 := hl; omega
            have HQ3 : Hid (OwnI y1 wr (.slice ta n tc) n (l.eraseIdx k)) := by
              have := hQ.out
              rw [hrl, hre] at this
              exact this
            rw [show (remK l k q).length = n by rw [hrl, hre]]
            have HBz : Hid (Below w.heap.size w wr) := HBy.out.trans (hQ.out.below.mono (by omega))
            have hFb := badC_bound A d n (by have h2 : q = n + 1 := HMn.out; omega) (upd1 A h (xn : Int)) (l.eraseIdx k) true
            have hFm := powS_mono n (by have h2 : q = n + 1 := HMn.out; omega)
            have HC2 : Hid (cc + badC A d n (upd1 A h (xn : Int)) (l.eraseIdx k) true = sumR (k + 1) fun i => badC A d n (upd1 A h (l.getD i 0)) (l.eraseIdx i) true) := by
              show cc + badC A d n (upd1 A h (xn : Int)) (l.eraseIdx k) true = sumR k (fun i => badC A d n (upd1 A h (l.getD i 0)) (l.eraseIdx i) true) + badC A d n (upd1 A h (l.getD k 0)) (l.eraseIdx k) true
              rw [← hC.out, HXD.out]
            have HLB2 : Hid (∀ x ∈ l.eraseIdx k, 0 ≤ x ∧ x < (M : Int)) := fun x hx => HLB.out x (List.mem_of_mem_eraseIdx hx)
            have hIH := HIH.out n (by have h2 : q = n + 1 := HMn.out; omega)
            clear hQ hrl hC
            go_wp2_with fail
            go_at_call 67
            refine (hIH lo2 hi2 lo9 y1.heap.size y1.heap.size wr.heap.size so _ _ _ A (upd1 A h (xn : Int)) (l.eraseIdx k) true wr hre (HRa.out.below HBz.out hh2) (HNx.out.below HQ3.out.below (Nat.le_refl _)) (HQ3.out.toRow (by omega)) (by omega) (by omega) (Nat.le_refl _) HLB2.out).mono ?_
            rintro e w5 ⟨rfl, hb5⟩
            have HB5 : Hid (Below w.heap.size w w5) := HBz.out.trans (hb5.mono (by omega))
            clear hb5 hIH
            generalize badC A d n (upd1 A h (xn : Int)) (l.eraseIdx k) true = fv at HC2 hFb ⊢
            have hwr : IntKind.i64.wrap (cc + fv) = cc + fv := by rw [IntKind.wrap_i64]; omega
            go_wp2_with fail
            go_roundw
            case rel => exact ⟨k + 1, cc + fv, by omega, by go_num, rfl, HC2, HB5⟩
            case measure => simp [intOf]; omega
      · obtain rfl : k = m := by omega
        have hge : ¬ ((k : Int) < (k : Int)) := by omega
        have HV : Hid (R = cc) := by show _ = _; rw [HR.out, hC.out]
        go_wp2_with fail
        go_ret
        exact ⟨by rw [HV.out]; rfl, hB.out⟩

set_option maxRecDepth 100000 in
set_option maxHeartbeats 4000000 in
theorem bad_lf (M : Nat) (d : Int) (hM0 : 0 < M) (hM : M ≤ 10) (n : Nat) (hn : n ≤ 6) (HIH : Hid (∀ j, j < n → BadI M d j)) (lo2 hi2 lo3 hi3 lo4 hi4 : Nat) (so sf sm sl : Value) (A h l : List Int) (b : Bool) (w : World) (hl : l.length = n) (hra : Row 1 w lo2 hi2 sf M A) (hrm : Row 1 w lo3 hi3 sm M h) (hrl : Row 1 w lo4 hi4 sl n l) (hh2 : hi2 ≤ w.heap.size) (hh3 : hi3 ≤ w.heap.size) (hh4 : hi4 ≤ w.heap.size) (hlb : ∀ x ∈ l, 0 ≤ x ∧ x < (M : Int)) (hb : b = false ∧ loopy d h = false) :
    Calls Try.prog 67 #[so, sf, sm, sl, .int .i64 d, .bool b] w fun e w' => e = .returned (.int .i64 (badC A d n h l b)) ∧ Below w.heap.size w w' := by
  have HRa := Lib.hid hra
  have HRm := Lib.hid hrm
  have HRl := Lib.hid hrl
  have HLB := Lib.hid hlb
  obtain ⟨aa, ac, rfl⟩ := hra.slice
  obtain ⟨ma, mc, rfl⟩ := hrm.slice
  obtain ⟨la, lc, rfl⟩ := hrl.slice
  have HBV : Hid ((b || loopy d h) = false) := by show _ = _; rw [hb.1, hb.2]; rfl
  obtain ⟨i3, hi3, hz0, hz1, hz2⟩ := info_parts Try.info3
  have I := Lib.hid (And.intro hi3 (And.intro hz0 (And.intro hz1 hz2)))
  clear hra hrm hrl hlb hi3 hz0 hz1 hz2
  obtain ⟨hb0, hlo⟩ := hb
  subst hb0
  match n, hn, hl, HIH with
  | 0, hn, hl, _ =>
    obtain ⟨R, hR⟩ : ∃ R, R = badC A d 0 h l false := ⟨_, rfl⟩
    rw [← hR]
    have hV : Hid (R = if false = true then 1 else 0) := by show R = _; rw [hR]; show (if _ then (1 : Int) else 0) = _; rw [HBV.out]
    clear hR
    have hde : decide (0 < (loopsL h d).length) = false := by rw [empty_dec]; exact hlo
    go_enter Try.func67, Try.ntmps67
    go_wp2_with fail
    go_at_call 23
    refine (sloops_any h lo3 hi3 M _ d w HRm.out hh3).mono ?_
    rintro e w1 ⟨lv, rfl, hlr, hb1⟩
    obtain ⟨la1, lc1, rfl⟩ := hlr.slice
    have HBw := Lib.hid hb1
    clear hlr hb1 hlo
    go_wp2_with fail
    go_ret
    exact ⟨by rw [hV.out]; rfl, HBw.out⟩
  | n + 1, hn, hl, HIH =>
    have hm9 : ((((n + 1 : Nat) : Int)) == 0) = false := by simp; omega
    obtain ⟨R, hR⟩ : ∃ R, R = badC A d (n + 1) h l false := ⟨_, rfl⟩
    rw [← hR]
    have HR : Hid (R = sumR (n + 1) fun i => badC A d n (upd1 A h (l.getD i 0)) (l.eraseIdx i) false) := by
      show R = _
      rw [hR]
      show sumR (n + 1) (fun i => badC A d n (upd1 A h (l.getD i 0)) (l.eraseIdx i) (false || loopy d h)) = _
      rw [HBV.out]
    obtain ⟨m, hm⟩ : ∃ m, m = n + 1 := ⟨_, rfl⟩
    rw [← hm] at hm9 HRl HR ⊢
    have HMn := Lib.hid hm
    have hm6 : m ≤ 6 := by omega
    clear hm hR
    have hde : decide (0 < (loopsL h d).length) = false := by rw [empty_dec]; exact hlo
    go_enter Try.func67, Try.ntmps67
    go_wp2_with fail
    go_at_call 23
    refine (sloops_any h lo3 hi3 M _ d w HRm.out hh3).mono ?_
    rintro e w1 ⟨lv, rfl, hlr, hb1⟩
    obtain ⟨la1, lc1, rfl⟩ := hlr.slice
    have HBw := Lib.hid hb1
    clear hlr hb1 hlo
    go_wp2_with fail
    go_loopw [13, 14, 15, 16, 17] (fun c i _ _ _ wr => ∃ (k : Nat) (cc : Int), k ≤ m ∧ i = .int .i64 (k : Int) ∧ c = .int .i64 cc ∧ Hid (cc = sumR k fun i => badC A d n (upd1 A h (l.getD i 0)) (l.eraseIdx i) false) ∧ Hid (Below w.heap.size w wr)) (fun _ i _ _ _ _ => m - (intOf i).toNat)
    case atStart => exact ⟨0, 0, Nat.zero_le _, rfl, rfl, rfl, HBw⟩
    case round =>
      clear HBw
      obtain ⟨k, cc, hk, rfl, rfl, hC, hB⟩ := hrel
      have hszw := hB.out.size
      by_cases hlt : k < m
      · have p0 : (k : Int) < (m : Int) := by omega
        have p1 : (0 : Int) ≤ (k : Int) := by omega
        obtain ⟨lg, lc, hlv, hlg1, hlg2, hlcell⟩ := row_cells (by omega) HRl.out
        cases hlv
        have hkl : k < l.length := by have h1 : l.length = n + 1 := hl; have h2 : m = n + 1 := HMn.out; omega
        obtain ⟨x, hx⟩ : ∃ x, l[k]? = some x := ⟨l[k]'hkl, List.getElem?_eq_getElem _⟩
        have hxb := HLB.out x (List.mem_of_getElem? hx)
        obtain ⟨xn, rfl⟩ : ∃ xn : Nat, x = (xn : Int) := ⟨x.toNat, by omega⟩
        have hxM : xn < M := by omega
        have HXD : Hid (l.getD k 0 = (xn : Int)) := by show _ = _; rw [List.getD_eq_getElem?_getD, hx]; rfl
        have HX := Lib.hid hx
        have HLC := Lib.hid hlcell
        have hcp := badC_part A d (n := n) (by have h2 : m = n + 1 := HMn.out; omega) h l false (k := k) (by omega)
        rw [← hC.out] at hcp
        have HRm1 : Hid (Row 1 wr lo3 hi3 (.slice ma M mc) M h) := HRm.out.below hB.out hh3
        clear hx hxb hlcell
        go_wp2_with fail
        go_at_call 92
        refine (scopyI_any h lo3 hi3 M _ wr (by omega) HRm1.out (by omega)).mono ?_
        rintro e u1 ⟨nv, rfl, hO⟩
        obtain ⟨ng, nc, rfl⟩ := hO.form hM0
        have HBu : Hid (Below w.heap.size w u1) := hB.out.trans (hO.below.mono hszw)
        obtain ⟨ag, ac, hav, ha1, ha2, hacell⟩ := row_cells hM0 HRa.out
        cases hav
        have hAl : A.length = M := by have := HRa.out.1; omega
        have hHl : h.length = M := by have := hO.row.1; simpa [ints] using this
        obtain ⟨z, hz⟩ : ∃ z, A[xn]? = some z := ⟨A[xn]'(by omega), List.getElem?_eq_getElem _⟩
        obtain ⟨y, hy⟩ : ∃ y, h[xn]? = some y := ⟨h[xn]'(by omega), List.getElem?_eq_getElem _⟩
        have z1 : u1.cell? ⟨lg, k, none⟩ = some (.int .i64 (xn : Int)) := by rw [HBu.out.cell (p := ⟨lg, k, none⟩) (by show lg < _; omega)]; exact HLC.out k _ HX.out
        have z2 : u1.cell? ⟨ag, xn, none⟩ = some (.int .i64 z) := by rw [HBu.out.cell (p := ⟨ag, xn, none⟩) (by show ag < _; omega)]; exact hacell xn z hz
        have z3 := hO.at hxM hy
        have f3 := hO.frz xn
        have p2 : (0 : Int) ≤ (xn : Int) := by omega
        have p3 : (xn : Int) < (M : Int) := by omega
        have hng := hO.lt
        have HO1 : Hid (OwnI wr (u1.setCell ⟨ng, xn, none⟩ (.int .i64 z)).drew (.slice (some ⟨ng, 0, none⟩) M nc) M (upd1 A h (xn : Int))) := by
          have e : upd1 A h (xn : Int) = h.set xn z := by unfold upd1; rw [if_pos ⟨by omega, by omega⟩, Int.toNat_natCast, List.getD_eq_getElem?_getD, hz]; rfl
          rw [e]
          exact Lib.hid (hO.set xn z).drew
        clear hO hz hy hacell HBu
        go_wp2_with fail
        go_region
        obtain ⟨y1, hy1⟩ : ∃ y1, y1 = (u1.setCell ⟨ng, xn, none⟩ (.int .i64 z)).drew := ⟨_, rfl⟩
        rw [← hy1] at HO1 ⊢
        clear hy1 z1 z2 z3 f3
        have hsy1 := HO1.out.below.size
        obtain ⟨lo9, HNx⟩ : ∃ lo9, Hid (Row 1 y1 lo9 y1.heap.size (.slice (some ⟨ng, 0, none⟩) M nc) M (upd1 A h (xn : Int))) := ⟨_, Lib.hid (HO1.out.toRow (by omega))⟩
        have HBy : Hid (Below w.heap.size w y1) := hB.out.trans (HO1.out.below.mono hszw)
        go_wp2_with fail
        obtain ⟨y2, hy2⟩ : ∃ y2, y2 = y1.alloc (.cells #[] 3) := ⟨_, rfl⟩
        have HQ2 : Hid (OwnI y1 y2 (.slice (some ⟨y1.heap.size, 0, none⟩) 0 0) (remK l k 0).length (remK l k 0)) := by
          have e : remK l k 0 = [] := by unfold remK; simp
          rw [e, hy2]
          exact Lib.hid (OwnI.lit0 y1)
        rw [← hy2]
        clear hy2
        go_loopw [16, 17] (fun v j wr3 => ∃ q : Nat, q ≤ m ∧ j = .int .i64 (q : Int) ∧ Hid (OwnI y1 wr3 v (remK l k q).length (remK l k q))) (fun _ j _ => m - (intOf j).toNat)
        case atStart => exact ⟨0, Nat.zero_le _, rfl, HQ2⟩
        case round =>
          clear HQ2
          obtain ⟨q, hq, rfl, hQ⟩ := hrel
          have hszq := hQ.out.below.size
          obtain ⟨ta, tc, htv⟩ := own_slice hQ.out.row
          subst htv
          have hkl2 := remK_len l k q
          by_cases hql : q < m
          · have p4 : (q : Int) < (m : Int) := by omega
            have p5 : (0 : Int) ≤ (q : Int) := by omega
            by_cases hqk : q = k
            · subst hqk
              have x1 : ((q : Int) == (q : Int)) = true := by simp
              have x2 : ((q : Int) != (q : Int)) = false := by simp
              have HN : Hid (OwnI y1 wr (.slice ta (remK l q q).length tc) (remK l q (q + 1)).length (remK l q (q + 1))) := by rw [remK_same HX.out]; exact hQ
              clear hQ
              go_wp2_with fail
              go_roundw
              case rel => exact ⟨q + 1, by omega, by go_num, HN⟩
              case measure => simp [intOf]; omega
            · have x1 : ((q : Int) == (k : Int)) = false := by simp; omega
              have x2 : ((q : Int) != (k : Int)) = true := by simp; omega
              obtain ⟨t, ht⟩ : ∃ t, l[q]? = some t := ⟨l[q]'(by have h1 : l.length = n + 1 := hl; have h2 : m = n + 1 := HMn.out; omega), List.getElem?_eq_getElem _⟩
              have HT := Lib.hid (remK_other ht hqk)
              have z4 : wr.cell? ⟨lg, q, none⟩ = some (.int .i64 t) := by rw [hQ.out.below.cell (p := ⟨lg, q, none⟩) (by show lg < _; omega), HBy.out.cell (p := ⟨lg, q, none⟩) (by show lg < _; omega)]; exact HLC.out q t ht
              obtain ⟨Y, hY⟩ : ∃ Y, Y = remK l k q := ⟨_, rfl⟩
              rw [← hY] at hQ HT hkl2 ⊢
              have Hw := Lib.hid hQ.out.row
              clear ht hY hqk
              go_wp2_with (at_builtin; refine wpList_append_lies _ rfl _ _ 33 rfl y1.heap.size 3 i3 (.int .i64 0) 1 8 Try.underlying33 I.out.1 I.out.2.1 I.out.2.2.1 I.out.2.2.2 rfl (by decide) _ Y.length (ints Y) rfl (Hw.out.alloc _) ⟨wr.heap.size, 0, none⟩ 1 1 [.int .i64 t] rfl rfl ?d0 (int_one _) (by decide) ?d1 ?d2 ?d3 _ rfl ?_)
              case d0 => exact fun a u ha => cell_one_new _ _ 3 rfl a u ha
              case d1 => unfold maxLen; omega
              case d2 => omega
              case d3 => simp; omega
              intro g4 cap4 w4 hown4 hgrow4 hat4 hlt4
              have HF : Hid (OwnI y1 w4 (.slice (some ⟨g4, 0, none⟩) (Y.length + 1) cap4) (remK l k (q + 1)).length (remK l k (q + 1))) := by
                rw [HT.out, show (Y ++ [t]).length = Y.length + 1 by simp]
                exact (hQ.out.grow ((Below.refl _ _).alloc (Nat.le_refl _) _)).app hgrow4 hown4
              clear hown4 hgrow4 hat4 hlt4 hQ Hw z4
              go_wp2_with fail
              go_roundw
              case rel => exact ⟨q + 1, by omega, by go_num, HF⟩
              case measure => simp [intOf]; omega
          · obtain rfl : q = m := by omega
            have hge : ¬ ((q : Int) < (q : Int)) := by omega
            have hrl : remK l k q = l.eraseIdx k := by
              have h1 : l.length = n + 1 := hl
              have h2 : q = n + 1 := HMn.out
              rw [h2, ← h1, remK_all]
            have hre : (l.eraseIdx k).length = n := by rw [List.length_eraseIdx, if_pos hkl]; have h1 : l.length = n + 1 := hl; omega
            have HQ3 : Hid (OwnI y1 wr (.slice ta n tc) n (l.eraseIdx k)) := by
              have := hQ.out
              rw [hrl, hre] at this
              exact this
            rw [show (remK l k q).length = n by rw [hrl, hre]]
            have HBz : Hid (Below w.heap.size w wr) := HBy.out.trans (hQ.out.below.mono (by omega))
            have hFb := badC_bound A d n (by have h2 : q = n + 1 := HMn.out; omega) (upd1 A h (xn : Int)) (l.eraseIdx k) false
            have hFm := powS_mono n (by have h2 : q = n + 1 := HMn.out; omega)
            have HC2 : Hid (cc + badC A d n (upd1 A h (xn : Int)) (l.eraseIdx k) false = sumR (k + 1) fun i => badC A d n (upd1 A h (l.getD i 0)) (l.eraseIdx i) false) := by
              show cc + badC A d n (upd1 A h (xn : Int)) (l.eraseIdx k) false = sumR k (fun i => badC A d n (upd1 A h (l.getD i 0)) (l.eraseIdx i) false) + badC A d n (upd1 A h (l.getD k 0)) (l.eraseIdx k) false
              rw [← hC.out, HXD.out]
            have HLB2 : Hid (∀ x ∈ l.eraseIdx k, 0 ≤ x ∧ x < (M : Int)) := fun x hx => HLB.out x (List.mem_of_mem_eraseIdx hx)
            have hIH := HIH.out n (by have h2 : q = n + 1 := HMn.out; omega)
            clear hQ hrl hC
            go_wp2_with fail
            go_at_call 67
            refine (hIH lo2 hi2 lo9 y1.heap.size y1.heap.size wr.heap.size so _ _ _ A (upd1 A h (xn : Int)) (l.eraseIdx k) false wr hre (HRa.out.below HBz.out hh2) (HNx.out.below HQ3.out.below (Nat.le_refl _)) (HQ3.out.toRow (by omega)) (by omega) (by omega) (Nat.le_refl _) HLB2.out).mono ?_
            rintro e w5 ⟨rfl, hb5⟩
            have HB5 : Hid (Below w.heap.size w w5) := HBz.out.trans (hb5.mono (by omega))
            clear hb5 hIH
            generalize badC A d n (upd1 A h (xn : Int)) (l.eraseIdx k) false = fv at HC2 hFb ⊢
            have hwr : IntKind.i64.wrap (cc + fv) = cc + fv := by rw [IntKind.wrap_i64]; omega
            go_wp2_with fail
            go_roundw
            case rel => exact ⟨k + 1, cc + fv, by omega, by go_num, rfl, HC2, HB5⟩
            case measure => simp [intOf]; omega
      · obtain rfl : k = m := by omega
        have hge : ¬ ((k : Int) < (k : Int)) := by omega
        have HV : Hid (R = cc) := by show _ = _; rw [HR.out, hC.out]
        go_wp2_with fail
        go_ret
        exact ⟨by rw [HV.out]; rfl, hB.out⟩

theorem bad_all (M : Nat) (d : Int) (hM0 : 0 < M) (hM : M ≤ 10) : ∀ n, n ≤ 6 → BadI M d n := by
  intro n
  induction n using Nat.strongRecOn with
  | ind n ih =>
    intro hn lo2 hi2 lo3 hi3 lo4 hi4 so sf sm sl A h l b w hl hra hrm hrl hh2 hh3 hh4 hlb
    have HIH : Hid (∀ j, j < n → BadI M d j) := fun j hj => ih j hj (by omega)
    cases b with
    | true => exact bad_t M d hM0 hM n hn HIH lo2 hi2 lo3 hi3 lo4 hi4 so sf sm sl A h l true w hl hra hrm hrl hh2 hh3 hh4 hlb rfl
    | false =>
      cases e : loopy d h with
      | true => exact bad_lt M d hM0 hM n hn HIH lo2 hi2 lo3 hi3 lo4 hi4 so sf sm sl A h l false w hl hra hrm hrl hh2 hh3 hh4 hlb ⟨rfl, e⟩
      | false => exact bad_lf M d hM0 hM n hn HIH lo2 hi2 lo3 hi3 lo4 hi4 so sf sm sl A h l false w hl hra hrm hrl hh2 hh3 hh4 hlb ⟨rfl, e⟩

/-- Two rows of numbers of one's own, apart. -/
structure TwoI (w wr : World) (u v : Value) (n : Nat) (Z A : List Int) : Prop where
  fst : OwnI w wr u n Z
  snd : OwnI w wr v n A
  apart : ∀ b, u.ownBlock = some b → v.ownBlock = some b → False

set_option maxRecDepth 100000 in
set_option maxHeartbeats 4000000 in
theorem scnt2_any (N1 N2 : Int) (lo1 hi1 n1 lo2 hi2 n2 : Nat) (s1 s2 : Value) (L1 L2 : List Ed) (d : Int) (w : World) (hL1 : L1.length = n1) (hL2 : L2.length = n2) (hr1 : Row 3 w lo1 hi1 s1 n1 (flat L1)) (hr2 : Row 3 w lo2 hi2 s2 n2 (flat L2)) (hh1 : hi1 ≤ w.heap.size) (hh2 : hi2 ≤ w.heap.size) :
    Calls Try.prog 29 #[.agg #[.int .i64 N1, s1], .agg #[.int .i64 N2, s2], .int .i64 d] w fun e w' => e = .returned (.int .i64 (cntV N1 L1 N2 L2 d)) ∧ Below w.heap.size w w' := by
  obtain ⟨ad1, cp1, rfl⟩ := hr1.slice
  obtain ⟨ad2, cp2, rfl⟩ := hr2.slice
  have HY0 := Lib.hid (Gy.start (N1 := N1) (N2 := N2) hr1 hr2 hh1 hh2)
  have HB0 := Lib.hid HY0.out.below
  clear hr1 hr2 hh1 hh2
  obtain ⟨R, hR⟩ : ∃ R, R = cntV N1 L1 N2 L2 d := ⟨_, rfl⟩
  rw [← hR]
  have HR := Lib.hid hR
  obtain ⟨i3, hi3, hz0, hz1, hz2⟩ := info_parts Try.info3
  have I := Lib.hid (And.intro hi3 (And.intro hz0 (And.intro hz1 hz2)))
  clear hR hi3 hz0 hz1 hz2
  go_enter Try.func29, Try.ntmps29
  go_wp2_with fail
  obtain ⟨v0, hv0⟩ : ∃ v0, v0 = ((w.alloc (.cells #[.int .i64 N1, .slice ad1 n1 cp1] 29)).alloc (.cells #[.int .i64 N2, .slice ad2 n2 cp2] 29)) := ⟨_, rfl⟩
  rw [← hv0] at HY0 HB0 ⊢
  clear hv0
  have a0 := HY0.out.a0
  have a1 := HY0.out.a1
  have b0 := HY0.out.b0
  have b1 := HY0.out.b1
  go_at_call 54
  refine (fine_any N1 N2 lo1 hi1 n1 lo2 hi2 n2 _ _ L1 L2 d v0 hL1 hL2 HY0.out.row1 HY0.out.row2 HY0.out.hi1 HY0.out.hi2).mono ?_
  rintro e v1 ⟨rfl, hb1⟩
  have HY1 := Lib.hid (HY0.out.grow hb1)
  clear hb1 a0 a1 b0 b1 HY0
  have a0 := HY1.out.a0
  have a1 := HY1.out.a1
  have b0 := HY1.out.b0
  have b1 := HY1.out.b1
  have hlt1 := HY1.out.lt
  cases hf : fineB N1 L1 N2 L2 d with
  | false =>
    have HE : Hid (R = -1) := HR.out.trans (cntV_no (fun h => by rw [hf] at h; exact Bool.false_ne_true h.1))
    clear hf
    go_wp2_with fail
    go_ret
    exact ⟨by rw [HE.out]; rfl, HY1.out.below⟩
  | true =>
    have hG := (fineB_iff.1 hf).1
    have hN := gok_parts hG
    have hd := (fineB_iff.1 hf).2.2.2
    obtain ⟨M, rfl⟩ : ∃ M : Nat, N1 = (M : Int) := ⟨N1.toNat, by omega⟩
    have hNN := (fineB_iff.1 hf).2.2.1
    subst hNN
    have hM0 : 0 < M := by omega
    have hM1 : M ≤ 10 := by omega
    have HF := Lib.hid hf
    clear hf hG hN hd
    by_cases hm : M ≤ 6
    · have hm3 : ¬ ((M : Int) > 6) := by omega
      have hm4 : decide ((M : Int) > 6) = false := decide_eq_false hm3
      have HE : Hid (R = badC (towK (M : Int) L2 d M) d M (towK (M : Int) L1 d M) (ndK M) false) := HR.out.trans (by rw [cntV_yes HF.out (by omega), Int.toNat_natCast])
      have hd1 : w.heap.size < v1.heap.size := by omega
      have he1 : w.heap.size ≠ v1.heap.size := by omega
      have he2 : w.heap.size + 1 ≠ v1.heap.size := by omega
      go_wp2_with fail
      obtain ⟨v2, hv2⟩ : ∃ v2, v2 = v1.alloc (.cells #[] 3) := ⟨_, rfl⟩
      have HA2 : Hid (OwnI v1 v2 (.slice (some ⟨v1.heap.size, 0, none⟩) 0 0) 0 (ndK 0)) := by rw [hv2]; exact Lib.hid (OwnI.lit0 v1)
      have hs2 : v2.heap.size = v1.heap.size + 1 := by rw [hv2]; simp
      rw [← hv2]
      clear hv2
      obtain ⟨v3, hv3⟩ : ∃ v3, v3 = v2.alloc (.cells #[] 3) := ⟨_, rfl⟩
      have HC3 : Hid (OwnI v2 v3 (.slice (some ⟨v1.heap.size + 1, 0, none⟩) 0 0) 0 (towK (M : Int) L2 d 0)) := by rw [← hs2, hv3]; exact Lib.hid (OwnI.lit0 v2)
      rw [← hv3]
      clear hv3
      have HT0 : Hid (TwoI v1 v3 (.slice (some ⟨v1.heap.size, 0, none⟩) 0 0) (.slice (some ⟨v1.heap.size + 1, 0, none⟩) 0 0) 0 (ndK 0) (towK (M : Int) L2 d 0)) := ⟨HA2.out.grow HC3.out.below, HC3.out.base HA2.out.below, fun b h1 h2 => by
        have e1 : v1.heap.size = b := by simpa [Value.ownBlock] using h1
        have e2 : v1.heap.size + 1 = b := by simpa [Value.ownBlock] using h2
        omega⟩
      clear HA2 HC3 hs2
      go_loopw [7, 8, 9] (fun u v i wr => ∃ k : Nat, k ≤ M ∧ i = .int .i64 (k : Int) ∧ Hid (TwoI v1 wr u v k (ndK k) (towK (M : Int) L2 d k))) (fun _ _ i _ => M - (intOf i).toNat)
      case atStart => exact ⟨0, Nat.zero_le _, rfl, HT0⟩
      case round =>
        clear HT0 a0 a1 b0 b1
        obtain ⟨k, hk, rfl, hT⟩ := hrel
        have HYr := Lib.hid (HY1.out.grow hT.out.fst.below)
        have a0 := HYr.out.a0
        have a1 := HYr.out.a1
        have b0 := HYr.out.b0
        have b1 := HYr.out.b1
        obtain ⟨ua, uc, hu⟩ := own_slice hT.out.fst.row
        obtain ⟨va, vc, hv⟩ := own_slice hT.out.snd.row
        subst hu
        subst hv
        have hszr := hT.out.fst.below.size
        by_cases hlt : k < M
        · have q0 : (k : Int) < (M : Int) := by omega
          have Hw := Lib.hid hT.out.fst.row
          have htl := towK_len (M : Int) L2 d k
          have hnl := ndK_len k
          have Htl := Lib.hid (And.intro htl hnl)
          clear htl hnl
          go_wp2_with (at_builtin; refine wpList_append_lies _ rfl _ _ 33 rfl v1.heap.size 3 i3 (.int .i64 0) 1 8 Try.underlying33 I.out.1 I.out.2.1 I.out.2.2.1 I.out.2.2.2 rfl (by decide) _ k (ints (ndK k)) rfl (Hw.out.alloc _) ⟨wr.heap.size, 0, none⟩ 1 1 [.int .i64 (k : Int)] rfl rfl ?d0 (int_one _) (by decide) ?d1 ?d2 ?d3 _ rfl ?_)
          case d0 => exact fun a u ha => cell_one_new _ _ 3 rfl a u ha
          case d1 => unfold maxLen; omega
          case d2 => omega
          case d3 => simp; omega
          intro g4 cap4 w4 hown4 hgrow4 hat4 hlt4
          have HF1 : Hid (OwnI v1 w4 (.slice (some ⟨g4, 0, none⟩) (k + 1) cap4) (k + 1) (ndK (k + 1))) := by
            rw [ndK_succ]
            exact (hT.out.fst.grow ((Below.refl _ _).alloc (Nat.le_refl _) _)).app hgrow4 hown4
          have hvne : ∀ b, Value.ownBlock (.slice va k vc) = some b → b < wr.heap.size ∧ Value.ownBlock (.slice ua k uc) ≠ some b := fun b hb => ⟨(hT.out.snd.row.lt b hb).2, fun h => hT.out.apart b h hb⟩
          have HF2 : Hid (OwnI v1 w4 (.slice va k vc) k (towK (M : Int) L2 d k)) := by
            have h0 := hT.out.snd.grow ((Below.refl wr.heap.size wr).alloc (Nat.le_refl _) (.cells #[.int .i64 (k : Int)] 3))
            refine ⟨HF1.out.below, h0.row.kept hgrow4 ?_⟩
            cases hvb : Value.ownBlock (.slice va k vc) with
            | none => exact .inl rfl
            | some b => exact .inr (fun h => (hvne b hvb).2 h.symm)
          have HF3 : Hid (∀ b, Value.ownBlock (.slice (some ⟨g4, 0, none⟩) (k + 1) cap4) = some b → Value.ownBlock (.slice va k vc) = some b → False) := fun b h1 h2 => by
            have e1 : g4 = b := by simpa [Value.ownBlock] using h1
            subst e1
            rcases hat4 with h | h
            · exact (hvne g4 h2).2 h
            · have := (hvne g4 h2).1; rw [h] at this; omega
          have HYw := Lib.hid (HY1.out.grow HF1.out.below)
          have a0 := HYw.out.a0
          have a1 := HYw.out.a1
          have b0 := HYw.out.b0
          have b1 := HYw.out.b1
          have hs4 := HF1.out.below.size
          clear hown4 hgrow4 hat4 hlt4 hT Hw hvne HYr
          go_wp2_with fail
          go_at_call 12
          refine (shv_any (M : Int) lo2 hi2 n2 _ L2 (k : Int) d _ hL2 HYw.out.row2 HYw.out.hi2).mono ?_
          rintro e w5 ⟨rfl, hb5⟩
          have HG1 := Lib.hid (HF1.out.grow hb5)
          have HG2 := Lib.hid (HF2.out.grow hb5)
          have hs5 := HG1.out.below.size
          have hg45 : g4 < w5.heap.size := by have := HG1.out.lt; omega
          have HKT := Lib.hid (towK_succ (M : Int) L2 d k)
          clear hb5 HF1 HF2 HYw a0 a1 b0 b1
          generalize hopV (M : Int) L2 (k : Int) d = hv at HKT ⊢
          have Hw := Lib.hid HG2.out.row
          go_wp2_with (at_builtin; refine wpList_append_lies _ rfl _ _ 33 rfl v1.heap.size 3 i3 (.int .i64 0) 1 8 Try.underlying33 I.out.1 I.out.2.1 I.out.2.2.1 I.out.2.2.2 rfl (by decide) _ k (ints (towK (M : Int) L2 d k)) rfl (Hw.out.alloc _) ⟨w5.heap.size, 0, none⟩ 1 1 [.int .i64 hv] rfl rfl ?d0 (int_one _) (by decide) ?d1 ?d2 ?d3 _ rfl ?_)
          case d0 => exact fun a u ha => cell_one_new _ _ 3 rfl a u ha
          case d1 => unfold maxLen; omega
          case d2 => omega
          case d3 => simp; omega
          intro g6 cap6 w6 hown6 hgrow6 hat6 hlt6
          have HH2 : Hid (OwnI v1 w6 (.slice (some ⟨g6, 0, none⟩) (k + 1) cap6) (k + 1) (towK (M : Int) L2 d (k + 1))) := by
            rw [HKT.out]
            exact (HG2.out.grow ((Below.refl _ _).alloc (Nat.le_refl _) _)).app hgrow6 hown6
          have HH1 : Hid (OwnI v1 w6 (.slice (some ⟨g4, 0, none⟩) (k + 1) cap4) (k + 1) (ndK (k + 1))) := by
            have h0 := HG1.out.grow ((Below.refl w5.heap.size w5).alloc (Nat.le_refl _) (.cells #[.int .i64 hv] 3))
            exact ⟨HH2.out.below, h0.row.kept hgrow6 (.inr (fun h => HF3.out g4 rfl h.symm))⟩
          have HH3 : Hid (∀ b, Value.ownBlock (.slice (some ⟨g4, 0, none⟩) (k + 1) cap4) = some b → Value.ownBlock (.slice (some ⟨g6, 0, none⟩) (k + 1) cap6) = some b → False) := fun b h1 h2 => by
            have e1 : g4 = b := by simpa [Value.ownBlock] using h1
            have e2 : g6 = b := by simpa [Value.ownBlock] using h2
            subst e1
            rcases hat6 with h | h
            · exact HF3.out g4 rfl (by rw [← e2]; exact h)
            · rw [e2] at h; omega
          clear hown6 hgrow6 hat6 hlt6 HG1 HG2 Hw
          go_wp2_with fail
          go_roundw
          case rel => exact ⟨k + 1, by omega, by go_num, ⟨HH1.out, HH2.out, HH3.out⟩⟩
          case measure => simp [intOf]; omega
        · obtain rfl : k = M := by omega
          have hge : ¬ ((k : Int) < (k : Int)) := by omega
          go_wp2_with fail
          go_at_call 16
          refine (smix_any (k : Int) (k : Int) lo1 hi1 n1 lo2 hi2 n2 _ _ L1 L2 (.slice none 0 0) 0 0 0 [] d _ hL1 hL2 HYr.out.row1 HYr.out.row2 HYr.out.hi1 HYr.out.hi2 (Row.empty 1 _ _ _ _ _) (Nat.zero_le _)).mono ?_
          rintro e w5 ⟨mv, rfl, hmr, hb5⟩
          have hme : mixL (k : Int) L1 (k : Int) L2 [] d = towK (k : Int) L1 d k := by unfold mixL; rw [if_pos ⟨HF.out, by simp⟩, Int.toNat_natCast, mixK_none]
          rw [hme, towK_len] at hmr
          obtain ⟨ma, mc, rfl⟩ := hmr.slice
          have HMR := Lib.hid hmr
          have HG1 := Lib.hid (hT.out.fst.grow hb5)
          have HG2 := Lib.hid (hT.out.snd.grow hb5)
          have hs5 := HG1.out.below.size
          have HLB : Hid (∀ x ∈ ndK k, 0 ≤ x ∧ x < (k : Int)) := fun x hx => by
            unfold ndK at hx
            obtain ⟨i, hi, rfl⟩ := List.mem_map.1 hx
            have := List.mem_range.1 hi
            omega
          clear hmr hb5 hT HYr a0 a1 b0 b1 hme
          go_wp2_with fail
          go_at_call 67
          refine (bad_all k d hM0 hM1 k hm _ _ _ _ _ _ _ _ _ _ (towK (k : Int) L2 d k) (towK (k : Int) L1 d k) (ndK k) false w5 (ndK_len k) (HG2.out.toRow (by omega)) HMR.out (HG1.out.toRow (by omega)) (Nat.le_refl _) (Nat.le_refl _) (Nat.le_refl _) HLB.out).mono ?_
          rintro e w6 ⟨rfl, hb6⟩
          have HB6 := Lib.hid hb6
          clear hb6
          generalize badC (towK (k : Int) L2 d k) d k (towK (k : Int) L1 d k) (ndK k) false = fv at HE ⊢
          go_wp2_with fail
          go_ret
          exact ⟨by rw [HE.out]; rfl, (HY1.out.below.trans (HG1.out.below.mono HY1.out.below.size)).trans (HB6.out.mono (by have := HY1.out.below.size; omega))⟩
    · have hm3 : (M : Int) > 6 := by omega
      have hm4 : decide ((M : Int) > 6) = true := decide_eq_true hm3
      have HE : Hid (R = -1) := HR.out.trans (cntV_no (fun h => hm (by have := h.2; omega)))
      clear hm
      go_wp2_with fail
      go_ret
      exact ⟨by rw [HE.out]; rfl, HY1.out.below⟩

end Go.Proofs.Ytjenjdhoblcohaa
