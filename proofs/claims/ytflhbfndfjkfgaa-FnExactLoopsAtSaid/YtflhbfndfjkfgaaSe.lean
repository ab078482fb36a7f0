/- Sinks, LoopsAt, CountHome of the model. -/
import Derived.Test.YtflhbfndfjkfgaaWk
namespace Go.Proofs.Ytflhbfndfjkfgaa
open Go.RowKit


theorem fineW_00 (D : List (List Rt)) (a : Int) : fineW D 0 a 0 = fine D a := by
  unfold fineW
  cases h : fine D a with
  | false => rfl
  | true => rw [inB_true (Int.le_refl 0) (by have := (fine_all h).1; omega), inB_true (Int.le_refl 0) (by omega)]; rfl
/-- The nodes below k from which a walk ends so. -/
def stK (D : List (List Rt)) (a : Int) (t : Nat) (c : Int) (k : Nat) : List Int := if fine D a = true then stn D a t c k else []
theorem stK_zero (D : List (List Rt)) (a : Int) (t : Nat) (c : Int) : stK D a t c 0 = [] := by unfold stK stn; split <;> rfl
theorem stK_all (D : List (List Rt)) (a : Int) (t : Nat) (c : Int) : stK D a t c D.length = startsV D a t c := rfl
theorem stK_len (D : List (List Rt)) (a : Int) (t : Nat) (c : Int) (k : Nat) : (stK D a t c k).length ≤ k := by
  unfold stK
  split
  · exact stn_len D a t c k
  · exact Nat.zero_le _
theorem walkV_code {D : List (List Rt)} {a : Int} {t k : Nat} (hk : k < D.length) (ht : t ≤ 16) : (walkV D (k : Int) a (t : Int)).2 = if fine D a = true then (wlk D a t k).2 else 3 := by
  unfold walkV
  by_cases h : fine D a = true
  · rw [if_pos ⟨h, by omega, by omega, by omega, by omega⟩, if_pos h]
    rfl
  · rw [if_neg (fun hh => h hh.1), if_neg h]
theorem stK_yes {D : List (List Rt)} {a : Int} {t k : Nat} {c : Int} (hk : k < D.length) (ht : t ≤ 16) (hc : c ≠ 3) (h : (walkV D (k : Int) a (t : Int)).2 = c) : stK D a t c (k + 1) = stK D a t c k ++ [(k : Int)] := by
  rw [walkV_code hk ht] at h
  unfold stK
  by_cases hf : fine D a = true
  · rw [if_pos hf] at h
    rw [if_pos hf, if_pos hf, stn_succ, if_pos h]
  · rw [if_neg hf] at h
    exact absurd h.symm hc
theorem stK_no {D : List (List Rt)} {a : Int} {t k : Nat} {c : Int} (hk : k < D.length) (ht : t ≤ 16) (h : (walkV D (k : Int) a (t : Int)).2 ≠ c) : stK D a t c (k + 1) = stK D a t c k := by
  rw [walkV_code hk ht] at h
  unfold stK
  by_cases hf : fine D a = true
  · rw [if_pos hf] at h
    rw [if_pos hf, if_pos hf, stn_succ, if_neg h]
  · rw [if_neg hf, if_neg hf]
theorem wlk0 (D : List (List Rt)) (a : Int) (k : Nat) : (wlk D a 0 k).2 = 0 ↔ hopA D a k = 0 := by
  unfold wlk
  by_cases h : hopA D a k = 0
  · rw [if_pos h]; exact ⟨fun _ => h, fun _ => rfl⟩
  · rw [if_neg h]
    split
    · exact ⟨fun e => by simp at e, fun e => absurd e h⟩
    · exact ⟨fun e => by simp at e, fun e => absurd e h⟩
theorem stn_fin {e : Ending} {w w' : World} {u : Value} {n : Nat} {Z Y : List Int} (he : e = .returned u) (ho : OwnI w w' u n Z) (hn : n = Z.length) (hl : n ≤ 1100000) (hz : Z = Y) : ∃ rv, e = .returned rv ∧ Row 1 w' w.heap.size w'.heap.size rv Y.length Y ∧ Below w.heap.size w w' := by
  subst hz hn
  exact ⟨u, he, ho.toRow hl, ho.below⟩

set_option maxRecDepth 100000 in
set_option maxHeartbeats 4000000 in
theorem seach_any (D : List (List Rt)) (lo hi : Nat) (v : Value) (a c : Int) (w : World) (hr : TRow w lo hi v D) (hh : hi ≤ w.heap.size) (hc : c ≠ 3) :
    Calls Try.prog 43 #[v, .int .i64 a, .int .i64 c] w fun e w' => ∃ rv, e = .returned rv ∧ Row 1 w' w.heap.size w'.heap.size rv (startsV D a 16 c).length (startsV D a 16 c) ∧ Below w.heap.size w w' := by
  obtain ⟨i39, hi3, hz0, hz1, hz2⟩ := info_parts Try.info3
  have I := Lib.hid (And.intro hi3 (And.intro hz0 (And.intro hz1 hz2)))
  have hl := hr.len
  have HR := Lib.hid hr
  obtain ⟨n, hn⟩ : ∃ n, n = D.length := ⟨_, rfl⟩
  have HN := Lib.hid hn
  obtain ⟨ad, cp, rfl⟩ := hr.slice
  rw [← hn] at hl HR ⊢
  have HF : Hid (∀ w1, Below w.heap.size w w1 → Calls Try.prog 30 #[.slice ad n cp, .int .i64 0, .int .i64 a, .int .i64 0] w1 fun e w' => e = .returned (.bool (fine D a)) ∧ Below w1.heap.size w1 w') := Lib.hid (fun w1 hb => by
    have h := sfine_any D lo hi _ 0 a 0 w1 (HR.out.below hb hh) (Nat.le_trans hh hb.size)
    rw [fineW_00] at h
    exact h)
  clear hr hn
  cases hf : fine D a with
  | false =>
    rw [hf] at HF
    have hv : startsV D a 16 c = [] := by unfold startsV; rw [hf]; rfl
    rw [hv]
    clear hv hf HR HN I
    go_enter Try.func43, Try.ntmps43
    go_wp2_with fail
    go_at_call 30
    refine (HF.out _ (by go_grown)).mono ?_
    rintro e w1 ⟨rfl, hb⟩
    have HB := unbox hb
    clear hb
    go_wp2_with fail
    go_ret
    exact ⟨_, rfl, Row.empty _ _ _ _ _ _, HB⟩
  | true =>
    rw [hf] at HF
    clear hf
    go_enter Try.func43, Try.ntmps43
    go_wp2_with fail
    go_at_call 30
    refine (HF.out _ (by go_grown)).mono ?_
    rintro e w1 ⟨rfl, hb⟩
    have HO0 : Hid (OwnI w w1 (.slice (some ⟨w.heap.size, 0, none⟩) 0 0) 0 (stK D a 16 c 0)) := Lib.hid (by rw [stK_zero]; exact (OwnI.lit0 w).grow hb)
    clear hb HF
    go_wp2_with fail
    go_loopw [7, 8] (fun u i wr => ∃ (k m : Nat), k ≤ n ∧ i = .int .i64 (k : Int) ∧ m ≤ k ∧ Hid (OwnI w wr u m (stK D a 16 c k)) ∧ Hid (m = (stK D a 16 c k).length)) (fun _ i _ => n - (intOf i).toNat)
    case atStart => exact ⟨0, 0, Nat.zero_le _, rfl, Nat.le_refl _, HO0, Lib.hid (by rw [stK_zero]; rfl)⟩
    case round =>
      obtain ⟨k, m, hk, rfl, hmk, HO, HM⟩ := hrel
      obtain ⟨oa, oc, ho⟩ := own_slice HO.out.row
      subst ho
      by_cases hlt : k < n
      · have hkD : k < D.length := by have := HN.out; omega
        have hsz := HO.out.below.size
        have q0 : (k : Int) < (n : Int) := by omega
        have q00 : (0 : Int) ≤ (k : Int) := by omega
        go_wp2_with fail
        go_at_call 9
        refine (swalk_any D lo hi _ (k : Int) a 16 wr (HR.out.below HO.out.below hh) (by omega)).mono ?_
        obtain ⟨cc, hcc⟩ : ∃ q, q = (walkV D (k : Int) a 16).2 := ⟨_, rfl⟩
        rw [← hcc]
        have HCC := Lib.hid hcc
        clear hcc
        rintro e w9 ⟨rv, rfl, hrow, hb9⟩
        have HO9 : Hid (OwnI w w9 (.slice oa m oc) m (stK D a 16 c k)) := Lib.hid (HO.out.grow hb9)
        clear hb9 HO hrow
        have hs9 := HO9.out.below.size
        by_cases hcd : cc = c
        · have HY : Hid (stK D a 16 c (k + 1) = stK D a 16 c k ++ [(k : Int)]) := Lib.hid (stK_yes hkD (by decide) hc (by rw [← hcd]; exact HCC.out.symm))
          have r0 : (cc == c) = true := by simp [hcd]
          have Hw := Lib.hid HO9.out.row
          clear hcd HCC
          go_wp2_with (at_builtin; refine wpList_append_lies _ rfl _ _ 24 rfl w.heap.size 3 i39 (.int .i64 0) 1 8 Try.underlying24 I.out.1 I.out.2.1 I.out.2.2.1 I.out.2.2.2 rfl (by decide) _ m (ints (stK D a 16 c k)) rfl (Hw.out.alloc _) ⟨w9.heap.size, 0, none⟩ 1 1 [.int .i64 (k : Int)] rfl rfl ?d0 (int_one _) (by decide) ?d1 ?d2 ?d3 _ rfl ?_)
          case d0 => exact fun j u hj => cell_one_new _ _ 3 rfl j u hj
          case d1 => unfold maxLen; omega
          case d2 => omega
          case d3 => simp; omega
          intro g4 cap4 w4 hown4 hgrow4 hat4 hlt4
          have HF : Hid (OwnI w w4 (.slice (some ⟨g4, 0, none⟩) (m + 1) cap4) (m + 1) (stK D a 16 c k ++ [(k : Int)])) := Lib.hid ((HO9.out.grow ((Below.refl _ _).alloc (Nat.le_refl _) _)).app hgrow4 hown4)
          clear hown4 hgrow4 hat4 hlt4 Hw HO9
          go_wp2_with fail
          go_roundw
          case rel => exact ⟨k + 1, m + 1, by omega, by go_num, by omega, Lib.hid (by rw [HY.out]; exact HF.out), Lib.hid (by rw [HY.out, List.length_append, ← HM.out]; rfl)⟩
          case measure => simp [intOf]; omega
        · have HY : Hid (stK D a 16 c (k + 1) = stK D a 16 c k) := Lib.hid (stK_no hkD (by decide) (by intro h; exact hcd (HCC.out.trans h)))
          have r0 : (cc == c) = false := by simp [hcd]
          clear hcd HCC
          go_wp2_with fail
          go_roundw
          case rel => exact ⟨k + 1, m, by omega, by go_num, by omega, Lib.hid (by rw [HY.out]; exact HO9.out), Lib.hid (by rw [HY.out]; exact HM.out)⟩
          case measure => simp [intOf]; omega
      · have hge : ¬ ((k : Int) < (n : Int)) := by omega
        obtain rfl : n = k := by omega
        go_wp2_with fail
        go_ret
        exact stn_fin rfl HO.out HM.out (by omega) (by rw [HN.out]; rfl)

set_option maxRecDepth 100000 in
set_option maxHeartbeats 4000000 in
theorem ssinks_any (D : List (List Rt)) (lo hi : Nat) (v : Value) (a : Int) (w : World) (hr : TRow w lo hi v D) (hh : hi ≤ w.heap.size) :
    Calls Try.prog 23 #[v, .int .i64 a] w fun e w' => ∃ rv, e = .returned rv ∧ Row 1 w' w.heap.size w'.heap.size rv (startsV D a 0 0).length (startsV D a 0 0) ∧ Below w.heap.size w w' := by
  obtain ⟨i39, hi3, hz0, hz1, hz2⟩ := info_parts Try.info3
  have I := Lib.hid (And.intro hi3 (And.intro hz0 (And.intro hz1 hz2)))
  have hl := hr.len
  have HR := Lib.hid hr
  obtain ⟨n, hn⟩ : ∃ n, n = D.length := ⟨_, rfl⟩
  have HN := Lib.hid hn
  obtain ⟨ad, cp, us, bs, rfl, XX⟩ := hr
  have HX := Lib.hid XX
  rw [← hn] at hl HR ⊢
  have HF : Hid (∀ w1, Below w.heap.size w w1 → Calls Try.prog 30 #[.slice ad n cp, .int .i64 0, .int .i64 a, .int .i64 0] w1 fun e w' => e = .returned (.bool (fine D a)) ∧ Below w1.heap.size w1 w') := Lib.hid (fun w1 hb => by
    have h := sfine_any D lo hi _ 0 a 0 w1 (HR.out.below hb hh) (Nat.le_trans hh hb.size)
    rw [fineW_00] at h
    exact h)
  clear XX hn
  cases hf : fine D a with
  | false =>
    rw [hf] at HF
    have hv : startsV D a 0 0 = [] := by unfold startsV; rw [hf]; rfl
    rw [hv]
    clear hv hf HR HN I HX
    go_enter Try.func23, Try.ntmps23
    go_wp2_with fail
    go_at_call 30
    refine (HF.out _ (by go_grown)).mono ?_
    rintro e w1 ⟨rfl, hb⟩
    have HB := unbox hb
    clear hb
    go_wp2_with fail
    go_ret
    exact ⟨_, rfl, Row.empty _ _ _ _ _ _, HB⟩
  | true =>
    rw [hf] at HF
    have HFN := Lib.hid hf
    clear hf
    go_enter Try.func23, Try.ntmps23
    go_wp2_with fail
    go_at_call 30
    refine (HF.out _ (by go_grown)).mono ?_
    rintro e w1 ⟨rfl, hb⟩
    have HO0 : Hid (OwnI w w1 (.slice (some ⟨w.heap.size, 0, none⟩) 0 0) 0 (stK D a 0 0 0)) := Lib.hid (by rw [stK_zero]; exact (OwnI.lit0 w).grow hb)
    clear hb HF
    go_wp2_with fail
    go_loopw [5, 6] (fun u i wr => ∃ (k m : Nat), k ≤ n ∧ i = .int .i64 (k : Int) ∧ m ≤ k ∧ Hid (OwnI w wr u m (stK D a 0 0 k)) ∧ Hid (m = (stK D a 0 0 k).length)) (fun _ i _ => n - (intOf i).toNat)
    case atStart => exact ⟨0, 0, Nat.zero_le _, rfl, Nat.le_refl _, HO0, Lib.hid (by rw [stK_zero]; rfl)⟩
    case round =>
      obtain ⟨k, m, hk, rfl, hmk, HO, HM⟩ := hrel
      obtain ⟨oa, oc, ho⟩ := own_slice HO.out.row
      subst ho
      by_cases hlt : k < n
      · have hkD : k < D.length := by have := HN.out; omega
        have hsz := HO.out.below.size
        have q0 : (k : Int) < (n : Int) := by omega
        have q00 : (0 : Int) ≤ (k : Int) := by omega
        obtain ⟨p, hp⟩ : ∃ p, D[k]? = some p := ⟨_, List.getElem?_eq_getElem hkD⟩
        obtain ⟨G, rfl, g1, g2, _, g4, _⟩ := HX.out.outer (by omega)
        have hB := Lib.hid HO.out.below
        have d0 : wr.cell? ⟨G, k, none⟩ = some (us k) := by rw [hB.out.cell (p := ⟨G, k, none⟩) (show G < w.heap.size by omega)]; exact g4 k p hp
        obtain ⟨i1, i2, i3⟩ := HX.out.inner k p hp
        have R1 := Lib.hid (i1.below hB.out (by omega))
        obtain ⟨x1, y1, e1⟩ := i1.slice
        rw [e1] at d0 R1
        have hGw : G < wr.heap.size := by omega
        obtain ⟨H1, hH1⟩ : ∃ q, q = (bs k).2 := ⟨_, rfl⟩
        have z1 : H1 ≤ wr.heap.size := by omega
        rw [← hH1] at R1
        have hop : hopO (bestO p a) = hopA D a k := by unfold hopA; rw [List.getD_eq_getElem?_getD, hp]; rfl
        obtain ⟨h, hh⟩ : ∃ h, h = hopA D a k := ⟨_, rfl⟩
        rw [← hh] at hop
        have HH := Lib.hid hh
        have hcode := walkV_code (a := a) (t := 0) hkD (by decide)
        rw [if_pos HFN.out] at hcode
        have HC := Lib.hid hcode
        clear g4 i1 i2 i3 e1 hH1 hp hh hB hcode
        go_wp2_with fail
        go_at_call 31
        refine (shop_any _ _ p.length _ p a wr rfl R1.out z1).mono ?_
        rw [hop]
        rintro e w9 ⟨rfl, hb9⟩
        have HO9 : Hid (OwnI w w9 (.slice oa m oc) m (stK D a 0 0 k)) := Lib.hid (HO.out.grow hb9)
        have hs9 := HO9.out.below.size
        clear hb9 HO hop R1 d0
        by_cases q1 : h = 0
        · have HY : Hid (stK D a 0 0 (k + 1) = stK D a 0 0 k ++ [(k : Int)]) := Lib.hid (stK_yes hkD (by decide) (by decide) (HC.out.trans ((wlk0 D a k).2 (by rw [← HH.out]; exact q1))))
          subst q1
          have Hw := Lib.hid HO9.out.row
          clear HH HC
          go_wp2_with (at_builtin; refine wpList_append_lies _ rfl _ _ 24 rfl w.heap.size 3 i39 (.int .i64 0) 1 8 Try.underlying24 I.out.1 I.out.2.1 I.out.2.2.1 I.out.2.2.2 rfl (by decide) _ m (ints (stK D a 0 0 k)) rfl (Hw.out.alloc _) ⟨w9.heap.size, 0, none⟩ 1 1 [.int .i64 (k : Int)] rfl rfl ?d0 (int_one _) (by decide) ?d1 ?d2 ?d3 _ rfl ?_)
          case d0 => exact fun j u hj => cell_one_new _ _ 3 rfl j u hj
          case d1 => unfold maxLen; omega
          case d2 => omega
          case d3 => simp; omega
          intro g4 cap4 w4 hown4 hgrow4 hat4 hlt4
          have HF : Hid (OwnI w w4 (.slice (some ⟨g4, 0, none⟩) (m + 1) cap4) (m + 1) (stK D a 0 0 k ++ [(k : Int)])) := Lib.hid ((HO9.out.grow ((Below.refl _ _).alloc (Nat.le_refl _) _)).app hgrow4 hown4)
          clear hown4 hgrow4 hat4 hlt4 Hw HO9
          go_wp2_with fail
          go_roundw
          case rel => exact ⟨k + 1, m + 1, by omega, by go_num, by omega, Lib.hid (by rw [HY.out]; exact HF.out), Lib.hid (by rw [HY.out, List.length_append, ← HM.out]; rfl)⟩
          case measure => simp [intOf]; omega
        · have HY : Hid (stK D a 0 0 (k + 1) = stK D a 0 0 k) := Lib.hid (stK_no hkD (by decide) (by intro h'; exact q1 (by rw [HH.out]; exact (wlk0 D a k).1 (HC.out.symm.trans h'))))
          have r0 : (h == 0) = false := by simp [q1]
          clear HH HC
          go_wp2_with fail
          go_roundw
          case rel => exact ⟨k + 1, m, by omega, by go_num, by omega, Lib.hid (by rw [HY.out]; exact HO9.out), Lib.hid (by rw [HY.out]; exact HM.out)⟩
          case measure => simp [intOf]; omega
      · have hge : ¬ ((k : Int) < (n : Int)) := by omega
        obtain rfl : n = k := by omega
        go_wp2_with fail
        go_ret
        exact stn_fin rfl HO.out HM.out (by omega) (by rw [HN.out]; rfl)

set_option maxHeartbeats 1000000 in
theorem sloops_any (D : List (List Rt)) (lo hi : Nat) (v : Value) (a : Int) (w : World) (hr : TRow w lo hi v D) (hh : hi ≤ w.heap.size) :
    Calls Try.prog 25 #[v, .int .i64 a] w fun e w' => ∃ rv, e = .returned rv ∧ Row 1 w' w.heap.size w'.heap.size rv (startsV D a 16 2).length (startsV D a 16 2) ∧ Below w.heap.size w w' := by
  have H := Lib.hid (seach_any D lo hi v a 2 w hr hh (by decide))
  obtain ⟨ad, cp, rfl⟩ := hr.slice
  clear hr
  go_enter Try.func25, Try.ntmps25
  go_wp2_with fail
  go_at_call 43
  refine H.out.mono ?_
  rintro e w1 ⟨rv, rfl, hrow, hb⟩
  obtain ⟨ra, rc, rfl⟩ := hrow.slice
  go_wp2_with fail
  go_ret
  exact ⟨_, rfl, hrow, hb⟩

/-- From how many nodes a packet arrives. -/
def cntV (D : List (List Rt)) (a : Int) : Int := if fine D a = true then ((startsV D a 16 0).length : Int) else -1

set_option maxHeartbeats 1000000 in
theorem scount_any (D : List (List Rt)) (lo hi : Nat) (v : Value) (a : Int) (w : World) (hr : TRow w lo hi v D) (hh : hi ≤ w.heap.size) :
    Calls Try.prog 27 #[v, .int .i64 a] w fun e w' => e = .returned (.int .i64 (cntV D a)) ∧ Below w.heap.size w w' := by
  have HF := sfine_any D lo hi v 0 a 0 w hr hh
  rw [fineW_00] at HF
  have HE : Hid (∀ w1, Below w.heap.size w w1 → Calls Try.prog 43 #[v, .int .i64 a, .int .i64 0] w1 fun e w' => ∃ rv, e = .returned rv ∧ Row 1 w' w1.heap.size w'.heap.size rv (startsV D a 16 0).length (startsV D a 16 0) ∧ Below w1.heap.size w1 w') := Lib.hid (fun w1 hb => seach_any D lo hi v a 0 w1 (hr.below hb hh) (Nat.le_trans hh hb.size) (by decide))
  have HF := Lib.hid HF
  obtain ⟨ad, cp, rfl⟩ := hr.slice
  unfold cntV
  clear hr
  have hmm : (-1 : Int) < 0 := by omega
  cases hf : fine D a with
  | false =>
    rw [hf] at HF
    clear hf HE
    go_enter Try.func27, Try.ntmps27
    go_wp2_with fail
    go_at_call 30
    refine HF.out.mono ?_
    rintro e w1 ⟨rfl, hb⟩
    go_wp2_with fail
    go_ret
    exact ⟨rfl, hb⟩
  | true =>
    rw [hf] at HF
    clear hf hmm
    go_enter Try.func27, Try.ntmps27
    go_wp2_with fail
    go_at_call 30
    refine HF.out.mono ?_
    rintro e w1 ⟨rfl, hb⟩
    have HB := Lib.hid hb
    clear hb HF
    go_wp2_with fail
    go_at_call 43
    refine (HE.out w1 HB.out).mono ?_
    rintro e w2 ⟨rv, rfl, hrow, hb2⟩
    obtain ⟨ra, rc, rfl⟩ := hrow.slice
    have HB2 := chain HB.out hb2
    clear hrow hb2
    go_wp2_with fail
    go_ret
    exact ⟨rfl, HB2⟩

end Go.Proofs.Ytflhbfndfjkfgaa
