/- Sinks, LoopsAt, CountHome of the program. -/
import Derived.Test.YtflhbfndfjkfgaaIw
namespace Go.Proofs.Ytflhbfndfjkfgaa
open Go.RowKit


set_option maxRecDepth 100000 in
set_option maxHeartbeats 4000000 in
theorem ist_any (D : List (List Rt)) (lo hi : Nat) (v : Value) (a c : Int) (t : Nat) (w : World) (hr : TRow w lo hi v D) (hh : hi ≤ w.heap.size) (hc : c ≠ 3) (ht : t ≤ 16) :
    Calls Try.prog 42 #[v, .int .i64 a, .int .i64 (t : Int), .int .i64 c] w fun e w' => ∃ rv, e = .returned rv ∧ Row 1 w' w.heap.size w'.heap.size rv (startsV D a t c).length (startsV D a t c) ∧ Below w.heap.size w w' := by
  obtain ⟨i39, hi3, hz0, hz1, hz2⟩ := info_parts Try.info3
  have I := Lib.hid (And.intro hi3 (And.intro hz0 (And.intro hz1 hz2)))
  have hl := hr.len
  have HR := Lib.hid hr
  obtain ⟨n, hn⟩ : ∃ n, n = D.length := ⟨_, rfl⟩
  have HN := Lib.hid hn
  obtain ⟨ad, cp, rfl⟩ := hr.slice
  rw [← hn] at hl HR ⊢
  have HO0 : Hid (OwnI w w (.slice none 0 0) 0 (stK D a t c 0)) := Lib.hid (by rw [stK_zero]; exact OwnI.nil w)
  clear hr hn
  go_enter Try.func42, Try.ntmps42
  go_wp2_with fail
  go_loopw [9, 15] (fun u i wr => ∃ (k m : Nat), k ≤ n ∧ i = .int .i64 (k : Int) ∧ m ≤ k ∧ Hid (OwnI w wr u m (stK D a t c k)) ∧ Hid (m = (stK D a t c k).length)) (fun _ i _ => n - (intOf i).toNat)
  case atStart => exact ⟨0, 0, Nat.zero_le _, rfl, Nat.le_refl _, HO0, Lib.hid (by rw [stK_zero]; rfl)⟩
  case round =>
    obtain ⟨k, m, hk, rfl, hmk, HO, HM⟩ := hrel
    obtain ⟨oa, oc, ho⟩ := own_slice HO.out.row
    subst ho
    by_cases hlt : k < n
    · have hkD : k < D.length := by have := HN.out; omega
      have hsz := HO.out.below.size
      have q0 : (k : Int) < (n : Int) := by omega
      have q00 : (0 : Int) ≤ (k : Int) := by omega
      go_wp2_with fail
      go_at_call 11
      refine (iwalk_any D lo hi _ (k : Int) a (t : Int) wr (HR.out.below HO.out.below hh) (by omega)).mono ?_
      obtain ⟨cc, hcc⟩ : ∃ q, q = (walkV D (k : Int) a (t : Int)).2 := ⟨_, rfl⟩
      rw [← hcc]
      have HCC := Lib.hid hcc
      clear hcc
      rintro e w9 ⟨rv, rfl, hrow, hb9⟩
      have HO9 : Hid (OwnI w w9 (.slice oa m oc) m (stK D a t c k)) := Lib.hid (HO.out.grow hb9)
      obtain ⟨rva, rvc, rfl⟩ := hrow.slice
      clear hb9 HO hrow
      have hs9 := HO9.out.below.size
      by_cases hcd : cc = c
      · have HY : Hid (stK D a t c (k + 1) = stK D a t c k ++ [(k : Int)]) := Lib.hid (stK_yes hkD ht hc (by rw [← hcd]; exact HCC.out.symm))
        have r0 : (cc == c) = true := by simp [hcd]
        have Hw := Lib.hid HO9.out.row
        clear hcd HCC
        go_wp2_with (at_builtin; refine wpList_append_lies _ rfl _ _ 24 rfl w.heap.size 3 i39 (.int .i64 0) 1 8 Try.underlying24 I.out.1 I.out.2.1 I.out.2.2.1 I.out.2.2.2 rfl (by decide) _ m (ints (stK D a t c k)) rfl (Hw.out.alloc _) ⟨w9.heap.size, 0, none⟩ 1 1 [.int .i64 (k : Int)] rfl rfl ?d0 (int_one _) (by decide) ?d1 ?d2 ?d3 _ rfl ?_)
        case d0 => exact fun j u hj => cell_one_new _ _ 3 rfl j u hj
        case d1 => unfold maxLen; omega
        case d2 => omega
        case d3 => simp; omega
        intro g4 cap4 w4 hown4 hgrow4 hat4 hlt4
        have HF : Hid (OwnI w w4 (.slice (some ⟨g4, 0, none⟩) (m + 1) cap4) (m + 1) (stK D a t c k ++ [(k : Int)])) := Lib.hid ((HO9.out.grow ((Below.refl _ _).alloc (Nat.le_refl _) _)).app hgrow4 hown4)
        clear hown4 hgrow4 hat4 hlt4 Hw HO9
        go_wp2_with fail
        go_roundw
        case rel => exact ⟨k + 1, m + 1, by omega, by go_num, by omega, Lib.hid (by rw [HY.out]; exact HF.out), Lib.hid (by rw [HY.out, List.length_append, ← HM.out]; rfl)⟩
        case measure => simp [intOf]; omega
      · have HY : Hid (stK D a t c (k + 1) = stK D a t c k) := Lib.hid (stK_no hkD ht (by intro h; exact hcd (HCC.out.trans h)))
        have r0 : (cc == c) = false := by simp [hcd]
        clear hcd HCC
        go_wp2_with fail
        go_roundw
        case rel => exact ⟨k + 1, m, by omega, by go_num, by omega, Lib.hid (by rw [HY.out]; exact HO9.out), Lib.hid (by rw [HY.out]; exact HM.out)⟩
        case measure => simp [intOf]; omega
    · have hge : ¬ ((k : Int) < (n : Int)) := by omega
      obtain rfl : n = k := by omega
      go_wp2_with fail
      go_ret
      exact stn_fin rfl HO.out HM.out (by omega) (by rw [HN.out]; rfl)

set_option maxHeartbeats 1000000 in
theorem isinks_any (D : List (List Rt)) (lo hi : Nat) (v : Value) (a : Int) (w : World) (hr : TRow w lo hi v D) (hh : hi ≤ w.heap.size) :
    Calls Try.prog 24 #[v, .int .i64 a] w fun e w' => ∃ rv, e = .returned rv ∧ Row 1 w' w.heap.size w'.heap.size rv (startsV D a 0 0).length (startsV D a 0 0) ∧ Below w.heap.size w w' := by
  have H := Lib.hid (ist_any D lo hi v a 0 0 w hr hh (by decide) (by decide))
  obtain ⟨ad, cp, rfl⟩ := hr.slice
  clear hr
  go_enter Try.func24, Try.ntmps24
  go_wp2_with fail
  go_at_call 42
  refine H.out.mono ?_
  rintro e w1 ⟨rv, rfl, hrow, hb⟩
  obtain ⟨ra, rc, rfl⟩ := hrow.slice
  go_wp2_with fail
  go_ret
  exact ⟨_, rfl, hrow, hb⟩

set_option maxHeartbeats 1000000 in
theorem iloops_any (D : List (List Rt)) (lo hi : Nat) (v : Value) (a : Int) (w : World) (hr : TRow w lo hi v D) (hh : hi ≤ w.heap.size) :
    Calls Try.prog 26 #[v, .int .i64 a] w fun e w' => ∃ rv, e = .returned rv ∧ Row 1 w' w.heap.size w'.heap.size rv (startsV D a 16 2).length (startsV D a 16 2) ∧ Below w.heap.size w w' := by
  have H := Lib.hid (ist_any D lo hi v a 2 16 w hr hh (by decide) (by decide))
  obtain ⟨ad, cp, rfl⟩ := hr.slice
  clear hr
  go_enter Try.func26, Try.ntmps26
  go_wp2_with fail
  go_at_call 42
  refine H.out.mono ?_
  rintro e w1 ⟨rv, rfl, hrow, hb⟩
  obtain ⟨ra, rc, rfl⟩ := hrow.slice
  go_wp2_with fail
  go_ret
  exact ⟨_, rfl, hrow, hb⟩

set_option maxHeartbeats 1000000 in
theorem icount_any (D : List (List Rt)) (lo hi : Nat) (v : Value) (a : Int) (w : World) (hr : TRow w lo hi v D) (hh : hi ≤ w.heap.size) :
    Calls Try.prog 28 #[v, .int .i64 a] w fun e w' => e = .returned (.int .i64 (cntV D a)) ∧ Below w.heap.size w w' := by
  have HF := icar_any D lo hi v a w hr hh
  have HE : Hid (∀ w1, Below w.heap.size w w1 → Calls Try.prog 42 #[v, .int .i64 a, .int .i64 ((16 : Nat) : Int), .int .i64 0] w1 fun e w' => ∃ rv, e = .returned rv ∧ Row 1 w' w1.heap.size w'.heap.size rv (startsV D a 16 0).length (startsV D a 16 0) ∧ Below w1.heap.size w1 w') := Lib.hid (fun w1 hb => ist_any D lo hi v a 0 16 w1 (hr.below hb hh) (Nat.le_trans hh hb.size) (by decide) (by decide))
  have HF := Lib.hid HF
  obtain ⟨ad, cp, rfl⟩ := hr.slice
  unfold cntV
  clear hr
  have hmm : (-1 : Int) < 0 := by omega
  cases hf : fine D a with
  | false =>
    rw [hf] at HF
    clear hf HE
    go_enter Try.func28, Try.ntmps28
    go_wp2_with fail
    go_at_call 33
    refine HF.out.mono ?_
    rintro e w1 ⟨rfl, hb⟩
    go_wp2_with fail
    go_ret
    exact ⟨rfl, hb⟩
  | true =>
    rw [hf] at HF
    clear hf hmm
    go_enter Try.func28, Try.ntmps28
    go_wp2_with fail
    go_at_call 33
    refine HF.out.mono ?_
    rintro e w1 ⟨rfl, hb⟩
    have HB := Lib.hid hb
    clear hb HF
    go_wp2_with fail
    go_at_call 42
    refine (HE.out w1 HB.out).mono ?_
    rintro e w2 ⟨rv, rfl, hrow, hb2⟩
    obtain ⟨ra, rc, rfl⟩ := hrow.slice
    have HB2 := chain HB.out hb2
    clear hrow hb2
    go_wp2_with fail
    go_ret
    exact ⟨rfl, HB2⟩

theorem st_len (D : List (List Rt)) (a : Int) (t : Nat) (c : Int) : (startsV D a t c).length ≤ 10 := by
  unfold startsV
  split
  · rename_i h
    exact Nat.le_trans (stn_len D a t c _) (fine_all h).2.1
  · exact Nat.zero_le _

end Go.Proofs.Ytflhbfndfjkfgaa
