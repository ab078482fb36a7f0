/- Alternates, one by one, by the program. -/
import Derived.Test.YtnpdbieadjgghaaAv
import Derived.Test.YtnpdbieadjgghaaOi
namespace Go.Proofs.Ytnpdbieadjgghaa
open Go.RowKit

/-- What repairOf answers. -/
def rpV (X s f d : Nat) : Value := .agg #[.pointer (some ⟨X, 0, none⟩), .int .i64 (s : Int), .int .i64 (f : Int), .int .i64 (d : Int)]
/-- What is asked of a node: the survey is measured where the answer is yes. -/
def AskP (K : Nat) (rp : Value) (X M : Nat) (L : List Ed) (p : Int → Bool) : Prop := ∀ (x : Nat) (w : World), Sv w X M L → x < M → Calls Try.prog K #[rp, .int .i64 (x : Int)] w fun e w' => e = .returned (.bool (p (x : Int))) ∧ Kx X M L w w' ∧ (p (x : Int) = true → Meas X w')
/-- The nodes found so far. -/
def FndP (X M : Nat) (L : List Ed) (w wr : World) (v : Value) (Z : List Int) : Prop := Kx X M L w wr ∧ ((v = .slice none 0 0 ∧ Z = []) ∨ ∃ wb, Kx X M L w wb ∧ Meas X wb ∧ OwnI wb wr v Z.length Z)
theorem FndP.no {X M : Nat} {L : List Ed} {w wr w2 : World} {v : Value} {Z : List Int} (hX : X < w.heap.size) (h : FndP X M L w wr v Z) (k : Kx X M L wr w2) : FndP X M L w w2 v Z := by
  obtain ⟨h1, h2⟩ := h
  have hs := h1.but.size
  refine ⟨h1.trans hX k, ?_⟩
  rcases h2 with h2 | ⟨wb, a, m, o⟩
  · exact .inl h2
  · have hxb : X < wb.heap.size := Nat.lt_of_lt_of_le hX a.but.size
    exact .inr ⟨wb, a, m, o.grow (k.low (m.below hxb o.below))⟩
theorem FndP.start {X M : Nat} {L : List Ed} {w wr : World} {v : Value} {Z : List Int} (h : FndP X M L w wr v Z) (hm : Meas X wr) : ∃ wb, Kx X M L w wb ∧ Meas X wb ∧ OwnI wb wr v Z.length Z := by
  rcases h.2 with ⟨rfl, rfl⟩ | h2
  · exact ⟨wr, h.1, hm, OwnI.nil _⟩
  · exact h2

theorem FndP.fin {X M : Nat} {L : List Ed} {w wr : World} {v : Value} {Z : List Int} (hX : X < w.heap.size) (h : FndP X M L w wr v Z) (hl : Z.length ≤ 1100000) : Row 1 wr w.heap.size wr.heap.size v Z.length Z ∧ Kx X M L w wr ∧ (Z ≠ [] → Meas X wr) := by
  rcases h.2 with ⟨rfl, rfl⟩ | ⟨wb, a, m, o⟩
  · exact ⟨Row.empty _ _ _ _ _ _, h.1, fun h => absurd rfl h⟩
  · exact ⟨(o.toRow hl).wide a.but.size (Nat.le_refl _), h.1, fun _ => m.below (Nat.lt_of_lt_of_le hX a.but.size) o.below⟩

set_option maxRecDepth 100000 in
set_option maxHeartbeats 4000000 in
theorem nodes_61 (rp : Value) (X M : Nat) (L : List Ed) (p : Int → Bool) (w : World) (h : Sv w X M L) (hA : AskP 61 rp X M L p) :
    Calls Try.prog 60 #[.pointer (some ⟨X, 0, none⟩), .func (.func 61) #[rp] #[]] w fun e w' => ∃ rv, e = .returned rv ∧ Row 1 w' w.heap.size w'.heap.size rv (firstN M p).length (firstN M p) ∧ Kx X M L w w' ∧ (firstN M p ≠ [] → Meas X w') := by
  have hM := h.M
  have hX := h.lt
  have H := Lib.hid h
  have c0 := h.c0
  have HA := Lib.hid hA
  obtain ⟨i3, hi, hz0, hz1, hz2⟩ := info_parts Try.info3
  have I := Lib.hid (And.intro hi (And.intro hz0 (And.intro hz1 hz2)))
  have HF : Hid (FndP X M L w w (.slice none 0 0) []) := ⟨Kx.refl h, .inl ⟨rfl, rfl⟩⟩
  clear h hA hi hz0 hz1 hz2
  go_enter Try.func60, Try.ntmps60
  go_wp2_with fail
  go_loopw [5, 12] (fun v i wr => ∃ k : Nat, k ≤ M ∧ i = .int .i64 (k : Int) ∧ Hid (FndP X M L w wr v (firstN k p))) (fun _ i _ => M - (intOf i).toNat)
  case atStart => exact ⟨0, Nat.zero_le _, rfl, HF⟩
  case round =>
    obtain ⟨k, hk, rfl, hR⟩ := hrel
    clear HF c0
    by_cases hlt : k < M
    · have q1 : (k : Int) < (M : Int) := by omega
      go_wp2_with fail
      go_at_call 61
      refine (HA.out k _ hR.out.1.sv hlt).mono ?_
      rintro e w2 ⟨rfl, hk2, hm2⟩
      have HR2 := Lib.hid (hR.out.no hX hk2)
      clear hR hk2
      by_cases hp : p (k : Int) = true
      · have HP := Lib.hid (firstN_yes (i := k) hp)
        have hmm := hm2 hp
        rw [hp]
        obtain ⟨wb, a, m, o⟩ := HR2.out.start hmm
        obtain ⟨ra, rc, hra⟩ := own_slice o.row
        subst hra
        have HO := Lib.hid o
        have HKA := Lib.hid a
        have HMB := Lib.hid m
        have hsb := a.but.size
        have hlen := firstN_len k p
        have hob := o.below.size
        clear hm2 hp hmm HR2 a m o
        go_wp2_with (at_builtin; refine wpList_append_lies _ rfl _ _ 33 rfl wb.heap.size 3 i3 (.int .i64 0) 1 8 Try.underlying33 I.out.1 I.out.2.1 I.out.2.2.1 I.out.2.2.2 rfl (by decide) _ (firstN k p).length (ints (firstN k p)) rfl (HO.out.row.alloc _) ⟨w2.heap.size, 0, none⟩ 1 1 [.int .i64 (k : Int)] rfl rfl ?d0 (int_one _) (by decide) ?d1 ?d2 ?d3 _ rfl ?_)
        case d0 => exact fun j u hj => cell_one_new w2 (.int .i64 (k : Int)) 3 rfl j u hj
        case d1 => unfold maxLen; omega
        case d2 => omega
        case d3 => simp; omega
        intro g4 cap4 w4 hown4 hgrow4 hat4 hlt4
        have hO4 := (HO.out.grow ((Below.refl _ _).alloc (Nat.le_refl _) _)).app hgrow4 hown4
        have HF4 : Hid (FndP X M L w w4 (.slice (some ⟨g4, 0, none⟩) ((firstN k p).length + 1) cap4) (firstN (k + 1) p)) := by
          show FndP _ _ _ _ _ _ _
          rw [HP.out]
          refine ⟨HKA.out.trans hX (Kx.of HKA.out.sv hO4.below), .inr ⟨wb, HKA.out, HMB.out, ?_⟩⟩
          rw [List.length_append]
          exact hO4
        clear hown4 hgrow4 hat4 hlt4 hO4 HO
        go_wp2_with fail
        go_roundw
        case rel => exact ⟨k + 1, by omega, by go_num, HF4⟩
        case measure => simp [intOf]; omega
      · rw [Bool.not_eq_true] at hp
        have HP := Lib.hid (firstN_no (i := k) hp)
        rw [hp]
        clear hm2 hp
        go_wp2_with fail
        go_roundw
        case rel => exact ⟨k + 1, by omega, by go_num, by rw [HP.out]; exact HR2⟩
        case measure => simp [intOf]; omega
    · have hge : ¬ ((k : Int) < (M : Int)) := by omega
      obtain rfl : k = M := by omega
      have hlen := firstN_len k p
      have HE := Lib.hid (hR.out.fin hX (by omega))
      clear hR
      go_wp2_with fail
      go_ret
      exact ⟨_, rfl, HE.out⟩

set_option maxRecDepth 100000 in
set_option maxHeartbeats 4000000 in
theorem nodes_70 (rp : Value) (X M : Nat) (L : List Ed) (p : Int → Bool) (w : World) (h : Sv w X M L) (hA : AskP 70 rp X M L p) :
    Calls Try.prog 60 #[.pointer (some ⟨X, 0, none⟩), .func (.func 70) #[rp] #[]] w fun e w' => ∃ rv, e = .returned rv ∧ Row 1 w' w.heap.size w'.heap.size rv (firstN M p).length (firstN M p) ∧ Kx X M L w w' ∧ (firstN M p ≠ [] → Meas X w') := by
  have hM := h.M
  have hX := h.lt
  have H := Lib.hid h
  have c0 := h.c0
  have HA := Lib.hid hA
  obtain ⟨i3, hi, hz0, hz1, hz2⟩ := info_parts Try.info3
  have I := Lib.hid (And.intro hi (And.intro hz0 (And.intro hz1 hz2)))
  have HF : Hid (FndP X M L w w (.slice none 0 0) []) := ⟨Kx.refl h, .inl ⟨rfl, rfl⟩⟩
  clear h hA hi hz0 hz1 hz2
  go_enter Try.func60, Try.ntmps60
  go_wp2_with fail
  go_loopw [5, 12] (fun v i wr => ∃ k : Nat, k ≤ M ∧ i = .int .i64 (k : Int) ∧ Hid (FndP X M L w wr v (firstN k p))) (fun _ i _ => M - (intOf i).toNat)
  case atStart => exact ⟨0, Nat.zero_le _, rfl, HF⟩
  case round =>
    obtain ⟨k, hk, rfl, hR⟩ := hrel
    clear HF c0
    by_cases hlt : k < M
    · have q1 : (k : Int) < (M : Int) := by omega
      go_wp2_with fail
      go_at_call 70
      refine (HA.out k _ hR.out.1.sv hlt).mono ?_
      rintro e w2 ⟨rfl, hk2, hm2⟩
      have HR2 := Lib.hid (hR.out.no hX hk2)
      clear hR hk2
      by_cases hp : p (k : Int) = true
      · have HP := Lib.hid (firstN_yes (i := k) hp)
        have hmm := hm2 hp
        rw [hp]
        obtain ⟨wb, a, m, o⟩ := HR2.out.start hmm
        obtain ⟨ra, rc, hra⟩ := own_slice o.row
        subst hra
        have HO := Lib.hid o
        have HKA := Lib.hid a
        have HMB := Lib.hid m
        have hsb := a.but.size
        have hlen := firstN_len k p
        have hob := o.below.size
        clear hm2 hp hmm HR2 a m o
        go_wp2_with (at_builtin; refine wpList_append_lies _ rfl _ _ 33 rfl wb.heap.size 3 i3 (.int .i64 0) 1 8 Try.underlying33 I.out.1 I.out.2.1 I.out.2.2.1 I.out.2.2.2 rfl (by decide) _ (firstN k p).length (ints (firstN k p)) rfl (HO.out.row.alloc _) ⟨w2.heap.size, 0, none⟩ 1 1 [.int .i64 (k : Int)] rfl rfl ?d0 (int_one _) (by decide) ?d1 ?d2 ?d3 _ rfl ?_)
        case d0 => exact fun j u hj => cell_one_new w2 (.int .i64 (k : Int)) 3 rfl j u hj
        case d1 => unfold maxLen; omega
        case d2 => omega
        case d3 => simp; omega
        intro g4 cap4 w4 hown4 hgrow4 hat4 hlt4
        have hO4 := (HO.out.grow ((Below.refl _ _).alloc (Nat.le_refl _) _)).app hgrow4 hown4
        have HF4 : Hid (FndP X M L w w4 (.slice (some ⟨g4, 0, none⟩) ((firstN k p).length + 1) cap4) (firstN (k + 1) p)) := by
          show FndP _ _ _ _ _ _ _
          rw [HP.out]
          refine ⟨HKA.out.trans hX (Kx.of HKA.out.sv hO4.below), .inr ⟨wb, HKA.out, HMB.out, ?_⟩⟩
          rw [List.length_append]
          exact hO4
        clear hown4 hgrow4 hat4 hlt4 hO4 HO
        go_wp2_with fail
        go_roundw
        case rel => exact ⟨k + 1, by omega, by go_num, HF4⟩
        case measure => simp [intOf]; omega
      · rw [Bool.not_eq_true] at hp
        have HP := Lib.hid (firstN_no (i := k) hp)
        rw [hp]
        clear hm2 hp
        go_wp2_with fail
        go_roundw
        case rel => exact ⟨k + 1, by omega, by go_num, by rw [HP.out]; exact HR2⟩
        case measure => simp [intOf]; omega
    · have hge : ¬ ((k : Int) < (M : Int)) := by omega
      obtain rfl : k = M := by omega
      have hlen := firstN_len k p
      have HE := Lib.hid (hR.out.fin hX (by omega))
      clear hR
      go_wp2_with fail
      go_ret
      exact ⟨_, rfl, HE.out⟩

set_option maxRecDepth 100000 in
set_option maxHeartbeats 4000000 in
theorem alternate_any (X M s f d : Nat) (L : List Ed) (hs : s < M) (hd : d < M) : AskP 61 (rpV X s f d) X M L (altB (M : Int) L (s : Int) (f : Int) (d : Int)) := by
  intro n w h hn
  have HS := Lib.hid h
  have hX := h.lt
  have b1 : Below w.heap.size w (w.alloc (.cells #[.pointer (some ⟨X, 0, none⟩), .int .i64 (s : Int), .int .i64 (f : Int), .int .i64 (d : Int)] 69)) := (Below.refl _ _).alloc (Nat.le_refl _) _
  have K1 := Lib.hid (Kx.of h b1)
  have D1 := Lib.hid (loopFree_any X M s n d L _ (h.grow b1) hs hn hd)
  clear h b1
  unfold rpV
  by_cases hnf : (n : Int) = (f : Int)
  · have e : altB (M : Int) L (s : Int) (f : Int) (d : Int) (n : Int) = false := by unfold altB; rw [hnf]; simp
    rw [e]
    have hne : ((n : Int) != (f : Int)) = false := by rw [hnf]; simp
    clear e hnf D1
    go_enter Try.func61, Try.ntmps61
    go_wp2
    go_ret
    exact ⟨rfl, K1.out, fun h => by cases h⟩
  · have e : altB (M : Int) L (s : Int) (f : Int) (d : Int) (n : Int) = lfB (M : Int) L (s : Int) (n : Int) (d : Int) := by unfold altB; rw [beq_eq_false_iff_ne.2 hnf]; rfl
    rw [e]
    have hne : ((n : Int) != (f : Int)) = true := by simp [bne, beq_eq_false_iff_ne.2 hnf]
    generalize lfB (M : Int) L (s : Int) (n : Int) (d : Int) = r at *
    clear e hnf
    go_enter Try.func61, Try.ntmps61
    go_wp2_with fail
    go_at_call 57
    refine (D1.out).mono ?_
    rintro e w2 ⟨rfl, k2, m2⟩
    have K2 := Lib.hid (K1.out.trans hX k2)
    have M2 := Lib.hid m2
    clear k2 m2 D1
    go_wp2
    go_ret
    exact ⟨rfl, K2.out, M2.out⟩

end Go.Proofs.Ytnpdbieadjgghaa
