/- A repair, by the program: made, or refused. -/
import Derived.Test.YtnpdbieadjgghaaGreatAv
import Derived.Test.YtnpdbieadjgghaaGreatOi
import Derived.Test.YtnpdbieadjgghaaGreatRa
import Derived.Test.YtnpdbieadjgghaaGreatQg
import Derived.Test.YtnpdbieadjgghaaGreatGe
import Derived.Deep.AppendLies
import Derived.ScopeJumps
import Derived.WalkMore
namespace Go.Proofs.YtnpdbieadjgghaaGreat
open Go.RowKit

/-- What repairOf answers. -/
def rpV (X s f d : Nat) : Value := .agg #[.pointer (some ⟨X, 0, none⟩), .int .i64 (s : Int), .int .i64 (f : Int), .int .i64 (d : Int)]
/-- What is asked of a node: the survey is measured where the answer is yes. -/
def AskP (K : Nat) (rp : Value) (X M : Nat) (L : List Ed) (p : Int → Bool) : Prop := ∀ (x : Nat) (w : World), Sv w X M L → x < M → Calls Tryz.prog K #[rp, .int .i64 (x : Int)] w fun e w' => e = .returned (.bool (p (x : Int))) ∧ Kx X M L w w' ∧ (p (x : Int) = true → Meas X w')
/-- The nodes found so far. -/
def FndP (X M : Nat) (L : List Ed) (w wr : World) (v : Value) (Z : List Int) : Prop := Kx X M L w wr ∧ ((v = .slice none 0 0 ∧ Z = []) ∨ ∃ wb, Kx X M L w wb ∧ Meas X wb ∧ OwnI wb wr v Z.length Z)
theorem FndP.no {X M : Nat} {L : List Ed} {w wr w2 : World} {v : Value} {Z : List Int} (hX : X < w.heap.size) (h : FndP X M L w wr v Z) (k : Kx X M L wr w2) : FndP X M L w w2 v Z := by
  obtain ⟨h1, h2⟩ := h
  have hs := h1.but.size
  refine ⟨h1.trans hX k, ?_⟩
  rcases h2 with h2 | ⟨wb, a, m, o⟩
  · exact .inl h2
  · have hxb : X < wb.heap.size := Nat.lt_of_lt_of_le hX a.but.size
    exact .inr ⟨wb, a, m, o.grow (k.low (m.below hxb o.below))⟩
theorem FndP.start {X M : Nat} {L : List Ed} {w wr : World} {v : Value} {Z : List Int} (h : FndP X M L w wr v Z) (hm : Meas X wr) : ∃ wb, Kx X M L w wb ∧ Meas X wb ∧ OwnI wb wr v Z.length Z := by
  rcases h.2 with ⟨rfl, rfl⟩ | h2
  · exact ⟨wr, h.1, hm, OwnI.nil _⟩
  · exact h2

theorem FndP.fin {X M : Nat} {L : List Ed} {w wr : World} {v : Value} {Z : List Int} (hX : X < w.heap.size) (h : FndP X M L w wr v Z) (hl : Z.length ≤ 1100000) : Row 1 wr w.heap.size wr.heap.size v Z.length Z ∧ Kx X M L w wr ∧ (Z ≠ [] → Meas X wr) := by
  rcases h.2 with ⟨rfl, rfl⟩ | ⟨wb, a, m, o⟩
  · exact ⟨Row.empty _ _ _ _ _ _, h.1, fun h => absurd rfl h⟩
  · exact ⟨(o.toRow hl).wide a.but.size (Nat.le_refl _), h.1, fun _ => m.below (Nat.lt_of_lt_of_le hX a.but.size) o.below⟩

set_option maxRecDepth 100000 in
set_option maxHeartbeats 4000000 in
theorem nodes_61 (rp : Value) (X M : Nat) (L : List Ed) (p : Int → Bool) (w : World) (h : Sv w X M L) (hA : AskP 44 rp X M L p) :
    Calls Tryz.prog 43 #[.pointer (some ⟨X, 0, none⟩), .func (.func 44) #[rp] #[]] w fun e w' => ∃ rv, e = .returned rv ∧ Row 1 w' w.heap.size w'.heap.size rv (firstN M p).length (firstN M p) ∧ Kx X M L w w' ∧ (firstN M p ≠ [] → Meas X w') := by
  have hM := h.M
  have hX := h.lt
  have H := Lib.hid h
  have c0 := h.c0
  have HA := Lib.hid hA
  obtain ⟨i3, hi, hz0, hz1, hz2⟩ := info_parts Tryz.info3
  have I := Lib.hid (And.intro hi (And.intro hz0 (And.intro hz1 hz2)))
  have HF : Hid (FndP X M L w w (.slice none 0 0) []) := ⟨Kx.refl h, .inl ⟨rfl, rfl⟩⟩
  clear h hA hi hz0 hz1 hz2
  go_enter Tryz.func43, Tryz.ntmps43
  go_wp2_with fail
  go_loopw [5, 12] (fun v i wr => ∃ k : Nat, k ≤ M ∧ i = .int .i64 (k : Int) ∧ Hid (FndP X M L w wr v (firstN k p))) (fun _ i _ => M - (intOf i).toNat)
  case atStart => exact ⟨0, Nat.zero_le _, rfl, HF⟩
  case round =>
    obtain ⟨k, hk, rfl, hR⟩ := hrel
    clear HF c0
    by_cases hlt : k < M
    · have q1 : (k : Int) < (M : Int) := by omega
      go_wp2_with fail
      go_at_call 44
      refine (HA.out k _ hR.out.1.sv hlt).mono ?_
      rintro e w2 ⟨rfl, hk2, hm2⟩
      have HR2 := Lib.hid (hR.out.no hX hk2)
      clear hR hk2
      by_cases hp : p (k : Int) = true
      · have HP := Lib.hid (firstN_yes (i := k) hp)
        have hmm := hm2 hp
        rw [hp]
        obtain ⟨wb, a, m, o⟩ := HR2.out.start hmm
        obtain ⟨ra, rc, hra⟩ := own_slice o.row
        subst hra
        have HO := Lib.hid o
        have HKA := Lib.hid a
        have HMB := Lib.hid m
        have hsb := a.but.size
        have hlen := firstN_len k p
        have hob := o.below.size
        clear hm2 hp hmm HR2 a m o
        go_wp2_with (at_builtin; refine wpList_append_lies _ rfl _ _ 38 rfl wb.heap.size 3 i3 (.int .i64 0) 1 8 Tryz.underlying38 I.out.1 I.out.2.1 I.out.2.2.1 I.out.2.2.2 rfl (by decide) _ (firstN k p).length (ints (firstN k p)) rfl (HO.out.row.alloc _) ⟨w2.heap.size, 0, none⟩ 1 1 [.int .i64 (k : Int)] rfl rfl ?d0 (int_one _) (by decide) ?d1 ?d2 ?d3 _ rfl ?_)
        case d0 => exact fun j u hj => cell_one_new w2 (.int .i64 (k : Int)) 3 rfl j u hj
        case d1 => unfold maxLen; omega
        case d2 => omega
        case d3 => simp; omega
        intro g4 cap4 w4 hown4 hgrow4 hat4 hlt4
        have hO4 := (HO.out.grow ((Below.refl _ _).alloc (Nat.le_refl _) _)).app hgrow4 hown4
        have HF4 : Hid (FndP X M L w w4 (.slice (some ⟨g4, 0, none⟩) ((firstN k p).length + 1) cap4) (firstN (k + 1) p)) := by
          show FndP _ _ _ _ _ _ _
          rw [HP.out]
          refine ⟨HKA.out.trans hX (Kx.of HKA.out.sv hO4.below), .inr ⟨wb, HKA.out, HMB.out, ?_⟩⟩
          rw [List.length_append]
          exact hO4
        clear hown4 hgrow4 hat4 hlt4 hO4 HO
        go_wp2_with fail
        go_roundw
        case rel => exact ⟨k + 1, by omega, by go_num, HF4⟩
        case measure => simp [intOf]; omega
      · rw [Bool.not_eq_true] at hp
        have HP := Lib.hid (firstN_no (i := k) hp)
        rw [hp]
        clear hm2 hp
        go_wp2_with fail
        go_roundw
        case rel => exact ⟨k + 1, by omega, by go_num, by rw [HP.out]; exact HR2⟩
        case measure => simp [intOf]; omega
    · have hge : ¬ ((k : Int) < (M : Int)) := by omega
      obtain rfl : k = M := by omega
      have hlen := firstN_len k p
      have HE := Lib.hid (hR.out.fin hX (by omega))
      clear hR
      go_wp2_with fail
      go_ret
      exact ⟨_, rfl, HE.out⟩

set_option maxRecDepth 100000 in
set_option maxHeartbeats 4000000 in
theorem nodes_70 (rp : Value) (X M : Nat) (L : List Ed) (p : Int → Bool) (w : World) (h : Sv w X M L) (hA : AskP 54 rp X M L p) :
    Calls Tryz.prog 43 #[.pointer (some ⟨X, 0, none⟩), .func (.func 54) #[rp] #[]] w fun e w' => ∃ rv, e = .returned rv ∧ Row 1 w' w.heap.size w'.heap.size rv (firstN M p).length (firstN M p) ∧ Kx X M L w w' ∧ (firstN M p ≠ [] → Meas X w') := by
  have hM := h.M
  have hX := h.lt
  have H := Lib.hid h
  have c0 := h.c0
  have HA := Lib.hid hA
  obtain ⟨i3, hi, hz0, hz1, hz2⟩ := info_parts Tryz.info3
  have I := Lib.hid (And.intro hi (And.intro hz0 (And.intro hz1 hz2)))
  have HF : Hid (FndP X M L w w (.slice none 0 0) []) := ⟨Kx.refl h, .inl ⟨rfl, rfl⟩⟩
  clear h hA hi hz0 hz1 hz2
  go_enter Tryz.func43, Tryz.ntmps43
  go_wp2_with fail
  go_loopw [5, 12] (fun v i wr => ∃ k : Nat, k ≤ M ∧ i = .int .i64 (k : Int) ∧ Hid (FndP X M L w wr v (firstN k p))) (fun _ i _ => M - (intOf i).toNat)
  case atStart => exact ⟨0, Nat.zero_le _, rfl, HF⟩
  case round =>
    obtain ⟨k, hk, rfl, hR⟩ := hrel
    clear HF c0
    by_cases hlt : k < M
    · have q1 : (k : Int) < (M : Int) := by omega
      go_wp2_with fail
      go_at_call 54
      refine (HA.out k _ hR.out.1.sv hlt).mono ?_
      rintro e w2 ⟨rfl, hk2, hm2⟩
      have HR2 := Lib.hid (hR.out.no hX hk2)
      clear hR hk2
      by_cases hp : p (k : Int) = true
      · have HP := Lib.hid (firstN_yes (i := k) hp)
        have hmm := hm2 hp
        rw [hp]
        obtain ⟨wb, a, m, o⟩ := HR2.out.start hmm
        obtain ⟨ra, rc, hra⟩ := own_slice o.row
        subst hra
        have HO := Lib.hid o
        have HKA := Lib.hid a
        have HMB := Lib.hid m
        have hsb := a.but.size
        have hlen := firstN_len k p
        have hob := o.below.size
        clear hm2 hp hmm HR2 a m o
        go_wp2_with (at_builtin; refine wpList_append_lies _ rfl _ _ 38 rfl wb.heap.size 3 i3 (.int .i64 0) 1 8 Tryz.underlying38 I.out.1 I.out.2.1 I.out.2.2.1 I.out.2.2.2 rfl (by decide) _ (firstN k p).length (ints (firstN k p)) rfl (HO.out.row.alloc _) ⟨w2.heap.size, 0, none⟩ 1 1 [.int .i64 (k : Int)] rfl rfl ?d0 (int_one _) (by decide) ?d1 ?d2 ?d3 _ rfl ?_)
        case d0 => exact fun j u hj => cell_one_new w2 (.int .i64 (k : Int)) 3 rfl j u hj
        case d1 => unfold maxLen; omega
        case d2 => omega
        case d3 => simp; omega
        intro g4 cap4 w4 hown4 hgrow4 hat4 hlt4
        have hO4 := (HO.out.grow ((Below.refl _ _).alloc (Nat.le_refl _) _)).app hgrow4 hown4
        have HF4 : Hid (FndP X M L w w4 (.slice (some ⟨g4, 0, none⟩) ((firstN k p).length + 1) cap4) (firstN (k + 1) p)) := by
          show FndP _ _ _ _ _ _ _
          rw [HP.out]
          refine ⟨HKA.out.trans hX (Kx.of HKA.out.sv hO4.below), .inr ⟨wb, HKA.out, HMB.out, ?_⟩⟩
          rw [List.length_append]
          exact hO4
        clear hown4 hgrow4 hat4 hlt4 hO4 HO
        go_wp2_with fail
        go_roundw
        case rel => exact ⟨k + 1, by omega, by go_num, HF4⟩
        case measure => simp [intOf]; omega
      · rw [Bool.not_eq_true] at hp
        have HP := Lib.hid (firstN_no (i := k) hp)
        rw [hp]
        clear hm2 hp
        go_wp2_with fail
        go_roundw
        case rel => exact ⟨k + 1, by omega, by go_num, by rw [HP.out]; exact HR2⟩
        case measure => simp [intOf]; omega
    · have hge : ¬ ((k : Int) < (M : Int)) := by omega
      obtain rfl : k = M := by omega
      have hlen := firstN_len k p
      have HE := Lib.hid (hR.out.fin hX (by omega))
      clear hR
      go_wp2_with fail
      go_ret
      exact ⟨_, rfl, HE.out⟩

set_option maxRecDepth 100000 in
set_option maxHeartbeats 4000000 in
theorem alternate_any (X M s f d : Nat) (L : List Ed) (hs : s < M) (hd : d < M) : AskP 44 (rpV X s f d) X M L (altB (M : Int) L (s : Int) (f : Int) (d : Int)) := by
  intro n w h hn
  have HS := Lib.hid h
  have hX := h.lt
  have b1 : Below w.heap.size w (w.alloc (.cells #[.pointer (some ⟨X, 0, none⟩), .int .i64 (s : Int), .int .i64 (f : Int), .int .i64 (d : Int)] 61)) := (Below.refl _ _).alloc (Nat.le_refl _) _
  have K1 := Lib.hid (Kx.of h b1)
  have D1 := Lib.hid (loopFree_any X M s n d L _ (h.grow b1) hs hn hd)
  clear h b1
  unfold rpV
  by_cases hnf : (n : Int) = (f : Int)
  · have e : altB (M : Int) L (s : Int) (f : Int) (d : Int) (n : Int) = false := by unfold altB; rw [hnf]; simp
    rw [e]
    have hne : ((n : Int) != (f : Int)) = false := by rw [hnf]; simp
    clear e hnf D1
    go_enter Tryz.func44, Tryz.ntmps44
    go_wp2
    go_ret
    exact ⟨rfl, K1.out, fun h => by cases h⟩
  · have e : altB (M : Int) L (s : Int) (f : Int) (d : Int) (n : Int) = lfB (M : Int) L (s : Int) (n : Int) (d : Int) := by unfold altB; rw [beq_eq_false_iff_ne.2 hnf]; rfl
    rw [e]
    have hne : ((n : Int) != (f : Int)) = true := by simp [bne, beq_eq_false_iff_ne.2 hnf]
    generalize lfB (M : Int) L (s : Int) (n : Int) (d : Int) = r at *
    clear e hnf
    go_enter Tryz.func44, Tryz.ntmps44
    go_wp2_with fail
    go_at_call 48
    refine (D1.out).mono ?_
    rintro e w2 ⟨rfl, k2, m2⟩
    have K2 := Lib.hid (K1.out.trans hX k2)
    have M2 := Lib.hid m2
    clear k2 m2 D1
    go_wp2
    go_ret
    exact ⟨rfl, K2.out, M2.out⟩

/-- A row of edges of one's own: v holds P; what was there at w is kept. -/
structure OwnX (w wr : World) (v : Value) (n : Nat) (P : List Ed) : Prop where
  below : Below w.heap.size w wr
  row : wr.ownsRow w.heap.size 75 3 v n (ints (flat P))
theorem OwnX.nil (w : World) : OwnX w w (.slice none 0 0) 0 [] := ⟨Below.refl _ _, World.ownsRow_nil _ _ _ _⟩
theorem OwnX.grow {w wr w2 : World} {v : Value} {n : Nat} {P : List Ed} (h : OwnX w wr v n P) (b : Below wr.heap.size wr w2) : OwnX w w2 v n P :=
  ⟨h.below.trans (b.mono h.below.size), h.row.kept (row := none) ⟨b.os, b.tape, b.output, b.size, fun j hj _ => b.block j hj⟩ (by cases hv : v.ownBlock <;> simp)⟩
theorem OwnX.app {w wr w4 : World} {v v' : Value} {n : Nat} {P : List Ed} {a b c : Int} (h : OwnX w wr v n P) (hg : wr.grownBy w4 v.ownBlock) (hr : w4.ownsRow w.heap.size 75 3 v' (n + 1) (ints (flat P) ++ [.int .i64 a, .int .i64 b, .int .i64 c])) : OwnX w w4 v' (n + 1) (P ++ [(a, b, c)]) := by
  have hs := h.below.size
  have b := h.below
  refine ⟨⟨hg.os.trans b.os, hg.tape.trans b.tape, hg.output.trans b.output, Nat.le_trans hs hg.size, fun k hk => (hg.block k (by omega) (fun e => ?_)).trans (b.block k hk)⟩, by rw [flat_app]; simp only [ints, List.map_append, flat, List.flatMap_cons, List.flatMap_nil, List.append_nil, List.map_cons, List.map_nil] at hr ⊢; exact hr⟩
  have := (h.row.lt k e.symm).1
  omega
theorem OwnX.toRow {w wr : World} {v : Value} {n : Nat} {P : List Ed} (h : OwnX w wr v n P) (hl : n ≤ 1100000) : Row 3 wr w.heap.size wr.heap.size v n (flat P) := row_of_own h.row hl
/-- The edges from x. -/
def exP (x : Int) (e : Ed) : Bool := decide (e.1 = x)
def exL (L : List Ed) (x : Int) : List Ed := L.filter (exP x)

set_option maxRecDepth 100000 in
set_option maxHeartbeats 4000000 in
theorem exits_any (N : Int) (lo hi n : Nat) (v : Value) (L : List Ed) (x : Int) (w : World) (hL : L.length = n) (hr : Row 3 w lo hi v n (flat L)) (hh : hi ≤ w.heap.size) :
    Calls Tryz.prog 85 #[.agg #[.int .i64 N, v], .int .i64 x] w fun e w' => ∃ rv, e = .returned rv ∧ Row 3 w' w.heap.size w'.heap.size rv (exL L x).length (flat (exL L x)) ∧ Below w.heap.size w w' := by
  have HL := Lib.hid hL
  obtain ⟨ad, cp, rfl, hn, hc⟩ := hr.opened
  have HC := Lib.hid hc
  have Hn := Lib.hid hn
  obtain ⟨iE, hi, hz0, hz1, hz2⟩ := info_parts Tryz.info75
  have I := Lib.hid (And.intro hi (And.intro hz0 (And.intro hz1 hz2)))
  clear hi hz0 hz1 hz2 hr hc hn
  go_enter Tryz.func85, Tryz.ntmps85
  go_wp2_with fail
  have HO : Hid (OwnX (w.alloc (.cells #[.int .i64 N, .slice ad n cp] 30)) (w.alloc (.cells #[.int .i64 N, .slice ad n cp] 30)) (.slice none 0 0) 0 []) := OwnX.nil _
  have HB : Hid (Below w.heap.size w (w.alloc (.cells #[.int .i64 N, .slice ad n cp] 30))) := (Below.refl _ _).alloc (Nat.le_refl _) _
  have hsz : (w.alloc (.cells #[.int .i64 N, .slice ad n cp] 30)).heap.size = w.heap.size + 1 := by simp
  generalize w.alloc (.cells #[.int .i64 N, .slice ad n cp] 30) = W at *
  have HS := Lib.hid hsz
  clear hsz
  go_loopw [5, 11] (fun s i wr => ∃ k : Nat, k ≤ n ∧ i = .int .i64 (k : Int) ∧ Hid (OwnX W wr s ((L.take k).filter (exP x)).length ((L.take k).filter (exP x)))) (fun _ i _ => n - (intOf i).toNat)
  case atStart => exact ⟨0, Nat.zero_le _, rfl, HO⟩
  case round =>
    obtain ⟨k, hk, rfl, hR⟩ := hrel
    have hn6 := Hn.out
    by_cases hlt : k < n
    · obtain ⟨g, rfl, hg, hcell⟩ := HC.out (by omega)
      have hBw : Below w.heap.size w wr := HB.out.trans (hR.out.below.mono (by rw [HS.out]; omega))
      obtain ⟨r, hrk⟩ : ∃ r, L[k]? = some r := ⟨L[k]'(by rw [HL.out]; exact hlt), List.getElem?_eq_getElem _⟩
      obtain ⟨a, b, c⟩ := r
      obtain ⟨r0, r1, r2⟩ := flat_at L k _ hrk
      have z0 : wr.cell? ⟨g, k * 3, none⟩ = some (.int .i64 a) := by rw [hBw.cell (p := ⟨g, k * 3, none⟩) (by show g < _; omega)]; exact hcell _ _ r0
      have z1 : wr.cell? ⟨g, k * 3 + 1, none⟩ = some (.int .i64 b) := by rw [hBw.cell (p := ⟨g, k * 3 + 1, none⟩) (by show g < _; omega)]; exact hcell _ _ r1
      have z2 : wr.cell? ⟨g, k * 3 + 2, none⟩ = some (.int .i64 c) := by rw [hBw.cell (p := ⟨g, k * 3 + 2, none⟩) (by show g < _; omega)]; exact hcell _ _ r2
      have Hf := Lib.hid (filter_snoc (P := exP x) hrk)
      have q0 : (0 : Int) ≤ (k : Int) := by omega
      have q1 : (k : Int) < (n : Int) := by omega
      have hS0 := hR.out.below.size
      have HE := Lib.hid (hR.out.grow ((Below.refl _ _).alloc (Nat.le_refl _) (.cells #[.int .i64 a, .int .i64 b, .int .i64 c] 75)))
      clear r0 r1 r2 hrk hcell hBw hR
      by_cases hP : a = x
      · have HP : Hid (exP x (a, b, c) = true) := decide_eq_true hP
        rw [HP.out, if_pos rfl] at Hf
        have hPe : (a == x) = true := by simp [hP]
        have hll := filter_len (exP x) L k
        obtain ⟨m, hm⟩ : ∃ m, m = ((L.take k).filter (exP x)).length := ⟨_, rfl⟩
        rw [← hm] at hll HE
        have Hm := Lib.hid hm
        clear hP hm
        have hown := HE.out.row
        obtain ⟨ra, rc, hra⟩ := own_slice hown
        subst hra
        have Hw := Lib.hid hown
        clear hown
        go_wp2_with (at_builtin; refine wpList_append_lies _ rfl _ _ 28 rfl W.heap.size 75 iE (.agg #[.int .i64 0, .int .i64 0, .int .i64 0]) 3 24 Tryz.underlying28 I.out.1 I.out.2.1 I.out.2.2.1 I.out.2.2.2 rfl (by decide) _ m (ints (flat ((L.take k).filter (exP x)))) rfl (Hw.out.alloc _) ⟨wr.heap.size + 1, 0, none⟩ 1 1 [.int .i64 a, .int .i64 b, .int .i64 c] rfl rfl ?c0 (three_one _ _ _) (by decide) ?c1 ?c2 ?c3 _ rfl ?_)
        case c0 => exact fun j u hj => by have := cell_three_new (wr.alloc (.cells #[.int .i64 a, .int .i64 b, .int .i64 c] 75)) (.int .i64 a) (.int .i64 b) (.int .i64 c) 75 j u hj; simpa using this
        case c1 => unfold maxLen; have := Hn.out; omega
        case c2 => omega
        case c3 => simp; omega
        intro g4 cap4 w4 hown4 hgrow4 hat4 hlt4
        have HF := Lib.hid ((HE.out.grow ((Below.refl _ _).alloc (Nat.le_refl _) _)).app hgrow4 hown4)
        clear hown4 hgrow4 hat4 hlt4 Hw HE
        go_wp2_with fail
        go_roundw
        case rel => exact ⟨k + 1, by omega, by go_num, by rw [Hf.out, List.length_append, ← Hm.out]; exact HF.out⟩
        case measure => simp [intOf]; omega
      · have HP : Hid (exP x (a, b, c) = false) := decide_eq_false hP
        rw [HP.out, if_neg (by decide), List.append_nil] at Hf
        have hPe : (a == x) = false := by simp [hP]
        clear hP
        go_wp2_with fail
        go_roundw
        case rel => exact ⟨k + 1, by omega, by go_num, by rw [Hf.out]; exact HE.out⟩
        case measure => simp [intOf]; omega
    · have hge : ¬ ((k : Int) < (n : Int)) := by omega
      obtain rfl : k = n := by omega
      have e1 : (L.take k).filter (exP x) = exL L x := by rw [List.take_of_length_le (by rw [HL.out]; omega)]; rfl
      rw [e1] at hR
      have hll : (exL L x).length ≤ 1100000 := Nat.le_trans (List.length_filter_le _ _) (by rw [HL.out]; exact Hn.out)
      have HE := hR
      clear hR e1
      go_wp2_with fail
      go_ret
      exact ⟨_, rfl, (HE.out.toRow hll).wide (by rw [HS.out]; omega) (Nat.le_refl _), HB.out.trans (HE.out.below.mono (by rw [HS.out]; omega))⟩

/-- As Q; by a goto to label l: as Q where the run ends by itself. -/
def Exit.fwd (l : Nat) (Q : Exit → Act → World → Prop) : Exit → Act → World → Prop
  | .goto l', a, w => l' = l ∧ Q .normal a w
  | e, a, w => Q e a w
/-- A scope that is left by a goto to a label at its end. -/
theorem wp_scope_fwd {P : Program} {a : Act} {w : World} {Q : Exit → Act → World → Prop} {c rest : Code} (l : Nat) (hf : findLabel c l = some rest) (hr : ∀ (R : Exit → Act → World → Prop) (a : Act) (w : World), R .normal a w → rest.wp P R a w)
    (h : c.wp P (Exit.fwd l Q) a w) : (Code.scope c).wp P Q a w := by
  refine wp_scope_jumps l (fun a w => Q .normal a w) (fun _ _ => 0) hf ?_ (fun a w hJ => hr _ a w hJ)
  exact wp_mono h fun e a w he => by cases e <;> exact he
/-- An edge back is there if one of the edges from its end leads to its start. -/
theorem back_iff {N : Int} {L : List Ed} (hG : gok N L = true) (a b : Int) : cst L b a ≠ Far ↔ ∃ r ∈ exL L b, r.2.1 = a := by
  constructor
  · intro h
    rcases cst_cases hG b a with ⟨h1, _⟩ | ⟨e, he, h1, h2, _⟩
    · exact absurd h1 h
    · exact ⟨e, List.mem_filter.2 ⟨he, decide_eq_true h1⟩, h2⟩
  · rintro ⟨r, hr, h2⟩
    have h1 := List.mem_filter.1 hr
    have h3 : r.1 = b := of_decide_eq_true h1.2
    have h4 := cst_mem hG h1.1
    rw [h3, h2] at h4
    rw [h4]
    have := (gok_mem hG h1.1).2.2.2.2
    rw [far_val]
    omega
set_option maxRecDepth 100000 in
set_option maxHeartbeats 4000000 in
theorem paired_any (N : Int) (lo hi n : Nat) (v : Value) (L : List Ed) (w : World) (hG : gok N L = true) (hL : L.length = n) (hr : Row 3 w lo hi v n (flat L)) (hh : hi ≤ w.heap.size) :
    Calls Tryz.prog 64 #[.agg #[.int .i64 N, v]] w fun e w' => e = .returned (.bool (pairB L)) ∧ Below w.heap.size w w' := by
  have HR := Lib.hid hr
  have HL := Lib.hid hL
  have HG := Lib.hid hG
  have hn60 : n ≤ 60 := by have := (gok_parts hG).2.2.1; omega
  obtain ⟨ad, cp, rfl, hn, hc⟩ := hr.opened
  have HC := Lib.hid hc
  clear hr hc hn hG hL
  go_enter Tryz.func64, Tryz.ntmps64
  go_wp2_with fail
  have hB : Below w.heap.size w (w.alloc (.cells #[.int .i64 N, .slice ad n cp] 30)) := (Below.refl _ _).alloc (Nat.le_refl _) _
  have HRW := Lib.hid (HR.out.below hB hh)
  have HB := Lib.hid hB
  have HS : Hid ((w.alloc (.cells #[.int .i64 N, .slice ad n cp] 30)).heap.size = w.heap.size + 1) := by show _ = _; simp
  have HX : Hid ((w.alloc (.cells #[.int .i64 N, .slice ad n cp] 30)).cell? ⟨w.heap.size, 0, none⟩ = some (.int .i64 N) ∧ (w.alloc (.cells #[.int .i64 N, .slice ad n cp] 30)).cell? ⟨w.heap.size, 1, none⟩ = some (.slice ad n cp)) := ⟨by simp, by simp⟩
  clear hB
  generalize w.alloc (.cells #[.int .i64 N, .slice ad n cp] 30) = W at *
  go_loopw [10] (fun i wr => ∃ k : Nat, k ≤ n ∧ i = .int .i64 (k : Int) ∧ Hid (Below W.heap.size W wr) ∧ Hid (∀ e ∈ L.take k, cst L e.2.1 e.1 ≠ Far)) (fun i _ => n - (intOf i).toNat)
  case atStart => exact ⟨0, Nat.zero_le _, rfl, Below.refl _ _, fun e he => by simp at he⟩
  case round =>
    obtain ⟨k, hk, rfl, hR, hA⟩ := hrel
    have hsz := hR.out.size
    by_cases hlt : k < n
    · obtain ⟨g, rfl, hg, hcell⟩ := HC.out (by omega)
      have hBw : Below w.heap.size w wr := HB.out.trans (hR.out.mono (by rw [HS.out]; omega))
      obtain ⟨r, hrk⟩ : ∃ r, L[k]? = some r := ⟨L[k]'(by rw [HL.out]; exact hlt), List.getElem?_eq_getElem _⟩
      obtain ⟨a, b, c⟩ := r
      obtain ⟨r0, r1, r2⟩ := flat_at L k _ hrk
      have z0 : wr.cell? ⟨g, k * 3, none⟩ = some (.int .i64 a) := by rw [hBw.cell (p := ⟨g, k * 3, none⟩) (by show g < _; omega)]; exact hcell _ _ r0
      have z1 : wr.cell? ⟨g, k * 3 + 1, none⟩ = some (.int .i64 b) := by rw [hBw.cell (p := ⟨g, k * 3 + 1, none⟩) (by show g < _; omega)]; exact hcell _ _ r1
      have z2 : wr.cell? ⟨g, k * 3 + 2, none⟩ = some (.int .i64 c) := by rw [hBw.cell (p := ⟨g, k * 3 + 2, none⟩) (by show g < _; omega)]; exact hcell _ _ r2
      have x0 : wr.cell? ⟨w.heap.size, 0, none⟩ = some (.int .i64 N) := by rw [hR.out.cell (p := ⟨w.heap.size, 0, none⟩) (by rw [HS.out]; show w.heap.size < _; omega)]; exact HX.out.1
      have x1 : wr.cell? ⟨w.heap.size, 1, none⟩ = some (.slice (some ⟨g, 0, none⟩) n cp) := by rw [hR.out.cell (p := ⟨w.heap.size, 1, none⟩) (by rw [HS.out]; show w.heap.size < _; omega)]; exact HX.out.2
      have q0 : (0 : Int) ≤ (k : Int) := by omega
      have q1 : (k : Int) < (n : Int) := by omega
      have hwl : w.heap.size < wr.heap.size := by have := HS.out; omega
      have HK : Hid (L[k]? = some (a, b, c)) := hrk
      have HRr := Lib.hid ((HR.out.below hBw hh).below ((Below.refl wr.heap.size wr).alloc (Nat.le_refl _) (.cells #[.int .i64 a, .int .i64 b, .int .i64 c] 75)) (by omega))
      have HBr := Lib.hid (hR.out.alloc hsz (.cells #[.int .i64 a, .int .i64 b, .int .i64 c] 75))
      have x0' : (wr.alloc (.cells #[.int .i64 a, .int .i64 b, .int .i64 c] 75)).cell? ⟨w.heap.size, 0, none⟩ = some (.int .i64 N) := by rw [old_box (by omega)]; exact x0
      have x1' : (wr.alloc (.cells #[.int .i64 a, .int .i64 b, .int .i64 c] 75)).cell? ⟨w.heap.size, 1, none⟩ = some (.slice (some ⟨g, 0, none⟩) n cp) := by rw [old_box (by omega)]; exact x1
      clear r0 r1 r2 hrk hcell hBw x0 x1 hR
      go_wp2_with fail
      refine wp_scope_fwd 0 rfl (fun R a w h => ?_) ?_
      · exact wp_skip h
      go_wp2_with fail
      go_at_call 85
      refine (exits_any N lo hi n _ L b _ HL.out HRr.out (by simp; omega)).mono ?_
      rintro e v1 ⟨rv, rfl, hrow, hb1⟩
      have hs1 := hb1.size
      simp only [World.size_alloc] at hs1
      have y0 : v1.cell? ⟨wr.heap.size, 0, none⟩ = some (.int .i64 a) := by rw [hb1.cell (p := ⟨wr.heap.size, 0, none⟩) (by simp)]; simp
      have HBv : Hid (Below W.heap.size W v1) := HBr.out.trans (hb1.mono (by simp; omega))
      obtain ⟨ad2, cp2, rfl, hn2, hc2⟩ := hrow.opened
      obtain ⟨m, hm⟩ : ∃ m, m = (exL L b).length := ⟨_, rfl⟩
      have hm60 : m ≤ 60 := by rw [hm]; exact Nat.le_trans (List.length_filter_le _ _) (by rw [HL.out]; exact hn60)
      have HC2 := Lib.hid hc2
      have Hm := Lib.hid hm
      rw [← hm]
      rw [← hm] at HC2
      clear hb1 HBr HRr x0' x1' z0 z1 z2 hrow hn2 hc2 hm
      obtain ⟨Bz, hBz⟩ : ∃ q, q = wr.heap.size := ⟨_, rfl⟩
      rw [← hBz] at y0 hs1 hwl hsz ⊢
      clear hBz
      go_wp2_with fail
      go_loopw [19] (fun i wx => ∃ j : Nat, j ≤ m ∧ i = .int .i64 (j : Int) ∧ Hid (Below v1.heap.size v1 wx) ∧ Hid (∀ r ∈ (exL L b).take j, r.2.1 ≠ a)) (fun i _ => m - (intOf i).toNat)
      case atStart => exact ⟨0, Nat.zero_le _, rfl, Below.refl _ _, fun e he => by simp at he⟩
      case round =>
        obtain ⟨j, hj, rfl, hJ, hT⟩ := hrel
        by_cases hjl : j < m
        · obtain ⟨g2, rfl, hg2, hcell2⟩ := HC2.out (by omega)
          obtain ⟨r, hrj⟩ : ∃ r, (exL L b)[j]? = some r := ⟨(exL L b)[j]'(by rw [← Hm.out]; exact hjl), List.getElem?_eq_getElem _⟩
          obtain ⟨a2, b2, c2⟩ := r
          obtain ⟨r0, r1, r2⟩ := flat_at (exL L b) j _ hrj
          have hg3 : g2 < v1.heap.size := by omega
          have t0 : wr.cell? ⟨g2, j * 3, none⟩ = some (.int .i64 a2) := by rw [hJ.out.cell (p := ⟨g2, j * 3, none⟩) hg3]; exact hcell2 _ _ r0
          have t1 : wr.cell? ⟨g2, j * 3 + 1, none⟩ = some (.int .i64 b2) := by rw [hJ.out.cell (p := ⟨g2, j * 3 + 1, none⟩) hg3]; exact hcell2 _ _ r1
          have t2 : wr.cell? ⟨g2, j * 3 + 2, none⟩ = some (.int .i64 c2) := by rw [hJ.out.cell (p := ⟨g2, j * 3 + 2, none⟩) hg3]; exact hcell2 _ _ r2
          have hwv : Bz < wr.heap.size := by have := hJ.out.size; omega
          have y1 : wr.cell? ⟨Bz, 0, none⟩ = some (.int .i64 a) := by rw [hJ.out.cell (p := ⟨Bz, 0, none⟩) (by show Bz < _; omega)]; exact y0
          have y2 : (wr.alloc (.cells #[.int .i64 a2, .int .i64 b2, .int .i64 c2] 75)).cell? ⟨Bz, 0, none⟩ = some (.int .i64 a) := by rw [old_box (by omega)]; exact y1
          have p0 : (0 : Int) ≤ (j : Int) := by omega
          have p1 : (j : Int) < (m : Int) := by omega
          have HBx := Lib.hid (hJ.out.alloc hJ.out.size (.cells #[.int .i64 a2, .int .i64 b2, .int .i64 c2] 75))
          have HK2 : Hid ((exL L b)[j]? = some (a2, b2, c2)) := hrj
          clear r0 r1 r2 hrj hcell2 y1 hJ
          by_cases hq : b2 = a
          · have he : (b2 == a) = true := by simp [hq]
            have Hq := Lib.hid hq
            clear hq
            go_wp2_with fail
            refine wp_goto ?_
            refine And.intro rfl ?_
            go_wp2_with fail
            go_roundw
            case rel => exact ⟨k + 1, by omega, by go_num, HBv.out.trans (HBx.out.mono (by omega)), fun e he => by
              rw [List.take_add_one, HK.out] at he
              rcases List.mem_append.1 he with he | he
              · exact hA.out e he
              · simp at he; subst he
                exact (back_iff HG.out a b).2 ⟨_, List.mem_of_getElem? HK2.out, Hq.out⟩⟩
            case measure => simp [intOf]; omega
          · have he : (b2 == a) = false := by simp [hq]
            have Hq := Lib.hid hq
            clear hq
            go_wp2_with fail
            go_roundw
            case rel => exact ⟨j + 1, by omega, by go_num, HBx.out, fun r hr => by
              rw [List.take_add_one, HK2.out] at hr
              rcases List.mem_append.1 hr with hr | hr
              · exact hT.out r hr
              · simp at hr; subst hr; exact Hq.out⟩
            case measure => simp [intOf]; omega
        · have hge : ¬ ((j : Int) < (m : Int)) := by omega
          obtain rfl : j = m := by omega
          go_wp2_with fail
          simp +zetaDelta only [Exit.fwd, Exit.inBlock, Exit.then]
          go_ret
          refine ⟨?_, HB.out.trans ((HBv.out.trans (hJ.out.mono (by omega))).mono (by rw [HS.out]; omega))⟩
          have e : pairB L = false := by
            unfold pairB
            rw [List.all_eq_false]
            refine ⟨_, List.mem_of_getElem? HK.out, fun h => ?_⟩
            obtain ⟨r, hr, h2⟩ := (back_iff HG.out a b).1 (of_decide_eq_true h)
            exact hT.out r (by rw [List.take_of_length_le (by rw [← Hm.out]; exact Nat.le_refl _)]; exact hr) h2
          rw [e]
          rfl
    · have hge : ¬ ((k : Int) < (n : Int)) := by omega
      obtain rfl : k = n := by omega
      go_wp2_with fail
      go_ret
      refine ⟨?_, HB.out.trans (hR.out.mono (by rw [HS.out]; omega))⟩
      have e : pairB L = true := by
        unfold pairB
        rw [List.all_eq_true]
        intro r hr
        exact decide_eq_true (hA.out r (by rw [List.take_of_length_le (by rw [HL.out]; exact Nat.le_refl _)]; exact hr))
      rw [e]
      rfl

/-- The cells of a new survey. -/
def svA (N : Int) (v : Value) (L : List Ed) : Array Value := #[.int .i64 N, v] ++ tabOf L ++ #[.int .u32 0, .int .i32 0, .int .u32 0, .slice none 0 0]
theorem svA_low (N : Int) (v : Value) (L : List Ed) {q : Nat} (hq : q < 2) : (svA N v L)[q]? = (#[Value.int .i64 N, v])[q]? := by
  have h1 : (tabOf L).size = 100 := tabA_size _
  unfold svA
  generalize tabOf L = T at h1 ⊢
  rw [Array.getElem?_append_left (by simp [h1]; omega), Array.getElem?_append_left (by simpa using hq)]
theorem svA_mid (N : Int) (v : Value) (L : List Ed) {q : Nat} (hq : q < 100) : (svA N v L)[2 + q]? = (tabOf L)[q]? := by
  have h1 : (tabOf L).size = 100 := tabA_size _
  unfold svA
  generalize tabOf L = T at h1 ⊢
  rw [Array.getElem?_append_left (by simp [h1]; omega), Array.getElem?_append_right (by simp)]
  have e : 2 + q - (#[Value.int .i64 N, v]).size = q := by simp
  rw [e]
theorem svA_end (N : Int) (v : Value) (L : List Ed) (q : Nat) : (svA N v L)[102 + q]? = (#[Value.int .u32 0, .int .i32 0, .int .u32 0, .slice none 0 0])[q]? := by
  have h1 : (tabOf L).size = 100 := tabA_size _
  unfold svA
  generalize tabOf L = T at h1 ⊢
  rw [Array.getElem?_append_right (by simp [h1])]
  have e : 102 + q - (#[Value.int .i64 N, v] ++ T).size = q := by simp [h1]
  rw [e]
theorem svA_fold0 (N : Int) (v : Value) (F : Nat → Int) : Array.foldl (fun (cs : Array Value) (x : Value × Nat) => cs.setIfInBounds (2 + x.snd) x.fst) ((Tryz.zeroCells103.setIfInBounds 0 (.int .i64 N)).setIfInBounds 1 v) (tabA F).zipIdx 0 100 = #[.int .i64 N, v] ++ tabA F ++ #[.int .u32 0, .int .i32 0, .int .u32 0, .slice none 0 0] := by kernel_rfl
theorem svA_fold (N : Int) (v : Value) (L : List Ed) : Array.foldl (fun (cs : Array Value) (x : Value × Nat) => cs.setIfInBounds (2 + x.snd) x.fst) ((Tryz.zeroCells103.setIfInBounds 0 (.int .i64 N)).setIfInBounds 1 v) (tabOf L).zipIdx 0 100 = svA N v L := svA_fold0 N v _
/-- A new survey. -/
theorem Sv.new {w : World} {M lo hi n : Nat} {v : Value} {L : List Ed} {W : World} (hW : W = w.alloc (.cells (svA (M : Int) v L) 103)) (hG : gok (M : Int) L = true) (hL : L.length = n) (hr : Row 3 w lo hi v n (flat L)) (hh : hi ≤ w.heap.size) : Sv W w.heap.size M L := by
  subst hW
  have hb : (w.alloc (.cells (svA (M : Int) v L) 103)).heap[w.heap.size]? = some (.cells (svA (M : Int) v L) 103 (0, 0)) := heap_alloc_new _ _
  have hc : ∀ q, (w.alloc (.cells (svA (M : Int) v L) 103)).cell? ⟨w.heap.size, q, none⟩ = (svA (M : Int) v L)[q]? := fun q => cell_of_row _ _ _ _ _ _ hb
  refine ⟨hG, by simp, by rw [hc, svA_low _ _ _ (by omega)]; rfl, ⟨v, lo, hi, n, by rw [hc, svA_low _ _ _ (by omega)]; rfl, hL, hr.below ((Below.refl w.heap.size w).alloc (Nat.le_refl _) _) hh, hh⟩, fun x y hx hy => ?_, fun o => frozen_of_row _ _ _ _ _ hb, by rw [hc, svA_end _ _ _ 1]; rfl, .inl ⟨by rw [hc, svA_end _ _ _ 0]; rfl, _, by rw [hc, svA_end _ _ _ 3]; rfl⟩⟩
  rw [hc, Nat.add_assoc, svA_mid _ _ _ (by omega)]
  exact tabOf_at L (x := (x : Int)) (y := (y : Int)) (by omega) (by omega)
/-- The survey's edges lie below B. -/
def EdgB (B : Nat) (w : World) (X : Nat) (L : List Ed) : Prop := ∃ v lo hi n, w.cell? ⟨X, 1, none⟩ = some v ∧ L.length = n ∧ Row 3 w lo hi v n (flat L) ∧ hi ≤ B
def SoPost (B : Nat) (N : Int) (L : List Ed) (xs : List Int) (w : World) (e : Ending) (w' : World) : Prop :=
  Below w.heap.size w w' ∧ ((g10 N L xs = false ∧ e = .returned (.tuple #[.pointer none, .bool false])) ∨ (g10 N L xs = true ∧ ∃ X, e = .returned (.tuple #[.pointer (some ⟨X, 0, none⟩), .bool true]) ∧ w.heap.size ≤ X ∧ Sv w' X N.toNat L ∧ EdgB B w' X L))

theorem so_end {B : Nat} {N : Int} {L : List Ed} {xs : List Int} {w w6 : World} {v : Value} {lo hi n : Nat} (hb : Below w.heap.size w w6) (hg : g10 N L xs = true) (hL : L.length = n) (hr : Row 3 w6 lo hi v n (flat L)) (hh : hi ≤ w.heap.size) (hhB : hi ≤ B) :
    SoPost B N L xs w (.returned (.tuple #[.pointer (some ⟨w6.heap.size, 0, none⟩), .bool true])) (w6.alloc (.cells (Array.foldl (fun (cs : Array Value) (x : Value × Nat) => cs.setIfInBounds (2 + x.snd) x.fst) ((Tryz.zeroCells103.setIfInBounds 0 (.int .i64 N)).setIfInBounds 1 v) (tabOf L).zipIdx 0 100) 103)) := by
  rw [svA_fold]
  have hG := g10_gok hg
  have hN := gok_parts hG
  have hs := hb.size
  obtain ⟨M, rfl⟩ : ∃ M : Nat, N = (M : Int) := ⟨N.toNat, by omega⟩
  have hb2 : (w6.alloc (.cells (svA (M : Int) v L) 103)).heap[w6.heap.size]? = some (.cells (svA (M : Int) v L) 103 (0, 0)) := heap_alloc_new _ _
  refine ⟨hb.alloc hb.size _, .inr ⟨hg, w6.heap.size, rfl, hb.size, Sv.new rfl hG hL hr (by omega), v, lo, hi, n, ?_, hL, hr.below ((Below.refl w6.heap.size w6).alloc (Nat.le_refl _) _) (by omega), hhB⟩⟩
  rw [cell_of_row _ _ _ _ _ _ hb2, svA_low _ _ _ (by omega)]; rfl

set_option maxRecDepth 100000 in
set_option maxHeartbeats 4000000 in
theorem survey_any (B : Nat) (N : Int) (lo hi n : Nat) (v : Value) (L : List Ed) (l2 h2 m : Nat) (vx : Value) (xs : List Int) (w : World) (hL : L.length = n) (hr : Row 3 w lo hi v n (flat L)) (hh : hi ≤ w.heap.size) (hx : Row 1 w l2 h2 vx m xs) (hh2 : h2 ≤ w.heap.size) (hm : m ≤ 10) (hhB : hi ≤ B) :
    Calls Tryz.prog 34 #[.agg #[.int .i64 N, v], vx] w (SoPost B N L xs w) := by
  have HR := Lib.hid hr
  have HX := Lib.hid hx
  have HL := Lib.hid hL
  obtain ⟨ad, cp, rfl⟩ := hr.slice
  obtain ⟨ax, cx, rfl, hxn, hxc⟩ := hx.opened
  have HXC := Lib.hid hxc
  have HXL : Hid (xs.length = m) := by have := hx.1; show _ = _; omega
  clear hr hx hxn hxc
  have b0 : Below w.heap.size w (w.alloc (.cells #[.int .i64 N, .slice ad n cp] 30)) := (Below.refl _ _).alloc (Nat.le_refl _) _
  have HB0 := Lib.hid b0
  have HR0 := Lib.hid (HR.out.below b0 hh)
  clear b0
  go_enter Tryz.func34, Tryz.ntmps34
  go_wp2_with fail
  go_at_call 51
  refine (igok_any N lo hi n _ L _ hL HR0.out (by simp; omega)).mono ?_
  rintro e w1 ⟨rfl, b1⟩
  have HB1 : Hid (Below w.heap.size w w1) := HB0.out.trans (b1.mono (by simp))
  have HR1 := Lib.hid (HR0.out.below b1 (by simp; omega))
  have s1 := b1.size
  simp only [World.size_alloc] at s1
  have c0 : w1.cell? ⟨w.heap.size, 0, none⟩ = some (.int .i64 N) := by rw [b1.cell (p := ⟨w.heap.size, 0, none⟩) (by simp)]; simp
  have c1 : w1.cell? ⟨w.heap.size, 1, none⟩ = some (.slice ad n cp) := by rw [b1.cell (p := ⟨w.heap.size, 1, none⟩) (by simp)]; simp
  clear b1 HB0 HR0
  by_cases hG : gok N L = true
  · rw [hG]
    have HG := Lib.hid hG
    clear hG
    go_wp2_with fail
    go_at_call 64
    refine (paired_any N lo hi n _ L _ HG.out hL HR1.out (by omega)).mono ?_
    rintro e w2 ⟨rfl, b2⟩
    have HB2 : Hid (Below w.heap.size w w2) := HB1.out.trans (b2.mono (by omega))
    have HR2 := Lib.hid (HR1.out.below b2 (by omega))
    have s2 := b2.size
    have d0 : w2.cell? ⟨w.heap.size, 0, none⟩ = some (.int .i64 N) := by rw [b2.cell (p := ⟨w.heap.size, 0, none⟩) (by show w.heap.size < _; omega)]; exact c0
    have d1 : w2.cell? ⟨w.heap.size, 1, none⟩ = some (.slice ad n cp) := by rw [b2.cell (p := ⟨w.heap.size, 1, none⟩) (by show w.heap.size < _; omega)]; exact c1
    have h12 : w.heap.size < w2.heap.size := by omega
    clear b2 HB1 HR1 c0 c1 s1 s2
    by_cases hP : pairB L = true
    · rw [hP]
      have HP := Lib.hid hP
      clear hP
      have D0 := Lib.hid d0
      have D1 := Lib.hid d1
      go_wp2_with fail
      go_loopw [18] (fun i wr => ∃ k : Nat, k ≤ m ∧ i = .int .i64 (k : Int) ∧ Hid (Below w2.heap.size w2 wr) ∧ Hid (∀ x ∈ xs.take k, ndB N x = true)) (fun i _ => m - (intOf i).toNat)
      case atStart => exact ⟨0, Nat.zero_le _, rfl, Below.refl _ _, fun e he => by simp at he⟩
      case round =>
        obtain ⟨k, hk, rfl, hR, hA⟩ := hrel
        have d0 : wr.cell? ⟨w.heap.size, 0, none⟩ = some (.int .i64 N) := by rw [hR.out.cell (p := ⟨w.heap.size, 0, none⟩) h12]; exact D0.out
        have d1 : wr.cell? ⟨w.heap.size, 1, none⟩ = some (.slice ad n cp) := by rw [hR.out.cell (p := ⟨w.heap.size, 1, none⟩) h12]; exact D1.out
        have hwr : w.heap.size < wr.heap.size := by have := hR.out.size; omega
        by_cases hlt : k < m
        · obtain ⟨g, rfl, hg, hcell⟩ := HXC.out (by omega)
          obtain ⟨x, hxk⟩ : ∃ x, xs[k]? = some x := ⟨xs[k]'(by rw [HXL.out]; exact hlt), List.getElem?_eq_getElem _⟩
          have z0 : wr.cell? ⟨g, k, none⟩ = some (.int .i64 x) := by
            rw [hR.out.cell (p := ⟨g, k, none⟩) (by show g < _; omega), HB2.out.cell (p := ⟨g, k, none⟩) (by show g < _; omega)]; exact hcell _ _ hxk
          have q0 : (0 : Int) ≤ (k : Int) := by omega
          have q1 : (k : Int) < (m : Int) := by omega
          have HK := Lib.hid hxk
          have HRr := Lib.hid ((HR2.out.below hR.out (by omega)))
          clear hcell hxk
          go_wp2_with fail
          go_at_call 52
          refine (hasNode_any N _ _ _ x _).mono ?_
          rintro e w3 ⟨rfl, b3⟩
          have HB3 := Lib.hid (hR.out.trans (b3.mono hR.out.size))
          clear b3 HRr d0 d1 z0
          by_cases hN : ndB N x = true
          · rw [hN]
            have HN := Lib.hid hN
            clear hN
            go_wp2_with fail
            go_roundw
            case rel => exact ⟨k + 1, by omega, by go_num, HB3.out, fun y hy => by
              rw [List.take_add_one, HK.out] at hy
              rcases List.mem_append.1 hy with hy | hy
              · exact hA.out y hy
              · simp at hy; subst hy; exact HN.out⟩
            case measure => simp [intOf]; omega
          · rw [Bool.not_eq_true] at hN
            rw [hN]
            have HN := Lib.hid hN
            clear hN
            go_wp2
            refine bodyPost_ret (v := .tuple #[.pointer none, .bool false]) (by simp [results, Tryz.results34, go_sem]) rfl ⟨HB2.out.trans (HB3.out.mono (by omega)), .inl ⟨?_, rfl⟩⟩
            have e : xs.all (ndB N) = false := by
              rw [List.all_eq_false]
              exact ⟨x, List.mem_of_getElem? HK.out, by rw [HN.out]; simp⟩
            unfold g10; rw [e, Bool.and_false]
        · have hge : ¬ ((k : Int) < (m : Int)) := by omega
          have hall : Hid (xs.all (ndB N) = true) := by
            show _ = _
            rw [List.all_eq_true]
            intro y hy
            exact hA.out y (by rw [List.take_of_length_le (by rw [HXL.out]; omega)]; exact hy)
          have HRr := Lib.hid ((HR2.out.below hR.out (by omega)))
          have HBr := Lib.hid (HB2.out.trans (hR.out.mono (by omega)))
          clear hA
          have hts : (tabOf L).size = 100 := tabA_size _
          go_wp2_with fail
          go_region_with (first | (go_at_call 53; refine (costs_any N lo hi n _ L wr.drew HG.out hL (HRr.out.below ((Below.refl _ wr).drew) (by omega)) (by show hi ≤ wr.heap.size; omega)).mono ?_; rintro e w6 ⟨rfl, hb6⟩; have hb7 : Below wr.heap.size wr w6 := below_undrew hb6; have x0 : w6.cell? ⟨w.heap.size, 0, none⟩ = some (.int .i64 N) := by {rw [hb7.cell (p := ⟨w.heap.size, 0, none⟩) hwr]; exact d0}; have x1 : w6.cell? ⟨w.heap.size, 1, none⟩ = some (.slice ad n cp) := by {rw [hb7.cell (p := ⟨w.heap.size, 1, none⟩) hwr]; exact d1}))
          all_goals go_wp2
          all_goals refine bodyPost_ret (v := .tuple #[.pointer (some ⟨w6.heap.size, 0, none⟩), .bool true]) (by simp [results, Tryz.results34, go_sem]) rfl ?_
          all_goals exact so_end (HBr.out.trans (hb7.mono (by omega))) (by unfold g10; rw [HG.out, HP.out, hall.out]; rfl) hL (HRr.out.below hb7 (by omega)) hh hhB
    · rw [Bool.not_eq_true] at hP
      rw [hP]
      go_wp2
      refine bodyPost_ret (v := .tuple #[.pointer none, .bool false]) (by simp [results, Tryz.results34, go_sem]) rfl ⟨HB2.out, .inl ⟨?_, rfl⟩⟩
      unfold g10; rw [hP, Bool.and_false, Bool.false_and]
  · rw [Bool.not_eq_true] at hG
    rw [hG]
    go_wp2
    refine bodyPost_ret (v := .tuple #[.pointer none, .bool false]) (by simp [results, Tryz.results34, go_sem]) rfl ⟨HB1.out, .inl ⟨?_, rfl⟩⟩
    unfold g10; rw [hG, Bool.false_and, Bool.false_and]

theorem set4 {w : World} {R : Nat} {x0 x1 x2 x3 : Value} (y0 y1 y2 y3 : Value) (h0 : w.cell? ⟨R, 0, none⟩ = some x0) (h1 : w.cell? ⟨R, 1, none⟩ = some x1) (h2 : w.cell? ⟨R, 2, none⟩ = some x2) (h3 : w.cell? ⟨R, 3, none⟩ = some x3) :
    ((((w.setCell ⟨R, 0, none⟩ y0).setCell ⟨R, 1, none⟩ y1).setCell ⟨R, 2, none⟩ y2).setCell ⟨R, 3, none⟩ y3).cell? ⟨R, 0, none⟩ = some y0 ∧ ((((w.setCell ⟨R, 0, none⟩ y0).setCell ⟨R, 1, none⟩ y1).setCell ⟨R, 2, none⟩ y2).setCell ⟨R, 3, none⟩ y3).cell? ⟨R, 1, none⟩ = some y1 ∧
    ((((w.setCell ⟨R, 0, none⟩ y0).setCell ⟨R, 1, none⟩ y1).setCell ⟨R, 2, none⟩ y2).setCell ⟨R, 3, none⟩ y3).cell? ⟨R, 2, none⟩ = some y2 ∧ ((((w.setCell ⟨R, 0, none⟩ y0).setCell ⟨R, 1, none⟩ y1).setCell ⟨R, 2, none⟩ y2).setCell ⟨R, 3, none⟩ y3).cell? ⟨R, 3, none⟩ = some y3 := by
  refine ⟨?_, ?_, ?_, ?_⟩
  · rw [set_other (by omega), set_other (by omega), set_other (by omega)]; exact World.cell?_setCell_same' _ _ _ (by rw [h0]; rfl)
  · rw [set_other (by omega), set_other (by omega)]; exact World.cell?_setCell_same' _ _ _ (by rw [set_other (by omega), h1]; rfl)
  · rw [set_other (by omega)]; exact World.cell?_setCell_same' _ _ _ (by rw [set_other (by omega), set_other (by omega), h2]; rfl)
  · exact World.cell?_setCell_same' _ _ _ (by rw [set_other (by omega), set_other (by omega), set_other (by omega), h3]; rfl)
theorem but_set4 (R : Nat) (v : World) (y0 y1 y2 y3 : Value) : But R v ((((v.setCell ⟨R, 0, none⟩ y0).setCell ⟨R, 1, none⟩ y1).setCell ⟨R, 2, none⟩ y2).setCell ⟨R, 3, none⟩ y3) :=
  ((((But.refl R v).setX _ _).setX _ _).setX _ _).setX _ _
/-- A survey stays where a block between its edges and itself is written. -/
theorem Sv.aside {w w' : World} {B X R M : Nat} {L : List Ed} (h : Sv w X M L) (he : EdgB B w X L) (hb : But R w w') (hB : B ≤ R) (hR : R < X) : Sv w' X M L := by
  have hX := h.lt
  have hc : ∀ o, w'.cell? ⟨X, o, none⟩ = w.cell? ⟨X, o, none⟩ := fun o => hb.cell hX (by omega)
  obtain ⟨v, lo, hi, n, k1, k2, k3, k4⟩ := he
  refine ⟨h.ok, Nat.lt_of_lt_of_le hX hb.size, by rw [hc]; exact h.c0, ⟨v, lo, hi, n, by rw [hc]; exact k1, k2, k3.but hb (by omega) (.inl (by omega)), by omega⟩, fun x y hx hy => by rw [hc]; exact h.ct x y hx hy, fun o => by rw [hb.frozen hX (by omega)]; exact h.fz o, by rw [hc]; exact h.c3, ?_⟩
  rcases h.st with ⟨a, u, b⟩ | ⟨a, v, b, g, c, rfl, h1, h2, h3⟩
  · exact .inl ⟨by rw [hc]; exact a, u, by rw [hc]; exact b⟩
  · refine .inr ⟨by rw [hc]; exact a, _, by rw [hc]; exact b, g, c, rfl, h1, Nat.lt_of_lt_of_le h2 hb.size, fun x hx => ?_⟩
    obtain ⟨gx, cx, e1, e2, e3, e4⟩ := h3 x hx
    exact ⟨gx, cx, by rw [hb.cell h2 (by omega)]; exact e1, e2, Nat.lt_of_lt_of_le e3 hb.size, fun y hy => by rw [hb.cell e3 (by omega)]; exact e4 y hy⟩

def RoPost (N : Int) (L : List Ed) (s f d : Int) (w : World) (e : Ending) (w' : World) : Prop :=
  Below w.heap.size w w' ∧ ((repB N L s f d = false ∧ e = .returned (.tuple #[.agg #[.pointer none, .int .i64 0, .int .i64 0, .int .i64 0], .bool false])) ∨
    (repB N L s f d = true ∧ ∃ X M s' f' d' : Nat, N = (M : Int) ∧ s = (s' : Int) ∧ f = (f' : Int) ∧ d = (d' : Int) ∧ s' < M ∧ f' < M ∧ d' < M ∧ e = .returned (.tuple #[rpV X s' f' d', .bool true]) ∧ w.heap.size ≤ X ∧ Sv w' X M L))

set_option maxRecDepth 100000 in
set_option maxHeartbeats 4000000 in
theorem repair_any (N : Int) (lo hi n : Nat) (v : Value) (L : List Ed) (s f d : Int) (w : World) (hL : L.length = n) (hr : Row 3 w lo hi v n (flat L)) (hh : hi ≤ w.heap.size) :
    Calls Tryz.prog 42 #[.agg #[.int .i64 N, v], .int .i64 s, .int .i64 f, .int .i64 d] w (RoPost N L s f d w) := by
  have HR := Lib.hid hr
  obtain ⟨ad, cp, rfl⟩ := hr.slice
  clear hr
  have b0 : Below w.heap.size w (((w.alloc (.cells #[.int .i64 N, .slice ad n cp] 30)).alloc (.cells #[.pointer none, .int .i64 0, .int .i64 0, .int .i64 0] 61)).alloc (.cells #[.int .i64 s, .int .i64 f, .int .i64 d] 3)) := by go_grown
  have HB0 := Lib.hid b0
  have HR0 := Lib.hid (HR.out.below b0 hh)
  have HX0 : Hid (Row 1 (((w.alloc (.cells #[.int .i64 N, .slice ad n cp] 30)).alloc (.cells #[.pointer none, .int .i64 0, .int .i64 0, .int .i64 0] 61)).alloc (.cells #[.int .i64 s, .int .i64 f, .int .i64 d] 3)) (w.heap.size + 1 + 1) (w.heap.size + 1 + 1 + 1) (.slice (some ⟨w.heap.size + 1 + 1, 0, none⟩) 3 3) 3 [s, f, d]) := by
    refine ⟨rfl, .inr ⟨_, 3, rfl, Nat.le_refl _, by omega, by omega, fun q z hz => ?_, fun o => by simp [go_sem]⟩⟩
    rcases q with _ | _ | _ | q
    · simp at hz; subst hz; simp [go_sem]
    · simp at hz; subst hz; simp [go_sem]
    · simp at hz; subst hz; simp [go_sem]
    · simp at hz
  clear b0
  go_enter Tryz.func42, Tryz.ntmps42
  go_wp2_with fail
  go_at_call 34
  refine (survey_any w.heap.size N lo hi n _ L _ _ 3 _ [s, f, d] _ hL HR0.out (by simp; omega) HX0.out (by simp) (by omega) hh).mono ?_
  rintro e w1 ⟨b1, hcase⟩
  have HB1 : Hid (Below w.heap.size w w1) := HB0.out.trans (b1.mono (by simp; omega))
  have s1 := b1.size
  simp only [World.size_alloc] at s1
  have hB : w.heap.size + 1 < (((w.alloc (.cells #[.int .i64 N, .slice ad n cp] 30)).alloc (.cells #[.pointer none, .int .i64 0, .int .i64 0, .int .i64 0] 61)).alloc (.cells #[.int .i64 s, .int .i64 f, .int .i64 d] 3)).heap.size := by simp
  have p0 : w1.cell? ⟨w.heap.size + 1, 0, none⟩ = some (.pointer none) := by rw [b1.cell (p := ⟨w.heap.size + 1, 0, none⟩) hB]; simp [go_sem]
  have p1 : w1.cell? ⟨w.heap.size + 1, 1, none⟩ = some (.int .i64 0) := by rw [b1.cell (p := ⟨w.heap.size + 1, 1, none⟩) hB]; simp [go_sem]
  have p2 : w1.cell? ⟨w.heap.size + 1, 2, none⟩ = some (.int .i64 0) := by rw [b1.cell (p := ⟨w.heap.size + 1, 2, none⟩) hB]; simp [go_sem]
  have p3 : w1.cell? ⟨w.heap.size + 1, 3, none⟩ = some (.int .i64 0) := by rw [b1.cell (p := ⟨w.heap.size + 1, 3, none⟩) hB]; simp [go_sem]
  have pf : ∀ o, w1.frozen? ⟨w.heap.size + 1, o, none⟩ = false := fun o => by rw [b1.frozen (p := ⟨w.heap.size + 1, o, none⟩) hB]; simp [go_sem]
  have f0 := pf 0
  have f1 := pf 1
  have f2 := pf 2
  have f3 := pf 3
  clear hB HB0 HR0 HX0 pf
  rcases hcase with ⟨hg, rfl⟩ | ⟨hg, X, rfl, hX, hS, hE⟩
  · have hrep : repB N L s f d = false := by unfold repB; rw [hg, Bool.false_and]
    have HREP := Lib.hid hrep
    clear hg hrep b1
    have r4 := set4 (.pointer none) (.int .i64 0) (.int .i64 0) (.int .i64 0) p0 p1 p2 p3
    obtain ⟨r0, r1, r2, r3⟩ := r4
    go_wp2
    refine bodyPost_ret (v := .tuple #[.agg #[.pointer none, .int .i64 0, .int .i64 0, .int .i64 0], .bool false]) (by simp [results, Tryz.results42, go_sem, r0, r1, r2, r3]) rfl ⟨HB1.out.trans ((but_set4 _ _ _ _ _ _).below (by omega) (by omega)), .inl ⟨HREP.out, rfl⟩⟩
  · have hN := gok_parts (g10_gok hg)
    have hnd := g10_nodes hg
    obtain ⟨M, rfl⟩ : ∃ M : Nat, N = (M : Int) := ⟨N.toNat, by omega⟩
    have g1 := hnd s (by simp)
    have g2 := hnd f (by simp)
    have g3 := hnd d (by simp)
    obtain ⟨s', rfl⟩ : ∃ q : Nat, s = (q : Int) := ⟨s.toNat, by omega⟩
    obtain ⟨f', rfl⟩ : ∃ q : Nat, f = (q : Int) := ⟨f.toNat, by omega⟩
    obtain ⟨d', rfl⟩ : ∃ q : Nat, d = (q : Int) := ⟨d.toNat, by omega⟩
    rw [Int.toNat_natCast] at hS
    have HG := Lib.hid hg
    have HS := Lib.hid hS
    have HE := Lib.hid hE
    simp only [World.size_alloc] at hX
    have hsM : s' < M := by omega
    have hfM : f' < M := by omega
    have hdM : d' < M := by omega
    clear hg hS hE hnd hN g1 g2 g3 b1
    go_wp2_with fail
    go_at_call 76
    refine (neighbors_any X M s' f' L _ HS.out hsM hfM).mono ?_
    rintro e w2 ⟨rfl, rfl⟩
    by_cases hnb : nearB L (s' : Int) (f' : Int) = true
    · have HREP : Hid (repB (M : Int) L (s' : Int) (f' : Int) (d' : Int) = true) := by show repB _ _ _ _ _ = true; unfold repB; rw [HG.out, hnb]; rfl
      rw [hnb]
      clear hnb
      obtain ⟨r0, r1, r2, r3⟩ := set4 (.pointer (some ⟨X, 0, none⟩)) (.int .i64 (s' : Int)) (.int .i64 (f' : Int)) (.int .i64 (d' : Int)) p0 p1 p2 p3
      go_wp2
      refine bodyPost_ret (v := .tuple #[rpV X s' f' d', .bool true]) (by simp [results, Tryz.results42, go_sem, r0, r1, r2, r3, rpV]) rfl ⟨HB1.out.trans ((but_set4 _ _ _ _ _ _).below (by omega) (by omega)), .inr ⟨HREP.out, X, M, s', f', d', rfl, rfl, rfl, rfl, hsM, hfM, hdM, rfl, by omega, HS.out.aside HE.out (but_set4 _ _ _ _ _ _) (by simp) (by omega)⟩⟩
    · rw [Bool.not_eq_true] at hnb
      have HREP : Hid (repB (M : Int) L (s' : Int) (f' : Int) (d' : Int) = false) := by show repB _ _ _ _ _ = false; unfold repB; rw [hnb, Bool.and_false]
      rw [hnb]
      clear hnb
      obtain ⟨r0, r1, r2, r3⟩ := set4 (.pointer none) (.int .i64 0) (.int .i64 0) (.int .i64 0) p0 p1 p2 p3
      go_wp2
      refine bodyPost_ret (v := .tuple #[.agg #[.pointer none, .int .i64 0, .int .i64 0, .int .i64 0], .bool false]) (by simp [results, Tryz.results42, go_sem, r0, r1, r2, r3]) rfl ⟨HB1.out.trans ((but_set4 _ _ _ _ _ _).below (by omega) (by omega)), .inl ⟨HREP.out, rfl⟩⟩

end Go.Proofs.YtnpdbieadjgghaaGreat
