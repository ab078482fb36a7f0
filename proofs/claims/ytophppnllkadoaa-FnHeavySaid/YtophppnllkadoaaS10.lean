/- Sorting by the program: at most twelve elements, in place. -/
import Derived.Test.YtophppnllkadoaaS7
namespace Go.Proofs.Ytophppnllkadoaa
open Go.RowKit


theorem ints_set (Z : List Int) (j : Nat) (z : Int) : ints (Z.set j z) = (ints Z).set j (.int .i64 z) := by simp [ints]
theorem flat_set : ∀ (L : List Hv) (i : Nat) (a b c : Int), flat (L.set i (a, b, c)) = (((flat L).set (i * 3) a).set (i * 3 + 1) b).set (i * 3 + 2) c
  | [], i, a, b, c => by simp [flat]
  | r :: L, 0, a, b, c => rfl
  | r :: L, i + 1, a, b, c => by
    rw [List.set_cons_succ, flat_cons, flat_set L i a b c, flat_cons, show (i + 1) * 3 = i * 3 + 1 + 1 + 1 by omega]
    simp only [List.set_cons_succ]
/-- A list of one's own in block g. -/
def OwnH (w0 w : World) (g cap n : Nat) (L : List Hv) : Prop := OwnR 43 3 w0 w (.slice (some ⟨g, 0, none⟩) n cap) n (flat L)
theorem OwnH.grow {w0 w w2 : World} {g cap n : Nat} {L : List Hv} (h : OwnH w0 w g cap n L) (b : Below w.heap.size w w2) : OwnH w0 w2 g cap n L := OwnR.grow h b
theorem OwnH.drew {w0 w : World} {g cap n : Nat} {L : List Hv} (h : OwnH w0 w g cap n L) : OwnH w0 w.drew g cap n L := h.grow (Below.refl _ _).drew
theorem OwnH.drewN {w0 w : World} {g cap n : Nat} {L : List Hv} (h : OwnH w0 w g cap n L) (q : Nat) : OwnH w0 (w.drewN q) g cap n L := h.grow (below_drewN w q)
theorem OwnH.len {w0 w : World} {g cap n : Nat} {L : List Hv} (h : OwnH w0 w g cap n L) : L.length = n := by have := h.row.1; rw [ints_len, flat_len] at this; omega
theorem OwnH.frz {w0 w : World} {g cap n : Nat} {L : List Hv} (h : OwnH w0 w g cap n L) (o : Nat) : w.frozen? ⟨g, o, none⟩ = false := h.row.frozenAt o
theorem OwnH.lt {w0 w : World} {g cap n : Nat} {L : List Hv} (h : OwnH w0 w g cap n L) : w0.heap.size ≤ g ∧ g < w.heap.size := h.row.lt g rfl
theorem OwnH.at_ {w0 w : World} {g cap n : Nat} {L : List Hv} (h : OwnH w0 w g cap n L) {i : Nat} {a b c : Int} (hz : L[i]? = some (a, b, c)) : w.cell? ⟨g, i * 3, none⟩ = some (.int .i64 a) ∧ w.cell? ⟨g, i * 3 + 1, none⟩ = some (.int .i64 b) ∧ w.cell? ⟨g, i * 3 + 2, none⟩ = some (.int .i64 c) := by
  have hl := h.len
  have hi := lt_of_at hz
  obtain ⟨r0, r1, r2⟩ := flat_at L i _ hz
  exact ⟨by rw [h.row.cellAt _ (by omega)]; exact ints_at r0, by rw [h.row.cellAt _ (by omega)]; exact ints_at r1, by rw [h.row.cellAt _ (by omega)]; exact ints_at r2⟩
theorem OwnH.set3 {w0 w : World} {g cap n : Nat} {L : List Hv} (h : OwnH w0 w g cap n L) (i : Nat) (a b c : Int) : OwnH w0 (((w.setCell ⟨g, i * 3, none⟩ (.int .i64 a)).setCell ⟨g, i * 3 + 1, none⟩ (.int .i64 b)).setCell ⟨g, i * 3 + 2, none⟩ (.int .i64 c)) g cap n (L.set i (a, b, c)) := by
  have hg := (h.row.lt g rfl).1
  refine ⟨((h.below.setCell (p := ⟨g, _, none⟩) hg _).setCell (p := ⟨g, _, none⟩) hg _).setCell (p := ⟨g, _, none⟩) hg _, ?_⟩
  rw [flat_set, ints_set, ints_set, ints_set]
  exact (((h.row.stored _ _).1.stored _ _).1.stored _ _).1
theorem OwnH.set1 {w0 w : World} {g cap n : Nat} {L : List Hv} (h : OwnH w0 w g cap n L) {i : Nat} {a b c : Int} (hz : L[i]? = some (a, b, c)) (b' : Int) : OwnH w0 (w.setCell ⟨g, i * 3 + 1, none⟩ (.int .i64 b')) g cap n (L.set i (a, b', c)) := by
  have hg := (h.row.lt g rfl).1
  refine ⟨h.below.setCell (p := ⟨g, _, none⟩) hg _, ?_⟩
  have e : flat (L.set i (a, b', c)) = (flat L).set (i * 3 + 1) b' := by
    obtain ⟨r0, r1, r2⟩ := flat_at L i _ hz
    apply List.ext_getElem?
    intro q
    rw [flat_set]
    simp only [List.getElem?_set, List.length_set]
    by_cases e2 : i * 3 + 2 = q
    · subst e2
      rw [if_pos rfl, if_pos (lt_of_at r2), if_neg (by omega)]
      exact r2.symm
    · rw [if_neg e2]
      by_cases e1 : i * 3 + 1 = q
      · rw [if_pos e1, if_pos e1]
      · rw [if_neg e1, if_neg e1]
        by_cases e0 : i * 3 = q
        · subst e0
          rw [if_pos rfl, if_pos (lt_of_at r0)]
          exact r0.symm
        · rw [if_neg e0]
  rw [e, ints_set]
  exact (h.row.stored _ _).1
theorem nah_trans {p q r : Hv} (h1 : ah q p = false) (h2 : ah r q = false) : ah r p = false := by
  rw [Bool.eq_false_iff, ne_eq, ah_iff] at *
  omega
theorem snoc_or (A : List Hv) : A = [] ∨ ∃ A' z, A = A' ++ [z] := by
  rcases List.eq_nil_or_concat A with e | ⟨A', z, e⟩
  · exact .inl e
  · exact .inr ⟨A', z, by rw [e, List.concat_eq_append]⟩
/-- Behind k rounds of the sort: the first k are in order. -/
def SrK (Z0 Z : List Hv) (k : Nat) : Prop := Z.Perm Z0 ∧ (Z.take k).Pairwise (fun p q => ah q p = false)
/-- Within a round: the element x on its way, at j. -/
def InS (Z0 Z : List Hv) (k j : Nat) : Prop := ∃ A x B T, Z = A ++ x :: (B ++ T) ∧ A.length = j ∧ j + B.length = k ∧ (A ++ B).Pairwise (fun p q => ah q p = false) ∧ (∀ b ∈ B, ah x b = true) ∧ Z.Perm Z0
theorem InS.start {Z0 Z : List Hv} {k : Nat} (h : SrK Z0 Z k) (hk : k < Z.length) : InS Z0 Z k k := by
  refine ⟨Z.take k, Z[k], [], Z.drop (k + 1), ?_, by rw [List.length_take]; omega, by simp, by rw [List.append_nil]; exact h.2, fun b hb => by simp at hb, h.1⟩
  rw [List.nil_append, ← List.drop_eq_getElem_cons hk, List.take_append_drop]
theorem InS.stop {Z0 Z : List Hv} {k j : Nat} (h : InS Z0 Z k j) (hs : ∀ x y : Hv, 0 < j → Z[j]? = some x → Z[j - 1]? = some y → ah x y = false) : SrK Z0 Z (k + 1) := by
  obtain ⟨A, x, B, T, rfl, rfl, rfl, hp, hb, hperm⟩ := h
  refine ⟨hperm, ?_⟩
  have e : (A ++ x :: (B ++ T)).take (A.length + B.length + 1) = A ++ x :: B := by
    rw [show A ++ x :: (B ++ T) = (A ++ x :: B) ++ T by simp]
    rw [show A.length + B.length + 1 = (A ++ x :: B).length by simp; omega, List.take_left]
  rw [e]
  obtain ⟨p1, p2, p3⟩ := List.pairwise_append.1 hp
  have hx : ∀ a ∈ A, ah x a = false := by
    rcases snoc_or A with rfl | ⟨A', y, rfl⟩
    · intro a ha; simp at ha
    · have hy := hs x y (by simp) (by simp) (by simp)
      intro a ha
      rw [List.mem_append, List.mem_singleton] at ha
      rcases ha with ha | rfl
      · have := (List.pairwise_append.1 p1).2.2 a ha y (by simp)
        exact nah_trans this hy
      · exact hy
  refine List.pairwise_append.2 ⟨p1, List.pairwise_cons.2 ⟨fun b hb' => ah_asym (hb b hb'), p2⟩, fun a ha b hb' => ?_⟩
  rcases List.mem_cons.1 hb' with rfl | hb'
  · exact hx a ha
  · exact p3 a ha b hb'
theorem InS.step {Z0 Z : List Hv} {k q : Nat} {x y : Hv} (h : InS Z0 Z k (q + 1)) (hx : Z[q + 1]? = some x) (hy : Z[q]? = some y) (hlt : ah x y = true) : InS Z0 ((Z.set (q + 1) y).set q x) k q := by
  obtain ⟨A, x', B, T, rfl, hA, hk, hp, hb, hperm⟩ := h
  rcases snoc_or A with rfl | ⟨A', y', rfl⟩
  · simp at hA
  · have hA' : A'.length = q := by simpa using hA
    subst hA'
    have ex : x' = x := by simpa using hx
    have ey : y' = y := by simpa using hy
    subst ex ey
    have e : ((A' ++ [y'] ++ x' :: (B ++ T)).set (A'.length + 1) y').set A'.length x' = A' ++ x' :: ((y' :: B) ++ T) := by
      rw [show A' ++ [y'] ++ x' :: (B ++ T) = A' ++ y' :: x' :: (B ++ T) by simp, List.set_append_right _ _ (by omega), List.set_append_right _ _ (by omega)]
      simp
    rw [e]
    refine ⟨A', x', y' :: B, T, rfl, rfl, by simp; omega, by simpa using hp, fun b hb' => ?_, ?_⟩
    · rcases List.mem_cons.1 hb' with rfl | hb'
      · exact hlt
      · exact hb b hb'
    · refine List.Perm.trans ?_ hperm
      rw [show A' ++ [y'] ++ x' :: (B ++ T) = A' ++ y' :: x' :: (B ++ T) by simp]
      exact (List.Perm.swap y' x' (B ++ T)).append_left A'
theorem InS.len {Z0 Z : List Hv} {k j : Nat} (h : InS Z0 Z k j) : j ≤ k := by obtain ⟨A, x, B, T, _, _, h, _⟩ := h; omega

theorem rin_start {w0 w : World} {g cap M j q : Nat} {Z : List Hv} {a b c a' b' c' : Int} (h : OwnH w0 w g cap M Z) (hx : Z[j]? = some (a, b, c)) (hy : Z[q]? = some (a', b', c')) : w.cell? ⟨g, j * 3, none⟩ = some (.int .i64 a) ∧ w.cell? ⟨g, j * 3 + 1, none⟩ = some (.int .i64 b) ∧ w.cell? ⟨g, j * 3 + 2, none⟩ = some (.int .i64 c) ∧ w.cell? ⟨g, q * 3, none⟩ = some (.int .i64 a') ∧ w.cell? ⟨g, q * 3 + 1, none⟩ = some (.int .i64 b') ∧ w.cell? ⟨g, q * 3 + 2, none⟩ = some (.int .i64 c') ∧ Hid (OwnH w0 w g cap M Z) :=
  ⟨(h.at_ hx).1, (h.at_ hx).2.1, (h.at_ hx).2.2, (h.at_ hy).1, (h.at_ hy).2.1, (h.at_ hy).2.2, h⟩
theorem rin_own {w0 w : World} {g cap M j q : Nat} {Z : List Hv} {a b c a' b' c' : Int} (h : w.cell? ⟨g, j * 3, none⟩ = some (.int .i64 a) ∧ w.cell? ⟨g, j * 3 + 1, none⟩ = some (.int .i64 b) ∧ w.cell? ⟨g, j * 3 + 2, none⟩ = some (.int .i64 c) ∧ w.cell? ⟨g, q * 3, none⟩ = some (.int .i64 a') ∧ w.cell? ⟨g, q * 3 + 1, none⟩ = some (.int .i64 b') ∧ w.cell? ⟨g, q * 3 + 2, none⟩ = some (.int .i64 c') ∧ Hid (OwnH w0 w g cap M Z)) : Hid (OwnH w0 w g cap M Z) := h.2.2.2.2.2.2
theorem rin_keep {w0 w w' : World} {g cap M j q : Nat} {Z : List Hv} {a b c a' b' c' : Int} (hz : Z[j]? = some (a, b, c) ∧ Z[q]? = some (a', b', c')) (h : w.cell? ⟨g, j * 3, none⟩ = some (.int .i64 a) ∧ w.cell? ⟨g, j * 3 + 1, none⟩ = some (.int .i64 b) ∧ w.cell? ⟨g, j * 3 + 2, none⟩ = some (.int .i64 c) ∧ w.cell? ⟨g, q * 3, none⟩ = some (.int .i64 a') ∧ w.cell? ⟨g, q * 3 + 1, none⟩ = some (.int .i64 b') ∧ w.cell? ⟨g, q * 3 + 2, none⟩ = some (.int .i64 c') ∧ Hid (OwnH w0 w g cap M Z)) (hb : Below w.heap.size w w') : w'.cell? ⟨g, j * 3, none⟩ = some (.int .i64 a) ∧ w'.cell? ⟨g, j * 3 + 1, none⟩ = some (.int .i64 b) ∧ w'.cell? ⟨g, j * 3 + 2, none⟩ = some (.int .i64 c) ∧ w'.cell? ⟨g, q * 3, none⟩ = some (.int .i64 a') ∧ w'.cell? ⟨g, q * 3 + 1, none⟩ = some (.int .i64 b') ∧ w'.cell? ⟨g, q * 3 + 2, none⟩ = some (.int .i64 c') ∧ Hid (OwnH w0 w' g cap M Z) := rin_start ((rin_own h).out.grow hb) hz.1 hz.2

set_option maxRecDepth 100000 in
set_option maxHeartbeats 4000000 in
theorem isort_any (g cap M : Nat) (Z0 : List Hv) (w0 w : World) (hM1 : 1 ≤ M) (hM2 : M ≤ 12) (hO : OwnH w0 w g cap M Z0) :
    Calls Try.prog 108 #[.slice (some ⟨g, 0, none⟩) M cap, .int .i64 0, .int .i64 (M : Int), .func (.func 75) #[] #[]] w fun e w' => e = .returned (.tuple #[]) ∧ ∃ Z, SrK Z0 Z M ∧ OwnH w0 w' g cap M Z := by
  have H0 := Lib.hid hO
  have HL0 := hO.len
  have HS0 : Hid (SrK Z0 Z0 1) := ⟨List.Perm.refl _, by
    match Z0 with
    | [] => simp
    | [a] => simp
    | a :: b :: l => simp⟩
  clear hO HL0
  go_enter Try.func108, Try.ntmps108
  go_wp2_with fail
  go_loopw [8, 9] (fun vi _ wr => ∃ (k : Nat) (Z : List Hv), vi = .int .i64 (k : Int) ∧ 1 ≤ k ∧ k ≤ M ∧ Hid (SrK Z0 Z k) ∧ Hid (OwnH w0 wr g cap M Z)) (fun vi _ _ => M - (intOf vi).toNat)
  case atStart => exact ⟨1, Z0, rfl, Nat.le_refl _, hM1, HS0, H0⟩
  case round =>
    clear H0 HS0
    obtain ⟨k, Z, rfl, hk1, hk, hS, hR⟩ := hrel
    by_cases hlt : k < M
    · have q0 : (k : Int) < (M : Int) := by omega
      have hstart := Lib.hid (InS.start hS.out (by rw [hR.out.len]; exact hlt))
      go_wp2_with fail
      go_loopw [9] (fun vj wr2 => ∃ (j : Nat) (Z : List Hv), vj = .int .i64 (j : Int) ∧ j ≤ k ∧ Hid (OwnH w0 wr2 g cap M Z) ∧ Hid (InS Z0 Z k j)) (fun vj _ => (intOf vj).toNat)
      case atStart => exact ⟨k, Z, rfl, Nat.le_refl _, hR, hstart⟩
      case round =>
        clear hR hstart hS
        obtain ⟨j, Z, rfl, hj, hR2, hI⟩ := hrel
        have HZL := Lib.hid hR2.out.len
        by_cases hj0 : j = 0
        · have HN : Hid (SrK Z0 Z (k + 1)) := hI.out.stop (fun x y h0 => by omega)
          subst hj0
          clear hI
          go_wp2_with fail
          go_quiet (fail)
          go_wp2_with fail
          go_roundw
          case rel => exact ⟨k + 1, Z, by go_num, by omega, by omega, HN, Lib.hid (hR2.out.drewN _)⟩
          case measure => simp [intOf]; omega
        · obtain ⟨q, hq⟩ : ∃ q, j = q + 1 := ⟨j - 1, by omega⟩
          obtain ⟨a, b, c, hx⟩ := at_of_lt (L := Z) (i := j) (by rw [HZL.out]; omega)
          obtain ⟨a', b', c', hy⟩ := at_of_lt (L := Z) (i := q) (by rw [HZL.out]; omega)
          have HZ : Hid (Z[j]? = some (a, b, c) ∧ Z[q]? = some (a', b', c')) := ⟨hx, hy⟩
          obtain ⟨c0, c1, c2⟩ := hR2.out.at_ hx
          obtain ⟨y0, y1, y2⟩ := hR2.out.at_ hy
          have p0 : (0 : Int) ≤ (j : Int) := by omega
          have p1 : (j : Int) < (M : Int) := by omega
          have p2 : (0 : Int) ≤ (q : Int) := by omega
          have p3 : (q : Int) < (M : Int) := by omega
          have p4 : (0 : Int) < (j : Int) := by omega
          have p5 : decide ((j : Int) > 0) = true := decide_eq_true (by omega)
          have p6 : decide (0 < j) = true := decide_eq_true (by omega)
          have hw1 : IntKind.i64.wrap ((j : Int) - 1) = (q : Int) := by rw [IntKind.wrap_i64]; omega
          have hne : ¬ j = q := by omega
          have n0 : ¬ j * 3 = q * 3 := by omega
          have HQ := Lib.hid hq
          have HI1 : Hid (InS Z0 Z k (q + 1)) := by rw [← hq]; exact hI
          have ho := ordV_lt a b a' b'
          have hoi := ordV_in a b a' b'
          generalize hov : ordV a b a' b' = ov at *
          have HOV := Lib.hid hov
          clear hov hx hy hj0 hI hq
          cases hP : ahP a b a' b' with
          | true =>
            rw [hP] at ho
            have HI2 : Hid (InS Z0 ((Z.set j (a', b', c')).set q (a, b, c)) k q) := by
              have hz := HZ.out
              rw [HQ.out] at hz ⊢
              exact HI1.out.step hz.1 hz.2 hP
            go_wp2_with fail
            go_region_held3 (fun w' => w'.cell? ⟨g, j * 3, none⟩ = some (.int .i64 a) ∧ w'.cell? ⟨g, j * 3 + 1, none⟩ = some (.int .i64 b) ∧ w'.cell? ⟨g, j * 3 + 2, none⟩ = some (.int .i64 c) ∧ w'.cell? ⟨g, q * 3, none⟩ = some (.int .i64 a') ∧ w'.cell? ⟨g, q * 3 + 1, none⟩ = some (.int .i64 b') ∧ w'.cell? ⟨g, q * 3 + 2, none⟩ = some (.int .i64 c') ∧ Hid (OwnH w0 w' g cap M Z)) (first | assumption | exact rin_start hR2.out.drew HZ.out.1 HZ.out.2 | exact rin_start hR2.out HZ.out.1 HZ.out.2 | exact rin_keep HZ.out (by assumption) (by assumption) | exact rin_keep HZ.out (by assumption) ((Below.refl _ _).drew) | fail)
              (first | (go_at_call 75; refine (order_any a b c a' b' c' _).mono ?_; rw [HOV.out]; rintro e w2 ⟨rfl, hb2⟩) | fail)
            have HO6 := rin_own (by assumption)
            obtain ⟨d0, d1, d2⟩ := HO6.out.at_ HZ.out.1
            obtain ⟨e0, e1, e2⟩ := HO6.out.at_ HZ.out.2
            have g0 := HO6.out.frz (j * 3)
            have g1 := HO6.out.frz (j * 3 + 1)
            have g2 := HO6.out.frz (j * 3 + 2)
            have g3 := HO6.out.frz (q * 3)
            have g4 := HO6.out.frz (q * 3 + 1)
            have g5 := HO6.out.frz (q * 3 + 2)
            have HS := Lib.hid ((HO6.out.set3 j a' b' c').set3 q a b c)
            clear c0 c1 c2 y0 y1 y2 HI1 HO6 ho hoi
            go_wp2_with fail
            go_region
            go_wp2_with fail
            go_roundw
            case rel => exact ⟨q, _, by go_num, by have h1 : j = q + 1 := HQ.out; omega, Lib.hid HS.out.drew, HI2⟩
            case measure =>
              have hq1 : j = q + 1 := HQ.out
              subst hq1
              simp only [intOf, Int.toNat_natCast]
              omega
          | false =>
            rw [hP] at ho
            have HN : Hid (SrK Z0 Z (k + 1)) := HI1.out.stop (fun x y h0 hx hy => by
              have hz := HZ.out
              rw [HQ.out] at hz
              rw [hz.1] at hx
              rw [show q + 1 - 1 = q by omega, hz.2] at hy
              obtain rfl := Option.some.inj hx
              obtain rfl := Option.some.inj hy
              exact hP)
            go_wp2_with fail
            go_region_held3 (fun w' => w'.cell? ⟨g, j * 3, none⟩ = some (.int .i64 a) ∧ w'.cell? ⟨g, j * 3 + 1, none⟩ = some (.int .i64 b) ∧ w'.cell? ⟨g, j * 3 + 2, none⟩ = some (.int .i64 c) ∧ w'.cell? ⟨g, q * 3, none⟩ = some (.int .i64 a') ∧ w'.cell? ⟨g, q * 3 + 1, none⟩ = some (.int .i64 b') ∧ w'.cell? ⟨g, q * 3 + 2, none⟩ = some (.int .i64 c') ∧ Hid (OwnH w0 w' g cap M Z)) (first | assumption | exact rin_start hR2.out.drew HZ.out.1 HZ.out.2 | exact rin_start hR2.out HZ.out.1 HZ.out.2 | exact rin_keep HZ.out (by assumption) (by assumption) | exact rin_keep HZ.out (by assumption) ((Below.refl _ _).drew) | fail)
              (first | (go_at_call 75; refine (order_any a b c a' b' c' _).mono ?_; rw [HOV.out]; rintro e w2 ⟨rfl, hb2⟩) | fail)
            have HO6 := rin_own (by assumption)
            go_wp2_with fail
            go_roundw
            case rel => exact ⟨k + 1, Z, by go_num, by omega, by omega, HN, HO6⟩
            case measure => simp [intOf]; omega
    · obtain rfl : k = M := by omega
      have hge : ¬ ((k : Int) < (k : Int)) := by omega
      go_wp2_with fail
      exact bodyPost_end (v := .tuple #[]) (by simp [results, Try.results108, go_sem]) rfl ⟨rfl, _, hS.out, hR.out⟩

set_option maxRecDepth 100000 in
set_option maxHeartbeats 4000000 in
theorem pdq_any (g cap M : Nat) (Z0 : List Hv) (lim : Int) (w0 w : World) (hM1 : 1 ≤ M) (hM2 : M ≤ 12) (hO : OwnH w0 w g cap M Z0) :
    Calls Try.prog 106 #[.slice (some ⟨g, 0, none⟩) M cap, .int .i64 0, .int .i64 (M : Int), .int .i64 lim, .func (.func 75) #[] #[]] w fun e w' => e = .returned (.tuple #[]) ∧ ∃ Z, SrK Z0 Z M ∧ OwnH w0 w' g cap M Z := by
  have HC := Lib.hid (isort_any g cap M Z0 w0 w hM1 hM2 hO)
  have p0 : (M : Int) ≤ 12 := by omega
  have p1 : ¬ (12 : Int) < (M : Int) := by omega
  clear hO
  go_enter Try.func106, Try.ntmps106
  go_wp2_with fail
  go_loopw [1, 2, 3] (fun x y z wr => x = .int .i64 0 ∧ y = .int .i64 (M : Int) ∧ z = .int .i64 lim ∧ w = wr) (fun _ _ _ _ => 0)
  case atStart => exact ⟨rfl, rfl, rfl, rfl⟩
  case round =>
    obtain ⟨rfl, rfl, rfl, rfl⟩ := hrel
    go_wp2_with fail
    go_at_call 108
    refine HC.out.mono ?_
    rintro e w2 ⟨rfl, hO2⟩
    have HO2 := Lib.hid hO2
    clear hO2 HC
    go_wp2_with fail
    exact bodyPost_ret (v := .tuple #[]) (by simp [results, Try.results106, go_sem]) rfl ⟨rfl, HO2.out⟩

set_option maxRecDepth 100000 in
set_option maxHeartbeats 4000000 in
theorem len64_any (n : Nat) (hn : n ≤ 4) (w : World) : Calls Try.prog 117 #[.int .u64 (n : Int)] w fun e w' => (∃ r : Int, e = .returned (.int .i64 r)) ∧ w = w' := by
  have h : n = 0 ∨ n = 1 ∨ n = 2 ∨ n = 3 ∨ n = 4 := by omega
  rcases h with rfl | rfl | rfl | rfl | rfl
  all_goals
    go_enter Try.func117, Try.ntmps117
    go_wp2
    go_ret
    exact ⟨⟨_, rfl⟩, rfl⟩
set_option maxRecDepth 100000 in
set_option maxHeartbeats 4000000 in
theorem blen_any (n : Nat) (hn : n ≤ 4) (w : World) : Calls Try.prog 107 #[.int .u64 (n : Int)] w fun e w' => (∃ r : Int, e = .returned (.int .i64 r)) ∧ w = w' := by
  have H := Lib.hid (fun w => len64_any n hn w)
  clear hn
  go_enter Try.func107, Try.ntmps107
  go_wp2_with fail
  go_at_call 117
  refine (H.out _).mono ?_
  rintro e w2 ⟨⟨r, rfl⟩, rfl⟩
  go_wp2_with fail
  go_ret
  exact ⟨⟨_, rfl⟩, rfl⟩
set_option maxRecDepth 100000 in
set_option maxHeartbeats 4000000 in
theorem sort_any (g cap M : Nat) (Z0 : List Hv) (w0 w : World) (hM1 : 1 ≤ M) (hM2 : M ≤ 4) (hO : OwnH w0 w g cap M Z0) :
    Calls Try.prog 101 #[.slice (some ⟨g, 0, none⟩) M cap, .func (.func 75) #[] #[]] w fun e w' => e = .returned (.tuple #[]) ∧ ∃ Z, SrK Z0 Z M ∧ OwnH w0 w' g cap M Z := by
  have HC := Lib.hid (fun lim => pdq_any g cap M Z0 lim w0 w hM1 (by omega) hO)
  have HB := Lib.hid (fun w => blen_any M hM2 w)
  clear hO
  go_enter Try.func101, Try.ntmps101
  go_wp2_with fail
  go_at_call 107
  refine (HB.out _).mono ?_
  rintro e w2 ⟨⟨r, rfl⟩, rfl⟩
  go_wp2_with fail
  go_at_call 106
  refine (HC.out r).mono ?_
  rintro e w2 ⟨rfl, hO2⟩
  have HO2 := Lib.hid hO2
  clear hO2 HC
  go_wp2_with fail
  exact bodyPost_end (v := .tuple #[]) (by simp [results, Try.results101, go_sem]) rfl ⟨rfl, HO2.out⟩

end Go.Proofs.Ytophppnllkadoaa
