/- The marks of a database. -/
import Derived.Test.YtfpafjdakipccaaGk
import Derived.Test.YtfpafjdakipccaaGu
namespace Go.Proofs.Ytfpafjdakipccaa
open Go.RowKit
def dmkAt (k : Int) (l : Ls) : Ls := ⟨k, k + 1, k + 2, lks (fun (q : Nat) => k + 3 + (q : Int)) l.K.length, eds (fun (q : Nat) => k + 3 + ((l.K.length * 2 : Nat) : Int) + (q : Int)) l.T.length⟩
def mlen (l : Ls) : Nat := 3 + (l.K.length * 2 + l.T.length * 3)
def mtot : List Ls -> Nat
  | [] => 0
  | l :: D => mlen l + mtot D
theorem dmkAt_K (k : Int) (l : Ls) : (dmkAt k l).K.length = l.K.length := by simp [dmkAt, lks_len]
theorem dmkAt_T (k : Int) (l : Ls) : (dmkAt k l).T.length = l.T.length := by simp [dmkAt, eds_len]
theorem dmkAt_flatK (k : Int) (l : Ls) : flat2 (dmkAt k l).K = marks (k + 3) (l.K.length * 2) := by unfold dmkAt marks; rw [flat2_lks]
theorem dmkAt_flatT (k : Int) (l : Ls) : flat (dmkAt k l).T = marks (k + 3 + ((l.K.length * 2 : Nat) : Int)) (l.T.length * 3) := by unfold dmkAt marks; rw [flat_eds]
def dmkF : Int -> List Ls -> List Ls
  | _, [] => []
  | k, l :: D => dmkAt k l :: dmkF (k + (mlen l : Int)) D
def dmk (D : List Ls) : List Ls := dmkF 1 D
theorem dmkF_len : ∀ (D : List Ls) (k : Int), (dmkF k D).length = D.length
  | [], _ => rfl
  | l :: D, k => by show (dmkF _ D).length + 1 = D.length + 1; rw [dmkF_len D]
theorem dmk_len (D : List Ls) : (dmk D).length = D.length := dmkF_len D 1
theorem mtot_app : ∀ A B : List Ls, mtot (A ++ B) = mtot A + mtot B
  | [], B => by simp [mtot]
  | l :: A, B => by show mlen l + mtot (A ++ B) = mlen l + mtot A + mtot B; rw [mtot_app A B]; omega
theorem mtot_snoc {D : List Ls} {k : Nat} {p : Ls} (h : D[k]? = some p) : mtot (D.take (k + 1)) = mtot (D.take k) + mlen p := by
  rw [take_snocD h, mtot_app]; simp [mtot]
theorem mtot_take_le : ∀ (D : List Ls) (k : Nat), mtot (D.take k) <= mtot D
  | [], k => by simp
  | l :: D, 0 => by simp [mtot]
  | l :: D, k + 1 => by show mlen l + mtot (D.take k) <= mlen l + mtot D; have := mtot_take_le D k; omega
theorem mtot_le : ∀ D : List Ls, mtot D <= 3 * dtot D
  | [] => by simp [mtot]
  | l :: D => by have := mtot_le D; show mlen l + mtot D <= 3 * (1 + l.tot + dtot D); unfold mlen Ls.tot; omega
theorem dmkF_at : ∀ (D : List Ls) (k : Int) (i : Nat) (p : Ls), D[i]? = some p -> (dmkF k D)[i]? = some (dmkAt (k + (mtot (D.take i) : Int)) p)
  | [], _, _, _, h => by simp at h
  | l :: D, k, 0, p, h => by
    obtain rfl : l = p := by simpa using h
    show some (dmkAt k l) = some (dmkAt (k + ((mtot [] : Nat) : Int)) l)
    rw [show (k + ((mtot [] : Nat) : Int)) = k by simp [mtot]]
  | l :: D, k, i + 1, p, h => by
    have := dmkF_at D (k + (mlen l : Int)) i p (by simpa using h)
    show (dmkF (k + (mlen l : Int)) D)[i]? = some (dmkAt (k + ((mlen l + mtot (D.take i) : Nat) : Int)) p)
    rw [this]
    congr 2
    push_cast
    omega
theorem dmk_at {D : List Ls} {i : Nat} {p : Ls} (h : D[i]? = some p) : (dmk D)[i]? = some (dmkAt (1 + (mtot (D.take i) : Int)) p) := dmkF_at D 1 i p h
def dmix (D : List Ls) (k : Nat) : List Ls := (dmk D).take k ++ D.drop k
theorem dmix_zero (D : List Ls) : dmix D 0 = D := by simp [dmix]
theorem dmix_len (D : List Ls) (k : Nat) : (dmix D k).length = D.length := by unfold dmix; rw [List.length_append, List.length_take, List.length_drop, dmk_len]; omega
theorem dmix_all (D : List Ls) : dmix D D.length = dmk D := by unfold dmix; rw [List.drop_length, List.append_nil, <- dmk_len D, List.take_length]
theorem dmix_at {D : List Ls} {k i : Nat} (hi : k <= i) (hk : k <= D.length) : (dmix D k)[i]? = D[i]? := by
  unfold dmix
  rw [List.getElem?_append_right (by rw [List.length_take, dmk_len]; omega), List.length_take, dmk_len, Nat.min_eq_left hk, List.getElem?_drop]
  congr 1; omega
theorem dmix_old {D : List Ls} {k i : Nat} (hi : i < k) (hk : k <= D.length) : (dmix D k)[i]? = (dmk D)[i]? := by
  unfold dmix
  rw [List.getElem?_append_left (by rw [List.length_take, dmk_len]; omega), List.getElem?_take, if_pos hi]
theorem dmix_set {D : List Ls} {k : Nat} {p : Ls} (h : D[k]? = some p) : (dmix D k).set k (dmkAt (1 + (mtot (D.take k) : Int)) p) = dmix D (k + 1) := by
  have hk := (List.getElem?_eq_some_iff.1 h).1
  apply List.ext_getElem?
  intro i
  by_cases e : i = k
  · subst e
    rw [List.getElem?_set_self (by rw [dmix_len]; exact hk), dmix_old (by omega) (by omega), dmk_at h]
  · rw [List.getElem?_set_ne (by omega)]
    by_cases e2 : i < k
    · rw [dmix_old e2 (by omega), dmix_old (by omega) (by omega)]
    · rw [dmix_at (by omega) (by omega), dmix_at (by omega) (by omega)]
theorem DSt.turn {w w1 : World} {lo hi k G : Nat} {D : List Ls} {us xs : Nat -> Value} {bs : Nat -> Nat × Nat} {l' : Ls} (h : DSt w lo hi (some ⟨G, 0, none⟩) D us xs bs) (hk : k < D.length) (hh : hi <= w.heap.size)
    (ho : ∀ b, b < w.heap.size -> b ≠ G -> b < (bs k).1 ∨ (bs k).2 <= b -> w1.heap[b]? = w.heap[b]?)
    (hf : ∀ o, w1.frozen? ⟨G, o, none⟩ = false) (hc : ∀ o, o < k * 5 ∨ k * 5 + 5 <= o -> w1.cell? ⟨G, o, none⟩ = w.cell? ⟨G, o, none⟩)
    (hl : LC w1 G (k * 5) l' (us k) (xs k)) (hr : LRow w1 (bs k).1 (bs k).2 (us k) (xs k) l'.K.length l'.T.length (flat2 l'.K) (flat l'.T)) :
    DSt w1 lo hi (some ⟨G, 0, none⟩) (D.set k l') us xs bs where
  len := by rw [List.length_set]; exact h.len
  outer hn := by
    rw [List.length_set] at hn ⊢
    obtain ⟨G2, h1, h2, h3, h4, h5, h6⟩ := h.outer hn
    obtain rfl : G = G2 := by simpa using h1
    refine ⟨G, rfl, h2, h3, hf, fun i l hi' => ?_, h6⟩
    by_cases e : i = k
    · subst e
      rw [List.getElem?_set_self hk] at hi'
      obtain rfl := Option.some.inj hi'
      exact hl
    · rw [List.getElem?_set_ne (by omega)] at hi'
      have := h5 i l hi'
      exact ⟨by rw [hc _ (by omega)]; exact this.o, by rw [hc _ (by omega)]; exact this.s, by rw [hc _ (by omega)]; exact this.g, by rw [hc _ (by omega)]; exact this.u, by rw [hc _ (by omega)]; exact this.x⟩
  inner i l hi' := by
    by_cases e : i = k
    · subst e
      rw [List.getElem?_set_self hk] at hi'
      obtain rfl := Option.some.inj hi'
      obtain ⟨_, h2, h3⟩ := h.inner i _ (List.getElem?_eq_getElem hk)
      exact ⟨hr, h2, h3⟩
    · rw [List.getElem?_set_ne (by omega)] at hi'
      have hil := (List.getElem?_eq_some_iff.1 hi').1
      obtain ⟨⟨mid, m1, m2, r1, r2⟩, h2, h3⟩ := h.inner i l hi'
      obtain ⟨G2, g1, g2, g3, g4, g5, g6⟩ := h.outer (by omega)
      obtain rfl : G = G2 := by simpa using g1
      have g7 := g6 i hil
      have hap : (bs i).2 <= (bs k).1 ∨ (bs k).2 <= (bs i).1 := by
        by_cases e2 : i < k
        · exact .inl (h.apart i k e2 hk)
        · exact .inr (h.apart k i (by omega) hil)
      exact ⟨⟨mid, m1, m2, r1.move fun b x y => ho b (by omega) (by omega) (by omega), r2.move fun b x y => ho b (by omega) (by omega) (by omega)⟩, h2, h3⟩
  apart i j hij hj := h.apart i j hij (by rw [List.length_set] at hj; exact hj)
set_option maxRecDepth 100000 in
set_option maxHeartbeats 4000000 in
theorem markLsaS_K (K : Int) (D : List Ls) (lo hi : Nat) (v : Value) (w : World) (hK : K = 1 + ((mtot D : Nat) : Int)) (hr : DRow w lo hi v D) (hh : hi <= w.heap.size) (hT : mtot D <= 5000000) :
    Calls Try.prog 62 #[v, .int .i64 1] w fun e w' => e = .returned (.int .i64 K) /\ DRow w' lo hi v (dmk D) /\ Tur lo hi w w' := by
  subst hK
  obtain ⟨a, c, us, xs, bs, rfl, X⟩ := hr
  have hm := X.len
  obtain ⟨n, hn⟩ : ∃ n, n = D.length := ⟨_, rfl⟩
  rw [<- hn] at hm ⊢
  have HN := Lib.hid hn
  have X0 : Hid (DSt w lo hi a (dmix D 0) us xs bs) := Lib.hid (by rw [dmix_zero]; exact X)
  have HT0 : Hid (Tur lo hi w w) := Tur.refl _ _ _
  have HM := Lib.hid hT
  clear X hn hT
  go_enter Try.func62, Try.ntmps62
  go_wp2
  go_loopw [1, 5] (fun q i wr => ∃ (k : Nat) (z : Int), k <= n /\ i = .int .i64 (k : Int) /\ q = .int .i64 z /\ Hid (z = 1 + (mtot (D.take k) : Int)) /\ Hid (DSt wr lo hi a (dmix D k) us xs bs) /\ Hid (Tur lo hi w wr)) (fun _ i _ => n - (intOf i).toNat)
  case atStart => exact ⟨0, _, Nat.zero_le _, rfl, rfl, rfl, X0, HT0⟩
  case round =>
    clear X0 HT0
    obtain ⟨k, z, hk, rfl, rfl, HZ, hX, hT2⟩ := hrel
    by_cases hlt : k < n
    · have hkl : k < D.length := by have := HN.out; omega
      obtain ⟨p, hp⟩ : ∃ p, D[k]? = some p := ⟨_, List.getElem?_eq_getElem hkl⟩
      have hp2 : (dmix D k)[k]? = some p := by rw [dmix_at (Nat.le_refl _) (by omega)]; exact hp
      obtain ⟨G, rfl, g1, g2, g3, g4, g5⟩ := hX.out.outer (by rw [dmix_len]; omega)
      have hc := g4 k p hp2
      obtain ⟨i1, i2, i3⟩ := hX.out.inner k p hp2
      have hG5 := g5 k (by rw [dmix_len]; omega)
      have hms := mtot_snoc hp
      have hml : mtot (D.take k) + mlen p <= mtot D := by rw [<- hms]; exact mtot_take_le _ _
      have hz : z = 1 + (mtot (D.take k) : Int) := HZ.out
      have hM := HM.out
      have z0 : 0 <= z := by omega
      have z1 : z <= 5000001 := by omega
      have hsz := hT2.out.size
      unfold mlen at hml hms
      obtain ⟨nk, hnk⟩ : ∃ q, q = p.K.length := ⟨_, rfl⟩
      obtain ⟨mk, hmk⟩ : ∃ q, q = p.T.length := ⟨_, rfl⟩
      rw [<- hnk, <- hmk] at i1 hml hms
      obtain ⟨x1, y1, x2, y2, e1, e2⟩ := i1.slice
      obtain ⟨H0, hH0⟩ : ∃ q, q = (bs k).1 := ⟨_, rfl⟩
      obtain ⟨H1, hH1⟩ : ∃ q, q = (bs k).2 := ⟨_, rfl⟩
      rw [<- hH0, <- hH1] at i1 hG5
      rw [<- hH0] at i2
      rw [<- hH1] at i3
      have hk0 : (0 : Int) <= (k : Int) := by omega
      have hk1 : (k : Int) < (n : Int) := by omega
      obtain ⟨d0, d1, d2, d3, d4⟩ := hc
      rw [e1] at d3 i1
      rw [e2] at d4 i1
      have f0 := g3 (k * 5)
      have f1 := g3 (k * 5 + 1)
      have f2 := g3 (k * 5 + 2)
      obtain ⟨wb, hwb⟩ : ∃ q, q = ((wr.setCell ⟨G, k * 5, none⟩ (.int .i64 z)).setCell ⟨G, k * 5 + 1, none⟩ (.int .i64 (z + 1))).setCell ⟨G, k * 5 + 2, none⟩ (.int .i64 (z + 1 + 1)) := ⟨_, rfl⟩
      have b0 : wb.cell? ⟨G, k * 5, none⟩ = some (.int .i64 z) := by rw [hwb, World.cell?_setCell_other _ _ _ _ (by simp), World.cell?_setCell_other _ _ _ _ (by simp)]; exact World.cell?_setCell_same' _ _ _ (by rw [d0]; rfl)
      have b1 : wb.cell? ⟨G, k * 5 + 1, none⟩ = some (.int .i64 (z + 1)) := by rw [hwb, World.cell?_setCell_other _ _ _ _ (by simp)]; exact World.cell?_setCell_same' _ _ _ (by rw [World.cell?_setCell_other _ _ _ _ (by simp), d1]; rfl)
      have b2 : wb.cell? ⟨G, k * 5 + 2, none⟩ = some (.int .i64 (z + 1 + 1)) := by rw [hwb]; exact World.cell?_setCell_same' _ _ _ (by rw [World.cell?_setCell_other _ _ _ _ (by simp), World.cell?_setCell_other _ _ _ _ (by simp), d2]; rfl)
      have bo : ∀ o, o < k * 5 ∨ k * 5 + 3 <= o -> wb.cell? ⟨G, o, none⟩ = wr.cell? ⟨G, o, none⟩ := fun o ho => by rw [hwb, World.cell?_setCell_other _ _ _ _ (by simp <;> omega), World.cell?_setCell_other _ _ _ _ (by simp <;> omega), World.cell?_setCell_other _ _ _ _ (by simp <;> omega)]
      have b3 : wb.cell? ⟨G, k * 5 + 3, none⟩ = some (.slice x1 nk y1) := by rw [bo (k * 5 + 3) (by omega)]; exact d3
      have b4 : wb.cell? ⟨G, k * 5 + 4, none⟩ = some (.slice x2 mk y2) := by rw [bo (k * 5 + 4) (by omega)]; exact d4
      have bh : ∀ b, b ≠ G -> wb.heap[b]? = wr.heap[b]? := fun b hb => by rw [hwb, Below.heap_setCell _ _ _ _ hb, Below.heap_setCell _ _ _ _ hb, Below.heap_setCell _ _ _ _ hb]
      have bz : wb.heap.size = wr.heap.size := by rw [hwb]; simp [World.setCell]
      have bf : ∀ o, wb.frozen? ⟨G, o, none⟩ = false := fun o => by rw [hwb, World.frozen?_setCell, World.frozen?_setCell, World.frozen?_setCell]; exact g3 o
      have bt : wb.os = wr.os /\ wb.tape = wr.tape /\ wb.output = wr.output := by rw [hwb]; exact ⟨rfl, rfl, rfl⟩
      obtain ⟨mid, m1, m2, r1, r2⟩ := i1
      have q1 : Hid (Row 2 wb H0 mid (.slice x1 nk y1) nk (flat2 p.K)) := Lib.hid (r1.move fun b _ _ => bh b (by omega))
      have q2 : Hid (Row 3 wb mid H1 (.slice x2 mk y2) mk (flat p.T)) := Lib.hid (r2.move fun b _ _ => bh b (by omega))
      have gs : G < wb.heap.size := by omega
      have Hp := Lib.hid hp
      have Hp2 := Lib.hid hp2
      have HB := Lib.hid (And.intro bo (And.intro bh (And.intro bz (And.intro bf bt))))
      have HI := Lib.hid (And.intro hG5 (And.intro i2 (And.intro i3 (And.intro m1 m2))))
      have HH := Lib.hid (And.intro hH0 (And.intro hH1 (And.intro hnk (And.intro hmk (And.intro e1 e2)))))
      have HS := Lib.hid (And.intro hms (And.intro hml hz))
      have HW := Lib.hid hwb
      have n0 : nk <= 1100000 := by obtain ⟨_, _, _, h, _⟩ := r1.opened; exact h
      have n1 : mk <= 1100000 := by obtain ⟨_, _, _, h, _⟩ := r2.opened; exact h
      clear g3 g4 g5 hH0 hH1 hnk hmk e1 e2 hms hml hz hM hwb bo bh bz bf bt r1 r2 hp hp2 i2 i3 hG5 m1 m2
      go_wp2_with fail
      rw [show (((wr.setCell ⟨G, k * 5, none⟩ (.int .i64 z)).setCell ⟨G, k * 5 + 1, none⟩ (.int .i64 (z + 1))).setCell ⟨G, k * 5 + 2, none⟩ (.int .i64 (z + 1 + 1))) = wb from HW.out.symm]
      go_at_call 63
      refine (markLinkS (flat2 p.K) nk H0 mid _ _ wb q1.out n0 (by omega) (by omega)).mono ?_
      rintro e w5 ⟨rfl, t1, u1⟩
      have T1 := Lib.hid (Tur.of u1)
      obtain ⟨bo, bh, bz, bf, bt⟩ := HB.out
      obtain ⟨hG5, i2, i3, m1, m2⟩ := HI.out
      have p3 : w5.cell? ⟨G, k * 5 + 3, none⟩ = some (.slice x1 nk y1) := by rw [T1.out.cell gs (by omega)]; exact b3
      have p4 : w5.cell? ⟨G, k * 5 + 4, none⟩ = some (.slice x2 mk y2) := by rw [T1.out.cell gs (by omega)]; exact b4
      have q3 : Hid (Row 3 w5 mid H1 (.slice x2 mk y2) mk (flat p.T)) := Lib.hid (T1.out.row q2.out (by omega) (.inr (Nat.le_refl _)))
      have gs5 : G < w5.heap.size := by have := T1.out.size; omega
      have T1' := Lib.hid t1
      have hq : Hid (z + 1 + 1 + 1 = z + 3) := Lib.hid (by omega)
      obtain ⟨z4, hz4⟩ : ∃ q : Int, q = z + 1 + 1 + 1 + ((nk * 2 : Nat) : Int) := ⟨_, rfl⟩
      have z40 : 0 <= z4 := by omega
      have z41 : z4 <= 1000000000 := by omega
      have HZ4 := Lib.hid hz4
      rw [<- hz4]
      clear t1 u1 bo bh bz bf bt hG5 i2 i3 m1 m2 b0 b1 b2 b3 b4 hz4
      go_wp2_with fail
      go_at_call 64
      refine (markStubS (flat p.T) mk mid H1 _ _ w5 q3.out n1 z40 z41).mono ?_
      rintro e w6 ⟨rfl, t2, u2⟩
      have T2 := Lib.hid (Tur.of u2)
      obtain ⟨bo, bh, bz, bf, bt⟩ := HB.out
      obtain ⟨hG5, i2, i3, m1, m2⟩ := HI.out
      obtain ⟨hH0, hH1, hnk, hmk, e1, e2⟩ := HH.out
      obtain ⟨hms, hml, hz⟩ := HS.out
      have hoth : ∀ b, b < wb.heap.size -> b < H0 ∨ H1 <= b -> w6.heap[b]? = wb.heap[b]? := fun b hb hd => (T2.out.block b (Nat.lt_of_lt_of_le hb T1.out.size) (by omega)).trans (T1.out.block b hb (by omega))
      have hcell : ∀ o, w6.cell? ⟨G, o, none⟩ = wb.cell? ⟨G, o, none⟩ := fun o => World.cell?_of_block (w := wb) (a := ⟨G, o, none⟩) (hoth G (by omega) (by omega))
      have HX6 : Hid (DSt w6 lo hi (some ⟨G, 0, none⟩) (dmix D (k + 1)) us xs bs) := Lib.hid (by
        rw [<- dmix_set Hp.out, <- HZ.out]
        have hwb := HW.out
        refine hX.out.turn (by rw [dmix_len]; exact hkl) (by have := hT2.out.size; omega) (fun b hb hne hd => ?_) (fun o => ?_) (fun o ho => ?_) ?_ ?_
        · rw [<- hH0, <- hH1] at hd
          exact (hoth b (by omega) hd).trans (bh b hne)
        · rw [World.frozen?_of_block (w := wb) (a := ⟨G, o, none⟩) (hoth G (by omega) (by omega))]; exact bf o
        · rw [hcell, bo o (by omega)]
        · refine ⟨?_, ?_, ?_, ?_, ?_⟩
          · rw [hcell, hwb, World.cell?_setCell_other _ _ _ _ (by simp), World.cell?_setCell_other _ _ _ _ (by simp)]; exact World.cell?_setCell_same' _ _ _ (by rw [d0]; rfl)
          · rw [hcell, hwb, World.cell?_setCell_other _ _ _ _ (by simp)]; exact World.cell?_setCell_same' _ _ _ (by rw [World.cell?_setCell_other _ _ _ _ (by simp), d1]; rfl)
          · rw [hcell, hwb]
            have : (dmkAt z p).g = z + 1 + 1 := by show z + 2 = _; omega
            rw [this]
            exact World.cell?_setCell_same' _ _ _ (by rw [World.cell?_setCell_other _ _ _ _ (by simp), World.cell?_setCell_other _ _ _ _ (by simp), d2]; rfl)
          · rw [hcell, bo (k * 5 + 3) (by omega), e1]; exact d3
          · rw [hcell, bo (k * 5 + 4) (by omega), e2]; exact d4
        · rw [dmkAt_K, dmkAt_T, dmkAt_flatK, dmkAt_flatT, <- hH0, <- hH1, <- hnk, <- hmk, e1, e2]
          have t2' := t2
          rw [HZ4.out] at t2'
          have e3 := hq.out
          rw [e3] at t2'
          have t1' := T1'.out
          rw [e3] at t1'
          exact ⟨mid, m1, m2, T2.out.row t1' (by have := T1.out.size; have := hT2.out.size; omega) (.inl (Nat.le_refl _)), t2'⟩)
      have HT6 : Hid (Tur lo hi w w6) := Lib.hid ⟨(T2.out.os.trans (T1.out.os.trans bt.1)).trans hT2.out.os, (T2.out.tape.trans (T1.out.tape.trans bt.2.1)).trans hT2.out.tape, (T2.out.output.trans (T1.out.output.trans bt.2.2)).trans hT2.out.output, by have := T1.out.size; have := T2.out.size; omega, fun b hb hd => by
        rw [hoth b (by omega) (by omega), bh b (by omega)]; exact hT2.out.block b hb hd⟩
      have HZ6 : Hid (z4 + ((mk * 3 : Nat) : Int) = 1 + (mtot (D.take (k + 1)) : Int)) := Lib.hid (by have h1 := HZ.out; have h2 := HZ4.out; rw [h2, h1, hms]; push_cast; omega)
      clear bo bh bz bf bt hG5 i2 i3 m1 m2 hH0 hH1 hnk hmk e1 e2 hms hml hz hoth hcell t2 u2 p3 p4
      go_wp2
      go_roundw
      case rel => exact ⟨k + 1, _, by omega, by go_num, rfl, HZ6, HX6, HT6⟩
      case measure => simp [intOf]; omega
    · obtain rfl : k = n := by omega
      have hge : ¬ ((k : Int) < (k : Int)) := by omega
      go_wp2
      go_ret
      have e : D.length = k := HN.out.symm
      refine ⟨ret_int (by rw [HZ.out, <- e, List.take_length]), ⟨a, c, us, xs, bs, by rw [dmk_len, e], ?_⟩, hT2.out⟩
      have := hX.out
      rw [<- e, dmix_all] at this
      exact this
end Go.Proofs.Ytfpafjdakipccaa
