/- The copy of a slice of advertisements. -/
import Derived.Test.YtfpafjdakipccaaGq
namespace Go.Proofs.Ytfpafjdakipccaa
open Go.RowKit
theorem Try.info33 : (Try.prog.info? 33).map (fun i => (i.zero, i.size, i.bytes)) = some (some (.agg #[.int .i64 0, .int .i64 0, .int .i64 0, .slice none 0 0, .slice none 0 0]), 5, 72) := by kernel_rfl
structure DPart (w wr : World) (G N k : Nat) (D : List Ls) (us xs : Nat -> Value) (bs : Nat -> Nat × Nat) : Prop where
  below : Below w.heap.size w wr
  lo : w.heap.size <= G
  hi : G < wr.heap.size
  frz : ∀ o, wr.frozen? ⟨G, o, none⟩ = false
  some_ : ∀ j, j < N -> ∃ u, wr.cell? ⟨G, j, none⟩ = some u
  done_ : ∀ i l, i < k -> D[i]? = some l -> LC wr G (i * 5) l (us i) (xs i) /\ LRow wr (bs i).1 (bs i).2 (us i) (xs i) l.K.length l.T.length (flat2 l.K) (flat l.T) /\ G < (bs i).1 /\ (bs i).2 <= wr.heap.size
  apart : ∀ i j, i < j -> j < k -> (bs i).2 <= (bs j).1
  last : ∀ i, i < k -> (bs i).2 <= wr.heap.size
theorem DPart.below' {w wr w2 : World} {G N k : Nat} {D : List Ls} {us xs : Nat -> Value} {bs : Nat -> Nat × Nat} (h : DPart w wr G N k D us xs bs) (hb : Below wr.heap.size wr w2) : DPart w w2 G N k D us xs bs where
  below := chain h.below hb
  lo := h.lo
  hi := Nat.lt_of_lt_of_le h.hi hb.size
  frz o := by rw [hb.frozen (p := ⟨G, o, none⟩) h.hi]; exact h.frz o
  some_ j hj := by rw [hb.cell (p := ⟨G, j, none⟩) h.hi]; exact h.some_ j hj
  done_ i l hi hl := by
    obtain ⟨h1, h2, h3, h4⟩ := h.done_ i l hi hl
    exact ⟨h1.below hb h.hi, h2.below hb h4, h3, Nat.le_trans h4 hb.size⟩
  apart := h.apart
  last i hi := Nat.le_trans (h.last i hi) hb.size
def put5 (w : World) (G q : Nat) (a b c d e : Value) : World := ((((w.setCell ⟨G, q, none⟩ a).setCell ⟨G, q + 1, none⟩ b).setCell ⟨G, q + 2, none⟩ c).setCell ⟨G, q + 3, none⟩ d).setCell ⟨G, q + 4, none⟩ e
theorem put5_size (w : World) (G q : Nat) (a b c d e : Value) : (put5 w G q a b c d e).heap.size = w.heap.size := by simp [put5, World.setCell]
theorem put5_frz (w : World) (G q : Nat) (a b c d e : Value) (p : Addr) : (put5 w G q a b c d e).frozen? p = w.frozen? p := by unfold put5; rw [World.frozen?_setCell, World.frozen?_setCell, World.frozen?_setCell, World.frozen?_setCell, World.frozen?_setCell]
theorem put5_block (w : World) (G q : Nat) (a b c d e : Value) {k : Nat} (h : k ≠ G) : (put5 w G q a b c d e).heap[k]? = w.heap[k]? := by
  unfold put5
  rw [Below.heap_setCell _ _ _ _ h, Below.heap_setCell _ _ _ _ h, Below.heap_setCell _ _ _ _ h, Below.heap_setCell _ _ _ _ h, Below.heap_setCell _ _ _ _ h]
theorem put5_below {B G : Nat} {w w' : World} (h : Below B w w') (hG : B <= G) (q : Nat) (a b c d e : Value) : Below B w (put5 w' G q a b c d e) := ((((h.setCell hG _).setCell hG _).setCell hG _).setCell hG _).setCell hG _
theorem put5_at {w : World} {G q : Nat} {a b c d e : Value} (h : ∀ j, j < 5 -> ∃ u, w.cell? ⟨G, q + j, none⟩ = some u) :
    (put5 w G q a b c d e).cell? ⟨G, q, none⟩ = some a /\ (put5 w G q a b c d e).cell? ⟨G, q + 1, none⟩ = some b /\ (put5 w G q a b c d e).cell? ⟨G, q + 2, none⟩ = some c /\ (put5 w G q a b c d e).cell? ⟨G, q + 3, none⟩ = some d /\ (put5 w G q a b c d e).cell? ⟨G, q + 4, none⟩ = some e := by
  obtain ⟨u0, e0⟩ := h 0 (by omega)
  obtain ⟨u1, e1⟩ := h 1 (by omega)
  obtain ⟨u2, e2⟩ := h 2 (by omega)
  obtain ⟨u3, e3⟩ := h 3 (by omega)
  obtain ⟨u4, e4⟩ := h 4 (by omega)
  rw [Nat.add_zero] at e0
  unfold put5
  refine ⟨?_, ?_, ?_, ?_, ?_⟩
  · rw [World.cell?_setCell_other _ _ _ _ (by simp), World.cell?_setCell_other _ _ _ _ (by simp), World.cell?_setCell_other _ _ _ _ (by simp), World.cell?_setCell_other _ _ _ _ (by simp)]
    exact World.cell?_setCell_same' _ _ _ (by rw [e0]; rfl)
  · rw [World.cell?_setCell_other _ _ _ _ (by simp), World.cell?_setCell_other _ _ _ _ (by simp), World.cell?_setCell_other _ _ _ _ (by simp)]
    exact World.cell?_setCell_same' _ _ _ (by rw [World.cell?_setCell_other _ _ _ _ (by simp), e1]; rfl)
  · rw [World.cell?_setCell_other _ _ _ _ (by simp), World.cell?_setCell_other _ _ _ _ (by simp)]
    exact World.cell?_setCell_same' _ _ _ (by rw [World.cell?_setCell_other _ _ _ _ (by simp), World.cell?_setCell_other _ _ _ _ (by simp), e2]; rfl)
  · rw [World.cell?_setCell_other _ _ _ _ (by simp)]
    exact World.cell?_setCell_same' _ _ _ (by rw [World.cell?_setCell_other _ _ _ _ (by simp), World.cell?_setCell_other _ _ _ _ (by simp), World.cell?_setCell_other _ _ _ _ (by simp), e3]; rfl)
  · exact World.cell?_setCell_same' _ _ _ (by rw [World.cell?_setCell_other _ _ _ _ (by simp), World.cell?_setCell_other _ _ _ _ (by simp), World.cell?_setCell_other _ _ _ _ (by simp), World.cell?_setCell_other _ _ _ _ (by simp), e4]; rfl)
theorem put5_cell {w : World} {G q o : Nat} {a b c d e : Value} (h : o < q ∨ q + 5 <= o) : (put5 w G q a b c d e).cell? ⟨G, o, none⟩ = w.cell? ⟨G, o, none⟩ := by
  unfold put5
  rw [World.cell?_setCell_other _ _ _ _ (by simp <;> omega), World.cell?_setCell_other _ _ _ _ (by simp <;> omega), World.cell?_setCell_other _ _ _ _ (by simp <;> omega), World.cell?_setCell_other _ _ _ _ (by simp <;> omega), World.cell?_setCell_other _ _ _ _ (by simp <;> omega)]
theorem put5_some {w : World} {G q N : Nat} {a b c d e : Value} (hq : q + 5 <= N) (h : ∀ j, j < N -> ∃ u, w.cell? ⟨G, j, none⟩ = some u) {j : Nat} (hj : j < N) : ∃ u, (put5 w G q a b c d e).cell? ⟨G, j, none⟩ = some u := by
  have h5 := put5_at (a := a) (b := b) (c := c) (d := d) (e := e) (w := w) (G := G) (q := q) fun i hi => h (q + i) (by omega)
  by_cases h1 : j < q ∨ q + 5 <= j
  · rw [put5_cell h1]; exact h j hj
  · rcases (show j = q ∨ j = q + 1 ∨ j = q + 2 ∨ j = q + 3 ∨ j = q + 4 by omega) with rfl | rfl | rfl | rfl | rfl
    · exact ⟨_, h5.1⟩
    · exact ⟨_, h5.2.1⟩
    · exact ⟨_, h5.2.2.1⟩
    · exact ⟨_, h5.2.2.2.1⟩
    · exact ⟨_, h5.2.2.2.2⟩
theorem DPart.put {w wr : World} {G N k s : Nat} {D : List Ls} {us xs : Nat -> Value} {bs : Nat -> Nat × Nat} {l : Ls} {u x : Value} (h : DPart w wr G N k D us xs bs) (hl : D[k]? = some l) (hN : k * 5 + 5 <= N)
    (hr : LRow wr s wr.heap.size u x l.K.length l.T.length (flat2 l.K) (flat l.T)) (hG : G < s) (hs : ∀ i, i < k -> (bs i).2 <= s) :
    DPart w (put5 wr G (k * 5) (.int .i64 l.o) (.int .i64 l.s) (.int .i64 l.g) u x) G N (k + 1) D (fun i => if i = k then u else us i) (fun i => if i = k then x else xs i) (fun i => if i = k then (s, wr.heap.size) else bs i) where
  below := put5_below h.below h.lo _ _ _ _ _ _
  lo := h.lo
  hi := by rw [put5_size]; exact h.hi
  frz o := by rw [put5_frz]; exact h.frz o
  some_ j hj := put5_some hN h.some_ hj
  done_ i l' hi hl' := by
    have hm : ∀ b, G < b -> (put5 wr G (k * 5) (.int .i64 l.o) (.int .i64 l.s) (.int .i64 l.g) u x).heap[b]? = wr.heap[b]? := fun b hb => put5_block _ _ _ _ _ _ _ _ (by omega)
    rw [put5_size]
    by_cases e : i = k
    · subst e
      obtain rfl : l = l' := by rw [hl] at hl'; exact Option.some.inj hl'
      obtain ⟨a0, a1, a2, a3, a4⟩ := put5_at (w := wr) (G := G) (q := i * 5) (a := .int .i64 l.o) (b := .int .i64 l.s) (c := .int .i64 l.g) (d := u) (e := x) fun j hj => h.some_ _ (by omega)
      simp only [if_pos]
      refine ⟨⟨a0, a1, a2, a3, a4⟩, ?_, hG, Nat.le_refl _⟩
      obtain ⟨mid, m1, m2, r1, r2⟩ := hr
      exact ⟨mid, m1, m2, r1.move fun b hb _ => hm b (by omega), r2.move fun b hb _ => hm b (by omega)⟩
    · simp only [if_neg e]
      obtain ⟨h1, ⟨mid, m1, m2, r1, r2⟩, h3, h4⟩ := h.done_ i l' (by omega) hl'
      refine ⟨⟨?_, ?_, ?_, ?_, ?_⟩, ⟨mid, m1, m2, r1.move fun b hb _ => hm b (by omega), r2.move fun b hb _ => hm b (by omega)⟩, h3, h4⟩
      · rw [put5_cell (by omega)]; exact h1.o
      · rw [put5_cell (by omega)]; exact h1.s
      · rw [put5_cell (by omega)]; exact h1.g
      · rw [put5_cell (by omega)]; exact h1.u
      · rw [put5_cell (by omega)]; exact h1.x
  apart i j hij hj := by
    by_cases e : j = k
    · subst e
      simp only [if_neg (show ¬ i = j by omega), if_pos]
      exact hs i hij
    · simp only [if_neg (show ¬ i = k by omega), if_neg e]
      exact h.apart i j hij (by omega)
  last i hi := by
    rw [put5_size]
    by_cases e : i = k
    · simp only [if_pos e]; exact Nat.le_refl _
    · simp only [if_neg e]; exact h.last i (by omega)
def DPartE (w wr : World) (G N k : Nat) (D : List Ls) : Prop := ∃ us xs bs, DPart w wr G N k D us xs bs
theorem DPartE.start {w w1 : World} {n cap : Nat} {D : List Ls} {xs : List Value} (h : w1.ownsRow w.heap.size 33 5 (.slice (some ⟨w.heap.size, 0, none⟩) n cap) n xs) (hg : w.grownBy w1 none) : DPartE w w1 w.heap.size (n * 5) 0 D := by
  refine ⟨fun _ => .bool true, fun _ => .bool true, fun _ => (0, 0), (Below.refl _ _).grown hg (Nat.le_refl _) (fun k hk => by cases hk), Nat.le_refl _, (h.lt w.heap.size rfl).2, fun o => h.frozenAt o, fun j hj => ?_, fun i l hi => absurd hi (Nat.not_lt_zero _), fun i j _ hj => absurd hj (Nat.not_lt_zero _), fun i hi => absurd hi (Nat.not_lt_zero _)⟩
  have hl : j < xs.length := by rw [h.1]; exact hj
  exact ⟨xs[j], by rw [h.cellAt j hj]; exact List.getElem?_eq_getElem hl⟩
theorem DPartE.row {w wr : World} {G N cap : Nat} {D : List Ls} (h : DPartE w wr G N D.length D) (hn : D.length <= 1100000) : DRow wr w.heap.size wr.heap.size (.slice (some ⟨G, 0, none⟩) D.length cap) D := by
  obtain ⟨us, xs, bs, h⟩ := h
  refine ⟨_, cap, us, xs, bs, rfl, hn, fun h0 => ⟨G, rfl, h.lo, h.hi, h.frz, fun i l hl => (h.done_ i l (List.getElem?_eq_some_iff.1 hl).1 hl).1, fun i hi => ?_⟩, fun i l hl => ?_, h.apart⟩
  · have := (h.done_ i _ hi (List.getElem?_eq_getElem hi)).2.2.1
    exact .inl this
  · obtain ⟨h1, h2, h3, h4⟩ := h.done_ i l (List.getElem?_eq_some_iff.1 hl).1 hl
    have := h.lo
    exact ⟨h2, by omega, h4⟩
set_option maxHeartbeats 2400000 in
theorem toLsaS_any (v : Value) (D : List Ls) (w : World) (hA : DArg w v D) (hd : dtot D <= 1048576) :
    Calls Try.prog 55 #[v] w fun e w' => ∃ rv, e = .returned rv /\ DRow w' w.heap.size w'.heap.size rv D /\ Below w.heap.size w w' := by
  obtain ⟨a, c, rfl, hop⟩ := hA.opened
  obtain ⟨i39, hi, hz0, hz1, hz2⟩ := info_parts Try.info33
  have hm := hA.1
  rw [dtot_eq] at hd
  obtain ⟨n, hn⟩ : ∃ n, n = D.length := ⟨_, rfl⟩
  rw [<- hn] at hm hd hop ⊢
  have HN := Lib.hid hn
  have HO := Lib.hid hop
  have HD := Lib.hid hd
  have hnn : n <= 1048576 := by omega
  clear hA hop hn hd
  go_enter Try.func55, Try.ntmps55
  go_wp2_with (at_make; refine wpList_make_full _ rfl _ _ 24 rfl w.heap.size 33 i39 (.agg #[.int .i64 0, .int .i64 0, .int .i64 0, .slice none 0 0, .slice none 0 0]) 5 Try.underlying24 hi hz0 hz1 .i64 .i64 _ _ n rfl rfl rfl rfl ?b2 ?b3 ?b4 ?_)
  case b2 => rw [hz2]; omega
  case b3 => unfold maxLen; omega
  case b4 => exact Nat.le_refl _
  intro w1 hown hgr
  have HF : Hid (DPartE w w1 w.heap.size (n * 5) 0 D) := Lib.hid (DPartE.start hown hgr)
  clear hi hz0 hz1 hz2 hown hgr
  go_wp2
  go_loopw [4] (fun i wr => ∃ j : Nat, j <= n /\ i = .int .i64 (j : Int) /\ Hid (DPartE w wr w.heap.size (n * 5) j D)) (fun i _ => n - (intOf i).toNat)
  case atStart => exact ⟨0, Nat.zero_le _, rfl, HF⟩
  case round =>
    obtain ⟨k, hk, rfl, hF⟩ := hrel
    by_cases hlt : k < n
    · have hjk : k * 5 + 5 <= n * 5 := by have := Nat.mul_le_mul_right 5 (show k + 1 <= n by omega); omega
      obtain ⟨p, hp⟩ : ∃ p, D[k]? = some p := ⟨_, List.getElem?_eq_getElem (by have := HN.out; omega)⟩
      obtain ⟨b, off, rfl, hb, us, xs, hel⟩ := HO.out (by omega)
      obtain ⟨us2, xs2, bs, hP⟩ := hF.out
      obtain ⟨hc, Y, Z, hL, f1, f2⟩ := hel k p hp
      have hB := Lib.hid hP.below
      have hc' := LC.below hc hB.out hb
      have HL : Hid (LArg wr (us k) (xs k) p.K.length p.T.length Y Z) := Lib.hid (hL.below hB.out)
      obtain ⟨u1, c1, hu⟩ := hL.1.slice
      obtain ⟨u2, c2, hx⟩ := hL.2.slice
      have e2 := ltot_at_le hp
      unfold Ls.tot at e2
      rw [hu, hx] at hc' HL
      have HP := Lib.hid hP
      have hp1 : p.K.length <= 1048576 := by have := HD.out; omega
      have hp2 : p.T.length <= 1048576 := by have := HD.out; omega
      have HK := Lib.hid f1
      have HT := Lib.hid f2
      have Hp := Lib.hid hp
      obtain ⟨nk, hnk⟩ : ∃ q, q = p.K.length := ⟨_, rfl⟩
      obtain ⟨mk, hmk⟩ : ∃ q, q = p.T.length := ⟨_, rfl⟩
      rw [<- hnk, <- hmk] at hc' HL
      rw [<- hnk] at hp1 HK
      rw [<- hmk] at hp2 HT
      have Hnk := Lib.hid hnk
      have Hmk := Lib.hid hmk
      obtain ⟨d0, d1, d2, d3, d4⟩ := hc'
      have q0 : (0 : Int) <= (k : Int) := by omega
      have q1 : (k : Int) < (n : Int) := by omega
      have hGw := hP.hi
      have hsz := hB.out.size
      clear hel hc hL hu hx e2 hnk hmk hp hP f1 f2 hF
      go_wp2_with fail
      go_at_call 30
      refine (toLsa_any p.o p.s p.g _ _ nk mk Y Z wr HL.out hp1 hp2).mono ?_
      rintro e w2 ⟨ru, rv, rfl, hr, hb2⟩
      rw [HK.out, HT.out, Hnk.out, Hmk.out] at hr
      have HR := Lib.hid hr
      have HP2 := HP.out.below' hb2
      have hz2 := hb2.size
      obtain ⟨w5, hw5⟩ : ∃ q, q = put5 w2 w.heap.size (k * 5) (.int .i64 p.o) (.int .i64 p.s) (.int .i64 p.g) ru rv := ⟨_, rfl⟩
      have HS : Hid (DPartE w w5 w.heap.size (n * 5) (k + 1) D) := Lib.hid (by rw [hw5]; exact ⟨_, _, _, HP2.put Hp.out hjk hr hGw (fun i hi => HP.out.last i hi)⟩)
      obtain ⟨v0, e0⟩ := HP2.some_ (k * 5) (by omega)
      obtain ⟨v1, e1⟩ := HP2.some_ (k * 5 + 1) (by omega)
      obtain ⟨v2, e2⟩ := HP2.some_ (k * 5 + 2) (by omega)
      obtain ⟨v3, e3⟩ := HP2.some_ (k * 5 + 3) (by omega)
      obtain ⟨v4, e4⟩ := HP2.some_ (k * 5 + 4) (by omega)
      have g0 := HP2.frz (k * 5)
      have g1 := HP2.frz (k * 5 + 1)
      have g2 := HP2.frz (k * 5 + 2)
      have g3 := HP2.frz (k * 5 + 3)
      have g4 := HP2.frz (k * 5 + 4)
      obtain ⟨x1, y1, x2, y2, rfl, rfl⟩ := HR.out.slice
      have HW := Lib.hid hw5
      clear hw5 HP2 hr hb2 HR d0 d1 d2 d3 d4
      go_wp2
      rw [show ((((w2.setCell ⟨w.heap.size, k * 5, none⟩ (.int .i64 p.o)).setCell ⟨w.heap.size, k * 5 + 1, none⟩ (.int .i64 p.s)).setCell ⟨w.heap.size, k * 5 + 2, none⟩ (.int .i64 p.g)).setCell ⟨w.heap.size, k * 5 + 3, none⟩ (.slice x1 p.K.length y1)).setCell ⟨w.heap.size, k * 5 + 4, none⟩ (.slice x2 p.T.length y2) = w5 from HW.out.symm]
      go_roundw
      case rel => exact ⟨k + 1, by omega, by go_num, HS⟩
      case measure => simp [intOf]; omega
    · have hge : ¬ ((k : Int) < (n : Int)) := by omega
      obtain rfl : k = n := by omega
      go_wp2
      go_ret
      have hF2 := hF.out
      refine ⟨_, rfl, ?_, hF2.choose_spec.choose_spec.choose_spec.below⟩
      rw [HN.out] at hF2 ⊢
      exact hF2.row (by have := HN.out; omega)
end Go.Proofs.Ytfpafjdakipccaa
