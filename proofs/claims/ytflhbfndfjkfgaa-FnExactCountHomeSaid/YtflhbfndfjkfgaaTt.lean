/- The copy of a slice of tables. -/
import Derived.Test.YtflhbfndfjkfgaaTq
namespace Go.Proofs.Ytflhbfndfjkfgaa
open Go.RowKit


theorem Try.info56 : (Try.prog.info? 56).map (fun i => (i.zero, i.size, i.bytes)) = some (some (.agg #[.slice none 0 0]), 1, 24) := by kernel_rfl

/-- Block G, new since w, of N cells, holds the first k tables of D. -/
structure TPart (w wr : World) (G N k : Nat) (D : List (List Rt)) (us : Nat → Value) (bs : Nat → Nat × Nat) : Prop where
  below : Below w.heap.size w wr
  lo : w.heap.size ≤ G
  hi : G < wr.heap.size
  frz : ∀ o, wr.frozen? ⟨G, o, none⟩ = false
  some_ : ∀ j, j < N → ∃ u, wr.cell? ⟨G, j, none⟩ = some u
  done_ : ∀ i l, i < k → D[i]? = some l → wr.cell? ⟨G, i, none⟩ = some (us i) ∧ Row 3 wr (bs i).1 (bs i).2 (us i) l.length (flat l) ∧ G < (bs i).1 ∧ (bs i).2 ≤ wr.heap.size
  apart : ∀ i j, i < j → j < k → (bs i).2 ≤ (bs j).1
  last : ∀ i, i < k → (bs i).2 ≤ wr.heap.size
theorem TPart.below' {w wr w2 : World} {G N k : Nat} {D : List (List Rt)} {us : Nat → Value} {bs : Nat → Nat × Nat} (h : TPart w wr G N k D us bs) (hb : Below wr.heap.size wr w2) : TPart w w2 G N k D us bs where
  below := chain h.below hb
  lo := h.lo
  hi := Nat.lt_of_lt_of_le h.hi hb.size
  frz o := by rw [hb.frozen (p := ⟨G, o, none⟩) h.hi]; exact h.frz o
  some_ j hj := by rw [hb.cell (p := ⟨G, j, none⟩) h.hi]; exact h.some_ j hj
  done_ i l hi hl := by
    obtain ⟨h1, h2, h3, h4⟩ := h.done_ i l hi hl
    exact ⟨by rw [hb.cell (p := ⟨G, i, none⟩) h.hi]; exact h1, h2.below hb h4, h3, Nat.le_trans h4 hb.size⟩
  apart := h.apart
  last i hi := Nat.le_trans (h.last i hi) hb.size
theorem TPart.put {w wr : World} {G N k s : Nat} {D : List (List Rt)} {us : Nat → Value} {bs : Nat → Nat × Nat} {l : List Rt} {u : Value} (h : TPart w wr G N k D us bs) (hl : D[k]? = some l) (hN : k < N)
    (hr : Row 3 wr s wr.heap.size u l.length (flat l)) (hG : G < s) (hs : ∀ i, i < k → (bs i).2 ≤ s) :
    TPart w (wr.setCell ⟨G, k, none⟩ u) G N (k + 1) D (fun i => if i = k then u else us i) (fun i => if i = k then (s, wr.heap.size) else bs i) where
  below := h.below.setCell h.lo _
  lo := h.lo
  hi := by simp [World.setCell]; exact h.hi
  frz o := by rw [World.frozen?_setCell]; exact h.frz o
  some_ j hj := by
    by_cases e : j = k
    · subst e
      obtain ⟨u0, e0⟩ := h.some_ j hj
      exact ⟨u, World.cell?_setCell_same' _ _ _ (by rw [e0]; rfl)⟩
    · obtain ⟨u0, e0⟩ := h.some_ j hj
      exact ⟨u0, by rw [World.cell?_setCell_other _ _ _ _ (by simp)]; exact e0⟩
  done_ i l' hi hl' := by
    have hm : ∀ b, G < b → (wr.setCell ⟨G, k, none⟩ u).heap[b]? = wr.heap[b]? := fun b hb => Below.heap_setCell _ _ _ _ (show b ≠ G by omega)
    have hz : (wr.setCell ⟨G, k, none⟩ u).heap.size = wr.heap.size := by simp [World.setCell]
    rw [hz]
    by_cases e : i = k
    · subst e
      obtain rfl : l = l' := by rw [hl] at hl'; exact Option.some.inj hl'
      obtain ⟨u0, e0⟩ := h.some_ i hN
      simp only [if_pos]
      exact ⟨World.cell?_setCell_same' _ _ _ (by rw [e0]; rfl), hr.move fun b hb _ => hm b (by omega), hG, Nat.le_refl _⟩
    · simp only [if_neg e]
      obtain ⟨h1, r1, h3, h4⟩ := h.done_ i l' (by omega) hl'
      exact ⟨by rw [World.cell?_setCell_other _ _ _ _ (by simp)]; exact h1, r1.move fun b hb _ => hm b (by omega), h3, h4⟩
  apart i j hij hj := by
    by_cases e : j = k
    · subst e
      simp only [if_neg (show ¬ i = j by omega), if_pos]
      exact hs i hij
    · simp only [if_neg (show ¬ i = k by omega), if_neg e]
      exact h.apart i j hij (by omega)
  last i hi := by
    have hz : (wr.setCell ⟨G, k, none⟩ u).heap.size = wr.heap.size := by simp [World.setCell]
    rw [hz]
    by_cases e : i = k
    · simp only [if_pos e]; exact Nat.le_refl _
    · simp only [if_neg e]; exact h.last i (by omega)
/-- Some such. -/
def TPartE (w wr : World) (G N k : Nat) (D : List (List Rt)) : Prop := ∃ us bs, TPart w wr G N k D us bs
theorem TPartE.start {w w1 : World} {n cap : Nat} {D : List (List Rt)} {xs : List Value} (h : w1.ownsRow w.heap.size 56 1 (.slice (some ⟨w.heap.size, 0, none⟩) n cap) n xs) (hg : w.grownBy w1 none) : TPartE w w1 w.heap.size (n * 1) 0 D := by
  refine ⟨fun _ => .bool true, fun _ => (0, 0), (Below.refl _ _).grown hg (Nat.le_refl _) (fun k hk => by cases hk), Nat.le_refl _, (h.lt w.heap.size rfl).2, fun o => h.frozenAt o, fun j hj => ?_, fun i l hi => absurd hi (Nat.not_lt_zero _), fun i j _ hj => absurd hj (Nat.not_lt_zero _), fun i hi => absurd hi (Nat.not_lt_zero _)⟩
  have hl : j < xs.length := by rw [h.1]; exact hj
  exact ⟨xs[j], by rw [h.cellAt j hj]; exact List.getElem?_eq_getElem hl⟩
theorem TPartE.row {w wr : World} {G N cap : Nat} {D : List (List Rt)} (h : TPartE w wr G N D.length D) (hn : D.length ≤ 1100000) : TRow wr w.heap.size wr.heap.size (.slice (some ⟨G, 0, none⟩) D.length cap) D := by
  obtain ⟨us, bs, h⟩ := h
  refine ⟨_, cap, us, bs, rfl, hn, fun h0 => ⟨G, rfl, h.lo, h.hi, h.frz, fun i l hl => (h.done_ i l (List.getElem?_eq_some_iff.1 hl).1 hl).1, fun i hi => ?_⟩, fun i l hl => ?_, h.apart⟩
  · have := (h.done_ i _ hi (List.getElem?_eq_getElem hi)).2.2.1
    exact .inl this
  · obtain ⟨h1, h2, h3, h4⟩ := h.done_ i l (List.getElem?_eq_some_iff.1 hl).1 hl
    have := h.lo
    exact ⟨h2, by omega, h4⟩

set_option maxHeartbeats 2400000 in
theorem toTableS_any (v : Value) (D : List (List Rt)) (w : World) (hA : TArg w v D) (hd : ttot D ≤ 1048576) :
    Calls Try.prog 10 #[v] w fun e w' => ∃ rv, e = .returned rv ∧ TRow w' w.heap.size w'.heap.size rv D ∧ Below w.heap.size w w' := by
  obtain ⟨a, c, rfl, hop⟩ := hA.opened
  obtain ⟨i39, hi, hz0, hz1, hz2⟩ := info_parts Try.info56
  have hm := hA.1
  unfold ttot at hd
  obtain ⟨n, hn⟩ : ∃ n, n = D.length := ⟨_, rfl⟩
  rw [← hn] at hm hd hop ⊢
  have HN := Lib.hid hn
  have HO := Lib.hid hop
  have HD := Lib.hid hd
  have hnn : n ≤ 1048576 := by omega
  clear hA hop hn hd
  go_enter Try.func10, Try.ntmps10
  go_wp2_with (at_make; refine wpList_make_full _ rfl _ _ 27 rfl w.heap.size 56 i39 (.agg #[.slice none 0 0]) 1 Try.underlying27 hi hz0 hz1 .i64 .i64 _ _ n rfl rfl rfl rfl ?b2 ?b3 ?b4 ?_)
  case b2 => rw [hz2]; omega
  case b3 => unfold maxLen; omega
  case b4 => exact Nat.le_refl _
  intro w1 hown hgr
  have HF : Hid (TPartE w w1 w.heap.size (n * 1) 0 D) := Lib.hid (TPartE.start hown hgr)
  clear hi hz0 hz1 hz2 hown hgr
  go_wp2
  go_loopw [4] (fun i wr => ∃ j : Nat, j ≤ n ∧ i = .int .i64 (j : Int) ∧ Hid (TPartE w wr w.heap.size (n * 1) j D)) (fun i _ => n - (intOf i).toNat)
  case atStart => exact ⟨0, Nat.zero_le _, rfl, HF⟩
  case round =>
    obtain ⟨k, hk, rfl, hF⟩ := hrel
    by_cases hlt : k < n
    · have hjk : k < n * 1 := by omega
      obtain ⟨p, hp⟩ : ∃ p, D[k]? = some p := ⟨_, List.getElem?_eq_getElem (by have := HN.out; omega)⟩
      obtain ⟨b, off, rfl, hb, us, hel⟩ := HO.out (by omega)
      obtain ⟨us2, bs, hP⟩ := hF.out
      obtain ⟨hc, Z, hL, f1⟩ := hel k p hp
      have hB := Lib.hid hP.below
      have d0 : wr.cell? ⟨b, off + k, none⟩ = some (us k) := by rw [hB.out.cell (p := ⟨b, off + k, none⟩) hb]; exact hc
      have HL : Hid (Arg 3 wr (us k) p.length Z) := Lib.hid (hL.below hB.out)
      obtain ⟨u1, c1, hu⟩ := hL.slice
      have e2 := rtot_at_le hp
      rw [hu] at d0 HL
      have HP := Lib.hid hP
      have hp1 : p.length ≤ 1048576 := by have := HD.out; omega
      have HK := Lib.hid f1
      have Hp := Lib.hid hp
      obtain ⟨nk, hnk⟩ : ∃ q, q = p.length := ⟨_, rfl⟩
      rw [← hnk] at d0 HL hp1 HK
      have Hnk := Lib.hid hnk
      have q0 : (0 : Int) ≤ (k : Int) := by omega
      have q1 : (k : Int) < (n : Int) := by omega
      have hGw := hP.hi
      have hsz := hB.out.size
      clear hel hc hL hu e2 hnk hp hP f1 hF
      go_wp2_with fail
      go_at_call 32
      refine (toTable_any _ nk Z wr HL.out hp1).mono ?_
      rintro e w2 ⟨ru, rfl, hr, hb2⟩
      rw [HK.out, Hnk.out] at hr
      have HR := Lib.hid hr
      have HP2 := HP.out.below' hb2
      have hz2 := hb2.size
      obtain ⟨w5, hw5⟩ : ∃ q, q = w2.setCell ⟨w.heap.size, k, none⟩ ru := ⟨_, rfl⟩
      have HS : Hid (TPartE w w5 w.heap.size (n * 1) (k + 1) D) := Lib.hid (by rw [hw5]; exact ⟨_, _, HP2.put Hp.out hjk hr hGw (fun i hi => HP.out.last i hi)⟩)
      obtain ⟨v0, e0⟩ := HP2.some_ k (by omega)
      have g0 := HP2.frz k
      obtain ⟨x1, y1, rfl⟩ := HR.out.slice
      have HW := Lib.hid hw5
      clear hw5 HP2 hr hb2 HR d0
      go_wp2
      rw [show w2.setCell ⟨w.heap.size, k, none⟩ (.slice x1 p.length y1) = w5 from HW.out.symm]
      go_roundw
      case rel => exact ⟨k + 1, by omega, by go_num, HS⟩
      case measure => simp [intOf]; omega
    · have hge : ¬ ((k : Int) < (n : Int)) := by omega
      obtain rfl : k = n := by omega
      go_wp2
      go_ret
      have hF2 := hF.out
      refine ⟨_, rfl, ?_, hF2.choose_spec.choose_spec.below⟩
      rw [HN.out] at hF2 ⊢
      exact hF2.row (by have := HN.out; omega)

end Go.Proofs.Ytflhbfndfjkfgaa
