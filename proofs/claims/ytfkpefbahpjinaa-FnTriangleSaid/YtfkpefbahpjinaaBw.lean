/- Draws: a graph is bent. -/
import Derived.Test.YtfkpefbahpjinaaBd
import Derived.Test.YtfkpefbahpjinaaReg
import Derived.Test.YtfkpefbahpjinaaGk
namespace Go.Proofs.Ytfkpefbahpjinaa
open Go.RowKit


set_option maxRecDepth 100000 in
set_option maxHeartbeats 4000000 in
theorem bend_any (C n cp i lo : Nat) (a : Option Addr) (M : Int) (gv : Value) (L : List Ed) (w : World) (h : Cur w C a n cp i) (old : ∀ p : Addr, a = some p → p.block < lo) (hC : C < lo) (hlo : lo ≤ w.heap.size) (hr : RowO w lo w.heap.size gv L) (hl : L.length ≤ 1000) :
    Calls Try.prog 69 #[.pointer (some ⟨C, 0, none⟩), .agg #[.int .i64 M, gv]] w (BdPost w lo C a n cp gv.ownBlock L.length) := by
  have HC := Lib.hid h
  have Hold := Lib.hid old
  have HR := Lib.hid hr
  have hCl := h.lt
  obtain ⟨ga, gc, hgv⟩ := hr.slice
  subst hgv
  obtain ⟨m, hm⟩ : ∃ m, m = L.length := ⟨_, rfl⟩
  obtain ⟨ow, how⟩ : ∃ q, q = (Value.slice ga L.length gc).ownBlock := ⟨_, rfl⟩
  rw [← how]
  have Hob : Hid (∀ k, (Value.slice ga m gc).ownBlock = some k → ow = some k ∨ w.heap.size ≤ k) := Lib.hid fun k hk => .inl (by rw [how, ← hm]; exact hk)
  have How : Hid (∀ k, ga = some ⟨k, 0, none⟩ → ow = some k) := Lib.hid fun k hk => by rw [how, hk]; rfl
  clear how
  rw [← hm] at HR ⊢
  have Hm := Lib.hid hm
  have hm1 : m ≤ 1000 := by omega
  clear h old hr hm hl
  go_enter Try.func69, Try.ntmps69
  go_wp2_with fail
  obtain ⟨w0, hw0⟩ : ∃ qq, qq = ((w.alloc (.cells #[.int .i64 M, .slice ga m gc] 26)).alloc (.cells #[.int .i64 0, .slice none 0 0] 26)) := ⟨_, rfl⟩
  have HK0 : Hid (BdK w lo C a n cp w.heap.size ow M (.slice ga m gc) L w0) := by
    have hs : w0.heap.size = w.heap.size + 1 + 1 := by rw [hw0]; simp
    have hb : Below w.heap.size w w0 := by rw [hw0]; go_grown
    exact ⟨Hold.out, ⟨i, HC.out.below hb⟩, FrL.of_else (Else.of_below hb) hlo, ⟨hC, hlo, by omega⟩, by rw [hw0]; simp, by rw [hw0]; simp, fun o => by rw [hw0]; simp, by rw [hw0]; simp, by rw [hw0]; simp, fun o => by rw [hw0]; simp, (RowG.of HR.out (Nat.le_refl _) (Nat.le_refl _)).else_ (Else.of_below hb) hC, Nat.le_refl _, Hob.out, fun b b1 _ _ => hb.block b b1⟩
  rw [← hw0]
  clear hw0 HC
  obtain ⟨ci0, hc0⟩ := HK0.out.cur
  go_at_call 65
  refine (below_any C a n cp ci0 4 _ hc0 (by omega)).mono ?_
  rintro e w1 ⟨⟨x, rfl, x0, x1, x2⟩, k1, he1⟩
  clear hc0
  have HK1 : Hid (BdK w lo C a n cp w.heap.size ow M (.slice ga m gc) L w1) := HK0.out.else_ he1 k1
  clear he1 k1 HK0
  have hx4 := x1 (by omega)
  clear x1 x2
  have hord := HK1.out.ord
  have hx : x = 0 ∨ x = 1 ∨ x = 2 ∨ x = 3 := by omega
  rcases hx with rfl | rfl | rfl | rfl
  · obtain ⟨zM, hzM⟩ : ∃ z, IntKind.i64.wrap (M - 1) = z := ⟨_, rfl⟩
    have yx0 := HK1.out.x0
    go_wp2_with fail
    obtain ⟨w2, hw2⟩ : ∃ qq, qq = w1.alloc (.cells #[.int .i64 0, .int .i64 1, .int .i64 11, .int .i64 zM] 3) := ⟨_, rfl⟩
    have hb2 : Below w1.heap.size w1 w2 := by rw [hw2]; exact (Below.refl _ _).alloc (Nat.le_refl _) _
    have HL : Hid (ListAt w2 w1.heap.size [0, 1, 11, zM]) := by
      refine ⟨by rw [hw2]; simp, fun q y hy => ?_⟩
      rw [hw2]
      rcases q with _ | _ | _ | _ | q
      · cases hy; simp
      · cases hy; simp
      · cases hy; simp
      · cases hy; simp
      · simp at hy
    have HK2 := Lib.hid (HK1.out.grow hb2)
    rw [← hw2]
    clear hw2 hb2 yx0 hzM
    obtain ⟨ci2, hc2⟩ := HK2.out.cur
    go_at_call 79
    refine (pick_any C a n cp ci2 w1.heap.size 4 4 [0, 1, 11, zM] _ hc2 (by omega) (by omega) rfl HL.out (by omega)).mono ?_
    rintro e w3 ⟨⟨y, rfl, _⟩, k3, he3⟩
    clear hc2
    have HK3 : Hid (BdK w lo C a n cp w.heap.size ow M (.slice ga m gc) L w3) := HK2.out.else_ he3 k3
    clear he3 k3 HK2 HL
    have HK4 := Lib.hid (HK3.out.nodes y)
    have yx0 := HK3.out.x0
    have yx1 := HK3.out.x1
    have yxf0 := HK3.out.xf 0
    have yxf1 := HK3.out.xf 1
    have yr0 := HK3.out.r0
    have yr1 := HK3.out.r1
    have yrf0 := HK3.out.rf 0
    have yrf1 := HK3.out.rf 1
    have zr0 := HK4.out.r0
    have zr1 := HK4.out.r1
    obtain ⟨s0, s1⟩ := res2 (u := .int .i64 y) (v := .slice ga m gc) zr0 zr1
    have t0 := HK4.out.x0
    have t1 := HK4.out.x1
    clear zr0 zr1
    go_wp2_with fail
    exact bodyPost_ret (v := .agg #[.int .i64 y, .slice ga m gc]) (by simp [results, Try.results69, go_sem, s0, s1]) rfl (HK4.out.done (by rw [Hm.out]; omega))
  · rcases m with _ | m
    · have zx0 := HK1.out.x0
      have zx1 := HK1.out.x1
      have zxf0 := HK1.out.xf 0
      have zxf1 := HK1.out.xf 1
      have zr0 := HK1.out.r0
      have zr1 := HK1.out.r1
      have zrf0 := HK1.out.rf 0
      have zrf1 := HK1.out.rf 1
      obtain ⟨s0, s1⟩ := res2 (u := .int .i64 M) (v := .slice ga 0 gc) zr0 zr1
      go_wp2_with fail
      exact bodyPost_ret (v := .agg #[.int .i64 M, .slice ga 0 gc]) (by simp [results, Try.results69, go_sem, s0, s1]) rfl (HK1.out.done (by rw [← Hm.out]; omega))
    · have hrow := HK1.out.row
      rcases hrow with ⟨e1, _⟩ | ⟨g, c, e1, hro, hg1, hg2, hg3, hg4⟩
      · cases e1
      have hmL := Hm.out
      rw [← hmL] at e1
      cases e1
      have HmL := Lib.hid hmL
      have yx1 := HK1.out.x1
      have g1 : (0 : Int) < (m : Int) + 1 := by omega
      have HKd := Lib.hid (HK1.out.grow (w2 := w1.drew) ((Below.refl _ _).drew))
      clear hmL hro hg1 hg2 hg3 hg4
      go_wp2_with fail
      refine wp_region_held_drew (S := (fun w' => w'.cell? ⟨w.heap.size, 1, none⟩ = some (.slice (some ⟨g, 0, none⟩) (m + 1) gc) ∧ Hid (∃ L1, m + 1 = L1.length ∧ BdK w lo C a n cp w.heap.size ow M (.slice (some ⟨g, 0, none⟩) (m + 1) gc) L1 w'))) (by kernel_rfl) ?_ (fun hHeld => ?_)
      · exact ⟨HKd.out.x1, ⟨L, HmL.out, HKd.out⟩⟩
      refine step_read 0 23 rfl rfl (by kernel_rfl) (by kernel_rfl) (by kernel_rfl) (fun _ _ _ h => h) (by rfl) (v := ?_) (fun w hSw => ?_) (by assumption) ?_; rotate_left; (focus ((try dsimp only at hSw); go_simp; first | done | exact rfl)); simp only [List.set]
      refine step_read 1 24 rfl rfl (by kernel_rfl) (by kernel_rfl) (by kernel_rfl) (fun _ _ _ h => h) (by rfl) (v := ?_) (fun w hSw => ?_) (by assumption) ?_; rotate_left; (focus ((try dsimp only at hSw); go_simp; first | done | exact rfl)); simp only [List.set]
      refine step_read 2 25 rfl rfl (by kernel_rfl) (by kernel_rfl) (by kernel_rfl) (fun _ _ _ h => h) (by rfl) (v := ?_) (fun w hSw => ?_) (by assumption) ?_; rotate_left; (focus ((try dsimp only at hSw); go_simp; first | done | exact rfl)); simp only [List.set]
      refine step_read 3 26 rfl rfl (by kernel_rfl) (by kernel_rfl) (by kernel_rfl) (fun _ _ _ h => h) (by rfl) (v := ?_) (fun w hSw => ?_) (by assumption) ?_; rotate_left; (focus ((try dsimp only at hSw); go_simp; first | done | exact rfl)); simp only [List.set]
      refine step_read 4 27 rfl rfl (by kernel_rfl) (by kernel_rfl) (by kernel_rfl) (fun _ _ _ h => h) (by rfl) (v := ?_) (fun w hSw => ?_) (by assumption) ?_; rotate_left; (focus ((try dsimp only at hSw); go_simp; first | done | exact rfl)); simp only [List.set]
      refine step_read 5 28 rfl rfl (by kernel_rfl) (by kernel_rfl) (by kernel_rfl) (fun _ _ _ h => h) (by rfl) (v := ?_) (fun w hSw => ?_) (by assumption) ?_; rotate_left; (focus ((try dsimp only at hSw); go_simp; first | done | exact rfl)); simp only [List.set]
      refine step_read 7 30 rfl rfl (by kernel_rfl) (by kernel_rfl) (by kernel_rfl) (fun _ _ _ h => h) (by rfl) (v := ?_) (fun w hSw => ?_) (by assumption) ?_; rotate_left; (focus ((try dsimp only at hSw); go_simp; first | done | exact rfl)); simp only [List.set]
      refine wpAnyH_ready (rs := [6, 8]) (by kernel_rfl) (by simp) ?_
      refine AllReadyH.cons rfl (fun Kc hK => ?_) (AllReadyH.cons rfl (fun Kc hK => ?_) (AllReadyH.nil))
      · obtain ⟨wD, hwD⟩ : ∃ qq, qq = w1.drew := ⟨_, rfl⟩
        rw [← hwD] at hHeld ⊢
        clear hwD
        go_simp
        obtain ⟨L1, hl1, hk1⟩ := hHeld.2.out
        obtain ⟨ci1, hci1⟩ := hk1.cur
        go_at_call 65
        refine (below_any C a n cp ci1 ((m : Int) + 1) _ hci1 (by omega)).mono ?_
        rintro e w1c ⟨⟨v, rfl, v0, v1, v2⟩, k1, he1⟩
        have HB1 : Hid (∃ L1, m + 1 = L1.length ∧ BdK w lo C a n cp w.heap.size ow M (.slice (some ⟨g, 0, none⟩) (m + 1) gc) L1 w1c) := ⟨L1, hl1, hk1.else_ he1 k1⟩
        have hv := v1 (by omega)
        obtain ⟨j, rfl⟩ : ∃ j : Nat, v = (j : Int) := ⟨v.toNat, by omega⟩
        have q1 : (j : Int) < (m : Int) + 1 := by omega
        clear hl1 hk1 L1 hci1 he1 k1 v1 v2 hHeld
        refine hK.out _ _ ?_ (fun hHeld => ?_)
        · exact ⟨(HB1.out.elim fun _ h => h.2.x1), HB1⟩
        clear hK Kc
        refine wpAnyH_ready (rs := [8]) (by kernel_rfl) (by simp) ?_
        refine AllReadyH.cons rfl (fun Kc hK => ?_) (AllReadyH.nil)
        go_simp
        obtain ⟨w2b, hw2⟩ : ∃ qq, qq = (w1c).alloc (.cells #[.int .i64 0, .int .i64 1000, .int .i64 1001] 3) := ⟨_, rfl⟩
        have hb2 : Below (w1c).heap.size (w1c) w2b := by rw [hw2]; exact (Below.refl _ _).alloc (Nat.le_refl _) _
        have HL2 : Hid (ListAt w2b (w1c).heap.size [0, 1000, 1001]) := by
          refine ⟨by rw [hw2]; simp, fun q y hy => ?_⟩
          rw [hw2]
          rcases q with _ | _ | _ | q
          · cases hy; simp
          · cases hy; simp
          · cases hy; simp
          · simp at hy
        obtain ⟨L1, hl1, hk1⟩ := hHeld.2.out
        obtain ⟨ci2, hci2⟩ := hk1.cur
        have hCb2 := hci2.lt
        have HB2 : Hid (∃ L1, m + 1 = L1.length ∧ BdK w lo C a n cp w.heap.size ow M (.slice (some ⟨g, 0, none⟩) (m + 1) gc) L1 w2b) := ⟨L1, hl1, hk1.grow hb2⟩
        obtain ⟨x2, hx2⟩ : ∃ qq, qq = (w1c).heap.size := ⟨_, rfl⟩
        rw [← hw2]
        have hnb2 : x2 ≠ C := by omega
        try rw [← hx2] at HL2
        try rw [← hx2]
        clear hl1 hk1 L1 hci2 hb2 hw2 hHeld hCb2 hx2
        refine hK.out _ _ ?_ (fun hHeld => ?_)
        · exact ⟨(HB2.out.elim fun _ h => h.2.x1), HB2⟩
        clear hK Kc
        refine wpAnyH_ready (rs := [9]) (by kernel_rfl) (by simp) ?_
        refine AllReadyH.cons rfl (fun Kc hK => ?_) (AllReadyH.nil)
        go_simp
        obtain ⟨L1, hl1, hk1⟩ := hHeld.2.out
        obtain ⟨ci3, hci3⟩ := hk1.cur
        go_at_call 79
        refine (pick_any C a n cp ci3 x2 3 3 [0, 1000, 1001] _ hci3 (by omega) (by omega) rfl HL2.out (by omega)).mono ?_
        rintro e w3c ⟨⟨y, rfl, _⟩, k3, he3⟩
        have HB3 : Hid (∃ L1, m + 1 = L1.length ∧ BdK w lo C a n cp w.heap.size ow M (.slice (some ⟨g, 0, none⟩) (m + 1) gc) L1 w3c) := ⟨L1, hl1, hk1.else_ he3 k3⟩
        clear hl1 hk1 L1 hci3 he3 k3 hHeld
        refine hK.out _ _ ?_ (fun hHeld => ?_)
        · exact ⟨(HB3.out.elim fun _ h => h.2.x1), HB3⟩
        clear hK Kc
        refine step_read 10 33 rfl rfl (by kernel_rfl) (by kernel_rfl) (by kernel_rfl) (fun _ _ _ h => h) (by rfl) (v := ?_) (fun w hSw => ?_) (by assumption) ?_; rotate_left; (focus ((try dsimp only at hSw); go_simp; first | done | exact rfl)); simp only [List.set]
        refine step_read 11 34 rfl rfl (by kernel_rfl) (by kernel_rfl) (by kernel_rfl) (fun _ _ _ h => h) (by rfl) (v := ?_) (fun w hSw => ?_) (by assumption) ?_; rotate_left; (focus ((try dsimp only at hSw); go_simp; first | done | exact rfl)); simp only [List.set]
        refine wpAnyH_ready (rs := [12]) (by kernel_rfl) (by simp) ?_
        refine AllReadyH.cons rfl (fun Kc hK => ?_) (AllReadyH.nil)
        obtain ⟨L1, hl1, hk1⟩ := hHeld.2.out
        rcases hk1.row with ⟨e1, _⟩ | ⟨g', c', e1, hro, hg1, hg2, hg3, hg4⟩
        · cases e1
        rw [← hl1] at e1
        cases e1
        obtain ⟨r, hr⟩ : ∃ r, L1[j]? = some r := ⟨L1[j]'(by omega), List.getElem?_eq_getElem _⟩
        obtain ⟨ea, eb, ec⟩ := r
        obtain ⟨r0, r1, r2⟩ := flat_at L1 j _ hr
        have hown := hro.own
        rw [← hl1] at hown
        have y2 : (w3c).cell? ⟨g, j * 3 + 2, none⟩ = some (.int .i64 ec) := by rw [hown.cellAt _ (by omega), ints_at' r2]
        have fz := hown.frozenAt (j * 3 + 2)
        obtain ⟨L', hL1, hL2⟩ := flat_set L1 j 2 y (by omega) (by omega)
        have HB4 : Hid (∃ L1, m + 1 = L1.length ∧ BdK w lo C a n cp w.heap.size ow M (.slice (some ⟨g, 0, none⟩) (m + 1) gc) L1 ((w3c).setCell ⟨g, j * 3 + 2, none⟩ (.int .i64 y))) := ⟨L', by omega, hk1.cell (How.out _ rfl) hl1 (show j * 3 + 2 < (m + 1) * 3 by omega) hL1 hL2⟩
        clear r0 r1 r2 hr hown hro hL1 hL2 hk1 hl1
        go_simp
        obtain ⟨w4s, hw4⟩ : ∃ qq, qq = (w3c).setCell ⟨g, j * 3 + 2, none⟩ (.int .i64 y) := ⟨_, rfl⟩
        rw [← hw4] at HB4 ⊢
        clear hw4 y2 fz L1 L'
        refine hK.out _ _ ?_ (fun hHeld => ?_)
        · exact ⟨(HB4.out.elim fun _ h => h.2.x1), HB4⟩
        clear hK Kc
        refine wpAnyH_done (by kernel_rfl) ?_ _
        obtain ⟨L2, hl2, hk2⟩ := hHeld.2.out
        have HKE := Lib.hid hk2
        have HL2 := Lib.hid hl2
        clear hk2 hHeld hl2
        have zx0 := HKE.out.x0
        have zx1 := HKE.out.x1
        have zxf0 := HKE.out.xf 0
        have zxf1 := HKE.out.xf 1
        have zr0 := HKE.out.r0
        have zr1 := HKE.out.r1
        have zrf0 := HKE.out.rf 0
        have zrf1 := HKE.out.rf 1
        obtain ⟨s0, s1⟩ := res2 (u := .int .i64 M) (v := .slice (some ⟨g, 0, none⟩) (m + 1) gc) zr0 zr1
        go_wp2_with fail
        exact bodyPost_ret (v := .agg #[.int .i64 M, .slice (some ⟨g, 0, none⟩) (m + 1) gc]) (by simp [results, Try.results69, go_sem, s0, s1]) rfl (HKE.out.done (by have := HL2.out; omega))
      · obtain ⟨wD, hwD⟩ : ∃ qq, qq = w1.drew := ⟨_, rfl⟩
        rw [← hwD] at hHeld ⊢
        clear hwD
        go_simp
        obtain ⟨w1b, hw1⟩ : ∃ qq, qq = (wD).alloc (.cells #[.int .i64 0, .int .i64 1000, .int .i64 1001] 3) := ⟨_, rfl⟩
        have hb1 : Below (wD).heap.size (wD) w1b := by rw [hw1]; exact (Below.refl _ _).alloc (Nat.le_refl _) _
        have HL1 : Hid (ListAt w1b (wD).heap.size [0, 1000, 1001]) := by
          refine ⟨by rw [hw1]; simp, fun q y hy => ?_⟩
          rw [hw1]
          rcases q with _ | _ | _ | q
          · cases hy; simp
          · cases hy; simp
          · cases hy; simp
          · simp at hy
        obtain ⟨L1, hl1, hk1⟩ := hHeld.2.out
        obtain ⟨ci1, hci1⟩ := hk1.cur
        have hCb1 := hci1.lt
        have HB1 : Hid (∃ L1, m + 1 = L1.length ∧ BdK w lo C a n cp w.heap.size ow M (.slice (some ⟨g, 0, none⟩) (m + 1) gc) L1 w1b) := ⟨L1, hl1, hk1.grow hb1⟩
        obtain ⟨x1, hx1⟩ : ∃ qq, qq = (wD).heap.size := ⟨_, rfl⟩
        rw [← hw1]
        have hnb1 : x1 ≠ C := by omega
        try rw [← hx1] at HL1
        try rw [← hx1]
        clear hl1 hk1 L1 hci1 hb1 hw1 hHeld hCb1 hx1
        refine hK.out _ _ ?_ (fun hHeld => ?_)
        · exact ⟨(HB1.out.elim fun _ h => h.2.x1), HB1⟩
        clear hK Kc
        refine wpAnyH_ready (rs := [6]) (by kernel_rfl) (by simp) ?_
        refine AllReadyH.cons rfl (fun Kc hK => ?_) (AllReadyH.nil)
        go_simp
        obtain ⟨L1, hl1, hk1⟩ := hHeld.2.out
        obtain ⟨ci2, hci2⟩ := hk1.cur
        go_at_call 65
        refine (below_any C a n cp ci2 ((m : Int) + 1) _ hci2 (by omega)).mono ?_
        rintro e w2c ⟨⟨v, rfl, v0, v1, v2⟩, k2, he2⟩
        have HB2 : Hid (∃ L1, m + 1 = L1.length ∧ BdK w lo C a n cp w.heap.size ow M (.slice (some ⟨g, 0, none⟩) (m + 1) gc) L1 w2c) := ⟨L1, hl1, hk1.else_ he2 k2⟩
        have HL2 := Lib.hid (HL1.out.else_ he2 hnb1)
        have hv := v1 (by omega)
        obtain ⟨j, rfl⟩ : ∃ j : Nat, v = (j : Int) := ⟨v.toNat, by omega⟩
        have q1 : (j : Int) < (m : Int) + 1 := by omega
        clear hl1 hk1 L1 hci2 he2 k2 v1 v2 hHeld
        refine hK.out _ _ ?_ (fun hHeld => ?_)
        · exact ⟨(HB2.out.elim fun _ h => h.2.x1), HB2⟩
        clear hK Kc
        refine wpAnyH_ready (rs := [9]) (by kernel_rfl) (by simp) ?_
        refine AllReadyH.cons rfl (fun Kc hK => ?_) (AllReadyH.nil)
        go_simp
        obtain ⟨L1, hl1, hk1⟩ := hHeld.2.out
        obtain ⟨ci3, hci3⟩ := hk1.cur
        go_at_call 79
        refine (pick_any C a n cp ci3 x1 3 3 [0, 1000, 1001] _ hci3 (by omega) (by omega) rfl HL2.out (by omega)).mono ?_
        rintro e w3c ⟨⟨y, rfl, _⟩, k3, he3⟩
        have HB3 : Hid (∃ L1, m + 1 = L1.length ∧ BdK w lo C a n cp w.heap.size ow M (.slice (some ⟨g, 0, none⟩) (m + 1) gc) L1 w3c) := ⟨L1, hl1, hk1.else_ he3 k3⟩
        clear hl1 hk1 L1 hci3 he3 k3 hHeld
        refine hK.out _ _ ?_ (fun hHeld => ?_)
        · exact ⟨(HB3.out.elim fun _ h => h.2.x1), HB3⟩
        clear hK Kc
        refine step_read 10 33 rfl rfl (by kernel_rfl) (by kernel_rfl) (by kernel_rfl) (fun _ _ _ h => h) (by rfl) (v := ?_) (fun w hSw => ?_) (by assumption) ?_; rotate_left; (focus ((try dsimp only at hSw); go_simp; first | done | exact rfl)); simp only [List.set]
        refine step_read 11 34 rfl rfl (by kernel_rfl) (by kernel_rfl) (by kernel_rfl) (fun _ _ _ h => h) (by rfl) (v := ?_) (fun w hSw => ?_) (by assumption) ?_; rotate_left; (focus ((try dsimp only at hSw); go_simp; first | done | exact rfl)); simp only [List.set]
        refine wpAnyH_ready (rs := [12]) (by kernel_rfl) (by simp) ?_
        refine AllReadyH.cons rfl (fun Kc hK => ?_) (AllReadyH.nil)
        obtain ⟨L1, hl1, hk1⟩ := hHeld.2.out
        rcases hk1.row with ⟨e1, _⟩ | ⟨g', c', e1, hro, hg1, hg2, hg3, hg4⟩
        · cases e1
        rw [← hl1] at e1
        cases e1
        obtain ⟨r, hr⟩ : ∃ r, L1[j]? = some r := ⟨L1[j]'(by omega), List.getElem?_eq_getElem _⟩
        obtain ⟨ea, eb, ec⟩ := r
        obtain ⟨r0, r1, r2⟩ := flat_at L1 j _ hr
        have hown := hro.own
        rw [← hl1] at hown
        have y2 : (w3c).cell? ⟨g, j * 3 + 2, none⟩ = some (.int .i64 ec) := by rw [hown.cellAt _ (by omega), ints_at' r2]
        have fz := hown.frozenAt (j * 3 + 2)
        obtain ⟨L', hL1, hL2⟩ := flat_set L1 j 2 y (by omega) (by omega)
        have HB4 : Hid (∃ L1, m + 1 = L1.length ∧ BdK w lo C a n cp w.heap.size ow M (.slice (some ⟨g, 0, none⟩) (m + 1) gc) L1 ((w3c).setCell ⟨g, j * 3 + 2, none⟩ (.int .i64 y))) := ⟨L', by omega, hk1.cell (How.out _ rfl) hl1 (show j * 3 + 2 < (m + 1) * 3 by omega) hL1 hL2⟩
        clear r0 r1 r2 hr hown hro hL1 hL2 hk1 hl1
        go_simp
        obtain ⟨w4s, hw4⟩ : ∃ qq, qq = (w3c).setCell ⟨g, j * 3 + 2, none⟩ (.int .i64 y) := ⟨_, rfl⟩
        rw [← hw4] at HB4 ⊢
        clear hw4 y2 fz L1 L'
        refine hK.out _ _ ?_ (fun hHeld => ?_)
        · exact ⟨(HB4.out.elim fun _ h => h.2.x1), HB4⟩
        clear hK Kc
        refine wpAnyH_done (by kernel_rfl) ?_ _
        obtain ⟨L2, hl2, hk2⟩ := hHeld.2.out
        have HKE := Lib.hid hk2
        have HL2 := Lib.hid hl2
        clear hk2 hHeld hl2
        have zx0 := HKE.out.x0
        have zx1 := HKE.out.x1
        have zxf0 := HKE.out.xf 0
        have zxf1 := HKE.out.xf 1
        have zr0 := HKE.out.r0
        have zr1 := HKE.out.r1
        have zrf0 := HKE.out.rf 0
        have zrf1 := HKE.out.rf 1
        obtain ⟨s0, s1⟩ := res2 (u := .int .i64 M) (v := .slice (some ⟨g, 0, none⟩) (m + 1) gc) zr0 zr1
        go_wp2_with fail
        exact bodyPost_ret (v := .agg #[.int .i64 M, .slice (some ⟨g, 0, none⟩) (m + 1) gc]) (by simp [results, Try.results69, go_sem, s0, s1]) rfl (HKE.out.done (by have := HL2.out; omega))
  · rcases m with _ | m
    · have zx0 := HK1.out.x0
      have zx1 := HK1.out.x1
      have zxf0 := HK1.out.xf 0
      have zxf1 := HK1.out.xf 1
      have zr0 := HK1.out.r0
      have zr1 := HK1.out.r1
      have zrf0 := HK1.out.rf 0
      have zrf1 := HK1.out.rf 1
      obtain ⟨s0, s1⟩ := res2 (u := .int .i64 M) (v := .slice ga 0 gc) zr0 zr1
      go_wp2_with fail
      exact bodyPost_ret (v := .agg #[.int .i64 M, .slice ga 0 gc]) (by simp [results, Try.results69, go_sem, s0, s1]) rfl (HK1.out.done (by rw [← Hm.out]; omega))
    · have hrow := HK1.out.row
      rcases hrow with ⟨e1, _⟩ | ⟨g, c, e1, hro, hg1, hg2, hg3, hg4⟩
      · cases e1
      have hmL := Hm.out
      rw [← hmL] at e1
      cases e1
      obtain ⟨iE, hi, hz0, hz1, hz2⟩ := info_parts Try.info53
      have IE := Lib.hid (And.intro hi (And.intro hz0 (And.intro hz1 hz2)))
      have HKd := Lib.hid (HK1.out.grow (w2 := w1.drew) ((Below.refl _ _).drew))
      obtain ⟨r, hr⟩ : ∃ r, L[0]? = some r := ⟨L[0]'(by omega), List.getElem?_eq_getElem _⟩
      obtain ⟨ea, eb, ec⟩ := r
      obtain ⟨r0, r1, r2⟩ := flat_at L 0 _ hr
      have hown := HKd.out.row.owns
      rw [← hmL] at hown
      have y0 : w1.drew.cell? ⟨g, 0, none⟩ = some (.int .i64 ea) := by rw [hown.cellAt 0 (by omega), ints_at' (by simpa using r0)]
      have y1 : w1.drew.cell? ⟨g, 1, none⟩ = some (.int .i64 eb) := by rw [hown.cellAt 1 (by omega), ints_at' (by simpa using r1)]
      have y2 : w1.drew.cell? ⟨g, 2, none⟩ = some (.int .i64 ec) := by rw [hown.cellAt 2 (by omega), ints_at' (by simpa using r2)]
      have HmL := Lib.hid hmL
      have yx1 := HK1.out.x1
      have g1 : (0 : Int) < (m : Int) + 1 := by omega
      clear hmL hro hg1 hg2 hg3 hg4 r0 r1 r2 hr hown hi hz0 hz1 hz2
      go_wp2_with fail
      refine wp_region_held_drew (S := (fun _ => True)) (by kernel_rfl) ?_ (fun hHeld => ?_)
      · trivial
      refine step_read 0 41 rfl rfl (by kernel_rfl) (by kernel_rfl) (by kernel_rfl) (fun _ _ _ h => h) (by rfl) (v := ?_) (fun w hSw => ?_) (by assumption) ?_; rotate_left; (focus ((try dsimp only at hSw); go_simp; first | done | exact rfl)); simp only [List.set]
      refine step_read 2 43 rfl rfl (by kernel_rfl) (by kernel_rfl) (by kernel_rfl) (fun _ _ _ h => h) (by rfl) (v := ?_) (fun w hSw => ?_) (by assumption) ?_; rotate_left; (focus ((try dsimp only at hSw); go_simp; first | done | exact rfl)); simp only [List.set]
      refine wpAnyH_ready (rs := [1, 3]) (by kernel_rfl) (by simp) ?_
      refine AllReadyH.cons rfl (fun Kc hK => ?_) (AllReadyH.cons rfl (fun Kc hK => ?_) (AllReadyH.nil))
      · obtain ⟨wD, hwD⟩ : ∃ qq, qq = w1.drew := ⟨_, rfl⟩
        rw [← hwD] at HKd y0 y1 y2 ⊢
        clear hwD
        have zx1 := HKd.out.x1
        go_simp
        clear zx1
        refine hK.out _ _ ?_ (fun hHeld => ?_)
        · trivial
        clear hK Kc
        refine wpAnyH_ready (rs := [3]) (by kernel_rfl) (by simp) ?_
        refine AllReadyH.cons rfl (fun Kc hK => ?_) (AllReadyH.nil)
        have zx1 := HKd.out.x1
        go_simp
        clear zx1
        refine hK.out _ _ ?_ (fun hHeld => ?_)
        · trivial
        clear hK Kc
        refine step_read 4 45 rfl rfl (by kernel_rfl) (by kernel_rfl) (by kernel_rfl) (fun _ _ _ h => h) (by rfl) (v := ?_) (fun w hSw => ?_) (by assumption) ?_; rotate_left; (focus ((try dsimp only at hSw); go_simp; first | done | exact rfl)); simp only [List.set]
        refine wpAnyH_ready (rs := [5]) (by kernel_rfl) (by simp) ?_
        refine AllReadyH.cons rfl (fun Kc hK => ?_) (AllReadyH.nil)
        go_simp
        refine hK.out _ _ ?_ (fun hHeld => ?_)
        · trivial
        clear hK Kc
        refine wpAnyH_ready (rs := [6]) (by kernel_rfl) (by simp) ?_
        refine AllReadyH.cons rfl (fun Kc hK => ?_) (AllReadyH.nil)
        go_simp
        obtain ⟨wB, hwB⟩ : ∃ qq, qq = wD.alloc (.cells #[.int .i64 ea, .int .i64 eb, .int .i64 ec] 53) := ⟨_, rfl⟩
        have HKB : Hid (BdK w lo C a n cp w.heap.size ow M (.slice (some ⟨g, 0, none⟩) (m + 1) gc) L wB) := HKd.out.grow (by rw [hwB]; exact (Below.refl _ _).alloc (Nat.le_refl _) _)
        have hc3 : ∀ j u, [.int .i64 ea, .int .i64 eb, .int .i64 ec][j]? = some u → wB.cell? ((⟨wD.heap.size, 0, none⟩ : Addr).add j) = some u := by rw [hwB]; exact fun j u hj => cell_three_new _ _ _ _ 53 j u hj
        have hBs : wD.heap.size < wB.heap.size := by rw [hwB]; simp
        obtain ⟨bx, hbx⟩ : ∃ qq, qq = wD.heap.size := ⟨_, rfl⟩
        rw [← hbx] at hc3 hBs
        rw [← hwB]
        try rw [← hbx]
        clear hwB hbx y0 y1 y2
        refine hK.out _ _ ?_ (fun hHeld => ?_)
        · trivial
        clear hK Kc
        refine wpAnyH_ready (rs := [7]) (by kernel_rfl) (by simp) ?_
        refine AllReadyH.cons rfl (fun Kc hK => ?_) (AllReadyH.nil)
        have hown := HKB.out.row.owns
        rw [← HmL.out] at hown
        have hgX := (HKB.out.row.block g rfl).2.2.1
        have hord := HKB.out.ord
        refine step_append_lies _ rfl _ _ 24 rfl lo 53 iE (.agg #[.int .i64 0, .int .i64 0, .int .i64 0]) 3 24 Try.underlying24 IE.out.1 IE.out.2.1 IE.out.2.2.1 IE.out.2.2.2 rfl (by decide) _ (m + 1) (ints (flat L)) rfl hown ⟨bx, 0, none⟩ 1 1 [.int .i64 ea, .int .i64 eb, .int .i64 ec] rfl rfl hc3 (three_one _ _ _) (by decide) (by unfold maxLen; omega) (by omega) (by omega) _ rfl ?_
        intro g4 cap4 w4 hown4 hgrow4 hat4 hlt4
        have xx1 : w4.cell? ⟨w.heap.size, 1, none⟩ = some (.slice (some ⟨g, 0, none⟩) (m + 1) gc) := by rw [hgrow4.cell_far ⟨w.heap.size, 1, none⟩ (by show w.heap.size < _; omega) (by intro e; cases e; exact hgX rfl)]; exact HKB.out.x1
        have xxf : w4.frozen? ⟨w.heap.size, 1, none⟩ = false := by rw [hgrow4.frozen_far ⟨w.heap.size, 1, none⟩ (by show w.heap.size < _; omega) (by intro e; cases e; exact hgX rfl)]; exact HKB.out.xf 1
        rw [HmL.out] at hown4
        have HKE := Lib.hid (HKB.out.app (x := ea) (y := eb) (z := ec) (How.out _ rfl) (by have := HmL.out; omega) hown4 hgrow4 hat4)
        rw [← HmL.out] at HKE
        clear hown4 hgrow4 hat4 hlt4 hown hgX hord hc3 hBs
        go_simp
        refine hK.out _ _ ?_ (fun hHeld => ?_)
        · trivial
        clear hK Kc
        refine step_read 8 49 rfl rfl (by kernel_rfl) (by kernel_rfl) (by kernel_rfl) (fun _ _ _ h => h) (by rfl) (v := ?_) (fun w hSw => ?_) (by assumption) ?_; rotate_left; (focus ((try dsimp only at hSw); go_simp; first | done | exact rfl)); simp only [List.set]
        refine wpAnyH_ready (rs := [9]) (by kernel_rfl) (by simp) ?_
        refine AllReadyH.cons rfl (fun Kc hK => ?_) (AllReadyH.nil)
        go_simp
        obtain ⟨wS, hwS⟩ : ∃ qq, qq = w4.setCell ⟨w.heap.size, 1, none⟩ (.slice (some ⟨g4, 0, none⟩) (m + 1 + 1) cap4) := ⟨_, rfl⟩
        rw [← hwS] at HKE ⊢
        clear hwS xx1 xxf
        refine hK.out _ _ ?_ (fun hHeld => ?_)
        · trivial
        clear hK Kc
        refine wpAnyH_done (by kernel_rfl) ?_ _
        have zx0 := HKE.out.x0
        have zx1 := HKE.out.x1
        have zxf0 := HKE.out.xf 0
        have zxf1 := HKE.out.xf 1
        have zr0 := HKE.out.r0
        have zr1 := HKE.out.r1
        have zrf0 := HKE.out.rf 0
        have zrf1 := HKE.out.rf 1
        obtain ⟨s0, s1⟩ := res2 (u := .int .i64 M) (v := .slice (some ⟨g4, 0, none⟩) (m + 1 + 1) cap4) zr0 zr1
        go_wp2_with fail
        exact bodyPost_ret (v := .agg #[.int .i64 M, .slice (some ⟨g4, 0, none⟩) (m + 1 + 1) cap4]) (by simp [results, Try.results69, go_sem, s0, s1]) rfl (HKE.out.done (by have := HmL.out; simp; omega))
      · obtain ⟨wD, hwD⟩ : ∃ qq, qq = w1.drew := ⟨_, rfl⟩
        rw [← hwD] at HKd y0 y1 y2 ⊢
        clear hwD
        have zx1 := HKd.out.x1
        go_simp
        clear zx1
        refine hK.out _ _ ?_ (fun hHeld => ?_)
        · trivial
        clear hK Kc
        refine step_read 4 45 rfl rfl (by kernel_rfl) (by kernel_rfl) (by kernel_rfl) (fun _ _ _ h => h) (by rfl) (v := ?_) (fun w hSw => ?_) (by assumption) ?_; rotate_left; (focus ((try dsimp only at hSw); go_simp; first | done | exact rfl)); simp only [List.set]
        refine wpAnyH_ready (rs := [1, 5]) (by kernel_rfl) (by simp) ?_
        refine AllReadyH.cons rfl (fun Kc hK => ?_) (AllReadyH.cons rfl (fun Kc hK => ?_) (AllReadyH.nil))
        · have zx1 := HKd.out.x1
          go_simp
          clear zx1
          refine hK.out _ _ ?_ (fun hHeld => ?_)
          · trivial
          clear hK Kc
          refine wpAnyH_ready (rs := [5]) (by kernel_rfl) (by simp) ?_
          refine AllReadyH.cons rfl (fun Kc hK => ?_) (AllReadyH.nil)
          go_simp
          refine hK.out _ _ ?_ (fun hHeld => ?_)
          · trivial
          clear hK Kc
          refine wpAnyH_ready (rs := [6]) (by kernel_rfl) (by simp) ?_
          refine AllReadyH.cons rfl (fun Kc hK => ?_) (AllReadyH.nil)
          go_simp
          obtain ⟨wB, hwB⟩ : ∃ qq, qq = wD.alloc (.cells #[.int .i64 ea, .int .i64 eb, .int .i64 ec] 53) := ⟨_, rfl⟩
          have HKB : Hid (BdK w lo C a n cp w.heap.size ow M (.slice (some ⟨g, 0, none⟩) (m + 1) gc) L wB) := HKd.out.grow (by rw [hwB]; exact (Below.refl _ _).alloc (Nat.le_refl _) _)
          have hc3 : ∀ j u, [.int .i64 ea, .int .i64 eb, .int .i64 ec][j]? = some u → wB.cell? ((⟨wD.heap.size, 0, none⟩ : Addr).add j) = some u := by rw [hwB]; exact fun j u hj => cell_three_new _ _ _ _ 53 j u hj
          have hBs : wD.heap.size < wB.heap.size := by rw [hwB]; simp
          obtain ⟨bx, hbx⟩ : ∃ qq, qq = wD.heap.size := ⟨_, rfl⟩
          rw [← hbx] at hc3 hBs
          rw [← hwB]
          try rw [← hbx]
          clear hwB hbx y0 y1 y2
          refine hK.out _ _ ?_ (fun hHeld => ?_)
          · trivial
          clear hK Kc
          refine wpAnyH_ready (rs := [7]) (by kernel_rfl) (by simp) ?_
          refine AllReadyH.cons rfl (fun Kc hK => ?_) (AllReadyH.nil)
          have hown := HKB.out.row.owns
          rw [← HmL.out] at hown
          have hgX := (HKB.out.row.block g rfl).2.2.1
          have hord := HKB.out.ord
          refine step_append_lies _ rfl _ _ 24 rfl lo 53 iE (.agg #[.int .i64 0, .int .i64 0, .int .i64 0]) 3 24 Try.underlying24 IE.out.1 IE.out.2.1 IE.out.2.2.1 IE.out.2.2.2 rfl (by decide) _ (m + 1) (ints (flat L)) rfl hown ⟨bx, 0, none⟩ 1 1 [.int .i64 ea, .int .i64 eb, .int .i64 ec] rfl rfl hc3 (three_one _ _ _) (by decide) (by unfold maxLen; omega) (by omega) (by omega) _ rfl ?_
          intro g4 cap4 w4 hown4 hgrow4 hat4 hlt4
          have xx1 : w4.cell? ⟨w.heap.size, 1, none⟩ = some (.slice (some ⟨g, 0, none⟩) (m + 1) gc) := by rw [hgrow4.cell_far ⟨w.heap.size, 1, none⟩ (by show w.heap.size < _; omega) (by intro e; cases e; exact hgX rfl)]; exact HKB.out.x1
          have xxf : w4.frozen? ⟨w.heap.size, 1, none⟩ = false := by rw [hgrow4.frozen_far ⟨w.heap.size, 1, none⟩ (by show w.heap.size < _; omega) (by intro e; cases e; exact hgX rfl)]; exact HKB.out.xf 1
          rw [HmL.out] at hown4
          have HKE := Lib.hid (HKB.out.app (x := ea) (y := eb) (z := ec) (How.out _ rfl) (by have := HmL.out; omega) hown4 hgrow4 hat4)
          rw [← HmL.out] at HKE
          clear hown4 hgrow4 hat4 hlt4 hown hgX hord hc3 hBs
          go_simp
          refine hK.out _ _ ?_ (fun hHeld => ?_)
          · trivial
          clear hK Kc
          refine step_read 8 49 rfl rfl (by kernel_rfl) (by kernel_rfl) (by kernel_rfl) (fun _ _ _ h => h) (by rfl) (v := ?_) (fun w hSw => ?_) (by assumption) ?_; rotate_left; (focus ((try dsimp only at hSw); go_simp; first | done | exact rfl)); simp only [List.set]
          refine wpAnyH_ready (rs := [9]) (by kernel_rfl) (by simp) ?_
          refine AllReadyH.cons rfl (fun Kc hK => ?_) (AllReadyH.nil)
          go_simp
          obtain ⟨wS, hwS⟩ : ∃ qq, qq = w4.setCell ⟨w.heap.size, 1, none⟩ (.slice (some ⟨g4, 0, none⟩) (m + 1 + 1) cap4) := ⟨_, rfl⟩
          rw [← hwS] at HKE ⊢
          clear hwS xx1 xxf
          refine hK.out _ _ ?_ (fun hHeld => ?_)
          · trivial
          clear hK Kc
          refine wpAnyH_done (by kernel_rfl) ?_ _
          have zx0 := HKE.out.x0
          have zx1 := HKE.out.x1
          have zxf0 := HKE.out.xf 0
          have zxf1 := HKE.out.xf 1
          have zr0 := HKE.out.r0
          have zr1 := HKE.out.r1
          have zrf0 := HKE.out.rf 0
          have zrf1 := HKE.out.rf 1
          obtain ⟨s0, s1⟩ := res2 (u := .int .i64 M) (v := .slice (some ⟨g4, 0, none⟩) (m + 1 + 1) cap4) zr0 zr1
          go_wp2_with fail
          exact bodyPost_ret (v := .agg #[.int .i64 M, .slice (some ⟨g4, 0, none⟩) (m + 1 + 1) cap4]) (by simp [results, Try.results69, go_sem, s0, s1]) rfl (HKE.out.done (by have := HmL.out; simp; omega))
        · go_simp
          refine hK.out _ _ ?_ (fun hHeld => ?_)
          · trivial
          clear hK Kc
          refine wpAnyH_ready (rs := [1, 6]) (by kernel_rfl) (by simp) ?_
          refine AllReadyH.cons rfl (fun Kc hK => ?_) (AllReadyH.cons rfl (fun Kc hK => ?_) (AllReadyH.nil))
          · have zx1 := HKd.out.x1
            go_simp
            clear zx1
            refine hK.out _ _ ?_ (fun hHeld => ?_)
            · trivial
            clear hK Kc
            refine wpAnyH_ready (rs := [6]) (by kernel_rfl) (by simp) ?_
            refine AllReadyH.cons rfl (fun Kc hK => ?_) (AllReadyH.nil)
            go_simp
            obtain ⟨wB, hwB⟩ : ∃ qq, qq = wD.alloc (.cells #[.int .i64 ea, .int .i64 eb, .int .i64 ec] 53) := ⟨_, rfl⟩
            have HKB : Hid (BdK w lo C a n cp w.heap.size ow M (.slice (some ⟨g, 0, none⟩) (m + 1) gc) L wB) := HKd.out.grow (by rw [hwB]; exact (Below.refl _ _).alloc (Nat.le_refl _) _)
            have hc3 : ∀ j u, [.int .i64 ea, .int .i64 eb, .int .i64 ec][j]? = some u → wB.cell? ((⟨wD.heap.size, 0, none⟩ : Addr).add j) = some u := by rw [hwB]; exact fun j u hj => cell_three_new _ _ _ _ 53 j u hj
            have hBs : wD.heap.size < wB.heap.size := by rw [hwB]; simp
            obtain ⟨bx, hbx⟩ : ∃ qq, qq = wD.heap.size := ⟨_, rfl⟩
            rw [← hbx] at hc3 hBs
            rw [← hwB]
            try rw [← hbx]
            clear hwB hbx y0 y1 y2
            refine hK.out _ _ ?_ (fun hHeld => ?_)
            · trivial
            clear hK Kc
            refine wpAnyH_ready (rs := [7]) (by kernel_rfl) (by simp) ?_
            refine AllReadyH.cons rfl (fun Kc hK => ?_) (AllReadyH.nil)
            have hown := HKB.out.row.owns
            rw [← HmL.out] at hown
            have hgX := (HKB.out.row.block g rfl).2.2.1
            have hord := HKB.out.ord
            refine step_append_lies _ rfl _ _ 24 rfl lo 53 iE (.agg #[.int .i64 0, .int .i64 0, .int .i64 0]) 3 24 Try.underlying24 IE.out.1 IE.out.2.1 IE.out.2.2.1 IE.out.2.2.2 rfl (by decide) _ (m + 1) (ints (flat L)) rfl hown ⟨bx, 0, none⟩ 1 1 [.int .i64 ea, .int .i64 eb, .int .i64 ec] rfl rfl hc3 (three_one _ _ _) (by decide) (by unfold maxLen; omega) (by omega) (by omega) _ rfl ?_
            intro g4 cap4 w4 hown4 hgrow4 hat4 hlt4
            have xx1 : w4.cell? ⟨w.heap.size, 1, none⟩ = some (.slice (some ⟨g, 0, none⟩) (m + 1) gc) := by rw [hgrow4.cell_far ⟨w.heap.size, 1, none⟩ (by show w.heap.size < _; omega) (by intro e; cases e; exact hgX rfl)]; exact HKB.out.x1
            have xxf : w4.frozen? ⟨w.heap.size, 1, none⟩ = false := by rw [hgrow4.frozen_far ⟨w.heap.size, 1, none⟩ (by show w.heap.size < _; omega) (by intro e; cases e; exact hgX rfl)]; exact HKB.out.xf 1
            rw [HmL.out] at hown4
            have HKE := Lib.hid (HKB.out.app (x := ea) (y := eb) (z := ec) (How.out _ rfl) (by have := HmL.out; omega) hown4 hgrow4 hat4)
            rw [← HmL.out] at HKE
            clear hown4 hgrow4 hat4 hlt4 hown hgX hord hc3 hBs
            go_simp
            refine hK.out _ _ ?_ (fun hHeld => ?_)
            · trivial
            clear hK Kc
            refine step_read 8 49 rfl rfl (by kernel_rfl) (by kernel_rfl) (by kernel_rfl) (fun _ _ _ h => h) (by rfl) (v := ?_) (fun w hSw => ?_) (by assumption) ?_; rotate_left; (focus ((try dsimp only at hSw); go_simp; first | done | exact rfl)); simp only [List.set]
            refine wpAnyH_ready (rs := [9]) (by kernel_rfl) (by simp) ?_
            refine AllReadyH.cons rfl (fun Kc hK => ?_) (AllReadyH.nil)
            go_simp
            obtain ⟨wS, hwS⟩ : ∃ qq, qq = w4.setCell ⟨w.heap.size, 1, none⟩ (.slice (some ⟨g4, 0, none⟩) (m + 1 + 1) cap4) := ⟨_, rfl⟩
            rw [← hwS] at HKE ⊢
            clear hwS xx1 xxf
            refine hK.out _ _ ?_ (fun hHeld => ?_)
            · trivial
            clear hK Kc
            refine wpAnyH_done (by kernel_rfl) ?_ _
            have zx0 := HKE.out.x0
            have zx1 := HKE.out.x1
            have zxf0 := HKE.out.xf 0
            have zxf1 := HKE.out.xf 1
            have zr0 := HKE.out.r0
            have zr1 := HKE.out.r1
            have zrf0 := HKE.out.rf 0
            have zrf1 := HKE.out.rf 1
            obtain ⟨s0, s1⟩ := res2 (u := .int .i64 M) (v := .slice (some ⟨g4, 0, none⟩) (m + 1 + 1) cap4) zr0 zr1
            go_wp2_with fail
            exact bodyPost_ret (v := .agg #[.int .i64 M, .slice (some ⟨g4, 0, none⟩) (m + 1 + 1) cap4]) (by simp [results, Try.results69, go_sem, s0, s1]) rfl (HKE.out.done (by have := HmL.out; simp; omega))
          · go_simp
            obtain ⟨wB, hwB⟩ : ∃ qq, qq = wD.alloc (.cells #[.int .i64 ea, .int .i64 eb, .int .i64 ec] 53) := ⟨_, rfl⟩
            have HKB : Hid (BdK w lo C a n cp w.heap.size ow M (.slice (some ⟨g, 0, none⟩) (m + 1) gc) L wB) := HKd.out.grow (by rw [hwB]; exact (Below.refl _ _).alloc (Nat.le_refl _) _)
            have hc3 : ∀ j u, [.int .i64 ea, .int .i64 eb, .int .i64 ec][j]? = some u → wB.cell? ((⟨wD.heap.size, 0, none⟩ : Addr).add j) = some u := by rw [hwB]; exact fun j u hj => cell_three_new _ _ _ _ 53 j u hj
            have hBs : wD.heap.size < wB.heap.size := by rw [hwB]; simp
            obtain ⟨bx, hbx⟩ : ∃ qq, qq = wD.heap.size := ⟨_, rfl⟩
            rw [← hbx] at hc3 hBs
            rw [← hwB]
            try rw [← hbx]
            clear hwB hbx y0 y1 y2
            refine hK.out _ _ ?_ (fun hHeld => ?_)
            · trivial
            clear hK Kc
            refine wpAnyH_ready (rs := [1]) (by kernel_rfl) (by simp) ?_
            refine AllReadyH.cons rfl (fun Kc hK => ?_) (AllReadyH.nil)
            have zx1 := HKB.out.x1
            go_simp
            clear zx1
            refine hK.out _ _ ?_ (fun hHeld => ?_)
            · trivial
            clear hK Kc
            refine wpAnyH_ready (rs := [7]) (by kernel_rfl) (by simp) ?_
            refine AllReadyH.cons rfl (fun Kc hK => ?_) (AllReadyH.nil)
            have hown := HKB.out.row.owns
            rw [← HmL.out] at hown
            have hgX := (HKB.out.row.block g rfl).2.2.1
            have hord := HKB.out.ord
            refine step_append_lies _ rfl _ _ 24 rfl lo 53 iE (.agg #[.int .i64 0, .int .i64 0, .int .i64 0]) 3 24 Try.underlying24 IE.out.1 IE.out.2.1 IE.out.2.2.1 IE.out.2.2.2 rfl (by decide) _ (m + 1) (ints (flat L)) rfl hown ⟨bx, 0, none⟩ 1 1 [.int .i64 ea, .int .i64 eb, .int .i64 ec] rfl rfl hc3 (three_one _ _ _) (by decide) (by unfold maxLen; omega) (by omega) (by omega) _ rfl ?_
            intro g4 cap4 w4 hown4 hgrow4 hat4 hlt4
            have xx1 : w4.cell? ⟨w.heap.size, 1, none⟩ = some (.slice (some ⟨g, 0, none⟩) (m + 1) gc) := by rw [hgrow4.cell_far ⟨w.heap.size, 1, none⟩ (by show w.heap.size < _; omega) (by intro e; cases e; exact hgX rfl)]; exact HKB.out.x1
            have xxf : w4.frozen? ⟨w.heap.size, 1, none⟩ = false := by rw [hgrow4.frozen_far ⟨w.heap.size, 1, none⟩ (by show w.heap.size < _; omega) (by intro e; cases e; exact hgX rfl)]; exact HKB.out.xf 1
            rw [HmL.out] at hown4
            have HKE := Lib.hid (HKB.out.app (x := ea) (y := eb) (z := ec) (How.out _ rfl) (by have := HmL.out; omega) hown4 hgrow4 hat4)
            rw [← HmL.out] at HKE
            clear hown4 hgrow4 hat4 hlt4 hown hgX hord hc3 hBs
            go_simp
            refine hK.out _ _ ?_ (fun hHeld => ?_)
            · trivial
            clear hK Kc
            refine step_read 8 49 rfl rfl (by kernel_rfl) (by kernel_rfl) (by kernel_rfl) (fun _ _ _ h => h) (by rfl) (v := ?_) (fun w hSw => ?_) (by assumption) ?_; rotate_left; (focus ((try dsimp only at hSw); go_simp; first | done | exact rfl)); simp only [List.set]
            refine wpAnyH_ready (rs := [9]) (by kernel_rfl) (by simp) ?_
            refine AllReadyH.cons rfl (fun Kc hK => ?_) (AllReadyH.nil)
            go_simp
            obtain ⟨wS, hwS⟩ : ∃ qq, qq = w4.setCell ⟨w.heap.size, 1, none⟩ (.slice (some ⟨g4, 0, none⟩) (m + 1 + 1) cap4) := ⟨_, rfl⟩
            rw [← hwS] at HKE ⊢
            clear hwS xx1 xxf
            refine hK.out _ _ ?_ (fun hHeld => ?_)
            · trivial
            clear hK Kc
            refine wpAnyH_done (by kernel_rfl) ?_ _
            have zx0 := HKE.out.x0
            have zx1 := HKE.out.x1
            have zxf0 := HKE.out.xf 0
            have zxf1 := HKE.out.xf 1
            have zr0 := HKE.out.r0
            have zr1 := HKE.out.r1
            have zrf0 := HKE.out.rf 0
            have zrf1 := HKE.out.rf 1
            obtain ⟨s0, s1⟩ := res2 (u := .int .i64 M) (v := .slice (some ⟨g4, 0, none⟩) (m + 1 + 1) cap4) zr0 zr1
            go_wp2_with fail
            exact bodyPost_ret (v := .agg #[.int .i64 M, .slice (some ⟨g4, 0, none⟩) (m + 1 + 1) cap4]) (by simp [results, Try.results69, go_sem, s0, s1]) rfl (HKE.out.done (by have := HmL.out; simp; omega))
  · rcases m with _ | m
    · have zx0 := HK1.out.x0
      have zx1 := HK1.out.x1
      have zxf0 := HK1.out.xf 0
      have zxf1 := HK1.out.xf 1
      have zr0 := HK1.out.r0
      have zr1 := HK1.out.r1
      have zrf0 := HK1.out.rf 0
      have zrf1 := HK1.out.rf 1
      obtain ⟨s0, s1⟩ := res2 (u := .int .i64 M) (v := .slice ga 0 gc) zr0 zr1
      go_wp2_with fail
      exact bodyPost_ret (v := .agg #[.int .i64 M, .slice ga 0 gc]) (by simp [results, Try.results69, go_sem, s0, s1]) rfl (HK1.out.done (by rw [← Hm.out]; omega))
    · have yx1 := HK1.out.x1
      obtain ⟨ci2, hc2⟩ := HK1.out.cur
      have g1 : (0 : Int) < (m : Int) + 1 := by omega
      go_wp2_with fail
      go_at_call 65
      refine (below_any C a n cp ci2 ((m : Int) + 1) _ hc2 (by omega)).mono ?_
      rintro e w3 ⟨⟨v, rfl, v0, v1, v2⟩, k3, he3⟩
      clear hc2 yx1
      have HK3 : Hid (BdK w lo C a n cp w.heap.size ow M (.slice ga (m + 1) gc) L w3) := HK1.out.else_ he3 k3
      have hv := v1 (by omega)
      obtain ⟨j, rfl⟩ : ∃ j : Nat, v = (j : Int) := ⟨v.toNat, by omega⟩
      clear he3 k3 v1 v2 HK1
      have hrow := HK3.out.row
      rcases hrow with ⟨e1, _⟩ | ⟨g, c, e1, hro, hg1, hg2, hg3, hg4⟩
      · cases e1
      have hmL := Hm.out
      rw [← hmL] at e1
      cases e1
      obtain ⟨r, hr⟩ : ∃ r, L[j]? = some r := ⟨L[j]'(by omega), List.getElem?_eq_getElem _⟩
      obtain ⟨ea, eb, ec⟩ := r
      obtain ⟨r0, r1, r2⟩ := flat_at L j _ hr
      have hown := hro.own
      rw [← hmL] at hown
      have y0 : w3.cell? ⟨g, j * 3, none⟩ = some (.int .i64 ea) := by rw [hown.cellAt _ (by omega), ints_at' r0]
      have y1 : w3.cell? ⟨g, j * 3 + 1, none⟩ = some (.int .i64 eb) := by rw [hown.cellAt _ (by omega), ints_at' r1]
      have y2 : w3.cell? ⟨g, j * 3 + 2, none⟩ = some (.int .i64 ec) := by rw [hown.cellAt _ (by omega), ints_at' r2]
      have yz0 := HK3.out.x0
      have yz1 := HK3.out.x1
      have yxf0 := HK3.out.xf 0
      have yxf1 := HK3.out.xf 1
      have yr0 := HK3.out.r0
      have yr1 := HK3.out.r1
      have yrf0 := HK3.out.rf 0
      have yrf1 := HK3.out.rf 1
      have fz := hown.frozenAt (j * 3 + 1)
      have q1 : (j : Int) < (m : Int) + 1 := by omega
      have hsL := flat_set L j 1 ea (by omega) (by omega)
      obtain ⟨L', hL1, hL2⟩ := hsL
      have HK4 := Lib.hid (HK3.out.cell (z := ea) (L' := L') (How.out _ rfl) hmL (show j * 3 + 1 < (m + 1) * 3 by omega) hL1 hL2)
      clear r0 r1 r2 hr hown hro hL1
      go_wp2_with fail
      go_region
      have HK5 := Lib.hid (HK4.out.grow (w2 := (w3.setCell ⟨g, j * 3 + 1, none⟩ (.int .i64 ea)).drew) ((Below.refl _ _).drew))
      obtain ⟨w5, hw5⟩ : ∃ qq, qq = (w3.setCell ⟨g, j * 3 + 1, none⟩ (.int .i64 ea)).drew := ⟨_, rfl⟩
      rw [← hw5] at HK5 ⊢
      rw [hmL] at HK5
      clear hw5 HK4 HK3 yz0 yz1 yxf0 yxf1 yr0 yr1 yrf0 yrf1 y0 y1 y2 fz
      have zx0 := HK5.out.x0
      have zx1 := HK5.out.x1
      have zxf0 := HK5.out.xf 0
      have zxf1 := HK5.out.xf 1
      have zr0 := HK5.out.r0
      have zr1 := HK5.out.r1
      have zrf0 := HK5.out.rf 0
      have zrf1 := HK5.out.rf 1
      obtain ⟨s0, s1⟩ := res2 (u := .int .i64 M) (v := .slice (some ⟨g, 0, none⟩) L.length gc) zr0 zr1
      go_wp2_with fail
      exact bodyPost_ret (v := .agg #[.int .i64 M, .slice (some ⟨g, 0, none⟩) L.length gc]) (by simp [results, Try.results69, go_sem, s0, s1]) rfl (HK5.out.done (by rw [hL2, ← hmL]; omega))

end Go.Proofs.Ytfkpefbahpjinaa
