/- FnTriangle: the walk. -/
import Derived.Test.YtfkpefbahpjinaaDv
import Derived.Test.YtfkpefbahpjinaaSb
import Derived.Test.YtfkpefbahpjinaaAt
import Derived.Test.YtfkpefbahpjinaaW7
import Derived.Test.YtfkpefbahpjinaaMx
namespace Go.Proofs.Ytfkpefbahpjinaa
open Go.RowKit


theorem dsT_bd {N : Int} {L : List Ed} {s x : Int} (hG : gok N L = true) (hs : 0 ≤ s ∧ s < N) : 0 ≤ dsT N L s x ∧ dsT N L s x ≤ 1000000 := by
  have hN := gok_parts hG
  rcases dsT_tr hG (s := s) x with e | ⟨t, h1, h2, h3⟩
  · rw [e]; unfold Far; omega
  · obtain ⟨t', g1, g2, g3, g4⟩ := h1.simple hG
    obtain ⟨b1, b2, b3, b4, b5⟩ := g1.bounds hG hs
    obtain ⟨c1, c2, c3, c4, c5⟩ := h1.bounds hG hs
    have hl : t'.2.length ≤ N.toNat := nodup_bound N.toNat t'.2 g4 (fun x hx => by have := b5 x hx; omega)
    have hd := dsT_le hG hs g1
    rw [g2, h2] at hd
    omega
theorem cof_ge {N : Int} {L : List Ed} {i j : Int} (hG : gok N L = true) (hi : 0 ≤ i ∧ i < N) (hj : 0 ≤ j ∧ j < N) : dsT N L i j ≤ cofM N L i j := by
  have hN := gok_parts hG
  have h1 : ndB N i = true := by unfold ndB; rw [inB_iff]; omega
  have h2 : ndB N j = true := by unfold ndB; rw [inB_iff]; omega
  unfold cofM scost
  rw [if_pos hG, if_pos ⟨h1, h2⟩]
  by_cases he : i = j
  · subst he
    rw [if_pos rfl, dsT_self hG hi]
    exact Int.le_refl _
  · rw [if_neg he]
    by_cases hc : cst L i j = Far
    · rw [hc]; have := (dsT_bd (x := j) hG hi).2; unfold Far; omega
    · exact dsT_edge hG hi hc
/-- A table of distances lies in memory: its rows' rows in block G. -/
def TabD (w : World) (G K : Nat) (L : List Ed) : Prop := ∀ i, i < K → ∃ gi ci, w.cell? ⟨G, i, none⟩ = some (.slice (some ⟨gi, 0, none⟩) K ci) ∧ ∀ j, j < K → w.cell? ⟨gi, j, none⟩ = some (.int .i64 (dsT (K : Int) L (i : Int) (j : Int)))
theorem cell_kept {w w' : World} {p : Addr} {v : Value} (h : Below w.heap.size w w') (hc : w.cell? p = some v) : w'.cell? p = some v := by rw [h.cell (lt_of_cell hc).1]; exact hc
theorem TabD.below {w w' : World} {G K : Nat} {L : List Ed} (h : TabD w G K L) (hb : Below w.heap.size w w') : TabD w' G K L := fun i hi => by
  obtain ⟨gi, ci, h1, h2⟩ := h i hi
  exact ⟨gi, ci, cell_kept hb h1, fun j hj => cell_kept hb (h2 j hj)⟩
theorem tab_of {w0 w : World} {rv : Value} {K : Nat} {L : List Ed} (hG : gok (K : Int) L = true) (hK : 0 < K) (h : SSx w0 w rv (adN (K : Int) L) (adZ (K : Int) L)) : ∃ G cap, rv = .slice (some ⟨G, 0, none⟩) K cap ∧ TabD w G K L := by
  rw [adN_yes hG] at h
  obtain ⟨G, cap, h1, _, h3⟩ := h.get hK
  refine ⟨G, cap, h1, fun i hi => ?_⟩
  have hl := adZ_len hG hi
  obtain ⟨gi, ci, h4, _, h5⟩ := h3 i hi (by omega)
  rw [hl] at h4
  exact ⟨gi, ci, h4, fun j hj => h5 j _ (adZ_at hG hi hj)⟩
theorem SSx.blw {w0 w : World} {rv : Value} {k : Nat} {ZZ : Nat → List Int} (h : SSx w0 w rv k ZZ) : Below w0.heap.size w0 w := by
  obtain ⟨vs, bs, h⟩ := h
  exact h.below

set_option maxRecDepth 100000 in
set_option maxHeartbeats 4000000 in
theorem triangle_any (a : Option Addr) (n cp : Nat) (w : World) (hb : n ≤ 1099511627776 → BytesAt w a n) (hold : ∀ p : Addr, a = some p → p.block < w.heap.size) : Calls Try.prog 3 #[.slice a n cp] w fun e w' => e = .returned (.bool true) ∧ Below w.heap.size w w' := by
  have HO := Lib.hid hold
  have HB := Lib.hid hb
  clear hb hold
  go_enter Try.func3, Try.ntmps3
  go_wp2_with fail
  go_at_call 10
  refine (big_any a n cp _).mono ?_
  rintro e w' ⟨rfl, rfl⟩
  by_cases hbig : (n : Int) > 1048576
  · rw [decide_eq_true hbig]
    go_wp2_with fail
    go_ret
    exact ⟨rfl, Below.refl _ _⟩
  rw [decide_eq_false hbig]
  go_wp2_with fail
  go_at_call 11
  refine (dad_any a n cp _ (HB.out (by omega)) HO.out).mono ?_
  rintro e w1 ⟨N, gv, L, rfl, hr, hl, hb1⟩
  obtain ⟨ga, gc, hgv⟩ := hr.slice
  subst hgv
  have HR1 := Lib.hid hr
  clear hr HB HO
  go_wp2_with fail
  obtain ⟨w2, hw2⟩ : ∃ q, q = w1.alloc (.cells #[.int .i64 N, .slice ga L.length gc] 26) := ⟨_, rfl⟩
  obtain ⟨X, hX⟩ : ∃ q, q = w1.heap.size := ⟨_, rfl⟩
  have x0 : w2.cell? ⟨X, 0, none⟩ = some (.int .i64 N) := by rw [hw2, hX]; simp
  have x1 : w2.cell? ⟨X, 1, none⟩ = some (.slice ga L.length gc) := by rw [hw2, hX]; simp
  have hb2 : Below w1.heap.size w1 w2 := by rw [hw2]; exact (Below.refl _ _).alloc (Nat.le_refl _) _
  have HR2 : Hid (Row 3 w2 w.heap.size w1.heap.size (.slice ga L.length gc) L.length (flat L)) := HR1.out.below hb2 (Nat.le_refl _)
  have HB2 : Hid (Below w.heap.size w w2) := hb1.trans (hb2.mono hb1.size)
  have hs12 := hb2.size
  rw [← hw2, ← hX]
  clear hw2 hX hb2 hb1 HR1
  go_at_call 12
  refine (sgok_any N _ _ L.length _ L w2 rfl HR2.out hs12).mono ?_
  rintro e w3 ⟨rfl, hb3⟩
  have y0 := cell_kept hb3 x0
  have y1 := cell_kept hb3 x1
  have HR3 : Hid (Row 3 w3 w.heap.size w1.heap.size (.slice ga L.length gc) L.length (flat L)) := HR2.out.below hb3 hs12
  have HB3 : Hid (Below w.heap.size w w3) := HB2.out.trans (hb3.mono HB2.out.size)
  have hs13 : w1.heap.size ≤ w3.heap.size := Nat.le_trans hs12 hb3.size
  clear HR2 HB2 hb3 hs12 x0 x1
  by_cases hG : gok N L = true
  case neg =>
    have hG' : gok N L = false := by simpa using hG
    rw [hG']
    go_wp2_with fail
    go_ret
    exact ⟨rfl, HB3.out⟩
  rw [hG]
  have hN := gok_parts hG
  obtain ⟨K, rfl⟩ : ∃ K : Nat, N = (K : Int) := ⟨N.toNat, by omega⟩
  have hK1 : 0 < K ∧ K ≤ 10 := by omega
  have HG := Lib.hid hG
  clear hN hG
  go_wp2_with fail
  go_at_call 13
  refine (iad_any (K : Int) _ _ L.length _ L w3 rfl HR3.out hs13).mono ?_
  rintro e w4 ⟨rv, rfl, hS⟩
  have hb4 := hS.blw
  have z0 := cell_kept hb4 y0
  have z1 := cell_kept hb4 y1
  obtain ⟨G1, cp1, rfl, hT1⟩ := tab_of HG.out hK1.1 hS
  have HR4 : Hid (Row 3 w4 w.heap.size w1.heap.size (.slice ga L.length gc) L.length (flat L)) := HR3.out.below hb4 hs13
  have HB4 : Hid (Below w.heap.size w w4) := HB3.out.trans (hb4.mono HB3.out.size)
  have hs14 : w1.heap.size ≤ w4.heap.size := Nat.le_trans hs13 hb4.size
  have HT4 := Lib.hid hT1
  clear hS hb4 hT1 HR3 HB3 hs13 y0 y1
  go_wp2_with fail
  go_at_call 14
  refine (sad_any (K : Int) _ _ L.length _ L w4 rfl HR4.out hs14).mono ?_
  rintro e w5 ⟨rv, rfl, hS⟩
  have hb5 := hS.blw
  have u0 := cell_kept hb5 z0
  have u1 := cell_kept hb5 z1
  obtain ⟨G2, cp2, rfl, hT2⟩ := tab_of HG.out hK1.1 hS
  have HR5 : Hid (Row 3 w5 w.heap.size w1.heap.size (.slice ga L.length gc) L.length (flat L)) := HR4.out.below hb5 hs14
  have HB5 : Hid (Below w.heap.size w w5) := HB4.out.trans (hb5.mono HB4.out.size)
  have hs15 : w1.heap.size ≤ w5.heap.size := Nat.le_trans hs14 hb5.size
  have HT1 : Hid (TabD w5 G1 K L) := HT4.out.below hb5
  have HT2 := Lib.hid hT2
  have HX : Hid (w5.cell? ⟨X, 0, none⟩ = some (.int .i64 (K : Int)) ∧ w5.cell? ⟨X, 1, none⟩ = some (.slice ga L.length gc)) := ⟨u0, u1⟩
  clear hS hb5 hT2 HR4 HB4 hs14 z0 z1 HT4
  go_wp2_with fail
  go_loopw [6] (fun i wr => ∃ k : Nat, k ≤ K ∧ i = .int .i64 (k : Int) ∧ Hid (Below w5.heap.size w5 wr)) (fun i _ => K - (intOf i).toNat)
  case atStart => exact ⟨0, Nat.zero_le _, rfl, Lib.hid (Below.refl _ _)⟩
  case round =>
    clear u0 u1
    obtain ⟨k, hk, rfl, hR⟩ := hrel
    have x0 := cell_kept hR.out HX.out.1
    by_cases hlt : k < K
    · have q0 : (k : Int) < (K : Int) := by omega
      have q1 : (0 : Int) ≤ (k : Int) := by omega
      obtain ⟨gi, ci, t1, t2⟩ := HT1.out k hlt
      obtain ⟨gj, cj, t3, t4⟩ := HT2.out k hlt
      have HI : Hid (w5.cell? ⟨G1, k, none⟩ = some (.slice (some ⟨gi, 0, none⟩) K ci) ∧ ∀ j, j < K → w5.cell? ⟨gi, j, none⟩ = some (.int .i64 (dsT (K : Int) L (k : Int) (j : Int)))) := ⟨t1, t2⟩
      have r1 := cell_kept hR.out t1
      have r3 := cell_kept hR.out t3
      have r0 := cell_kept hR.out (t2 k hlt)
      rw [dsT_self HG.out ⟨q1, q0⟩] at r0
      have HZ1 : Hid (∀ q z, (adZ (K : Int) L k)[q]? = some z → w5.cell? ⟨gi, q, none⟩ = some (.int .i64 z)) := Lib.hid fun q z hz => by
        have hq : q < K := by have := (List.getElem?_eq_some_iff.1 hz).1; rw [adZ_len HG.out hlt] at this; exact this
        rw [adZ_at HG.out hlt hq] at hz
        cases hz
        exact t2 q hq
      have HZ2 : Hid (∀ q z, (adZ (K : Int) L k)[q]? = some z → w5.cell? ⟨gj, q, none⟩ = some (.int .i64 z)) := Lib.hid fun q z hz => by
        have hq : q < K := by have := (List.getElem?_eq_some_iff.1 hz).1; rw [adZ_len HG.out hlt] at this; exact this
        rw [adZ_at HG.out hlt hq] at hz
        cases hz
        exact t4 q hq
      clear t1 t2 t3 t4
      go_wp2_with fail
      refine wp_region_held_drew (S := (fun w' => w'.cell? ⟨G1, k, none⟩ = some (.slice (some ⟨gi, 0, none⟩) K ci) ∧ w'.cell? ⟨G2, k, none⟩ = some (.slice (some ⟨gj, 0, none⟩) K cj) ∧ w'.cell? ⟨gi, k, none⟩ = some (.int .i64 0) ∧ Hid (Below w5.heap.size w5 w'))) (by kernel_rfl) ?_ (fun hHeld => ?_)
      · exact ⟨r1, r3, r0, Lib.hid hR.out.drew⟩
      refine step_read 0 31 rfl rfl (by kernel_rfl) (by kernel_rfl) (by kernel_rfl) (fun _ _ _ h => h) (by rfl) (v := ?_) (fun w hSw => ?_) (by assumption) ?_; rotate_left; (focus ((try dsimp only at hSw); go_simp; first | done | exact rfl)); simp only [List.set]
      refine step_read 1 32 rfl rfl (by kernel_rfl) (by kernel_rfl) (by kernel_rfl) (fun _ _ _ h => h) (by rfl) (v := ?_) (fun w hSw => ?_) (by assumption) ?_; rotate_left; (focus ((try dsimp only at hSw); go_simp; first | done | exact rfl)); simp only [List.set]
      refine step_read 2 33 rfl rfl (by kernel_rfl) (by kernel_rfl) (by kernel_rfl) (fun _ _ _ h => h) (by rfl) (v := ?_) (fun w hSw => ?_) (by assumption) ?_; rotate_left; (focus ((try dsimp only at hSw); go_simp; first | done | exact rfl)); simp only [List.set]
      refine step_read 3 34 rfl rfl (by kernel_rfl) (by kernel_rfl) (by kernel_rfl) (fun _ _ _ h => h) (by rfl) (v := ?_) (fun w hSw => ?_) (by assumption) ?_; rotate_left; (focus ((try dsimp only at hSw); go_simp; first | done | exact rfl)); simp only [List.set]
      refine step_read 4 35 rfl rfl (by kernel_rfl) (by kernel_rfl) (by kernel_rfl) (fun _ _ _ h => h) (by rfl) (v := ?_) (fun w hSw => ?_) (by assumption) ?_; rotate_left; (focus ((try dsimp only at hSw); go_simp; first | done | exact rfl)); simp only [List.set]
      refine step_read 5 36 rfl rfl (by kernel_rfl) (by kernel_rfl) (by kernel_rfl) (fun _ _ _ h => h) (by rfl) (v := ?_) (fun w hSw => ?_) (by assumption) ?_; rotate_left; (focus ((try dsimp only at hSw); go_simp; first | done | exact rfl)); simp only [List.set]
      refine step_read 6 37 rfl rfl (by kernel_rfl) (by kernel_rfl) (by kernel_rfl) (fun _ _ _ h => h) (by rfl) (v := ?_) (fun w hSw => ?_) (by assumption) ?_; rotate_left; (focus ((try dsimp only at hSw); go_simp; first | done | exact rfl)); simp only [List.set]
      refine step_read 7 38 rfl rfl (by kernel_rfl) (by kernel_rfl) (by kernel_rfl) (fun _ _ _ h => h) (by rfl) (v := ?_) (fun w hSw => ?_) (by assumption) ?_; rotate_left; (focus ((try dsimp only at hSw); go_simp; first | done | exact rfl)); simp only [List.set]
      refine wpAnyH_ready (rs := [8]) (by kernel_rfl) (by simp) ?_
      refine AllReadyH.cons rfl (fun Kc hK => ?_) (AllReadyH.nil)
      go_simp
      go_at_call 15
      have hHD := hHeld.2.2.2
      refine (same_any gi gj K ci cj (adZ (K : Int) L k) _ (adZ_len HG.out hlt) (by omega) (fun q z hz => cell_kept hHD.out (HZ1.out q z hz)) (fun q z hz => cell_kept hHD.out (HZ2.out q z hz))).mono ?_
      rintro e wq ⟨rfl, hbq⟩
      have HQ : Hid (Below w5.heap.size w5 wq) := hHD.out.trans (hbq.mono hHD.out.size)
      have c1 := cell_kept hbq hHeld.1
      have c2 := cell_kept hbq hHeld.2.1
      have c3 := cell_kept hbq hHeld.2.2.1
      clear hbq hHD hHeld
      refine hK.out _ _ ?_ (fun hHeld => ?_)
      · exact ⟨c1, c2, c3, HQ⟩
      clear hK Kc
      refine step_read 9 40 rfl rfl (by kernel_rfl) (by kernel_rfl) (by kernel_rfl) (fun _ _ _ h => h) (by rfl) (v := ?_) (fun w hSw => ?_) (by assumption) ?_; rotate_left; (focus ((try dsimp only at hSw); go_simp; first | done | exact rfl)); simp only [List.set]
      refine step_read 10 41 rfl rfl (by kernel_rfl) (by kernel_rfl) (by kernel_rfl) (fun _ _ _ h => h) (by rfl) (v := ?_) (fun w hSw => ?_) (by assumption) ?_; rotate_left; (focus ((try dsimp only at hSw); go_simp; first | done | exact rfl)); simp only [List.set]
      refine step_read 11 42 rfl rfl (by kernel_rfl) (by kernel_rfl) (by kernel_rfl) (fun _ _ _ h => h) (by rfl) (v := ?_) (fun w hSw => ?_) (by assumption) ?_; rotate_left; (focus ((try dsimp only at hSw); go_simp; first | done | exact rfl)); simp only [List.set]
      refine step_read 12 43 rfl rfl (by kernel_rfl) (by kernel_rfl) (by kernel_rfl) (fun _ _ _ h => h) (by rfl) (v := ?_) (fun w hSw => ?_) (by assumption) ?_; rotate_left; (focus ((try dsimp only at hSw); go_simp; first | done | exact rfl)); simp only [List.set]
      refine step_read 13 44 rfl rfl (by kernel_rfl) (by kernel_rfl) (by kernel_rfl) (fun _ _ _ h => h) (by rfl) (v := ?_) (fun w hSw => ?_) (by assumption) ?_; rotate_left; (focus ((try dsimp only at hSw); go_simp; first | done | exact rfl)); simp only [List.set]
      refine step_read 14 45 rfl rfl (by kernel_rfl) (by kernel_rfl) (by kernel_rfl) (fun _ _ _ h => h) (by rfl) (v := ?_) (fun w hSw => ?_) (by assumption) ?_; rotate_left; (focus ((try dsimp only at hSw); go_simp; first | done | exact rfl)); simp only [List.set]
      refine step_read 15 46 rfl rfl (by kernel_rfl) (by kernel_rfl) (by kernel_rfl) (fun _ _ _ h => h) (by rfl) (v := ?_) (fun w hSw => ?_) (by assumption) ?_; rotate_left; (focus ((try dsimp only at hSw); go_simp; first | done | exact rfl)); simp only [List.set]
      refine step_read 16 47 rfl rfl (by kernel_rfl) (by kernel_rfl) (by kernel_rfl) (fun _ _ _ h => h) (by rfl) (v := ?_) (fun w hSw => ?_) (by assumption) ?_; rotate_left; (focus ((try dsimp only at hSw); go_simp; first | done | exact rfl)); simp only [List.set]
      refine step_read 17 48 rfl rfl (by kernel_rfl) (by kernel_rfl) (by kernel_rfl) (fun _ _ _ h => h) (by rfl) (v := ?_) (fun w hSw => ?_) (by assumption) ?_; rotate_left; (focus ((try dsimp only at hSw); go_simp; first | done | exact rfl)); simp only [List.set]
      refine step_read 18 49 rfl rfl (by kernel_rfl) (by kernel_rfl) (by kernel_rfl) (fun _ _ _ h => h) (by rfl) (v := ?_) (fun w hSw => ?_) (by assumption) ?_; rotate_left; (focus ((try dsimp only at hSw); go_simp; first | done | exact rfl)); simp only [List.set]
      refine step_read 19 50 rfl rfl (by kernel_rfl) (by kernel_rfl) (by kernel_rfl) (fun _ _ _ h => h) (by rfl) (v := ?_) (fun w hSw => ?_) (by assumption) ?_; rotate_left; (focus ((try dsimp only at hSw); go_simp; first | done | exact rfl)); simp only [List.set]
      refine wpAnyH_done (by kernel_rfl) ?_ _
      clear hHeld c1 c2 c3 x0 r0 r1 r3 hR
      go_wp2_with fail
      go_loopw [7] (fun i wr => ∃ l : Nat, l ≤ K ∧ i = .int .i64 (l : Int) ∧ Hid (Below w5.heap.size w5 wr)) (fun i _ => K - (intOf i).toNat)
      case atStart => exact ⟨0, Nat.zero_le _, rfl, HQ⟩
      case round =>
        clear HQ HZ1 HZ2
        obtain ⟨l, hl2, rfl, hR⟩ := hrel
        have x0 := cell_kept hR.out HX.out.1
        by_cases hlt2 : l < K
        · have p0 : (l : Int) < (K : Int) := by omega
          have p1 : (0 : Int) ≤ (l : Int) := by omega
          have x1 := cell_kept hR.out HX.out.2
          have r1 := cell_kept hR.out HI.out.1
          have r2 := cell_kept hR.out (HI.out.2 l hlt2)
          obtain ⟨dd, hdd⟩ : ∃ d, d = dsT (K : Int) L (k : Int) (l : Int) := ⟨_, rfl⟩
          rw [← hdd] at r2
          have HDD := Lib.hid hdd
          clear hdd
          go_wp2_with fail
          refine wp_region_held_drew (S := (fun w' => w'.cell? ⟨X, 0, none⟩ = some (.int .i64 (K : Int)) ∧ w'.cell? ⟨X, 1, none⟩ = some (.slice ga L.length gc) ∧ w'.cell? ⟨G1, k, none⟩ = some (.slice (some ⟨gi, 0, none⟩) K ci) ∧ w'.cell? ⟨gi, l, none⟩ = some (.int .i64 dd) ∧ Hid (Below w5.heap.size w5 w'))) (by kernel_rfl) ?_ (fun hHeld => ?_)
          · exact ⟨x0, x1, r1, r2, Lib.hid hR.out.drew⟩
          refine step_read 0 57 rfl rfl (by kernel_rfl) (by kernel_rfl) (by kernel_rfl) (fun _ _ _ h => h) (by rfl) (v := ?_) (fun w hSw => ?_) (by assumption) ?_; rotate_left; (focus ((try dsimp only at hSw); go_simp; first | done | exact rfl)); simp only [List.set]
          refine step_read 1 58 rfl rfl (by kernel_rfl) (by kernel_rfl) (by kernel_rfl) (fun _ _ _ h => h) (by rfl) (v := ?_) (fun w hSw => ?_) (by assumption) ?_; rotate_left; (focus ((try dsimp only at hSw); go_simp; first | done | exact rfl)); simp only [List.set]
          refine step_read 2 59 rfl rfl (by kernel_rfl) (by kernel_rfl) (by kernel_rfl) (fun _ _ _ h => h) (by rfl) (v := ?_) (fun w hSw => ?_) (by assumption) ?_; rotate_left; (focus ((try dsimp only at hSw); go_simp; first | done | exact rfl)); simp only [List.set]
          refine step_read 4 61 rfl rfl (by kernel_rfl) (by kernel_rfl) (by kernel_rfl) (fun _ _ _ h => h) (by rfl) (v := ?_) (fun w hSw => ?_) (by assumption) ?_; rotate_left; (focus ((try dsimp only at hSw); go_simp; first | done | exact rfl)); simp only [List.set]
          refine step_read 5 62 rfl rfl (by kernel_rfl) (by kernel_rfl) (by kernel_rfl) (fun _ _ _ h => h) (by rfl) (v := ?_) (fun w hSw => ?_) (by assumption) ?_; rotate_left; (focus ((try dsimp only at hSw); go_simp; first | done | exact rfl)); simp only [List.set]
          refine step_read 6 63 rfl rfl (by kernel_rfl) (by kernel_rfl) (by kernel_rfl) (fun _ _ _ h => h) (by rfl) (v := ?_) (fun w hSw => ?_) (by assumption) ?_; rotate_left; (focus ((try dsimp only at hSw); go_simp; first | done | exact rfl)); simp only [List.set]
          refine step_read 7 64 rfl rfl (by kernel_rfl) (by kernel_rfl) (by kernel_rfl) (fun _ _ _ h => h) (by rfl) (v := ?_) (fun w hSw => ?_) (by assumption) ?_; rotate_left; (focus ((try dsimp only at hSw); go_simp; first | done | exact rfl)); simp only [List.set]
          refine step_read 8 65 rfl rfl (by kernel_rfl) (by kernel_rfl) (by kernel_rfl) (fun _ _ _ h => h) (by rfl) (v := ?_) (fun w hSw => ?_) (by assumption) ?_; rotate_left; (focus ((try dsimp only at hSw); go_simp; first | done | exact rfl)); simp only [List.set]
          refine step_read 9 66 rfl rfl (by kernel_rfl) (by kernel_rfl) (by kernel_rfl) (fun _ _ _ h => h) (by rfl) (v := ?_) (fun w hSw => ?_) (by assumption) ?_; rotate_left; (focus ((try dsimp only at hSw); go_simp; first | done | exact rfl)); simp only [List.set]
          refine step_read 10 67 rfl rfl (by kernel_rfl) (by kernel_rfl) (by kernel_rfl) (fun _ _ _ h => h) (by rfl) (v := ?_) (fun w hSw => ?_) (by assumption) ?_; rotate_left; (focus ((try dsimp only at hSw); go_simp; first | done | exact rfl)); simp only [List.set]
          refine wpAnyH_ready (rs := [3]) (by kernel_rfl) (by simp) ?_
          refine AllReadyH.cons rfl (fun Kc hK => ?_) (AllReadyH.nil)
          go_simp
          go_at_call 16
          have hHD := hHeld.2.2.2.2
          refine (icof_any (K : Int) _ _ L.length _ L (k : Int) (l : Int) _ rfl (HR5.out.below hHD.out hs15) (Nat.le_trans hs15 hHD.out.size)).mono ?_
          rintro e wv ⟨rfl, hbq⟩
          obtain ⟨cc, hcc⟩ : ∃ c, c = cofM (K : Int) L (k : Int) (l : Int) := ⟨_, rfl⟩
          have dlt : decide (cc < dd) = false := decide_eq_false (by have := cof_ge HG.out (⟨q1, q0⟩ : 0 ≤ (k : Int) ∧ (k : Int) < (K : Int)) (⟨p1, p0⟩ : 0 ≤ (l : Int) ∧ (l : Int) < (K : Int)); rw [hcc, HDD.out]; omega)
          rw [← hcc]
          clear hcc
          have HV : Hid (Below w5.heap.size w5 wv) := hHD.out.trans (hbq.mono hHD.out.size)
          have c1 := cell_kept hbq hHeld.1
          have c2 := cell_kept hbq hHeld.2.1
          have c3 := cell_kept hbq hHeld.2.2.1
          have c4 := cell_kept hbq hHeld.2.2.2.1
          clear hbq hHD hHeld
          refine hK.out _ _ ?_ (fun hHeld => ?_)
          · exact ⟨c1, c2, c3, c4, HV⟩
          clear hK Kc
          refine step_read 11 68 rfl rfl (by kernel_rfl) (by kernel_rfl) (by kernel_rfl) (fun _ _ _ h => h) (by rfl) (v := ?_) (fun w hSw => ?_) (by assumption) ?_; rotate_left; (focus ((try dsimp only at hSw); go_simp; first | done | exact rfl)); simp only [List.set]
          refine wpAnyH_done (by kernel_rfl) ?_ _
          clear hHeld c1 c2 c3 c4 x0 x1 r1 r2 hR dlt HDD
          go_wp2_with fail
          go_loopw [8] (fun i wr => ∃ m : Nat, m ≤ K ∧ i = .int .i64 (m : Int) ∧ Hid (Below w5.heap.size w5 wr)) (fun i _ => K - (intOf i).toNat)
          case atStart => exact ⟨0, Nat.zero_le _, rfl, HV⟩
          case round =>
            clear HV
            obtain ⟨m, hm, rfl, hR⟩ := hrel
            have x0 := cell_kept hR.out HX.out.1
            by_cases hlt3 : m < K
            · have s0 : (m : Int) < (K : Int) := by omega
              have s1 : (0 : Int) ≤ (m : Int) := by omega
              obtain ⟨gm, cm, t1, t2⟩ := HT1.out m hlt3
              have r1 := cell_kept hR.out HI.out.1
              have r2 := cell_kept hR.out (HI.out.2 m hlt3)
              have r3 := cell_kept hR.out (HI.out.2 l hlt2)
              have r4 := cell_kept hR.out t1
              have r5 := cell_kept hR.out (t2 l hlt2)
              have HTR : Hid (dsT (K : Int) L (k : Int) (m : Int) < 1000000 → dsT (K : Int) L (m : Int) (l : Int) < 1000000 → dsT (K : Int) L (k : Int) (l : Int) ≤ dsT (K : Int) L (k : Int) (m : Int) + dsT (K : Int) L (m : Int) (l : Int)) := Lib.hid fun h1 h2 => dsT_tri HG.out ⟨q1, q0⟩ (by unfold Far; exact h1) (by unfold Far; exact h2)
              have b1 := dsT_bd (x := (m : Int)) HG.out (⟨q1, q0⟩ : 0 ≤ (k : Int) ∧ (k : Int) < (K : Int))
              have b2 := dsT_bd (x := (l : Int)) HG.out (⟨s1, s0⟩ : 0 ≤ (m : Int) ∧ (m : Int) < (K : Int))
              generalize dsT (K : Int) L (k : Int) (m : Int) = a1 at r2 HTR b1
              generalize dsT (K : Int) L (m : Int) (l : Int) = a2 at r5 HTR b2
              generalize dsT (K : Int) L (k : Int) (l : Int) = a3 at r3 HTR
              clear t1 t2
              go_wp2_with fail
              by_cases e1 : a1 < 1000000
              · by_cases e2 : a2 < 1000000
                · have D1 : decide (a1 < 1000000) = true := decide_eq_true e1
                  have D2 : decide (a2 < 1000000) = true := decide_eq_true e2
                  have hw : IntKind.i64.wrap (a1 + a2) = a1 + a2 := IntWalk.i64_in _ (by omega)
                  have D3 : decide (a1 + a2 < a3) = false := decide_eq_false (by have := HTR.out e1 e2; omega)
                  go_quiet (fail)
                  go_wp2_with fail
                  go_roundw
                  case rel => exact ⟨m + 1, by omega, by go_num, Lib.hid (hR.out.trans ((below_drewN wr _).mono hR.out.size))⟩
                  case measure => simp [intOf]; omega
                · have D1 : decide (a1 < 1000000) = true := decide_eq_true e1
                  have D2 : decide (a2 < 1000000) = false := decide_eq_false e2
                  go_quiet (fail)
                  go_wp2_with fail
                  go_roundw
                  case rel => exact ⟨m + 1, by omega, by go_num, Lib.hid (hR.out.trans ((below_drewN wr _).mono hR.out.size))⟩
                  case measure => simp [intOf]; omega
              · have D1 : decide (a1 < 1000000) = false := decide_eq_false e1
                go_quiet (fail)
                go_wp2_with fail
                go_roundw
                case rel => exact ⟨m + 1, by omega, by go_num, Lib.hid (hR.out.trans ((below_drewN wr _).mono hR.out.size))⟩
                case measure => simp [intOf]; omega
            · have hge : ¬ ((m : Int) < (K : Int)) := by omega
              go_wp2_with fail
              go_roundw
              case rel => exact ⟨l + 1, by omega, by go_num, hR⟩
              case measure => simp [intOf]; omega
        · have hge : ¬ ((l : Int) < (K : Int)) := by omega
          go_wp2_with fail
          go_roundw
          case rel => exact ⟨k + 1, by omega, by go_num, hR⟩
          case measure => simp [intOf]; omega
    · have hge : ¬ ((k : Int) < (K : Int)) := by omega
      go_wp2_with fail
      go_ret
      exact ⟨rfl, HB5.out.trans (hR.out.mono HB5.out.size)⟩

end Go.Proofs.Ytfkpefbahpjinaa
