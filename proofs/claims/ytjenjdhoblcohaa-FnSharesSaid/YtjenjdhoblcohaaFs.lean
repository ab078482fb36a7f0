/- FnShares: the walk. -/
import Derived.Test.YtjenjdhoblcohaaDs
import Derived.Test.YtjenjdhoblcohaaSq
import Derived.Test.YtjenjdhoblcohaaOn
import Derived.Test.YtjenjdhoblcohaaFl
import Derived.Test.YtjenjdhoblcohaaSn
import Derived.Test.YtjenjdhoblcohaaKc
namespace Go.Proofs.Ytjenjdhoblcohaa
open Go.RowKit

theorem cell_kept {w w' : World} {p : Addr} {v : Value} (h : Below w.heap.size w w') (hc : w.cell? p = some v) : w'.cell? p = some v := by rw [h.cell (lt_of_cell hc).1]; exact hc
theorem onw_of {M s o k : Nat} {L : List Ed} (hG : gok (M : Int) L = true) (hs : s < M) (ho : o < M) (hk : k < M) (hso : dsT (M : Int) L (s : Int) (o : Int) ≠ Far) (h : Onw (M : Int) L (s : Int) (o : Int) (k : Int)) : onwB (M : Int) L (s : Int) (o : Int) (k : Int) = true := by
  have nd : ∀ z : Nat, z < M → ndB (M : Int) (z : Int) = true := fun z hz => by unfold ndB; rw [inB_iff]; omega
  rw [onw_yes hG (nd s hs) (nd o ho) (nd k hk)]
  unfold btwB
  unfold Far at hso
  rw [h.2.2]
  simp [hso]
set_option maxRecDepth 100000 in
set_option maxHeartbeats 4000000 in
theorem fnshares_any (a : Option Addr) (n cp : Nat) (w : World) (hb : n ≤ 1099511627776 → BytesAt w a n) (hold : ∀ p : Addr, a = some p → p.block < w.heap.size) : Calls Try.prog 10 #[.slice a n cp] w fun e w' => e = .returned (.bool true) ∧ Below w.heap.size w w' := by
  have HO := Lib.hid hold
  have HB := Lib.hid hb
  clear hb hold
  go_enter Try.func10, Try.ntmps10
  go_wp2_with fail
  go_at_call 31
  refine (big_any a n cp _).mono ?_
  rintro e w' ⟨rfl, rfl⟩
  by_cases hbig : (n : Int) > 1048576
  · rw [decide_eq_true hbig]
    go_wp2_with fail
    go_ret
    exact ⟨rfl, Below.refl _ _⟩
  rw [decide_eq_false hbig]
  go_wp2_with fail
  go_at_call 43
  refine (dsh_any a n cp _ (HB.out (by omega)) HO.out).mono ?_
  rintro e w1 ⟨N, gv, L, x, y, b, rfl, hr, hl, hb1⟩
  obtain ⟨ga, gc, hgv⟩ := hr.slice
  subst hgv
  have HR1 := Lib.hid hr
  clear hr HB HO hbig
  go_wp2_with fail
  obtain ⟨w2, hw2⟩ : ∃ q, q = w1.alloc (.cells #[.int .i64 N, .slice ga L.length gc] 29) := ⟨_, rfl⟩
  obtain ⟨X, hX⟩ : ∃ q, q = w1.heap.size := ⟨_, rfl⟩
  have x0 : w2.cell? ⟨X, 0, none⟩ = some (.int .i64 N) := by rw [hw2, hX]; simp
  have x1 : w2.cell? ⟨X, 1, none⟩ = some (.slice ga L.length gc) := by rw [hw2, hX]; simp
  have hb2 : Below w1.heap.size w1 w2 := by rw [hw2]; exact (Below.refl _ _).alloc (Nat.le_refl _) _
  have HR2 : Hid (Row 3 w2 w.heap.size w1.heap.size (.slice ga L.length gc) L.length (flat L)) := HR1.out.below hb2 (Nat.le_refl _)
  have HB2 : Hid (Below w.heap.size w w2) := hb1.trans (hb2.mono hb1.size)
  have hs12 := hb2.size
  rw [← hw2, ← hX]
  clear hw2 hX hb2 hb1 HR1
  go_at_call 44
  refine (ssh_any N _ _ L.length _ L x y b w2 rfl HR2.out hs12).mono ?_
  rintro e w3 ⟨rv1, rfl, hz1, hb3⟩
  obtain ⟨a1, c1, e1⟩ := hz1.slice
  subst e1
  have y0 := cell_kept hb3 x0
  have y1 := cell_kept hb3 x1
  have HR3 : Hid (Row 3 w3 w.heap.size w1.heap.size (.slice ga L.length gc) L.length (flat L)) := HR2.out.below hb3 hs12
  have HB3 : Hid (Below w.heap.size w w3) := HB2.out.trans (hb3.mono HB2.out.size)
  have hs13 : w1.heap.size ≤ w3.heap.size := Nat.le_trans hs12 hb3.size
  have HZ1 := Lib.hid hz1
  clear HR2 HB2 hb3 hs12 x0 x1 hz1
  go_wp2_with fail
  go_at_call 45
  refine (ish_any N _ _ L.length _ L x y b w3 rfl HR3.out hs13).mono ?_
  rintro e w4 ⟨rv2, rfl, hz2, hb4⟩
  obtain ⟨a2, c2, e1⟩ := hz2.slice
  subst e1
  have x0 := cell_kept hb4 y0
  have x1 := cell_kept hb4 y1
  have HR4 : Hid (Row 3 w4 w.heap.size w1.heap.size (.slice ga L.length gc) L.length (flat L)) := HR3.out.below hb4 hs13
  have HB4 : Hid (Below w.heap.size w w4) := HB3.out.trans (hb4.mono HB3.out.size)
  have hs14 : w1.heap.size ≤ w4.heap.size := Nat.le_trans hs13 hb4.size
  have HZ1' := Lib.hid (HZ1.out.below hb4 (Nat.le_refl _))
  have HZ2 := Lib.hid hz2
  have hlen := shL_len N L x y b
  clear HR3 HB3 hb4 hs13 y0 y1 hz2 HZ1
  go_wp2_with fail
  go_at_call 35
  refine (same_row rfl (by omega) HZ2.out HZ1'.out).mono ?_
  rintro e wb ⟨rfl, hb5⟩
  have y0 := cell_kept hb5 x0
  have y1 := cell_kept hb5 x1
  have HRb : Hid (Row 3 wb w.heap.size w1.heap.size (.slice ga L.length gc) L.length (flat L)) := HR4.out.below hb5 hs14
  have HBb : Hid (Below w.heap.size w wb) := HB4.out.trans (hb5.mono HB4.out.size)
  have hsb : w1.heap.size ≤ wb.heap.size := Nat.le_trans hs14 hb5.size
  have HZb := Lib.hid (HZ2.out.below hb5 (Nat.le_refl _))
  clear HR4 HB4 hb5 hs14 x0 x1 HZ2 HZ1' hlen
  by_cases hcs : (gok N L = true ∧ ndB N x = true ∧ ndB N y = true ∧ dsT N L x y ≠ Far) ∧ 1 ≤ b ∧ b ≤ 100000
  case neg =>
    have hk0 : shL N L x y b = [] := if_neg hcs
    rw [hk0]
    clear HZb hk0 hcs
    go_wp2_with fail
    go_ret
    exact ⟨rfl, HBb.out⟩
  have hk0 : shL N L x y b = tabI N.toNat (shN N L x y b) := if_pos hcs
  rw [hk0] at HZb
  rw [hk0, tabI_len] 
  rw [tabI_len] at HZb
  obtain ⟨⟨hG, hx, hy, hso⟩, hb1, hb2⟩ := hcs
  have hN := gok_parts hG
  obtain ⟨K, rfl⟩ : ∃ K : Nat, N = (K : Int) := ⟨N.toNat, by omega⟩
  unfold ndB at hx hy
  rw [inB_iff] at hx hy
  obtain ⟨s, rfl⟩ : ∃ s : Nat, x = (s : Int) := ⟨x.toNat, by omega⟩
  obtain ⟨o, rfl⟩ : ∃ s : Nat, y = (s : Int) := ⟨y.toNat, by omega⟩
  have hs : s < K := by omega
  have ho : o < K := by omega
  rw [Int.toNat_natCast] at HZb ⊢
  obtain ⟨_, _, ⟨P, hF, _⟩, _⟩ := calls_ends (icnt_yes K _ _ _ _ L s o wb rfl HRb.out hsb hG hs ho)
  obtain ⟨ha1, ha2, ha3⟩ := shares_all (a := b) hG ⟨by omega, by omega⟩ ⟨by omega, by omega⟩ hso (by omega) hF
  have hK1 : 0 < K ∧ K ≤ 10 := by omega
  obtain ⟨G, cg, e1, _, _, hdc⟩ := row_cells hK1.1 HZb.out
  cases e1
  have HC : Hid (∀ k, k < K → wb.cell? ⟨G, k, none⟩ = some (.int .i64 (shN (K : Int) L (s : Int) (o : Int) b (k : Int)))) := fun k hk => hdc k _ (tabI_at _ hk)
  have HA3 : Hid (∀ k, k < K → shN (K : Int) L (s : Int) (o : Int) b (k : Int) ≤ b ∧ (0 < shN (K : Int) L (s : Int) (o : Int) b (k : Int) → onwB (K : Int) L (s : Int) (o : Int) (k : Int) = true)) := fun k hk => by
    have h := ha3 (k : Int) ⟨by omega, by omega⟩
    exact ⟨h.1, fun hp => onw_of hG hs ho hk hso (h.2 (by omega))⟩
  have gs := HC.out s hs
  have go := HC.out o ho
  rw [ha2] at gs
  rw [ha1] at go
  have s1 : (0 : Int) ≤ (s : Int) := by omega
  have s2 : (s : Int) < (K : Int) := by omega
  have o1 : (0 : Int) ≤ (o : Int) := by omega
  have o2 : (o : Int) < (K : Int) := by omega
  have zk1 : ((K : Int) == 0) = false := beq_eq_false_iff_ne.2 (by omega)
  have zk2 : ¬ ((K : Int) = 0) := by omega
  clear hN hx hy hk0 ha1 ha2 ha3 hdc hF HZb hG hso
  go_wp2_with fail
  go_loopw [9] (fun i wr => ∃ k : Nat, k ≤ K ∧ i = .int .i64 (k : Int) ∧ Hid (Below wb.heap.size wb wr)) (fun i _ => K - (intOf i).toNat)
  case atStart => exact ⟨0, Nat.zero_le _, rfl, Lib.hid (Below.refl _ _)⟩
  case round =>
    clear zk1 zk2
    obtain ⟨k, hk, rfl, hR⟩ := hrel
    have x0 := cell_kept hR.out y0
    have x1 := cell_kept hR.out y1
    by_cases hlt : k < K
    · have q0 : (k : Int) < (K : Int) := by omega
      have q1 : (0 : Int) ≤ (k : Int) := by omega
      have r1 := cell_kept hR.out (HC.out k hlt)
      obtain ⟨t1, t2⟩ := HA3.out k hlt
      generalize shN (K : Int) L (s : Int) (o : Int) b (k : Int) = q at r1 t1 t2
      have n1 : decide (q > b) = false := decide_eq_false (by omega)
      have n1' : ¬ b < q := by omega
      by_cases hq : 0 < q
      · have n2 : decide (q > 0) = true := decide_eq_true hq
        have n3 := Lib.hid (t2 hq)
        clear t2
        go_wp2_with fail
        go_at_call 40
        refine (ionw_any (K : Int) _ _ L.length _ L (s : Int) (o : Int) (k : Int) wr rfl (HRb.out.below hR.out hsb) (Nat.le_trans hsb hR.out.size)).mono ?_
        rintro e wq ⟨he, hbq⟩
        rw [n3.out] at he
        subst he
        have HV : Hid (Below wb.heap.size wb wq) := hR.out.trans (hbq.mono hR.out.size)
        clear hbq hR x0 x1 r1
        go_wp2_with fail
        go_roundw
        case rel => exact ⟨k + 1, by omega, by go_num, HV⟩
        case measure => simp [intOf]; omega
      · have n2 : decide (q > 0) = false := decide_eq_false (by omega)
        clear t2
        go_wp2_with fail
        go_roundw
        case rel => exact ⟨k + 1, by omega, by go_num, hR⟩
        case measure => simp [intOf]; omega
    · have hge : ¬ ((k : Int) < (K : Int)) := by omega
      go_wp2_with fail
      go_ret
      exact ⟨rfl, HBb.out.trans (hR.out.mono HBb.out.size)⟩

end Go.Proofs.Ytjenjdhoblcohaa
