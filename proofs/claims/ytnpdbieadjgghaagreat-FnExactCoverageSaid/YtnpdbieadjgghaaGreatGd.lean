/- The model: whether the chapter allows a graph and nodes. -/
import Derived.Test.YtnpdbieadjgghaaGreatRa
import Derived.Test.YtnpdbieadjgghaaGreatWj
import Derived.Test.YtnpdbieadjgghaaGreatW5
import Derived.Test.YtnpdbieadjgghaaGreatLm
import Derived.Test.YtnpdbieadjgghaaGreatReg
namespace Go.Proofs.YtnpdbieadjgghaaGreat
open Go.RowKit

/-- A row of numbers of one's own is answered. -/
def LjPost (Z : List Int) (w : World) (e : Ending) (w' : World) : Prop := ∃ rv, e = .returned rv ∧ Row 1 w' w.heap.size w'.heap.size rv Z.length Z ∧ Below w.heap.size w w'
/-- The graph's own box and its edges, while nothing that was there turns. -/
structure Gx (w wr : World) (N : Int) (ad : Option Addr) (n cp lo hi : Nat) (L : List Ed) : Prop where
  below : Below w.heap.size w wr
  c0 : wr.cell? ⟨w.heap.size, 0, none⟩ = some (.int .i64 N)
  c1 : wr.cell? ⟨w.heap.size, 1, none⟩ = some (.slice ad n cp)
  row : Row 3 wr lo hi (.slice ad n cp) n (flat L)
  lt : w.heap.size < wr.heap.size
  hh : hi ≤ w.heap.size
theorem Gx.start {w : World} {N : Int} {ad : Option Addr} {n cp lo hi : Nat} {L : List Ed} (hr : Row 3 w lo hi (.slice ad n cp) n (flat L)) (hh : hi ≤ w.heap.size) : Gx w (w.alloc (.cells #[.int .i64 N, .slice ad n cp] 30)) N ad n cp lo hi L :=
  ⟨(Below.refl _ _).alloc (Nat.le_refl _) _, by simp, by simp, hr.below ((Below.refl w.heap.size w).alloc (Nat.le_refl _) _) hh, by simp, hh⟩
theorem Gx.grow {w wr w2 : World} {N : Int} {ad : Option Addr} {n cp lo hi : Nat} {L : List Ed} (h : Gx w wr N ad n cp lo hi L) (b : Below wr.heap.size wr w2) : Gx w w2 N ad n cp lo hi L :=
  ⟨h.below.trans (b.mono h.below.size), by rw [b.cell (p := ⟨w.heap.size, 0, none⟩) h.lt]; exact h.c0, by rw [b.cell (p := ⟨w.heap.size, 1, none⟩) h.lt]; exact h.c1, h.row.below b (by have := h.hh; have := h.lt; omega), Nat.lt_of_lt_of_le h.lt b.size, h.hh⟩
theorem Gx.hi {w wr : World} {N : Int} {ad : Option Addr} {n cp lo hi : Nat} {L : List Ed} (h : Gx w wr N ad n cp lo hi L) : hi ≤ wr.heap.size := by have := h.hh; have := h.lt; omega
theorem Gx.drew {w wr : World} {N : Int} {ad : Option Addr} {n cp lo hi : Nat} {L : List Ed} (h : Gx w wr N ad n cp lo hi L) : Gx w wr.drew N ad n cp lo hi L := h.grow (Below.refl _ _).drew
theorem Gx.grownBy {w wr w4 : World} {N : Int} {ad : Option Addr} {n cp lo hi : Nat} {L : List Ed} {row : Option Nat} (h : Gx w wr N ad n cp lo hi L) (hg : wr.grownBy w4 row) (hr : ∀ g, row = some g → w.heap.size < g) : Gx w w4 N ad n cp lo hi L := by
  have b : Below (w.heap.size + 1) wr w4 := ⟨hg.os, hg.tape, hg.output, hg.size, fun k hk => hg.block k (by have := h.lt; omega) (fun e => by have := hr k e.symm; omega)⟩
  exact ⟨h.below.trans (b.mono (by omega)), by rw [b.cell (p := ⟨w.heap.size, 0, none⟩) (by show w.heap.size < _; omega)]; exact h.c0, by rw [b.cell (p := ⟨w.heap.size, 1, none⟩) (by show w.heap.size < _; omega)]; exact h.c1, h.row.below b (by have := h.hh; omega), Nat.lt_of_lt_of_le h.lt hg.size, h.hh⟩
theorem scost_cst {N : Int} {L : List Ed} (hG : gok N L = true) {x y : Int} (h : x ≠ y) : scost N L x y = cst L x y := by
  unfold scost
  by_cases h1 : ndB N x = true ∧ ndB N y = true
  · rw [if_pos h1, if_neg h]
  · rw [if_neg h1]
    refine (cst_out hG ?_).symm
    unfold ndB at h1
    rw [inB_iff, inB_iff] at h1
    by_cases h2 : 0 ≤ x ∧ x < N
    · right; intro h3; exact h1 ⟨⟨h2.1, by omega⟩, ⟨h3.1, by omega⟩⟩
    · exact .inl h2

set_option maxRecDepth 100000 in
set_option maxHeartbeats 4000000 in
theorem snear_any (N : Int) (lo hi n : Nat) (v : Value) (L : List Ed) (s x : Int) (w : World) (hG : gok N L = true) (hL : L.length = n) (hr : Row 3 w lo hi v n (flat L)) (hh : hi ≤ w.heap.size) :
    Calls Tryz.prog 45 #[.agg #[.int .i64 N, v], .int .i64 s, .int .i64 x] w fun e w' => e = .returned (.bool (nearB L s x)) ∧ Below w.heap.size w w' := by
  obtain ⟨ad, cp, rfl⟩ := hr.slice
  have HG := Lib.hid (Gx.start (N := N) hr hh)
  have hcb := cst_bound hG s x
  have HK := Lib.hid hG
  clear hr
  by_cases e : s = x
  · have z : nearB L s x = false := by unfold nearB; rw [e, cst_self HK.out, decide_eq_false (fun h => h rfl)]
    have hq : (s != x) = false := by rw [e]; simp
    rw [z]
    clear z e hG hcb
    go_enter Tryz.func45, Tryz.ntmps45
    go_wp2
    go_ret
    exact ⟨rfl, HG.out.below⟩
  · have hq : (s != x) = true := by simp [bne, beq_eq_false_iff_ne.2 e]
    have hc := Lib.hid (scost_any N lo hi n (.slice ad n cp) L s x _ hG hL HG.out.row HG.out.hi)
    rw [scost_cst hG e] at hc
    have z : nearB L s x = decide (cst L s x < 1000000) := by
      unfold nearB
      rw [far_val]
      exact decide_eq_decide.2 (by omega)
    rw [z]
    clear z e hG hcb
    generalize cst L s x = q at *
    go_enter Tryz.func45, Tryz.ntmps45
    go_wp2_with fail
    go_at_call 62
    refine hc.out.mono ?_
    rintro e w2 ⟨rfl, b2⟩
    have H2 := Lib.hid (HG.out.grow b2)
    clear b2
    go_wp2
    go_ret
    exact ⟨rfl, H2.out.below⟩

set_option maxRecDepth 100000 in
set_option maxHeartbeats 4000000 in
theorem sdst_any (M : Nat) (lo hi n : Nat) (v : Value) (L : List Ed) (s x : Nat) (w : World) (hG : gok (M : Int) L = true) (hL : L.length = n) (hr : Row 3 w lo hi v n (flat L)) (hh : hi ≤ w.heap.size) (hs : s < M) (hx : x < M) :
    Calls Tryz.prog 55 #[.agg #[.int .i64 (M : Int), v], .int .i64 (s : Int), .int .i64 (x : Int)] w fun e w' => e = .returned (.int .i64 (dsT (M : Int) L (s : Int) (x : Int))) ∧ Below w.heap.size w w' := by
  obtain ⟨ad, cp, rfl⟩ := hr.slice
  have HG := Lib.hid (Gx.start (N := (M : Int)) hr hh)
  have HD := Lib.hid (sdist_any (M : Int) lo hi n (.slice ad n cp) L (s : Int) _ hL HG.out.row HG.out.hi)
  have HK := Lib.hid hG
  have p0 : (0 : Int) ≤ (x : Int) := by omega
  have p1 : (x : Int) < (M : Int) := by omega
  clear hr hG
  go_enter Tryz.func55, Tryz.ntmps55
  go_wp2_with fail
  go_at_call 25
  refine HD.out.mono ?_
  rintro e w2 ⟨rv, rfl, hrow, b2⟩
  rw [distN_yes HK.out hs] at hrow
  obtain ⟨g, c, rfl, h1, h2, h3⟩ := row_cells (by omega) hrow
  have z : w2.cell? ⟨g, x, none⟩ = some (.int .i64 (dsT (M : Int) L (s : Int) (x : Int))) := h3 x _ (by unfold distL; rw [distN_yes HK.out hs, tabI_at _ hx]; rfl)
  have H2 := Lib.hid (HG.out.grow b2)
  clear b2 hrow h3 HD
  go_wp2
  go_ret
  exact ⟨rfl, H2.out.below⟩

set_option maxRecDepth 100000 in
set_option maxHeartbeats 4000000 in
theorem sgood_any (N : Int) (lo hi n : Nat) (v : Value) (L : List Ed) (l2 h2 m : Nat) (vx : Value) (xs : List Int) (w : World) (hL : L.length = n) (hr : Row 3 w lo hi v n (flat L)) (hh : hi ≤ w.heap.size) (hx : Row 1 w l2 h2 vx m xs) (hh2 : h2 ≤ w.heap.size) (hm : m ≤ 10) :
    Calls Tryz.prog 30 #[.agg #[.int .i64 N, v], vx] w fun e w' => e = .returned (.bool (g10 N L xs)) ∧ Below w.heap.size w w' := by
  obtain ⟨ad, cp, rfl⟩ := hr.slice
  obtain ⟨ax, cx, rfl, hxn, hxc⟩ := hx.opened
  have HXC := Lib.hid hxc
  have HXL : Hid (xs.length = m) := by have := hx.1; show _ = _; omega
  have HG := Lib.hid (Gx.start (N := N) hr hh)
  have HO := Lib.hid hr.opened
  have HL := Lib.hid hL
  clear hr hx hxn hxc
  go_enter Tryz.func30, Tryz.ntmps30
  go_wp2_with fail
  go_at_call 49
  refine (sgok_any N lo hi n _ L _ hL HG.out.row HG.out.hi).mono ?_
  rintro e w1 ⟨rfl, b1⟩
  have H1 := Lib.hid (HG.out.grow b1)
  clear b1
  by_cases hG : gok N L = true
  · rw [hG]
    have HK := Lib.hid hG
    have hN1 := (gok_parts hG).1
    have hN2 := (gok_parts hG).2.1
    have hn60 : n ≤ 60 := by have := (gok_parts hG).2.2.1; omega
    clear hG
    go_wp2_with fail
    go_loopw [5] (fun i wr => ∃ k : Nat, k ≤ n ∧ i = .int .i64 (k : Int) ∧ Hid (Gx w wr N ad n cp lo hi L) ∧ Hid (Below w1.heap.size w1 wr) ∧ Hid (∀ e ∈ L.take k, cst L e.2.1 e.1 ≠ Far)) (fun i _ => n - (intOf i).toNat)
    case atStart => exact ⟨0, Nat.zero_le _, rfl, H1, Below.refl _ _, fun e he => by simp at he⟩
    case round =>
      obtain ⟨k, hk, rfl, hR, hB1, hA⟩ := hrel
      have c0 := hR.out.c0
      have c1 := hR.out.c1
      by_cases hlt : k < n
      · obtain ⟨ad', cp', e1, _, hc⟩ := HO.out
        cases e1
        obtain ⟨g, rfl, hg, hcell⟩ := hc (by omega)
        obtain ⟨r, hrk⟩ : ∃ r, L[k]? = some r := ⟨L[k]'(by rw [HL.out]; exact hlt), List.getElem?_eq_getElem _⟩
        obtain ⟨a, b, c⟩ := r
        obtain ⟨r0, r1, r2⟩ := flat_at L k _ hrk
        have hab : b ≠ a := fun e => (gok_mem HK.out (List.mem_of_getElem? hrk)).2.2.1 e.symm
        have hgl : g < w.heap.size := by have := HG.out.hh; omega
        have z0 : wr.cell? ⟨g, k * 3, none⟩ = some (.int .i64 a) := by rw [hR.out.below.cell (p := ⟨g, k * 3, none⟩) hgl]; exact hcell _ _ r0
        have z1 : wr.cell? ⟨g, k * 3 + 1, none⟩ = some (.int .i64 b) := by rw [hR.out.below.cell (p := ⟨g, k * 3 + 1, none⟩) hgl]; exact hcell _ _ r1
        have q0 : (0 : Int) ≤ (k : Int) := by omega
        have q1 : (k : Int) < (n : Int) := by omega
        have HKk : Hid (L[k]? = some (a, b, c)) := hrk
        clear r0 r1 r2 hrk hcell hc
        go_wp2_with fail
        refine wp_region_held_drew (S := (fun w' => w'.cell? ⟨w.heap.size, 0, none⟩ = some (.int .i64 N) ∧ w'.cell? ⟨w.heap.size, 1, none⟩ = some (.slice (some ⟨g, 0, none⟩) n cp) ∧ w'.cell? ⟨g, k * 3, none⟩ = some (.int .i64 a) ∧ w'.cell? ⟨g, k * 3 + 1, none⟩ = some (.int .i64 b) ∧ Hid (Gx w w' N (some ⟨g, 0, none⟩) n cp lo hi L) ∧ Hid (Below wr.heap.size wr w'))) (by kernel_rfl) ?_ (fun hHeld => ?_)
        · exact ⟨c0, c1, z0, z1, Lib.hid hR.out.drew, Lib.hid ((Below.refl _ _).drew)⟩
        refine step_read 0 17 rfl rfl (by kernel_rfl) (by kernel_rfl) (by kernel_rfl) (fun _ _ _ h => h) (by rfl) (v := ?_) (fun w hSw => ?_) (by assumption) ?_; rotate_left; (focus ((try dsimp only at hSw); go_simp; first | done | exact rfl)); simp only [List.set]
        refine step_read 1 18 rfl rfl (by kernel_rfl) (by kernel_rfl) (by kernel_rfl) (fun _ _ _ h => h) (by rfl) (v := ?_) (fun w hSw => ?_) (by assumption) ?_; rotate_left; (focus ((try dsimp only at hSw); go_simp; first | done | exact rfl)); simp only [List.set]
        refine step_read 2 19 rfl rfl (by kernel_rfl) (by kernel_rfl) (by kernel_rfl) (fun _ _ _ h => h) (by rfl) (v := ?_) (fun w hSw => ?_) (by assumption) ?_; rotate_left; (focus ((try dsimp only at hSw); go_simp; first | done | exact rfl)); simp only [List.set]
        refine step_read 3 20 rfl rfl (by kernel_rfl) (by kernel_rfl) (by kernel_rfl) (fun _ _ _ h => h) (by rfl) (v := ?_) (fun w hSw => ?_) (by assumption) ?_; rotate_left; (focus ((try dsimp only at hSw); go_simp; first | done | exact rfl)); simp only [List.set]
        refine step_read 4 21 rfl rfl (by kernel_rfl) (by kernel_rfl) (by kernel_rfl) (fun _ _ _ h => h) (by rfl) (v := ?_) (fun w hSw => ?_) (by assumption) ?_; rotate_left; (focus ((try dsimp only at hSw); go_simp; first | done | exact rfl)); simp only [List.set]
        refine step_read 5 22 rfl rfl (by kernel_rfl) (by kernel_rfl) (by kernel_rfl) (fun _ _ _ h => h) (by rfl) (v := ?_) (fun w hSw => ?_) (by assumption) ?_; rotate_left; (focus ((try dsimp only at hSw); go_simp; first | done | exact rfl)); simp only [List.set]
        refine step_read 6 23 rfl rfl (by kernel_rfl) (by kernel_rfl) (by kernel_rfl) (fun _ _ _ h => h) (by rfl) (v := ?_) (fun w hSw => ?_) (by assumption) ?_; rotate_left; (focus ((try dsimp only at hSw); go_simp; first | done | exact rfl)); simp only [List.set]
        refine step_read 7 24 rfl rfl (by kernel_rfl) (by kernel_rfl) (by kernel_rfl) (fun _ _ _ h => h) (by rfl) (v := ?_) (fun w hSw => ?_) (by assumption) ?_; rotate_left; (focus ((try dsimp only at hSw); go_simp; first | done | exact rfl)); simp only [List.set]
        refine step_read 8 25 rfl rfl (by kernel_rfl) (by kernel_rfl) (by kernel_rfl) (fun _ _ _ h => h) (by rfl) (v := ?_) (fun w hSw => ?_) (by assumption) ?_; rotate_left; (focus ((try dsimp only at hSw); go_simp; first | done | exact rfl)); simp only [List.set]
        refine step_read 9 26 rfl rfl (by kernel_rfl) (by kernel_rfl) (by kernel_rfl) (fun _ _ _ h => h) (by rfl) (v := ?_) (fun w hSw => ?_) (by assumption) ?_; rotate_left; (focus ((try dsimp only at hSw); go_simp; first | done | exact rfl)); simp only [List.set]
        refine step_read 10 27 rfl rfl (by kernel_rfl) (by kernel_rfl) (by kernel_rfl) (fun _ _ _ h => h) (by rfl) (v := ?_) (fun w hSw => ?_) (by assumption) ?_; rotate_left; (focus ((try dsimp only at hSw); go_simp; first | done | exact rfl)); simp only [List.set]
        refine step_read 11 28 rfl rfl (by kernel_rfl) (by kernel_rfl) (by kernel_rfl) (fun _ _ _ h => h) (by rfl) (v := ?_) (fun w hSw => ?_) (by assumption) ?_; rotate_left; (focus ((try dsimp only at hSw); go_simp; first | done | exact rfl)); simp only [List.set]
        refine step_read 12 29 rfl rfl (by kernel_rfl) (by kernel_rfl) (by kernel_rfl) (fun _ _ _ h => h) (by rfl) (v := ?_) (fun w hSw => ?_) (by assumption) ?_; rotate_left; (focus ((try dsimp only at hSw); go_simp; first | done | exact rfl)); simp only [List.set]
        refine wpAnyH_ready (rs := [13]) (by kernel_rfl) (by simp) ?_
        refine AllReadyH.cons rfl (fun Kc hK => ?_) (AllReadyH.nil)
        go_simp
        go_at_call 62
        refine (scost_any N lo hi n _ L b a _ HK.out hL hHeld.2.2.2.2.1.out.row hHeld.2.2.2.2.1.out.hi).mono ?_
        rw [scost_cst HK.out hab]
        rintro e w3 ⟨rfl, b3⟩
        have Hh := Lib.hid hHeld
        have B3 := Lib.hid b3
        clear hHeld b3
        refine hK.out _ _ ?_ (fun hHeld => ?_)
        · exact ⟨by rw [B3.out.cell (p := ⟨w.heap.size, 0, none⟩) Hh.out.2.2.2.2.1.out.lt]; exact Hh.out.1, by rw [B3.out.cell (p := ⟨w.heap.size, 1, none⟩) Hh.out.2.2.2.2.1.out.lt]; exact Hh.out.2.1, by rw [B3.out.cell (p := ⟨g, k * 3, none⟩) (by have := Hh.out.2.2.2.2.1.out.lt; show g < _; omega)]; exact Hh.out.2.2.1, by rw [B3.out.cell (p := ⟨g, k * 3 + 1, none⟩) (by have := Hh.out.2.2.2.2.1.out.lt; show g < _; omega)]; exact Hh.out.2.2.2.1, Hh.out.2.2.2.2.1.out.grow B3.out, Hh.out.2.2.2.2.2.out.trans (B3.out.mono Hh.out.2.2.2.2.2.out.size)⟩
        clear hK Kc
        refine step_read 14 31 rfl rfl (by kernel_rfl) (by kernel_rfl) (by kernel_rfl) (fun _ _ _ h => h) (by rfl) (v := ?_) (fun w hSw => ?_) (by assumption) ?_; rotate_left; (focus ((try dsimp only at hSw); go_simp; first | done | exact rfl)); simp only [List.set]
        refine wpAnyH_done (by kernel_rfl) ?_ _
        have H3 := Lib.hid hHeld.2.2.2.2
        clear hHeld
        by_cases hq : cst L b a = 1000000
        · have z5 : (cst L b a == 1000000) = true := by rw [hq]; rfl
          have HQ := Lib.hid hq
          clear hq
          go_wp2
          go_ret
          refine ⟨?_, H3.out.1.out.below⟩
          have e : pairB L = false := by
            unfold pairB
            rw [List.all_eq_false]
            exact ⟨_, List.mem_of_getElem? HKk.out, by rw [HQ.out]; decide⟩
          unfold g10
          rw [e, Bool.and_false, Bool.false_and]
          rfl
        · have z5 : (cst L b a == 1000000) = false := beq_eq_false_iff_ne.2 hq
          have HQ : Hid (cst L b a ≠ Far) := by show cst L b a ≠ Far; rw [far_val]; exact hq
          clear hq
          go_wp2_with fail
          go_roundw
          case rel => exact ⟨k + 1, by omega, by go_num, H3.out.1, hB1.out.trans (H3.out.2.out.mono hB1.out.size), fun e he => by
            rw [List.take_add_one, HKk.out] at he
            rcases List.mem_append.1 he with he | he
            · exact hA.out e he
            · simp at he; subst he; exact HQ.out⟩
          case measure => simp [intOf]; omega
      · have hge : ¬ ((k : Int) < (n : Int)) := by omega
        have hP : Hid (pairB L = true) := by
          show _ = _
          unfold pairB
          rw [List.all_eq_true]
          intro r hr
          exact decide_eq_true (hA.out r (by rw [List.take_of_length_le (by rw [HL.out]; omega)]; exact hr))
        have HR0 := hR
        clear hA hR
        go_wp2_with fail
        go_loopw [6] (fun i wr => ∃ k : Nat, k ≤ m ∧ i = .int .i64 (k : Int) ∧ Hid (Gx w wr N ad n cp lo hi L) ∧ Hid (∀ x ∈ xs.take k, ndB N x = true)) (fun i _ => m - (intOf i).toNat)
        case atStart => exact ⟨0, Nat.zero_le _, rfl, HR0, fun e he => by simp at he⟩
        case round =>
          clear c0 c1 hk hge
          obtain ⟨k, hk, rfl, hR, hA⟩ := hrel
          have c0 := hR.out.c0
          have c1 := hR.out.c1
          by_cases hlt : k < m
          · obtain ⟨gx, rfl, hg, hcell⟩ := HXC.out (by omega)
            obtain ⟨x, hxk⟩ : ∃ x, xs[k]? = some x := ⟨xs[k]'(by rw [HXL.out]; exact hlt), List.getElem?_eq_getElem _⟩
            have hgl : gx < w.heap.size := by omega
            have z0 : wr.cell? ⟨gx, k, none⟩ = some (.int .i64 x) := by rw [hR.out.below.cell (p := ⟨gx, k, none⟩) hgl]; exact hcell _ _ hxk
            have q0 : (0 : Int) ≤ (k : Int) := by omega
            have q1 : (k : Int) < (m : Int) := by omega
            have HKk := Lib.hid hxk
            clear hcell hxk
            go_wp2_with fail
            refine wp_region_held_drew (S := (fun w' => w'.cell? ⟨w.heap.size, 0, none⟩ = some (.int .i64 N) ∧ w'.cell? ⟨w.heap.size, 1, none⟩ = some (.slice ad n cp) ∧ w'.cell? ⟨gx, k, none⟩ = some (.int .i64 x) ∧ Hid (Gx w w' N ad n cp lo hi L) ∧ Hid (Below wr.heap.size wr w'))) (by kernel_rfl) ?_ (fun hHeld => ?_)
            · exact ⟨c0, c1, z0, Lib.hid hR.out.drew, Lib.hid ((Below.refl _ _).drew)⟩
            refine step_read 0 38 rfl rfl (by kernel_rfl) (by kernel_rfl) (by kernel_rfl) (fun _ _ _ h => h) (by rfl) (v := ?_) (fun w hSw => ?_) (by assumption) ?_; rotate_left; (focus ((try dsimp only at hSw); go_simp; first | done | exact rfl)); simp only [List.set]
            refine step_read 1 39 rfl rfl (by kernel_rfl) (by kernel_rfl) (by kernel_rfl) (fun _ _ _ h => h) (by rfl) (v := ?_) (fun w hSw => ?_) (by assumption) ?_; rotate_left; (focus ((try dsimp only at hSw); go_simp; first | done | exact rfl)); simp only [List.set]
            refine step_read 2 40 rfl rfl (by kernel_rfl) (by kernel_rfl) (by kernel_rfl) (fun _ _ _ h => h) (by rfl) (v := ?_) (fun w hSw => ?_) (by assumption) ?_; rotate_left; (focus ((try dsimp only at hSw); go_simp; first | done | exact rfl)); simp only [List.set]
            refine step_read 3 41 rfl rfl (by kernel_rfl) (by kernel_rfl) (by kernel_rfl) (fun _ _ _ h => h) (by rfl) (v := ?_) (fun w hSw => ?_) (by assumption) ?_; rotate_left; (focus ((try dsimp only at hSw); go_simp; first | done | exact rfl)); simp only [List.set]
            refine step_read 4 42 rfl rfl (by kernel_rfl) (by kernel_rfl) (by kernel_rfl) (fun _ _ _ h => h) (by rfl) (v := ?_) (fun w hSw => ?_) (by assumption) ?_; rotate_left; (focus ((try dsimp only at hSw); go_simp; first | done | exact rfl)); simp only [List.set]
            refine wpAnyH_ready (rs := [5]) (by kernel_rfl) (by simp) ?_
            refine AllReadyH.cons rfl (fun Kc hK => ?_) (AllReadyH.nil)
            go_simp
            go_at_call 57
            refine (node_any N _ _ _ x _ hN1 hN2).mono ?_
            rintro e w3 ⟨rfl, b3⟩
            have Hh := Lib.hid hHeld
            have B3 := Lib.hid b3
            clear hHeld b3
            refine hK.out _ _ ?_ (fun hHeld => ?_)
            · exact ⟨by rw [B3.out.cell (p := ⟨w.heap.size, 0, none⟩) Hh.out.2.2.2.1.out.lt]; exact Hh.out.1, by rw [B3.out.cell (p := ⟨w.heap.size, 1, none⟩) Hh.out.2.2.2.1.out.lt]; exact Hh.out.2.1, by rw [B3.out.cell (p := ⟨gx, k, none⟩) (by have := Hh.out.2.2.2.1.out.lt; show gx < _; omega)]; exact Hh.out.2.2.1, Hh.out.2.2.2.1.out.grow B3.out, Hh.out.2.2.2.2.out.trans (B3.out.mono Hh.out.2.2.2.2.out.size)⟩
            clear hK Kc
            refine step_read 6 44 rfl rfl (by kernel_rfl) (by kernel_rfl) (by kernel_rfl) (fun _ _ _ h => h) (by rfl) (v := ?_) (fun w hSw => ?_) (by assumption) ?_; rotate_left; (focus ((try dsimp only at hSw); go_simp; first | done | exact rfl)); simp only [List.set]
            refine wpAnyH_done (by kernel_rfl) ?_ _
            have H3 := Lib.hid hHeld.2.2.2
            clear hHeld
            by_cases hq : ndB N x = true
            · have HQ := Lib.hid hq
              rw [hq]
              clear hq
              go_wp2_with fail
              go_roundw
              case rel => exact ⟨k + 1, by omega, by go_num, H3.out.1, fun y hy => by
                rw [List.take_add_one, HKk.out] at hy
                rcases List.mem_append.1 hy with hy | hy
                · exact hA.out y hy
                · simp at hy; subst hy; exact HQ.out⟩
              case measure => simp [intOf]; omega
            · rw [Bool.not_eq_true] at hq
              have HQ := Lib.hid hq
              rw [hq]
              clear hq
              go_wp2
              go_ret
              refine ⟨?_, H3.out.1.out.below⟩
              have e : xs.all (ndB N) = false := by
                rw [List.all_eq_false]
                exact ⟨x, List.mem_of_getElem? HKk.out, by rw [HQ.out]; simp⟩
              unfold g10
              rw [e, Bool.and_false]
              rfl
          · have hge : ¬ ((k : Int) < (m : Int)) := by omega
            have hall : Hid (xs.all (ndB N) = true) := by
              show _ = _
              rw [List.all_eq_true]
              intro y hy
              exact hA.out y (by rw [List.take_of_length_le (by rw [HXL.out]; omega)]; exact hy)
            clear hA
            go_wp2_with fail
            go_ret
            refine ⟨?_, hR.out.below⟩
            unfold g10
            rw [HK.out, hP.out, hall.out]
            rfl
  · rw [Bool.not_eq_true] at hG
    have e : g10 N L xs = false := by unfold g10; rw [hG, Bool.false_and, Bool.false_and]
    rw [hG]
    have HE := Lib.hid e
    clear hG e
    go_wp2
    go_ret
    exact ⟨by rw [HE.out]; rfl, H1.out.below⟩

end Go.Proofs.YtnpdbieadjgghaaGreat
