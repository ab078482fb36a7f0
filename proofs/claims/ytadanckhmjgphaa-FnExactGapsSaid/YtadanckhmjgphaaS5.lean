/- Gaps of the program and of the model. -/
import Derived.Test.YtadanckhmjgphaaS4
namespace Go.Proofs.Ytadanckhmjgphaa
open Go.RowKit


theorem Try.info3s : (Try.prog.info? 3).map (fun i => (i.zero, i.size, i.bytes)) = some (some (.int .i64 0), 1, 8) := by kernel_rfl
def NumPost (Z : List Int) (w : World) (e : Ending) (w' : World) : Prop := ∃ rv, e = .returned rv ∧ Row 1 w' w.heap.size w'.heap.size rv Z.length Z ∧ Below w.heap.size w w'
theorem NumPost.of {Z : List Int} {w w1 w' : World} {e : Ending} {rv : Value} {n : Nat} (hb : Below w.heap.size w w1) (he : e = .returned rv) (hO : OwnR 3 1 w1 w' rv n Z) (hn : n = Z.length) (hl : Z.length ≤ 1000) : NumPost Z w e w' := by
  subst hn
  exact ⟨rv, he, (hO.toRow (by omega)).wide hb.size (Nat.le_refl _), hb.trans (hO.below.mono hb.size)⟩

set_option maxRecDepth 100000 in
set_option maxHeartbeats 4000000 in
theorem igaps_any (lo hi n : Nat) (v : Value) (L : List Sm) (w : World) (hL : L.length = n) (hr : Row 3 w lo hi v n (flat L)) (hh : hi ≤ w.heap.size) (m : Int) :
    Calls Try.prog 25 #[v, .int .i64 m] w (NumPost (gapL L m) w) := by
  have HR := Lib.hid hr
  obtain ⟨ad, cp, rfl, hn, hop⟩ := hr.opened
  have Hn := Lib.hid hL
  have H := Lib.hid hop
  obtain ⟨iI, hi0, hz0, hz1, hz2⟩ := info_parts Try.info3s
  have I := Lib.hid (And.intro hi0 (And.intro hz0 (And.intro hz1 hz2)))
  clear hi0 hz0 hz1 hz2
  cases hS : sok L with
  | false =>
    have he : gapL L m = [] := by unfold gapL; rw [hS]; simp
    rw [he]
    clear he hr hop
    go_enter Try.func25, Try.ntmps25
    go_wp2_with fail
    go_at_call 32
    refine (isok_any lo hi n _ L _ hL HR.out hh).mono ?_
    rw [hS]
    rintro e v1 ⟨rfl, hb1⟩
    have HB := Lib.hid hb1
    clear hb1
    go_wp2_with fail
    go_ret
    exact ⟨_, rfl, Row.empty 1 _ _ _ _ _, HB.out⟩
  | true =>
    have he : gapL L m = gapK L m n := by unfold gapL; rw [if_pos hS, hL]
    rw [he]
    have h120 : n ≤ 120 := by have := (sok_parts hS).1; omega
    clear he hr hop
    go_enter Try.func25, Try.ntmps25
    go_wp2_with fail
    go_at_call 32
    refine (isok_any lo hi n _ L _ hL HR.out hh).mono ?_
    rw [hS]
    rintro e u1 ⟨rfl, hb1⟩
    have HB1 := Lib.hid hb1
    have hs1 := hb1.size
    clear hb1
    have HS := Lib.hid hS
    clear hS
    go_wp2_with fail
    go_at_call 62
    refine (steps_any lo hi n _ L _ hL (HR.out.below HB1.out hh) (by omega) (by omega)).mono ?_
    rintro e v2 ⟨tv, rfl, hrow, hb2⟩
    have HB2 : Hid (Below w.heap.size w v2) := HB1.out.trans (hb2.mono HB1.out.size)
    have hs2 := hb2.size
    obtain ⟨ta, tc, rfl, _, htc⟩ := hrow.opened
    have HT := Lib.hid htc
    clear hrow htc hb2 HB1 hL
    go_wp2_with fail
    have HO : Hid (OwnR 3 1 v2 v2 (.slice none 0 0) (gapK L m 1).length (gapK L m 1)) := OwnR.nil _ _ _
    go_loopw [5, 14] (fun v i wr => ∃ j : Nat, j ≤ n - 1 ∧ i = .int .i64 (j : Int) ∧ Hid (OwnR 3 1 v2 wr v (gapK L m (j + 1)).length (gapK L m (j + 1)))) (fun _ i _ => n - (intOf i).toNat)
    case atStart => exact ⟨0, Nat.zero_le _, rfl, HO⟩
    case round =>
      obtain ⟨j, hj, rfl, hR⟩ := hrel
      have hB := hR.out.below
      have hsz := hB.size
      have hgl := gapK_len L m (j + 1)
      by_cases hlt : j < n - 1
      case neg =>
        have hge : ¬ ((j : Int) < ((n - 1 : Nat) : Int)) := by omega
        have hjn : (gapK L m (j + 1)) = gapK L m n := by
          by_cases h0 : n = 0
          · subst h0
            obtain rfl : j = 0 := by omega
            rfl
          · rw [show j + 1 = n by omega]
        rw [hjn] at hR hgl
        have hR2 := Lib.hid (NumPost.of (e := .returned _) HB2.out rfl hR.out rfl (by omega))
        obtain ⟨oa, oc, hov⟩ := own_slice hR.out.row
        subst hov
        have hge2 : decide ((j : Int) < ((n - 1 : Nat) : Int)) = false := decide_eq_false hge
        clear hB hjn hR hgl
        go_wp2
        go_ret
        exact hR2.out
      case pos =>
      obtain ⟨Y, hY⟩ : ∃ Y, Y = gapK L m (j + 1) := ⟨_, rfl⟩
      rw [← hY] at hR hgl
      obtain ⟨oa, oc, hov⟩ := own_slice hR.out.row
      subst hov
      obtain ⟨gt, rfl, hgt, htz⟩ := HT.out (by omega)
      clear HT
      obtain ⟨a0, b0, c0, hr0⟩ := at_of_lt (L := L) (i := j) (by rw [Hn.out]; omega)
      obtain ⟨a1, b1, c1, hr1⟩ := at_of_lt (L := L) (i := j + 1) (by rw [Hn.out]; omega)
      have hat := stpK_at hr0 hr1 (n - 2 - j)
      rw [show j + 2 + (n - 2 - j) = n - 1 + 1 by omega] at hat
      obtain ⟨⟨k0, k1⟩, _⟩ := sok_at HS.out hr0
      obtain ⟨⟨k2, k3⟩, _⟩ := sok_at HS.out hr1
      have z0 : wr.cell? ⟨gt, j * 7, none⟩ = some (.int .i64 (a0)) := by rw [hB.cell (p := ⟨gt, j * 7, none⟩) (by show gt < _; omega)]; exact htz _ _ (by have := hat 0 (by omega); simpa using this)
      have z1 : wr.cell? ⟨gt, j * 7 + 1, none⟩ = some (.int .i64 (b0)) := by rw [hB.cell (p := ⟨gt, j * 7 + 1, none⟩) (by show gt < _; omega)]; exact htz _ _ (by have := hat 1 (by omega); simpa using this)
      have z2 : wr.cell? ⟨gt, j * 7 + 2, none⟩ = some (.int .i64 (c0)) := by rw [hB.cell (p := ⟨gt, j * 7 + 2, none⟩) (by show gt < _; omega)]; exact htz _ _ (by have := hat 2 (by omega); simpa using this)
      have z3 : wr.cell? ⟨gt, j * 7 + 3, none⟩ = some (.int .i64 (a1)) := by rw [hB.cell (p := ⟨gt, j * 7 + 3, none⟩) (by show gt < _; omega)]; exact htz _ _ (by have := hat 3 (by omega); simpa using this)
      have z4 : wr.cell? ⟨gt, j * 7 + 4, none⟩ = some (.int .i64 (b1)) := by rw [hB.cell (p := ⟨gt, j * 7 + 4, none⟩) (by show gt < _; omega)]; exact htz _ _ (by have := hat 4 (by omega); simpa using this)
      have z5 : wr.cell? ⟨gt, j * 7 + 5, none⟩ = some (.int .i64 (c1)) := by rw [hB.cell (p := ⟨gt, j * 7 + 5, none⟩) (by show gt < _; omega)]; exact htz _ _ (by have := hat 5 (by omega); simpa using this)
      have z6 : wr.cell? ⟨gt, j * 7 + 6, none⟩ = some (.int .i64 ((j : Int) + 1)) := by rw [hB.cell (p := ⟨gt, j * 7 + 6, none⟩) (by show gt < _; omega)]; exact htz _ _ (by have := hat 6 (by omega); simpa using this)
      have H0 := Lib.hid hr0
      have H1 := Lib.hid hr1
      have q0 : (0 : Int) ≤ (j : Int) := by omega
      have q1 : (j : Int) < ((n - 1 : Nat) : Int) := by omega
      have q2 : decide ((j : Int) < ((n - 1 : Nat) : Int)) = true := decide_eq_true q1
      have HY := Lib.hid hY
      have hgw : gt < wr.heap.size := by omega
      clear hr0 hr1 hat hB htz hY
      go_wp2_with fail
      go_at_call 63
      refine (dur_any a0 b0 c0 a1 b1 c1 ((j : Int) + 1) _ k0 k1 k2 k3).mono ?_
      rintro e v1 ⟨rfl, hb1⟩
      have sz1 : wr.heap.size + 1 ≤ v1.heap.size := by have hh := hb1.size; simp at hh; omega
      have st1 : Below wr.heap.size wr v1 := Below.trans (by go_grown) (hb1.mono (by simp))
      have c1_0 : v1.cell? ⟨wr.heap.size, 0, none⟩ = some (.int .i64 a0) := by rw [(bcell hb1).1 _ _ (by simp)]; first | (rw [new_at (by simp)]; rfl) | simp
      have c1_1 : v1.cell? ⟨wr.heap.size, 1, none⟩ = some (.int .i64 b0) := by rw [(bcell hb1).1 _ _ (by simp)]; first | (rw [new_at (by simp)]; rfl) | simp
      have c1_2 : v1.cell? ⟨wr.heap.size, 2, none⟩ = some (.int .i64 c0) := by rw [(bcell hb1).1 _ _ (by simp)]; first | (rw [new_at (by simp)]; rfl) | simp
      have c1_3 : v1.cell? ⟨wr.heap.size, 3, none⟩ = some (.int .i64 a1) := by rw [(bcell hb1).1 _ _ (by simp)]; first | (rw [new_at (by simp)]; rfl) | simp
      have c1_4 : v1.cell? ⟨wr.heap.size, 4, none⟩ = some (.int .i64 b1) := by rw [(bcell hb1).1 _ _ (by simp)]; first | (rw [new_at (by simp)]; rfl) | simp
      have c1_5 : v1.cell? ⟨wr.heap.size, 5, none⟩ = some (.int .i64 c1) := by rw [(bcell hb1).1 _ _ (by simp)]; first | (rw [new_at (by simp)]; rfl) | simp
      have c1_6 : v1.cell? ⟨wr.heap.size, 6, none⟩ = some (.int .i64 ((j : Int) + 1)) := by rw [(bcell hb1).1 _ _ (by simp)]; first | (rw [new_at (by simp)]; rfl) | simp
      have B1 : Hid (Below wr.heap.size wr v1) := st1
      have d1_0 : wr.heap.size < v1.heap.size := by omega
      have e1_0 : wr.heap.size ≠ v1.heap.size := by omega
      clear st1 hb1
      clear z0 z1 z2 z3 z4 z5 z6
      
      by_cases hc : m < a1 - a0
      case pos =>
        have hN : Hid (gapK L m (j + 2) = Y ++ [(j : Int) + 1]) := by show _ = _; rw [gapK_take H0.out H1.out hc, ← HY.out]; rfl
        have HF0 := Lib.hid (hR.out.grow B1.out)
        have Hw := Lib.hid HF0.out.row
        have hc2 : decide (m < a1 - a0) = true := decide_eq_true hc
        clear hR
        go_wp2_with (at_builtin; refine wpList_append_lies _ rfl _ _ 35 rfl v2.heap.size 3 iI (.int .i64 0) 1 8 Try.underlying35 I.out.1 I.out.2.1 I.out.2.2.1 I.out.2.2.2 rfl (by decide) _ Y.length (ints Y) rfl (Hw.out.alloc _) ⟨v1.heap.size, 0, none⟩ 1 1 (ints [(j : Int) + 1]) rfl rfl ?d0 (ints_one _) (by decide) ?d1 ?d2 ?d3 _ rfl ?_)
        case d0 => exact fun a u ha => cells_new _ [(j : Int) + 1] 3 rfl a u ha
        case d1 => unfold maxLen; omega
        case d2 => omega
        case d3 => simp; omega
        intro g4 cap4 w4 hown4 hgrow4 hat4 hlt4
        have HF : Hid (OwnR 3 1 v2 w4 (.slice (some ⟨g4, 0, none⟩) (Y.length + 1) cap4) (gapK L m (j + 1 + 1)).length (gapK L m (j + 1 + 1))) := by
          show OwnR _ _ _ _ _ _ _
          rw [show j + 1 + 1 = j + 2 from rfl, hN.out, show (Y ++ [(j : Int) + 1]).length = Y.length + 1 by simp]
          exact (HF0.out.grow ((Below.refl _ _).alloc (Nat.le_refl _) _)).app hgrow4 hown4
        clear hown4 hgrow4 hat4 hlt4 Hw hN HF0 c1_0 c1_1 c1_2 c1_3 c1_4 c1_5 c1_6
        go_wp2_with fail
        go_roundw
        case rel => exact ⟨j + 1, by omega, by go_num, HF⟩
        case measure => simp [intOf]; omega
      case neg =>
        have hN : Hid (gapK L m (j + 2) = Y) := by show _ = _; rw [gapK_skip H0.out H1.out hc, ← HY.out]
        have HF : Hid (OwnR 3 1 v2 v1 (.slice oa Y.length oc) (gapK L m (j + 1 + 1)).length (gapK L m (j + 1 + 1))) := by
          show OwnR _ _ _ _ _ _ _
          rw [show j + 1 + 1 = j + 2 from rfl, hN.out]
          exact hR.out.grow B1.out
        have hc2 : decide (m < a1 - a0) = false := decide_eq_false hc
        clear hR hN
        go_wp2_with fail
        go_roundw
        case rel => exact ⟨j + 1, by omega, by go_num, HF⟩
        case measure => simp [intOf]; omega

set_option maxRecDepth 100000 in
set_option maxHeartbeats 4000000 in
theorem sgaps_any (lo hi n : Nat) (v : Value) (L : List Sm) (w : World) (hL : L.length = n) (hr : Row 3 w lo hi v n (flat L)) (hh : hi ≤ w.heap.size) (m : Int) :
    Calls Try.prog 39 #[v, .int .i64 m] w (NumPost (gapL L m) w) := by
  have HR := Lib.hid hr
  obtain ⟨ad, cp, rfl, hn, hop⟩ := hr.opened
  have Hn := Lib.hid hL
  have H := Lib.hid hop
  obtain ⟨iI, hi0, hz0, hz1, hz2⟩ := info_parts Try.info3s
  have I := Lib.hid (And.intro hi0 (And.intro hz0 (And.intro hz1 hz2)))
  clear hi0 hz0 hz1 hz2
  obtain ⟨v0, hv0⟩ : ∃ v0, v0 = w.alloc (.cells #[] 3) := ⟨_, rfl⟩
  have hO0 := OwnR.lit0 3 1 w
  rw [← hv0] at hO0
  have HO0 := Lib.hid hO0
  have hs0 := hO0.below.size
  have hl0 : w.heap.size < v0.heap.size := by rw [hv0]; simp
  clear hO0
  cases hS : sok L with
  | false =>
    have he : gapL L m = [] := by unfold gapL; rw [hS]; simp
    rw [he]
    clear he hr hop
    go_enter Try.func39, Try.ntmps39
    go_wp2_with fail
    rw [← hv0]
    go_at_call 24
    refine (ssok_any lo hi n _ L _ hL (HR.out.below HO0.out.below hh) (by omega)).mono ?_
    rw [hS]
    rintro e v1 ⟨rfl, hb1⟩
    have HB := Lib.hid (HO0.out.below.trans (hb1.mono HO0.out.below.size))
    clear hb1 hv0
    go_wp2_with fail
    go_ret
    exact ⟨_, rfl, Row.empty 1 _ _ _ _ _, HB.out⟩
  | true =>
    have he : gapL L m = gapK L m n := by unfold gapL; rw [if_pos hS, hL]
    rw [he]
    have h120 : n ≤ 120 := by have := (sok_parts hS).1; omega
    clear he hr hop
    go_enter Try.func39, Try.ntmps39
    go_wp2_with fail
    rw [← hv0]
    go_at_call 24
    refine (ssok_any lo hi n _ L _ hL (HR.out.below HO0.out.below hh) (by omega)).mono ?_
    rw [hS]
    rintro e v1 ⟨rfl, hb1⟩
    have HO1 : Hid (OwnR 3 1 w v1 (.slice (some ⟨w.heap.size, 0, none⟩) 0 0) (gapK L m 1).length (gapK L m 1)) := HO0.out.grow hb1
    have HS := Lib.hid hS
    clear hS hb1 HO0 hL hv0
    go_wp2_with fail
    go_loopw [5, 6] (fun v i wr => ∃ j : Nat, (j + 1 ≤ n ∨ j = 0) ∧ i = .int .i64 ((j : Int) + 1) ∧ Hid (OwnR 3 1 w wr v (gapK L m (j + 1)).length (gapK L m (j + 1)))) (fun _ i _ => n + 1 - (intOf i).toNat)
    case atStart => exact ⟨0, .inr rfl, rfl, HO1⟩
    case round =>
      obtain ⟨j, hj, rfl, hR⟩ := hrel
      have hB := hR.out.below
      have hsz := hB.size
      have hgl := gapK_len L m (j + 1)
      by_cases hlt : j + 1 < n
      case neg =>
        have hge : ¬ ((j : Int) + 1 < (n : Int)) := by omega
        have hjn : (gapK L m (j + 1)) = gapK L m n := by
          by_cases h0 : n = 0
          · subst h0
            obtain rfl : j = 0 := by omega
            rfl
          · rw [show j + 1 = n by omega]
        rw [hjn] at hR hgl
        have hR2 := Lib.hid (NumPost.of (e := .returned _) (Below.refl _ _) rfl hR.out rfl (by omega))
        obtain ⟨oa, oc, hov⟩ := own_slice hR.out.row
        subst hov
        clear hB hjn hR hgl
        go_wp2
        go_ret
        exact hR2.out
      case pos =>
      obtain ⟨Y, hY⟩ : ∃ Y, Y = gapK L m (j + 1) := ⟨_, rfl⟩
      rw [← hY] at hR hgl
      obtain ⟨oa, oc, hov⟩ := own_slice hR.out.row
      subst hov
      obtain ⟨g, rfl, hg, hz⟩ := H.out (by omega)
      clear H
      obtain ⟨a0, b0, c0, hr0⟩ := at_of_lt (L := L) (i := j) (by rw [Hn.out]; omega)
      obtain ⟨r0, r1, r2⟩ := flat_at L (j) _ hr0
      have H0 : Hid (L[j]? = some (a0, b0, c0)) := hr0
      have z00 : wr.cell? ⟨g, (j) * 3, none⟩ = some (.int .i64 a0) := by rw [hB.cell (p := ⟨g, (j) * 3, none⟩) (by show g < _; omega)]; exact hz _ _ r0
      have z01 : wr.cell? ⟨g, (j) * 3 + 1, none⟩ = some (.int .i64 b0) := by rw [hB.cell (p := ⟨g, (j) * 3 + 1, none⟩) (by show g < _; omega)]; exact hz _ _ r1
      have z02 : wr.cell? ⟨g, (j) * 3 + 2, none⟩ = some (.int .i64 c0) := by rw [hB.cell (p := ⟨g, (j) * 3 + 2, none⟩) (by show g < _; omega)]; exact hz _ _ r2
      clear r0 r1 r2 hr0
      obtain ⟨a1, b1, c1, hr1⟩ := at_of_lt (L := L) (i := j + 1) (by rw [Hn.out]; omega)
      obtain ⟨r0, r1, r2⟩ := flat_at L (j + 1) _ hr1
      have H1 : Hid (L[j + 1]? = some (a1, b1, c1)) := hr1
      have z10 : wr.cell? ⟨g, (j + 1) * 3, none⟩ = some (.int .i64 a1) := by rw [hB.cell (p := ⟨g, (j + 1) * 3, none⟩) (by show g < _; omega)]; exact hz _ _ r0
      have z11 : wr.cell? ⟨g, (j + 1) * 3 + 1, none⟩ = some (.int .i64 b1) := by rw [hB.cell (p := ⟨g, (j + 1) * 3 + 1, none⟩) (by show g < _; omega)]; exact hz _ _ r1
      have z12 : wr.cell? ⟨g, (j + 1) * 3 + 2, none⟩ = some (.int .i64 c1) := by rw [hB.cell (p := ⟨g, (j + 1) * 3 + 2, none⟩) (by show g < _; omega)]; exact hz _ _ r2
      clear r0 r1 r2 hr1
      obtain ⟨⟨k0, k1⟩, _⟩ := sok_at HS.out H0.out
      obtain ⟨⟨k2, k3⟩, _⟩ := sok_at HS.out H1.out
      have HY := Lib.hid hY
      have p0 : (0 : Int) ≤ (j : Int) := by omega
      have p1 : (j : Int) + 1 < (n : Int) := by omega
      have p2 : (j : Int) < (n : Int) := by omega
      have p3 : (n : Int) ≤ 120 := by omega
      have p4 : (0 : Int) ≤ (j : Int) + 1 := by omega
      have p5 : ((j : Int) + 1).toNat = j + 1 := by omega
      have e1 : IntKind.i64.wrap ((j : Int) + 1 - 1) = (j : Int) := by rw [IntWalk.i64_in _ (by omega)]; omega
      have e2 : IntKind.i64.wrap (j : Int) = (j : Int) := IntWalk.i64_in _ (by omega)
      have e3 : IntKind.i64.wrap (a1 - a0) = a1 - a0 := IntWalk.i64_in _ (by omega)
      clear hB hz hY
      by_cases hc : m < a1 - a0
      case pos =>
        have hN : Hid (gapK L m (j + 2) = Y ++ [(j : Int) + 1]) := by show _ = _; rw [gapK_take H0.out H1.out hc, ← HY.out]; rfl
        have hc2 : decide (m < a1 - a0) = true := decide_eq_true hc
        have HF0 : ∀ nq, Hid (OwnR 3 1 w (wr.drewN nq) (.slice oa Y.length oc) Y.length Y) := fun nq => hR.out.grow (below_drewN _ _)
        clear hR
        go_wp2_with fail
        go_quiet (fail)
        go_wp2_with (at_builtin; refine wpList_append_lies _ rfl _ _ 35 rfl w.heap.size 3 iI (.int .i64 0) 1 8 Try.underlying35 I.out.1 I.out.2.1 I.out.2.2.1 I.out.2.2.2 rfl (by decide) _ Y.length (ints Y) rfl ((HF0 _).out.row.alloc _) ⟨wr.heap.size, 0, none⟩ 1 1 (ints [(j : Int) + 1]) rfl rfl ?d0 (ints_one _) (by decide) ?d1 ?d2 ?d3 _ rfl ?_)
        case d0 => exact fun a u ha => cells_new _ [(j : Int) + 1] 3 rfl a u ha
        case d1 => unfold maxLen; omega
        case d2 => omega
        case d3 => simp; omega
        intro g4 cap4 w4 hown4 hgrow4 hat4 hlt4
        have HF : Hid (OwnR 3 1 w w4 (.slice (some ⟨g4, 0, none⟩) (Y.length + 1) cap4) (gapK L m (j + 1 + 1)).length (gapK L m (j + 1 + 1))) := by
          show OwnR _ _ _ _ _ _ _
          rw [show j + 1 + 1 = j + 2 from rfl, hN.out, show (Y ++ [(j : Int) + 1]).length = Y.length + 1 by simp]
          exact ((HF0 _).out.grow ((Below.refl _ _).alloc (Nat.le_refl _) _)).app hgrow4 hown4
        clear hown4 hgrow4 hat4 hlt4 hN HF0
        go_wp2_with fail
        go_roundw
        case rel => exact ⟨j + 1, .inl (by omega), by go_num, HF⟩
        case measure => simp [intOf]; omega
      case neg =>
        have hN : Hid (gapK L m (j + 2) = Y) := by show _ = _; rw [gapK_skip H0.out H1.out hc, ← HY.out]
        have hc2 : decide (m < a1 - a0) = false := decide_eq_false hc
        have HF0 : ∀ nq, Hid (OwnR 3 1 w (wr.drewN nq) (.slice oa Y.length oc) Y.length Y) := fun nq => hR.out.grow (below_drewN _ _)
        clear hR
        go_wp2_with fail
        go_quiet (fail)
        go_wp2_with fail
        go_roundw
        case rel => exact ⟨j + 1, .inl (by omega), by go_num, by rw [show j + 1 + 1 = j + 2 from rfl, hN.out]; exact HF0 _⟩
        case measure => simp [intOf]; omega

end Go.Proofs.Ytadanckhmjgphaa
