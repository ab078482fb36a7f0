/- Thin of the program and of the model. -/
import Derived.Test.YtadanckhmjgphaaS4
namespace Go.Proofs.Ytadanckhmjgphaa
open Go.RowKit


def SamPost (Z : List Sm) (ok : Bool) (w : World) (e : Ending) (w' : World) : Prop := ∃ rv, e = .returned (.tuple #[rv, .bool ok]) ∧ Row 3 w' w.heap.size w'.heap.size rv Z.length (flat Z) ∧ Below w.heap.size w w'
theorem flat_one (r : Sm) : flat [r] = [r.1, r.2.1, r.2.2] := rfl
theorem SamPost.of {Z : List Sm} {w w1 w' : World} {e : Ending} {rv : Value} {n : Nat} {ok : Bool} (hb : Below w.heap.size w w1) (he : e = .returned (.tuple #[rv, .bool ok])) (hO : OwnR 27 3 w1 w' rv n (flat Z)) (hn : n = Z.length) (hl : Z.length ≤ 1000) : SamPost Z ok w e w' := by
  subst hn
  exact ⟨rv, he, (hO.toRow (by omega)).wide hb.size (Nat.le_refl _), hb.trans (hO.below.mono hb.size)⟩
theorem thin_no {L : List Sm} {e : Int} (h : (sok L && inB e 1 1000000000) = false) : thinL L e = [] := by
  unfold thinL
  rw [if_neg]
  rintro ⟨h1, h2, h3⟩
  rw [h1, inB_true h2 h3] at h
  simp at h
theorem thin_yes {L : List Sm} {e : Int} (h1 : sok L = true) (h2 : 1 ≤ e) (h3 : e ≤ 1000000000) : thinL L e = thinK L e L.length := by
  unfold thinL
  rw [if_pos ⟨h1, h2, h3⟩]

set_option maxRecDepth 100000 in
set_option maxHeartbeats 4000000 in
theorem sthin_no (lo hi n : Nat) (v : Value) (L : List Sm) (w : World) (hL : L.length = n) (hr : Row 3 w lo hi v n (flat L)) (hh : hi ≤ w.heap.size) (m : Int) (hS : (sok L && inB m 1 1000000000) = false) :
    Calls Try.prog 23 #[v, .int .i64 m] w (SamPost [] false w) := by
  have HR := Lib.hid hr
  obtain ⟨ad, cp, rfl, hn, hop⟩ := hr.opened
  have Hn := Lib.hid hL
  have H := Lib.hid hop
  obtain ⟨v0, hv0⟩ : ∃ v0, v0 = w.alloc (.cells #[] 27) := ⟨_, rfl⟩
  have hO0 := OwnR.lit0 27 3 w
  rw [← hv0] at hO0
  have HO0 := Lib.hid hO0
  have hs0 := hO0.below.size
  have hl0 : w.heap.size < v0.heap.size := by rw [hv0]; simp
  clear hO0 hr hop
  cases h1 : sok L with
  | false =>
    clear hS
    go_enter Try.func23, Try.ntmps23
    go_wp2_with fail
    rw [← hv0]
    go_at_call 24
    refine (ssok_any lo hi n _ L _ hL (HR.out.below HO0.out.below hh) (by omega)).mono ?_
    rw [h1]
    rintro e v1 ⟨rfl, hb1⟩
    have HB := Lib.hid (HO0.out.below.trans (hb1.mono HO0.out.below.size))
    clear hb1 hv0
    go_wp2_with fail
    go_ret2
    exact ⟨_, rfl, Row.empty 3 _ _ _ _ _, HB.out⟩
  | true =>
    have h2 : inB m 1 1000000000 = false := by rw [h1, Bool.true_and] at hS; exact hS
    clear hS
    go_enter Try.func23, Try.ntmps23
    go_wp2_with fail
    rw [← hv0]
    go_at_call 24
    refine (ssok_any lo hi n _ L _ hL (HR.out.below HO0.out.below hh) (by omega)).mono ?_
    rw [h1]
    rintro e v1 ⟨rfl, hb1⟩
    have HB := Lib.hid (HO0.out.below.trans (hb1.mono HO0.out.below.size))
    clear hb1 hv0
    go_wp2_with fail
    go_at_call 61
    refine (in_any m 1 1000000000 _).mono ?_
    rw [h2]
    rintro e w' ⟨rfl, rfl⟩
    go_wp2_with fail
    go_ret2
    exact ⟨_, rfl, Row.empty 3 _ _ _ _ _, HB.out⟩

set_option maxRecDepth 100000 in
set_option maxHeartbeats 4000000 in
theorem ithin_no (lo hi n : Nat) (v : Value) (L : List Sm) (w : World) (hL : L.length = n) (hr : Row 3 w lo hi v n (flat L)) (hh : hi ≤ w.heap.size) (m : Int) (hS : (sok L && inB m 1 1000000000) = false) :
    Calls Try.prog 18 #[v, .int .i64 m] w (SamPost [] false w) := by
  have HR := Lib.hid hr
  obtain ⟨ad, cp, rfl, hn, hop⟩ := hr.opened
  have Hn := Lib.hid hL
  have H := Lib.hid hop
  clear hr hop
  cases h1 : sok L with
  | false =>
    clear hS
    go_enter Try.func18, Try.ntmps18
    go_wp2_with fail
    go_at_call 32
    refine (isok_any lo hi n _ L _ hL HR.out hh).mono ?_
    rw [h1]
    rintro e v1 ⟨rfl, hb1⟩
    have HB := Lib.hid hb1
    clear hb1
    go_wp2_with fail
    go_ret2
    exact ⟨_, rfl, Row.empty 3 _ _ _ _ _, HB.out⟩
  | true =>
    have h2 : inB m 1 1000000000 = false := by rw [h1, Bool.true_and] at hS; exact hS
    clear hS
    by_cases h3 : m < 1
    · have d3 : decide (m < 1) = true := decide_eq_true h3
      clear h2
      go_enter Try.func18, Try.ntmps18
      go_wp2_with fail
      go_at_call 32
      refine (isok_any lo hi n _ L _ hL HR.out hh).mono ?_
      rw [h1]
      rintro e v1 ⟨rfl, hb1⟩
      have HB := Lib.hid hb1
      clear hb1
      go_wp2_with fail
      go_ret2
      exact ⟨_, rfl, Row.empty 3 _ _ _ _ _, HB.out⟩
    · have d3 : decide (m < 1) = false := decide_eq_false h3
      have h4 : 1000000000 < m := by rcases Int.lt_or_le 1000000000 m with h | h
                                     · exact h
                                     · rw [inB_true (by omega) h] at h2; exact absurd h2 (by simp)
      have d4 : decide (1000000000 < m) = true := decide_eq_true h4
      clear h2
      go_enter Try.func18, Try.ntmps18
      go_wp2_with fail
      go_at_call 32
      refine (isok_any lo hi n _ L _ hL HR.out hh).mono ?_
      rw [h1]
      rintro e v1 ⟨rfl, hb1⟩
      have HB := Lib.hid hb1
      clear hb1
      go_wp2_with fail
      go_ret2
      exact ⟨_, rfl, Row.empty 3 _ _ _ _ _, HB.out⟩

set_option maxRecDepth 100000 in
set_option maxHeartbeats 4000000 in
theorem sthin_yes (lo hi n : Nat) (v : Value) (L : List Sm) (w : World) (hL : L.length = n) (hr : Row 3 w lo hi v n (flat L)) (hh : hi ≤ w.heap.size) (m : Int) (h1 : sok L = true) (h2 : 1 ≤ m) (h3 : m ≤ 1000000000) :
    Calls Try.prog 23 #[v, .int .i64 m] w (SamPost (thinK L m n) true w) := by
  have HR := Lib.hid hr
  obtain ⟨ad, cp, rfl, hn, hop⟩ := hr.opened
  have Hn := Lib.hid hL
  have H := Lib.hid hop
  obtain ⟨iI, hi0, hz0, hz1, hz2⟩ := info_parts Try.info27s
  have I := Lib.hid (And.intro hi0 (And.intro hz0 (And.intro hz1 hz2)))
  clear hi0 hz0 hz1 hz2
  obtain ⟨v0, hv0⟩ : ∃ v0, v0 = w.alloc (.cells #[] 27) := ⟨_, rfl⟩
  have hO0 := OwnR.lit0 27 3 w
  rw [← hv0] at hO0
  have HO0 := Lib.hid hO0
  have hs0 := hO0.below.size
  have hl0 : w.heap.size < v0.heap.size := by rw [hv0]; simp
  clear hO0
  have h120 : n ≤ 120 := by have := (sok_parts h1).1; omega
  have d3 : decide (m < 1) = false := decide_eq_false (by omega)
  have d4 : decide (1000000000 < m) = false := decide_eq_false (by omega)
  have hin : inB m 1 1000000000 = true := inB_true h2 h3
  clear hr hop
  go_enter Try.func23, Try.ntmps23
  go_wp2_with fail
  rw [← hv0]
  go_at_call 24
  refine (ssok_any lo hi n _ L _ hL (HR.out.below HO0.out.below hh) (by omega)).mono ?_
  rw [h1]
  rintro e v1 ⟨rfl, hb1⟩
  have HO1 : Hid (OwnR 27 3 w v1 (.slice (some ⟨w.heap.size, 0, none⟩) 0 0) (thinK L m 0).length (flat (thinK L m 0))) := HO0.out.grow hb1
  have HS := Lib.hid h1
  clear h1 hb1 HO0 hL hv0
  go_wp2_with fail
  go_at_call 61
  refine (in_any m 1 1000000000 _).mono ?_
  rw [hin]
  rintro e w' ⟨rfl, rfl⟩
  clear hin
  go_wp2_with fail
  go_loopw [6, 7] (fun v i wr => ∃ k : Nat, k ≤ n ∧ i = .int .i64 (k : Int) ∧ Hid (OwnR 27 3 w wr v (thinK L m k).length (flat (thinK L m k)))) (fun _ i _ => n - (intOf i).toNat)
  case atStart => exact ⟨0, Nat.zero_le _, rfl, HO1⟩
  case round =>
    obtain ⟨k, hk, rfl, hR⟩ := hrel
    have hB := hR.out.below
    have hsz := hB.size
    have htl := thinK_len L m k
    by_cases hlt : k < n
    case neg =>
      have hge : ¬ ((k : Int) < (n : Int)) := by omega
      obtain rfl : k = n := by omega
      have hR2 := Lib.hid (SamPost.of (e := .returned _) (ok := true) (Below.refl _ _) rfl hR.out rfl (by omega))
      obtain ⟨oa, oc, hov⟩ := own_slice hR.out.row
      subst hov
      clear hB hR htl
      go_wp2
      go_ret2
      exact hR2.out
    case pos =>
    have hlast : 0 < k → ∃ ta tb tc : Int, (thinK L m k)[(thinK L m k).length - 1]? = some (ta, tb, tc) ∧ (thinK L m k).getLastD s0 = (ta, tb, tc) := fun h => thinK_last h
    have hpos := thinK_pos L m k
    have hmem := thinK_mem L m k
    obtain ⟨Y, hY⟩ : ∃ Y, Y = thinK L m k := ⟨_, rfl⟩
    rw [← hY] at hR htl hlast hpos hmem
    obtain ⟨oa, oc, hov⟩ := own_slice hR.out.row
    subst hov
    obtain ⟨g, rfl, hg, hz⟩ := H.out (by omega)
    clear H
    obtain ⟨a, b, c, hr0⟩ := at_of_lt (L := L) (i := k) (by rw [Hn.out]; omega)
    obtain ⟨r0, r1, r2⟩ := flat_at L (k) _ hr0
    have H0 : Hid (L[k]? = some (a, b, c)) := hr0
    have z00 : wr.cell? ⟨g, (k) * 3, none⟩ = some (.int .i64 a) := by rw [hB.cell (p := ⟨g, (k) * 3, none⟩) (by show g < _; omega)]; exact hz _ _ r0
    have z01 : wr.cell? ⟨g, (k) * 3 + 1, none⟩ = some (.int .i64 b) := by rw [hB.cell (p := ⟨g, (k) * 3 + 1, none⟩) (by show g < _; omega)]; exact hz _ _ r1
    have z02 : wr.cell? ⟨g, (k) * 3 + 2, none⟩ = some (.int .i64 c) := by rw [hB.cell (p := ⟨g, (k) * 3 + 2, none⟩) (by show g < _; omega)]; exact hz _ _ r2
    clear r0 r1 r2 hr0
    obtain ⟨⟨k0, k1⟩, _⟩ := sok_at HS.out H0.out
    have HY := Lib.hid hY
    have HZ := Lib.hid hz
    have HB := Lib.hid hB
    have p0 : (0 : Int) ≤ (k : Int) := by omega
    have p2 : (k : Int) < (n : Int) := by omega
    have p3 : (n : Int) ≤ 120 := by omega
    clear hB hz hY
    by_cases hk0 : k = 0
    case pos =>
      have f0 : ((k : Int) == 0) = true := by rw [hk0]; rfl
      have f1 : (k == 0) = true := by rw [hk0]; rfl
      have HK0 := Lib.hid hk0
      clear hk0 hlast hpos hmem
      have hN : Hid (thinK L m (k + 1) = Y ++ [(a, b, c)]) := by show _ = _; rw [thinK_take H0.out (.inl HK0.out), ← HY.out]
      have HF0 : ∀ nq, Hid (OwnR 27 3 w (wr.drewN nq) (.slice oa Y.length oc) Y.length (flat Y)) := fun nq => hR.out.grow (below_drewN _ _)
      clear hR
      go_wp2_with fail
      go_quiet (fail)
      go_wp2_with (at_builtin; refine wpList_append_lies _ rfl _ _ 24 rfl w.heap.size 27 iI (.agg #[.int .i64 0, .int .i64 0, .int .i64 0]) 3 24 Try.underlying24 I.out.1 I.out.2.1 I.out.2.2.1 I.out.2.2.2 rfl (by decide) _ Y.length (ints (flat Y)) rfl ((HF0 _).out.row.alloc _) ⟨wr.heap.size, 0, none⟩ 1 1 (ints [a, b, c]) rfl rfl ?d0 (ints_one _) (by decide) ?d1 ?d2 ?d3 _ rfl ?_)
      case d0 => exact fun a_ u ha => cells_new _ [a, b, c] 27 rfl a_ u ha
      case d1 => unfold maxLen; omega
      case d2 => omega
      case d3 => simp; omega
      intro g4 cap4 w4 hown4 hgrow4 hat4 hlt4
      have HF : Hid (OwnR 27 3 w w4 (.slice (some ⟨g4, 0, none⟩) (Y.length + 1) cap4) (thinK L m (k + 1)).length (flat (thinK L m (k + 1)))) := by
        show OwnR _ _ _ _ _ _ _
        rw [hN.out, show (Y ++ [(a, b, c)]).length = Y.length + 1 by simp, flat_app, flat_one]
        exact ((HF0 _).out.grow ((Below.refl _ _).alloc (Nat.le_refl _) _)).app hgrow4 hown4
      clear hown4 hgrow4 hat4 hlt4 hN HF0
      go_wp2_with fail
      go_roundw
      case rel => exact ⟨k + 1, by omega, by go_num, HF⟩
      case measure => simp [intOf]; omega
    case neg =>
      have f0 : ((k : Int) == 0) = false := by simp [hk0]
      have f1 : (k == 0) = false := by simp [hk0]
      have HK0 := Lib.hid hk0
      obtain ⟨ta, tb, tc, ht, htl2⟩ := hlast (by omega)
      have hYp := hpos (by omega)
      obtain ⟨t0, t1, t2⟩ := flat_at Y _ _ ht
      have htm := hmem (by rw [Hn.out]; omega) _ (List.mem_of_getElem? ht)
      obtain ⟨tq, htq⟩ := List.getElem?_of_mem htm
      obtain ⟨⟨u0, u1⟩, _⟩ := sok_at HS.out htq
      have HT := Lib.hid htl2
      obtain ⟨yl, hyl⟩ : ∃ yl, Y.length = yl + 1 := ⟨Y.length - 1, by omega⟩
      have hown := hR.out.row.form (by omega)
      obtain ⟨og, oc', hsl, _⟩ := hown
      obtain ⟨rfl, rfl⟩ : oa = some ⟨og, 0, none⟩ ∧ oc = oc' := by simpa using hsl
      have y0 : wr.cell? ⟨og, yl * 3, none⟩ = some (.int .i64 ta) := by
        rw [hR.out.row.cellAt _ (by omega)]
        rw [hyl, show yl + 1 - 1 = yl by omega] at t0
        exact ints_at t0
      have hog := (hR.out.row.lt og rfl).2
      
      clear t0 t1 t2 htm htq hsl hlast hpos hmem ht htl2 hk0
      have HYL := Lib.hid hyl
      have w1 : IntKind.i64.wrap ((Y.length : Int) - 1) = (yl : Int) := by rw [IntWalk.i64_in _ (by omega)]; omega
      have w2 : (yl : Int) < (Y.length : Int) := by omega
      have w3 : (0 : Int) ≤ (yl : Int) := by omega
      have w4' : IntKind.i64.wrap (a - ta) = a - ta := IntWalk.i64_in _ (by omega)
      have w5 : IntKind.i64.wrap ((n : Int) - 1) = (n : Int) - 1 := IntWalk.i64_in _ (by omega)
      clear hyl
      by_cases hke : k + 1 = n
      case pos =>
        have g0 : ((k : Int) == (n : Int) - 1) = true := by simp; omega
        have HKE := Lib.hid hke
        clear hke
        have hN : Hid (thinK L m (k + 1) = Y ++ [(a, b, c)]) := by show _ = _; rw [thinK_take H0.out (.inr (.inl (by rw [Hn.out]; exact HKE.out))), ← HY.out]
        have HF0 : ∀ nq, Hid (OwnR 27 3 w (wr.drewN nq) (.slice (some ⟨og, 0, none⟩) Y.length oc) Y.length (flat Y)) := fun nq => hR.out.grow (below_drewN _ _)
        clear hR
        go_wp2_with fail
        go_quiet (fail)
        go_wp2_with (at_builtin; refine wpList_append_lies _ rfl _ _ 24 rfl w.heap.size 27 iI (.agg #[.int .i64 0, .int .i64 0, .int .i64 0]) 3 24 Try.underlying24 I.out.1 I.out.2.1 I.out.2.2.1 I.out.2.2.2 rfl (by decide) _ Y.length (ints (flat Y)) rfl ((HF0 _).out.row.alloc _) ⟨wr.heap.size, 0, none⟩ 1 1 (ints [a, b, c]) rfl rfl ?d0 (ints_one _) (by decide) ?d1 ?d2 ?d3 _ rfl ?_)
        case d0 => exact fun a_ u ha => cells_new _ [a, b, c] 27 rfl a_ u ha
        case d1 => unfold maxLen; omega
        case d2 => omega
        case d3 => simp; omega
        intro g4 cap4 w4 hown4 hgrow4 hat4 hlt4
        have HF : Hid (OwnR 27 3 w w4 (.slice (some ⟨g4, 0, none⟩) (Y.length + 1) cap4) (thinK L m (k + 1)).length (flat (thinK L m (k + 1)))) := by
          show OwnR _ _ _ _ _ _ _
          rw [hN.out, show (Y ++ [(a, b, c)]).length = Y.length + 1 by simp, flat_app, flat_one]
          exact ((HF0 _).out.grow ((Below.refl _ _).alloc (Nat.le_refl _) _)).app hgrow4 hown4
        clear hown4 hgrow4 hat4 hlt4 hN HF0
        go_wp2_with fail
        go_roundw
        case rel => exact ⟨k + 1, by omega, by go_num, HF⟩
        case measure => simp [intOf]; omega
      case neg =>
        have g0 : ((k : Int) == (n : Int) - 1) = false := by simp; omega
        have HKE := Lib.hid hke
        clear hke
        by_cases hc : m ≤ a - ta
        case pos =>
          have hc2 : decide (m ≤ a - ta) = true := decide_eq_true hc
          have HC := Lib.hid hc
          have hN : Hid (thinK L m (k + 1) = Y ++ [(a, b, c)]) := by show _ = _; rw [thinK_take H0.out (.inr (.inr (by rw [← HY.out, HT.out]; exact HC.out))), ← HY.out]
          have HF0 : ∀ nq, Hid (OwnR 27 3 w (wr.drewN nq) (.slice (some ⟨og, 0, none⟩) Y.length oc) Y.length (flat Y)) := fun nq => hR.out.grow (below_drewN _ _)
          clear hR
          go_wp2_with fail
          go_quiet (fail)
          go_wp2_with (at_builtin; refine wpList_append_lies _ rfl _ _ 24 rfl w.heap.size 27 iI (.agg #[.int .i64 0, .int .i64 0, .int .i64 0]) 3 24 Try.underlying24 I.out.1 I.out.2.1 I.out.2.2.1 I.out.2.2.2 rfl (by decide) _ Y.length (ints (flat Y)) rfl ((HF0 _).out.row.alloc _) ⟨wr.heap.size, 0, none⟩ 1 1 (ints [a, b, c]) rfl rfl ?d0 (ints_one _) (by decide) ?d1 ?d2 ?d3 _ rfl ?_)
          case d0 => exact fun a_ u ha => cells_new _ [a, b, c] 27 rfl a_ u ha
          case d1 => unfold maxLen; omega
          case d2 => omega
          case d3 => simp; omega
          intro g4 cap4 w4 hown4 hgrow4 hat4 hlt4
          have HF : Hid (OwnR 27 3 w w4 (.slice (some ⟨g4, 0, none⟩) (Y.length + 1) cap4) (thinK L m (k + 1)).length (flat (thinK L m (k + 1)))) := by
            show OwnR _ _ _ _ _ _ _
            rw [hN.out, show (Y ++ [(a, b, c)]).length = Y.length + 1 by simp, flat_app, flat_one]
            exact ((HF0 _).out.grow ((Below.refl _ _).alloc (Nat.le_refl _) _)).app hgrow4 hown4
          clear hown4 hgrow4 hat4 hlt4 hN HF0
          go_wp2_with fail
          go_roundw
          case rel => exact ⟨k + 1, by omega, by go_num, HF⟩
          case measure => simp [intOf]; omega
        case neg =>
          have hc2 : decide (m ≤ a - ta) = false := decide_eq_false hc
          have HC := Lib.hid hc
          clear hc
          have hN : Hid (thinK L m (k + 1) = Y) := by show _ = _; rw [thinK_skip H0.out (by rw [← HY.out, HT.out, Hn.out]; exact fun h => h.elim (fun h => HK0.out h) (fun h => h.elim (fun h => HKE.out h) (fun h => HC.out h))), ← HY.out]
          have HF0 : ∀ nq, Hid (OwnR 27 3 w (wr.drewN nq) (.slice (some ⟨og, 0, none⟩) Y.length oc) Y.length (flat Y)) := fun nq => hR.out.grow (below_drewN _ _)
          clear hR
          go_wp2_with fail
          
          
          go_quiet (fail)
          go_wp2_with fail
          go_roundw
          case rel => exact ⟨k + 1, by omega, by go_num, by rw [hN.out]; exact HF0 _⟩
          case measure => simp [intOf]; omega

set_option maxRecDepth 100000 in
set_option maxHeartbeats 4000000 in
theorem ithin_yes (lo hi n : Nat) (v : Value) (L : List Sm) (w : World) (hL : L.length = n) (hr : Row 3 w lo hi v n (flat L)) (hh : hi ≤ w.heap.size) (m : Int) (h1 : sok L = true) (h2 : 1 ≤ m) (h3 : m ≤ 1000000000) :
    Calls Try.prog 18 #[v, .int .i64 m] w (SamPost (thinK L m n) true w) := by
  have HR := Lib.hid hr
  obtain ⟨ad, cp, rfl, hn, hop⟩ := hr.opened
  have Hn := Lib.hid hL
  have H := Lib.hid hop
  obtain ⟨iI, hi0, hz0, hz1, hz2⟩ := info_parts Try.info27s
  have I := Lib.hid (And.intro hi0 (And.intro hz0 (And.intro hz1 hz2)))
  clear hi0 hz0 hz1 hz2
  have h120 : n ≤ 120 := by have := (sok_parts h1).1; omega
  have d3 : decide (m < 1) = false := decide_eq_false (by omega)
  have d4 : decide (1000000000 < m) = false := decide_eq_false (by omega)
  have hin : inB m 1 1000000000 = true := inB_true h2 h3
  clear hr hop
  go_enter Try.func18, Try.ntmps18
  go_wp2_with fail
  go_at_call 32
  refine (isok_any lo hi n _ L _ hL HR.out hh).mono ?_
  rw [h1]
  rintro e v1 ⟨rfl, hb1⟩
  have HO1 : Hid (OwnR 27 3 w v1 (.slice none 0 0) (thinK L m 0).length (flat (thinK L m 0))) := (OwnR.nil _ _ _).grow hb1
  have HS := Lib.hid h1
  clear h1 hb1 hL hin
  go_wp2_with fail
  go_loopw [6, 22] (fun v i wr => ∃ k : Nat, k ≤ n ∧ i = .int .i64 (k : Int) ∧ Hid (OwnR 27 3 w wr v (thinK L m k).length (flat (thinK L m k)))) (fun _ i _ => n - (intOf i).toNat)
  case atStart => exact ⟨0, Nat.zero_le _, rfl, HO1⟩
  case round =>
    obtain ⟨k, hk, rfl, hR⟩ := hrel
    have hB := hR.out.below
    have hsz := hB.size
    have htl := thinK_len L m k
    by_cases hlt : k < n
    case neg =>
      have hge : ¬ ((k : Int) < (n : Int)) := by omega
      obtain rfl : k = n := by omega
      have hR2 := Lib.hid (SamPost.of (e := .returned _) (ok := true) (Below.refl _ _) rfl hR.out rfl (by omega))
      obtain ⟨oa, oc, hov⟩ := own_slice hR.out.row
      subst hov
      clear hB hR htl
      go_wp2
      go_ret2
      exact hR2.out
    case pos =>
    have hlast : 0 < k → ∃ ta tb tc : Int, (thinK L m k)[(thinK L m k).length - 1]? = some (ta, tb, tc) ∧ (thinK L m k).getLastD s0 = (ta, tb, tc) := fun h => thinK_last h
    have hpos := thinK_pos L m k
    have hmem := thinK_mem L m k
    obtain ⟨Y, hY⟩ : ∃ Y, Y = thinK L m k := ⟨_, rfl⟩
    rw [← hY] at hR htl hlast hpos hmem
    obtain ⟨oa, oc, hov⟩ := own_slice hR.out.row
    subst hov
    obtain ⟨g, rfl, hg, hz⟩ := H.out (by omega)
    clear H
    obtain ⟨a, b, c, hr0⟩ := at_of_lt (L := L) (i := k) (by rw [Hn.out]; omega)
    obtain ⟨r0, r1, r2⟩ := flat_at L (k) _ hr0
    have H0 : Hid (L[k]? = some (a, b, c)) := hr0
    have z00 : wr.cell? ⟨g, (k) * 3, none⟩ = some (.int .i64 a) := by rw [hB.cell (p := ⟨g, (k) * 3, none⟩) (by show g < _; omega)]; exact hz _ _ r0
    have z01 : wr.cell? ⟨g, (k) * 3 + 1, none⟩ = some (.int .i64 b) := by rw [hB.cell (p := ⟨g, (k) * 3 + 1, none⟩) (by show g < _; omega)]; exact hz _ _ r1
    have z02 : wr.cell? ⟨g, (k) * 3 + 2, none⟩ = some (.int .i64 c) := by rw [hB.cell (p := ⟨g, (k) * 3 + 2, none⟩) (by show g < _; omega)]; exact hz _ _ r2
    clear r0 r1 r2 hr0
    obtain ⟨⟨k0, k1⟩, _⟩ := sok_at HS.out H0.out
    have HY := Lib.hid hY
    have HZ := Lib.hid hz
    have HB := Lib.hid hB
    have p0 : (0 : Int) ≤ (k : Int) := by omega
    have p2 : (k : Int) < (n : Int) := by omega
    have p3 : (n : Int) ≤ 120 := by omega
    clear hB hz hY
    obtain ⟨q1, hq1⟩ : ∃ q, q = (wr.alloc (.cells #[.int .i64 a, .int .i64 b, .int .i64 c] 27)) := ⟨_, rfl⟩
    have hb1 : Below wr.heap.size wr q1 := by rw [hq1]; go_grown
    have sz1 : wr.heap.size + 1 ≤ q1.heap.size := by rw [hq1]; simp
    have c1_0 : q1.cell? ⟨g, k * 3, none⟩ = some (.int .i64 a) := by rw [(bcell hb1).1 _ _ (by omega)]; exact z00
    have c1_1 : q1.cell? ⟨g, k * 3 + 1, none⟩ = some (.int .i64 b) := by rw [(bcell hb1).1 _ _ (by omega)]; exact z01
    have c1_2 : q1.cell? ⟨g, k * 3 + 2, none⟩ = some (.int .i64 c) := by rw [(bcell hb1).1 _ _ (by omega)]; exact z02
    have c1_3 : q1.cell? ⟨wr.heap.size, 0, none⟩ = some (.int .i64 a) := by rw [hq1, new_at (by simp)]; rfl
    have c1_4 : q1.cell? ⟨wr.heap.size, 1, none⟩ = some (.int .i64 b) := by rw [hq1, new_at (by simp)]; rfl
    have c1_5 : q1.cell? ⟨wr.heap.size, 2, none⟩ = some (.int .i64 c) := by rw [hq1, new_at (by simp)]; rfl
    have B1 : Hid (Below wr.heap.size wr q1) := Lib.hid hb1
    have d1_1 : wr.heap.size < q1.heap.size := by omega
    have e1_1 : wr.heap.size ≠ q1.heap.size := by omega
    by_cases hk0 : k = 0
    case pos =>
      have f0 : ((k : Int) == 0) = true := by rw [hk0]; rfl
      have f1 : (k == 0) = true := by rw [hk0]; rfl
      have HK0 := Lib.hid hk0
      clear hk0 hlast hpos hmem
      have hN : Hid (thinK L m (k + 1) = Y ++ [(a, b, c)]) := by show _ = _; rw [thinK_take H0.out (.inl HK0.out), ← HY.out]
      have HF0 : ∀ nq, Hid (OwnR 27 3 w (q1.drewN nq) (.slice oa Y.length oc) Y.length (flat Y)) := fun nq => (hR.out.grow B1.out).grow (below_drewN _ _)
      clear hR
      go_wp2_with fail
      rw [← hq1]
      clear hq1 z00 z01 z02 hb1
      go_quiet (fail)
      go_wp2_with (at_builtin; refine wpList_append_lies _ rfl _ _ 24 rfl w.heap.size 27 iI (.agg #[.int .i64 0, .int .i64 0, .int .i64 0]) 3 24 Try.underlying24 I.out.1 I.out.2.1 I.out.2.2.1 I.out.2.2.2 rfl (by decide) _ Y.length (ints (flat Y)) rfl ((HF0 _).out.row.alloc _) ⟨q1.heap.size, 0, none⟩ 1 1 (ints [a, b, c]) rfl rfl ?d0 (ints_one _) (by decide) ?d1 ?d2 ?d3 _ rfl ?_)
      case d0 => exact fun a_ u ha => cells_new _ [a, b, c] 27 rfl a_ u ha
      case d1 => unfold maxLen; omega
      case d2 => omega
      case d3 => simp; omega
      intro g4 cap4 w4 hown4 hgrow4 hat4 hlt4
      have HF : Hid (OwnR 27 3 w w4 (.slice (some ⟨g4, 0, none⟩) (Y.length + 1) cap4) (thinK L m (k + 1)).length (flat (thinK L m (k + 1)))) := by
        show OwnR _ _ _ _ _ _ _
        rw [hN.out, show (Y ++ [(a, b, c)]).length = Y.length + 1 by simp, flat_app, flat_one]
        exact ((HF0 _).out.grow ((Below.refl _ _).alloc (Nat.le_refl _) _)).app hgrow4 hown4
      clear hown4 hgrow4 hat4 hlt4 hN HF0
      go_wp2_with fail
      go_roundw
      case rel => exact ⟨k + 1, by omega, by go_num, HF⟩
      case measure => simp [intOf]; omega
    case neg =>
      have f0 : ((k : Int) == 0) = false := by simp [hk0]
      have f1 : (k == 0) = false := by simp [hk0]
      have HK0 := Lib.hid hk0
      obtain ⟨ta, tb, tc, ht, htl2⟩ := hlast (by omega)
      have hYp := hpos (by omega)
      obtain ⟨t0, t1, t2⟩ := flat_at Y _ _ ht
      have htm := hmem (by rw [Hn.out]; omega) _ (List.mem_of_getElem? ht)
      obtain ⟨tq, htq⟩ := List.getElem?_of_mem htm
      obtain ⟨⟨u0, u1⟩, _⟩ := sok_at HS.out htq
      have HT := Lib.hid htl2
      obtain ⟨yl, hyl⟩ : ∃ yl, Y.length = yl + 1 := ⟨Y.length - 1, by omega⟩
      have hown := hR.out.row.form (by omega)
      obtain ⟨og, oc', hsl, _⟩ := hown
      obtain ⟨rfl, rfl⟩ : oa = some ⟨og, 0, none⟩ ∧ oc = oc' := by simpa using hsl
      have y0 : wr.cell? ⟨og, yl * 3, none⟩ = some (.int .i64 ta) := by
        rw [hR.out.row.cellAt _ (by omega)]
        rw [hyl, show yl + 1 - 1 = yl by omega] at t0
        exact ints_at t0
      have hog := (hR.out.row.lt og rfl).2
      have y0 : q1.cell? ⟨og, yl * 3, none⟩ = some (.int .i64 ta) := by rw [(bcell B1.out).1 _ _ hog]; exact y0
      clear t0 t1 t2 htm htq hsl hlast hpos hmem ht htl2 hk0
      have HYL := Lib.hid hyl
      have w1 : IntKind.i64.wrap ((Y.length : Int) - 1) = (yl : Int) := by rw [IntWalk.i64_in _ (by omega)]; omega
      have w2 : (yl : Int) < (Y.length : Int) := by omega
      have w3 : (0 : Int) ≤ (yl : Int) := by omega
      have w4' : IntKind.i64.wrap (a - ta) = a - ta := IntWalk.i64_in _ (by omega)
      have w5 : IntKind.i64.wrap ((n : Int) - 1) = (n : Int) - 1 := IntWalk.i64_in _ (by omega)
      clear hyl
      obtain ⟨la, lb, lc, hrL⟩ := at_of_lt (L := L) (i := n - 1) (by rw [Hn.out]; omega)
      obtain ⟨r0, r1, r2⟩ := flat_at L (n - 1) _ hrL
      have HL : Hid (L[n - 1]? = some (la, lb, lc)) := hrL
      have zL0 : wr.cell? ⟨g, (n - 1) * 3, none⟩ = some (.int .i64 la) := by rw [HB.out.cell (p := ⟨g, (n - 1) * 3, none⟩) (by show g < _; omega)]; exact HZ.out _ _ r0
      have zL1 : wr.cell? ⟨g, (n - 1) * 3 + 1, none⟩ = some (.int .i64 lb) := by rw [HB.out.cell (p := ⟨g, (n - 1) * 3 + 1, none⟩) (by show g < _; omega)]; exact HZ.out _ _ r1
      have zL2 : wr.cell? ⟨g, (n - 1) * 3 + 2, none⟩ = some (.int .i64 lc) := by rw [HB.out.cell (p := ⟨g, (n - 1) * 3 + 2, none⟩) (by show g < _; omega)]; exact HZ.out _ _ r2
      clear r0 r1 r2 hrL
      have hlq := sok_last HS.out H0.out (q := (la, lb, lc)) (by rw [Hn.out]; exact HL.out)
      rw [Hn.out] at hlq
      obtain ⟨nn, hnn⟩ : ∃ nn, n - 1 = nn := ⟨_, rfl⟩
      rw [hnn] at zL0 zL1 zL2
      have x1 : IntKind.i64.wrap ((n : Int) - 1) = (nn : Int) := by rw [IntWalk.i64_in _ (by omega)]; omega
      have x2 : (nn : Int) < (n : Int) := by omega
      have x3 : (0 : Int) ≤ (nn : Int) := by omega
      have zL0 : q1.cell? ⟨g, nn * 3, none⟩ = some (.int .i64 la) := by rw [(bcell B1.out).1 _ _ (by omega)]; exact zL0
      have zL1 : q1.cell? ⟨g, nn * 3 + 1, none⟩ = some (.int .i64 lb) := by rw [(bcell B1.out).1 _ _ (by omega)]; exact zL1
      have zL2 : q1.cell? ⟨g, nn * 3 + 2, none⟩ = some (.int .i64 lc) := by rw [(bcell B1.out).1 _ _ (by omega)]; exact zL2
      clear w5 hnn
      by_cases hke : k + 1 = n
      case pos =>
        have heq := hlq.2 hke
        have heq3 : a = la ∧ b = lb ∧ c = lc := by simpa using heq
        obtain ⟨rfl, rfl, rfl⟩ := heq3
        clear hlq heq
        have HKE := Lib.hid hke
        clear hke
        have hN : Hid (thinK L m (k + 1) = Y ++ [(a, b, c)]) := by show _ = _; rw [thinK_take H0.out (.inr (.inl (by rw [Hn.out]; exact HKE.out))), ← HY.out]
        have HF0 : ∀ nq, Hid (OwnR 27 3 w (q1.drewN nq) (.slice (some ⟨og, 0, none⟩) Y.length oc) Y.length (flat Y)) := fun nq => (hR.out.grow B1.out).grow (below_drewN _ _)
        clear hR
        go_wp2_with fail
        rw [← hq1]
        clear hq1 z00 z01 z02 hb1
        go_quiet (fail)
        go_wp2_with (at_builtin; refine wpList_append_lies _ rfl _ _ 24 rfl w.heap.size 27 iI (.agg #[.int .i64 0, .int .i64 0, .int .i64 0]) 3 24 Try.underlying24 I.out.1 I.out.2.1 I.out.2.2.1 I.out.2.2.2 rfl (by decide) _ Y.length (ints (flat Y)) rfl ((HF0 _).out.row.alloc _) ⟨q1.heap.size, 0, none⟩ 1 1 (ints [a, b, c]) rfl rfl ?d0 (ints_one _) (by decide) ?d1 ?d2 ?d3 _ rfl ?_)
        case d0 => exact fun a_ u ha => cells_new _ [a, b, c] 27 rfl a_ u ha
        case d1 => unfold maxLen; omega
        case d2 => omega
        case d3 => simp; omega
        intro g4 cap4 w4 hown4 hgrow4 hat4 hlt4
        have HF : Hid (OwnR 27 3 w w4 (.slice (some ⟨g4, 0, none⟩) (Y.length + 1) cap4) (thinK L m (k + 1)).length (flat (thinK L m (k + 1)))) := by
          show OwnR _ _ _ _ _ _ _
          rw [hN.out, show (Y ++ [(a, b, c)]).length = Y.length + 1 by simp, flat_app, flat_one]
          exact ((HF0 _).out.grow ((Below.refl _ _).alloc (Nat.le_refl _) _)).app hgrow4 hown4
        clear hown4 hgrow4 hat4 hlt4 hN HF0
        go_wp2_with fail
        go_roundw
        case rel => exact ⟨k + 1, by omega, by go_num, HF⟩
        case measure => simp [intOf]; omega
      case neg =>
        have hri := sok_rise HS.out H0.out (n - 2 - k) (la, lb, lc) (by rw [show k + (n - 2 - k) + 1 = n - 1 by omega]; exact HL.out)
        have hne : (a == la) = false := by simp only [beq_eq_false_iff_ne, ne_eq]; have : a < la := hri; omega
        have hne2 : ¬ a = la := by have : a < la := hri; omega
        have HKE := Lib.hid hke
        clear hke hlq hri
        by_cases hc : m ≤ a - ta
        case pos =>
          have hc2 : decide (m ≤ a - ta) = true := decide_eq_true hc
          have HC := Lib.hid hc
          have hN : Hid (thinK L m (k + 1) = Y ++ [(a, b, c)]) := by show _ = _; rw [thinK_take H0.out (.inr (.inr (by rw [← HY.out, HT.out]; exact HC.out))), ← HY.out]
          have HF0 : ∀ nq, Hid (OwnR 27 3 w (q1.drewN nq) (.slice (some ⟨og, 0, none⟩) Y.length oc) Y.length (flat Y)) := fun nq => (hR.out.grow B1.out).grow (below_drewN _ _)
          clear hR
          go_wp2_with fail
          rw [← hq1]
          clear hq1 z00 z01 z02 hb1
          go_quiet (fail)
          go_wp2_with (at_builtin; refine wpList_append_lies _ rfl _ _ 24 rfl w.heap.size 27 iI (.agg #[.int .i64 0, .int .i64 0, .int .i64 0]) 3 24 Try.underlying24 I.out.1 I.out.2.1 I.out.2.2.1 I.out.2.2.2 rfl (by decide) _ Y.length (ints (flat Y)) rfl ((HF0 _).out.row.alloc _) ⟨q1.heap.size, 0, none⟩ 1 1 (ints [a, b, c]) rfl rfl ?d0 (ints_one _) (by decide) ?d1 ?d2 ?d3 _ rfl ?_)
          case d0 => exact fun a_ u ha => cells_new _ [a, b, c] 27 rfl a_ u ha
          case d1 => unfold maxLen; omega
          case d2 => omega
          case d3 => simp; omega
          intro g4 cap4 w4 hown4 hgrow4 hat4 hlt4
          have HF : Hid (OwnR 27 3 w w4 (.slice (some ⟨g4, 0, none⟩) (Y.length + 1) cap4) (thinK L m (k + 1)).length (flat (thinK L m (k + 1)))) := by
            show OwnR _ _ _ _ _ _ _
            rw [hN.out, show (Y ++ [(a, b, c)]).length = Y.length + 1 by simp, flat_app, flat_one]
            exact ((HF0 _).out.grow ((Below.refl _ _).alloc (Nat.le_refl _) _)).app hgrow4 hown4
          clear hown4 hgrow4 hat4 hlt4 hN HF0
          go_wp2_with fail
          go_roundw
          case rel => exact ⟨k + 1, by omega, by go_num, HF⟩
          case measure => simp [intOf]; omega
        case neg =>
          have hc2 : decide (m ≤ a - ta) = false := decide_eq_false hc
          have HC := Lib.hid hc
          clear hc
          have hN : Hid (thinK L m (k + 1) = Y) := by show _ = _; rw [thinK_skip H0.out (by rw [← HY.out, HT.out, Hn.out]; exact fun h => h.elim (fun h => HK0.out h) (fun h => h.elim (fun h => HKE.out h) (fun h => HC.out h))), ← HY.out]
          have HF0 : ∀ nq, Hid (OwnR 27 3 w (q1.drewN nq) (.slice (some ⟨og, 0, none⟩) Y.length oc) Y.length (flat Y)) := fun nq => (hR.out.grow B1.out).grow (below_drewN _ _)
          clear hR
          go_wp2_with fail
          rw [← hq1]
          clear hq1 z00 z01 z02 hb1
          go_quiet (fail)
          go_wp2_with fail
          go_roundw
          case rel => exact ⟨k + 1, by omega, by go_num, by rw [hN.out]; exact HF0 _⟩
          case measure => simp [intOf]; omega

end Go.Proofs.Ytadanckhmjgphaa
