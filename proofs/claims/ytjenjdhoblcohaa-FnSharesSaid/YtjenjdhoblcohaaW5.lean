/- What an edge costs: the model. -/
import Derived.Test.YtjenjdhoblcohaaW4
import Derived.Test.YtjenjdhoblcohaaGo0
namespace Go.Proofs.Ytjenjdhoblcohaa
open Go.RowKit


/-- What the model says that the way from x to y by one edge costs. -/
def scost (N : Int) (L : List Ed) (x y : Int) : Int := if ndB N x = true ∧ ndB N y = true then if x = y then 0 else cst L x y else Far

set_option maxRecDepth 100000 in
set_option maxHeartbeats 4000000 in
theorem scost_row (N : Int) (ad : Option Addr) (n cp : Nat) (L : List Ed) (x y : Int) (w : World) (hG : gok N L = true) (hL : L.length = n) (hn : n ≤ 1100000)
    (hc : 0 < n → ∃ g, ad = some ⟨g, 0, none⟩ ∧ g < w.heap.size ∧ ∀ q z, (flat L)[q]? = some z → w.cell? ⟨g, q, none⟩ = some (.int .i64 z)) :
    Calls Try.prog 71 #[.agg #[.int .i64 N, .slice ad n cp], .int .i64 x, .int .i64 y] w fun e w' => e = .returned (.int .i64 (scost N L x y)) ∧ Below w.heap.size w w' := by
  have hN1 := (gok_parts hG).1
  have hN2 := (gok_parts hG).2.1
  have HG := Lib.hid hG
  have HL := Lib.hid hL
  have HC := Lib.hid hc
  clear hG hL hc
  by_cases h1 : ndB N x = true
  · by_cases h2 : ndB N y = true
    · by_cases h3 : x = y
      · have e : scost N L x y = 0 := by unfold scost; rw [if_pos ⟨h1, h2⟩, if_pos h3]
        rw [e]
        have h4 : (x == y) = true := by simp [h3]
        clear h3 e
        go_enter Try.func71, Try.ntmps71
        go_wp2_with fail
        go_at_call 48
        refine (node_any N ad n cp x _ hN1 hN2).mono ?_
        rw [h1]
        rintro e v1 ⟨rfl, hb1⟩
        have sz1 : w.heap.size + 1 ≤ v1.heap.size := by have hh := hb1.size; simp at hh; omega
        have st1 : Below w.heap.size w v1 := Below.trans (by go_grown) (hb1.mono (by simp))
        have c1_0 : v1.cell? ⟨w.heap.size, 0, none⟩ = some (.int .i64 N) := by rw [(bcell hb1).1 _ _ (by simp)]; simp
        have c1_1 : v1.cell? ⟨w.heap.size, 1, none⟩ = some (.slice ad n cp) := by rw [(bcell hb1).1 _ _ (by simp)]; simp
        have B1 : Hid (Below w.heap.size w v1) := st1
        have d1_0 : w.heap.size < v1.heap.size := by omega
        have e1_0 : w.heap.size ≠ v1.heap.size := by omega
        clear st1 hb1
        go_wp2_with fail
        go_at_call 48
        refine (node_any N ad n cp y _ hN1 hN2).mono ?_
        rw [h2]
        rintro e v2 ⟨rfl, hb2⟩
        have sz2 : v1.heap.size ≤ v2.heap.size := hb2.size
        have st2 : Below v1.heap.size v1 v2 := hb2
        have c2_0 : v2.cell? ⟨w.heap.size, 0, none⟩ = some (.int .i64 N) := by rw [(bcell st2).1 _ _ (by omega)]; exact c1_0
        have c2_1 : v2.cell? ⟨w.heap.size, 1, none⟩ = some (.slice ad n cp) := by rw [(bcell st2).1 _ _ (by omega)]; exact c1_1
        have B2 : Hid (Below w.heap.size w v2) := B1.out.trans (st2.mono (by omega))
        have d2_0 : w.heap.size < v2.heap.size := by omega
        have e2_0 : w.heap.size ≠ v2.heap.size := by omega
        clear d1_0 e1_0 c1_0 c1_1 B1 st2 hb2
        go_wp2
        go_ret
        exact ⟨rfl, B2.out⟩
      · have e : Hid (scost N L x y = cst L x y) := by show scost N L x y = _; unfold scost; rw [if_pos ⟨h1, h2⟩, if_neg h3]
        have h4 : (x == y) = false := by simp [h3]
        clear h3
        go_enter Try.func71, Try.ntmps71
        go_wp2_with fail
        go_at_call 48
        refine (node_any N ad n cp x _ hN1 hN2).mono ?_
        rw [h1]
        rintro e v1 ⟨rfl, hb1⟩
        have sz1 : w.heap.size + 1 ≤ v1.heap.size := by have hh := hb1.size; simp at hh; omega
        have st1 : Below w.heap.size w v1 := Below.trans (by go_grown) (hb1.mono (by simp))
        have c1_0 : v1.cell? ⟨w.heap.size, 0, none⟩ = some (.int .i64 N) := by rw [(bcell hb1).1 _ _ (by simp)]; simp
        have c1_1 : v1.cell? ⟨w.heap.size, 1, none⟩ = some (.slice ad n cp) := by rw [(bcell hb1).1 _ _ (by simp)]; simp
        have B1 : Hid (Below w.heap.size w v1) := st1
        have d1_0 : w.heap.size < v1.heap.size := by omega
        have e1_0 : w.heap.size ≠ v1.heap.size := by omega
        clear st1 hb1
        go_wp2_with fail
        go_at_call 48
        refine (node_any N ad n cp y _ hN1 hN2).mono ?_
        rw [h2]
        rintro e v2 ⟨rfl, hb2⟩
        have sz2 : v1.heap.size ≤ v2.heap.size := hb2.size
        have st2 : Below v1.heap.size v1 v2 := hb2
        have c2_0 : v2.cell? ⟨w.heap.size, 0, none⟩ = some (.int .i64 N) := by rw [(bcell st2).1 _ _ (by omega)]; exact c1_0
        have c2_1 : v2.cell? ⟨w.heap.size, 1, none⟩ = some (.slice ad n cp) := by rw [(bcell st2).1 _ _ (by omega)]; exact c1_1
        have B2 : Hid (Below w.heap.size w v2) := B1.out.trans (st2.mono (by omega))
        have d2_0 : w.heap.size < v2.heap.size := by omega
        have e2_0 : w.heap.size ≠ v2.heap.size := by omega
        clear d1_0 e1_0 c1_0 c1_1 B1 st2 hb2
        go_wp2
        go_loop [7] (fun i => ∃ k : Nat, k ≤ n ∧ i = .int .i64 (k : Int) ∧ Hid (∀ j p, j < k → L[j]? = some p → ¬ (p.1 = x ∧ p.2.1 = y))) (fun i => n - (intOf i).toNat)
        case atStart => exact ⟨0, Nat.zero_le _, rfl, fun j p hj => absurd hj (Nat.not_lt_zero _)⟩
        case round =>
          obtain ⟨k, hk, rfl, hR⟩ := hrel
          by_cases hlt : k < n
          · obtain ⟨g, rfl, hg, hcell⟩ := HC.out (by omega)
            obtain ⟨r, hr⟩ : ∃ r, L[k]? = some r := ⟨L[k]'(by rw [HL.out]; exact hlt), List.getElem?_eq_getElem _⟩
            obtain ⟨a, b, c⟩ := r
            obtain ⟨r0, r1, r2⟩ := flat_at L k _ hr
            have HR : Hid (L[k]? = some (a, b, c)) := hr
            have z0 : v2.cell? ⟨g, k * 3, none⟩ = some (.int .i64 a) := by rw [B2.out.cell (p := ⟨g, k * 3, none⟩) hg]; exact hcell _ _ r0
            have z1 : v2.cell? ⟨g, k * 3 + 1, none⟩ = some (.int .i64 b) := by rw [B2.out.cell (p := ⟨g, k * 3 + 1, none⟩) hg]; exact hcell _ _ r1
            have z2 : v2.cell? ⟨g, k * 3 + 2, none⟩ = some (.int .i64 c) := by rw [B2.out.cell (p := ⟨g, k * 3 + 2, none⟩) hg]; exact hcell _ _ r2
            clear r0 r1 r2 hr hcell
            have q0 : (0 : Int) ≤ (k : Int) := by omega
            have q1 : (k : Int) < (n : Int) := by omega
            by_cases l1 : a = x
            · have m1 : (a == x) = true := by simp [l1]
              by_cases l2 : b = y
              · have m2 : (b == y) = true := by simp [l2]
                have hv : Hid (cst L x y = c) := by
                  show cst L x y = c
                  have := cst_mem HG.out (List.mem_of_getElem? HR.out)
                  rw [← l1, ← l2]; exact this
                clear l1 l2
                go_wp2
                go_ret
                exact ⟨by rw [e.out, hv.out]; rfl, B2.out⟩
              · have m2 : (b == y) = false := by simp [l2]
                have hS : Hid (∀ j p, j < k + 1 → L[j]? = some p → ¬ (p.1 = x ∧ p.2.1 = y)) := fun j p hj hp => by
                  by_cases ej : j = k
                  · subst ej; rw [HR.out] at hp; obtain rfl := Option.some.inj hp; exact fun hh => l2 hh.2
                  · exact hR.out j p (by omega) hp
                clear l1 l2 hR
                go_wp2
                go_round
                case rel => exact ⟨k + 1, by omega, by go_num, hS⟩
                case measure => simp [intOf]; omega
            · have m1 : (a == x) = false := by simp [l1]
              have hS : Hid (∀ j p, j < k + 1 → L[j]? = some p → ¬ (p.1 = x ∧ p.2.1 = y)) := fun j p hj hp => by
                by_cases ej : j = k
                · subst ej; rw [HR.out] at hp; obtain rfl := Option.some.inj hp; exact fun hh => l1 hh.1
                · exact hR.out j p (by omega) hp
              clear l1 hR
              go_wp2
              go_round
              case rel => exact ⟨k + 1, by omega, by go_num, hS⟩
              case measure => simp [intOf]; omega
          · have hge : ¬ ((k : Int) < (n : Int)) := by omega
            obtain rfl : k = n := by omega
            have hv : Hid (cst L x y = 1000000) := by
              show cst L x y = Far
              refine cst_no fun p hp => ?_
              obtain ⟨j, hj⟩ := List.getElem?_of_mem hp
              exact hR.out j p (by have := (List.getElem?_eq_some_iff.1 hj).1; rw [HL.out] at this; exact this) hj
            clear hR
            go_wp2
            go_ret
            exact ⟨by rw [e.out, hv.out]; rfl, B2.out⟩
    · rw [Bool.not_eq_true] at h2
      have e : scost N L x y = 1000000 := by unfold scost; rw [if_neg (fun hh => by rw [h2] at hh; exact absurd hh.2 (by decide))]; rfl
      rw [e]
      clear e
      go_enter Try.func71, Try.ntmps71
      go_wp2_with fail
      go_at_call 48
      refine (node_any N ad n cp x _ hN1 hN2).mono ?_
      rw [h1]
      rintro e v1 ⟨rfl, hb1⟩
      have sz1 : w.heap.size + 1 ≤ v1.heap.size := by have hh := hb1.size; simp at hh; omega
      have st1 : Below w.heap.size w v1 := Below.trans (by go_grown) (hb1.mono (by simp))
      have c1_0 : v1.cell? ⟨w.heap.size, 0, none⟩ = some (.int .i64 N) := by rw [(bcell hb1).1 _ _ (by simp)]; simp
      have c1_1 : v1.cell? ⟨w.heap.size, 1, none⟩ = some (.slice ad n cp) := by rw [(bcell hb1).1 _ _ (by simp)]; simp
      have B1 : Hid (Below w.heap.size w v1) := st1
      have d1_0 : w.heap.size < v1.heap.size := by omega
      have e1_0 : w.heap.size ≠ v1.heap.size := by omega
      clear st1 hb1
      go_wp2_with fail
      go_at_call 48
      refine (node_any N ad n cp y _ hN1 hN2).mono ?_
      rw [h2]
      rintro e v2 ⟨rfl, hb2⟩
      have sz2 : v1.heap.size ≤ v2.heap.size := hb2.size
      have st2 : Below v1.heap.size v1 v2 := hb2
      have c2_0 : v2.cell? ⟨w.heap.size, 0, none⟩ = some (.int .i64 N) := by rw [(bcell st2).1 _ _ (by omega)]; exact c1_0
      have c2_1 : v2.cell? ⟨w.heap.size, 1, none⟩ = some (.slice ad n cp) := by rw [(bcell st2).1 _ _ (by omega)]; exact c1_1
      have B2 : Hid (Below w.heap.size w v2) := B1.out.trans (st2.mono (by omega))
      have d2_0 : w.heap.size < v2.heap.size := by omega
      have e2_0 : w.heap.size ≠ v2.heap.size := by omega
      clear d1_0 e1_0 c1_0 c1_1 B1 st2 hb2
      go_wp2
      go_ret
      exact ⟨rfl, B2.out⟩
  · rw [Bool.not_eq_true] at h1
    have e : scost N L x y = 1000000 := by unfold scost; rw [if_neg (fun hh => by rw [h1] at hh; exact absurd hh.1 (by decide))]; rfl
    rw [e]
    clear e
    go_enter Try.func71, Try.ntmps71
    go_wp2_with fail
    go_at_call 48
    refine (node_any N ad n cp x _ hN1 hN2).mono ?_
    rw [h1]
    rintro e v1 ⟨rfl, hb1⟩
    have sz1 : w.heap.size + 1 ≤ v1.heap.size := by have hh := hb1.size; simp at hh; omega
    have st1 : Below w.heap.size w v1 := Below.trans (by go_grown) (hb1.mono (by simp))
    have c1_0 : v1.cell? ⟨w.heap.size, 0, none⟩ = some (.int .i64 N) := by rw [(bcell hb1).1 _ _ (by simp)]; simp
    have c1_1 : v1.cell? ⟨w.heap.size, 1, none⟩ = some (.slice ad n cp) := by rw [(bcell hb1).1 _ _ (by simp)]; simp
    have B1 : Hid (Below w.heap.size w v1) := st1
    have d1_0 : w.heap.size < v1.heap.size := by omega
    have e1_0 : w.heap.size ≠ v1.heap.size := by omega
    clear st1 hb1
    go_wp2
    go_ret
    exact ⟨rfl, B1.out⟩

theorem scost_any (N : Int) (lo hi n : Nat) (v : Value) (L : List Ed) (x y : Int) (w : World) (hG : gok N L = true) (hL : L.length = n) (hr : Row 3 w lo hi v n (flat L)) (hh : hi ≤ w.heap.size) :
    Calls Try.prog 71 #[.agg #[.int .i64 N, v], .int .i64 x, .int .i64 y] w fun e w' => e = .returned (.int .i64 (scost N L x y)) ∧ Below w.heap.size w w' := by
  obtain ⟨a, c, rfl, hn, hc⟩ := hr.opened
  refine scost_row N a n c L x y w hG hL hn fun h0 => ?_
  obtain ⟨g, h1, h2, h3⟩ := hc h0
  exact ⟨g, h1, by omega, h3⟩

end Go.Proofs.Ytjenjdhoblcohaa
