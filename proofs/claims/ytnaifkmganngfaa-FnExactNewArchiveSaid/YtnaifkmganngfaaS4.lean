/- Which archives are valid: the program. -/
import Derived.Test.YtnaifkmganngfaaS3
namespace Go.Proofs.Ytnaifkmganngfaa
open Go.RowKit


theorem KRow.len {w : World} {lo hi n : Nat} {v : Value} {D : List (List Rw)} (h : KRow w lo hi v n D) : n ≤ 1100000 := by rw [← h.2]; exact h.1.len
theorem lt_of_at {α : Type} {L : List α} {i : Nat} {r : α} (hr : L[i]? = some r) : i < L.length := by
  rcases Nat.lt_or_ge i L.length with h1 | h1
  · exact h1
  · rw [List.getElem?_eq_none h1] at hr; simp at hr
theorem KRow.cell {w : World} {lo hi n c : Nat} {a : Option Addr} {D : List (List Rw)} (h : KRow w lo hi (.slice a n c) n D) {i : Nat} {l : List Rw} (hl : D[i]? = some l) :
    ∃ (G : Nat) (x : Option Addr) (y : Nat), a = some ⟨G, 0, none⟩ ∧ lo ≤ G ∧ G < hi ∧ w.cell? ⟨G, i, none⟩ = some (.slice x l.length y) ∧ Row 5 w lo hi (.slice x l.length y) l.length (flat l) := by
  obtain ⟨⟨a', c', us, bs, e, X⟩, hn⟩ := h
  simp only [Value.slice.injEq] at e
  obtain ⟨rfl, _, _⟩ := e
  obtain ⟨G, g0, g1, g2, g3, g4, g5⟩ := X.outer (by have := lt_of_at hl; omega)
  obtain ⟨r1, r2, r3⟩ := X.inner i l hl
  obtain ⟨x, y, e⟩ := r1.slice
  have hc := g4 i l hl
  rw [e] at hc r1
  exact ⟨G, x, y, g0, g1, g2, hc, r1.wide r2 r3⟩
set_option maxRecDepth 100000 in
set_option maxHeartbeats 4000000 in
theorem iaok_any (lo hi n : Nat) (v : Value) (t : Int) (D : List (List Rw)) (w : World) (hr : KRow w lo hi v n D) (hh : hi ≤ w.heap.size) :
    Calls Try.prog 24 #[.agg #[v, .int .i64 t]] w fun e w' => e = .returned (.bool (arB t D)) ∧ Below w.heap.size w w' := by
  obtain ⟨ad, cp, rfl⟩ := hr.slice
  have hm := hr.len
  have HD := Lib.hid hr.2
  have HR := Lib.hid hr
  clear hr
  by_cases h3 : n = 3
  case neg =>
    have hb : ((n : Int) != 3) = true := by simp; omega
    have Hno : Hid (arB t D = false) := by show _ = _; exact arB_no fun h => h3 (by rw [← HD.out]; exact h.1)
    clear h3
    go_enter Try.func24, Try.ntmps24
    go_wp2
    go_ret
    exact ⟨by rw [Hno.out]; rfl, by go_grown⟩
  case pos =>
  subst h3
  by_cases t0 : t < 0
  case pos =>
    have d0 : decide (t < 0) = true := decide_eq_true t0
    have Hno : Hid (arB t D = false) := by show _ = _; exact arB_no fun h => by have := h.2.1; omega
    go_enter Try.func24, Try.ntmps24
    go_wp2
    go_ret
    exact ⟨by rw [Hno.out]; rfl, by go_grown⟩
  case neg =>
  have d0 : decide (t < 0) = false := decide_eq_false t0
  by_cases t1 : 1000000 < t
  case pos =>
    have d1 : decide (1000000 < t) = true := decide_eq_true t1
    have Hno : Hid (arB t D = false) := by show _ = _; exact arB_no fun h => by have := h.2.2.1; omega
    go_enter Try.func24, Try.ntmps24
    go_wp2
    go_ret
    exact ⟨by rw [Hno.out]; rfl, by go_grown⟩
  case neg =>
  have d1 : decide (1000000 < t) = false := decide_eq_false t1
  go_enter Try.func24, Try.ntmps24
  go_wp2_with fail
  obtain ⟨q11, hq11⟩ : ∃ q, q = (w.alloc (.cells #[.slice ad 3 cp, .int .i64 t] 28)) := ⟨_, rfl⟩
  have hb11 : Below w.heap.size w q11 := by rw [hq11]; go_grown
  have sz11 : w.heap.size + 1 ≤ q11.heap.size := by rw [hq11]; simp
  have c11_0 : q11.cell? ⟨w.heap.size, 0, none⟩ = some (.slice ad 3 cp) := by rw [hq11, new_at (by simp)]; rfl
  have c11_1 : q11.cell? ⟨w.heap.size, 1, none⟩ = some (.int .i64 t) := by rw [hq11, new_at (by simp)]; rfl
  have B11 : Hid (Below w.heap.size w q11) := Lib.hid hb11
  rw [← hq11]
  have d11_0 : w.heap.size < q11.heap.size := by omega
  have e11_0 : w.heap.size ≠ q11.heap.size := by omega
  clear hq11 hb11
  have HC0 := Lib.hid c11_0
  have HC1 := Lib.hid c11_1
  have RQ : Hid (KRow q11 lo hi (.slice ad 3 cp) 3 D) := HR.out.below B11.out hh
  have hq : w.heap.size < q11.heap.size := by omega
  go_loopw [22] (fun i wr => ∃ j : Nat, j ≤ 3 ∧ i = .int .i64 (j : Int) ∧ Hid (∀ (u : Nat) (l : List Rw), u < j → D[u]? = some l → levP (szK u) t l) ∧ Hid (Below q11.heap.size q11 wr)) (fun i _ => 3 - (intOf i).toNat)
  case atStart => exact ⟨0, Nat.zero_le _, rfl, fun u l hu => absurd hu (Nat.not_lt_zero _), Below.refl _ _⟩
  case round =>
    obtain ⟨wo, rfl⟩ : ∃ x, x = wr := ⟨_, rfl⟩
    obtain ⟨j, hj, rfl, hA, hB⟩ := hrel
    have hsz := hB.out.size
    have k0 : wo.cell? ⟨w.heap.size, 0, none⟩ = some (.slice ad 3 cp) := by rw [hB.out.cell (p := ⟨w.heap.size, 0, none⟩) hq]; exact HC0.out
    have k1 : wo.cell? ⟨w.heap.size, 1, none⟩ = some (.int .i64 t) := by rw [hB.out.cell (p := ⟨w.heap.size, 1, none⟩) hq]; exact HC1.out
    have RO : Hid (KRow wo lo hi (.slice ad 3 cp) 3 D) := RQ.out.below hB.out (by omega)
    have HBo : Hid (Below w.heap.size w wo) := B11.out.trans (hB.out.mono (by omega))
    by_cases hlt : j < 3
    case neg =>
      obtain rfl : j = 3 := by omega
      have Hy : Hid (arB t D = true) := arB_iff.2 ⟨HD.out, by omega, by omega, fun i l hl => hA.out i l (by have := lt_of_at hl; rw [HD.out] at this; exact this) hl⟩
      go_wp2
      go_ret
      exact ⟨by rw [Hy.out]; rfl, HBo.out⟩
    case pos =>
    obtain ⟨l, hl⟩ : ∃ l, D[j]? = some l := ⟨_, List.getElem?_eq_getElem (by rw [HD.out]; exact hlt)⟩
    obtain ⟨G, x, y, rfl, _, hG, e1, hrow⟩ := RO.out.cell hl
    have q0 : (0 : Int) ≤ (j : Int) := by omega
    have q1 : (j : Int) < 3 := by omega
    obtain ⟨s0, s1⟩ := szK_in hlt
    have HLl := Lib.hid hl
    obtain ⟨m, hm9⟩ : ∃ m, m = l.length := ⟨_, rfl⟩
    rw [← hm9] at e1 hrow
    have HM := Lib.hid hm9
    have HRow := Lib.hid hrow
    have hws : w.heap.size < wo.heap.size := by omega
    have hhw : hi ≤ wo.heap.size := by omega
    have HSz := Lib.hid (isz_any j hlt)
    obtain ⟨z, hz⟩ : ∃ z, z = szK j := ⟨_, rfl⟩
    rw [← hz] at s0 s1 HSz
    have HZ := Lib.hid hz
    have hlev : ∀ w2 : World, Below wo.heap.size wo w2 → Calls Try.prog 44 #[.slice x m y, .int .i64 z, .int .i64 t] w2 fun e w' => e = .returned (.bool (levB z t l)) ∧ Below w2.heap.size w2 w' := fun w2 hb => ilev_any lo hi m y x l z t w2 (HRow.out.below hb hhw) (by have := hb.size; omega) HM.out.symm s0 s1 (by omega) (by omega)
    have HLev := Lib.hid hlev
    clear hl hm9 hrow hz hlev
    cases hv : levB z t l with
    | false =>
      have Hno : Hid (arB t D = false) := by
        show _ = _
        refine arB_no fun h => ?_
        have h2 := h.2.2.2 j l HLl.out
        rw [← HZ.out, ← levB_iff, hv] at h2
        cases h2
      go_wp2_with fail
      go_region_held3 ((fun w' => w'.cell? ⟨w.heap.size, 0, none⟩ = some (.slice (some ⟨G, 0, none⟩) 3 cp) ∧ w'.cell? ⟨w.heap.size, 1, none⟩ = some (.int .i64 t) ∧ wo.heap.size ≤ w'.heap.size ∧ Below wo.heap.size wo w')) (first | assumption | exact rr2_start k0 k1 | exact rr2_drew (by assumption) | exact rr2_keep (by omega) (by omega) (by assumption) (by assumption) | fail)
        (first | (go_at_call 45; refine (HSz.out _).mono ?_; rintro e wy1 ⟨rfl, rfl⟩) | (go_at_call 44; refine (HLev.out _ (rr2_out (by assumption)).2).mono ?_; rw [hv]; rintro e wy2 ⟨rfl, hb⟩) | fail)
      have HB2 : Hid (Below w.heap.size w wy2) := HBo.out.trans (Below.mono (rr2_out (by assumption)).2 (by omega))
      go_wp2_with fail
      go_ret
      exact ⟨by rw [Hno.out]; rfl, HB2.out⟩
    | true =>
      have HA2 : Hid (∀ (u : Nat) (l : List Rw), u < j + 1 → D[u]? = some l → levP (szK u) t l) := fun u l' hu hl' => by
        by_cases e : u = j
        · subst e
          rw [HLl.out] at hl'
          obtain rfl := Option.some.inj hl'
          rw [← HZ.out]; exact levB_iff.1 hv
        · exact hA.out u l' (by omega) hl'
      clear hA
      go_wp2_with fail
      go_region_held3 ((fun w' => w'.cell? ⟨w.heap.size, 0, none⟩ = some (.slice (some ⟨G, 0, none⟩) 3 cp) ∧ w'.cell? ⟨w.heap.size, 1, none⟩ = some (.int .i64 t) ∧ wo.heap.size ≤ w'.heap.size ∧ Below wo.heap.size wo w')) (first | assumption | exact rr2_start k0 k1 | exact rr2_drew (by assumption) | exact rr2_keep (by omega) (by omega) (by assumption) (by assumption) | fail)
        (first | (go_at_call 45; refine (HSz.out _).mono ?_; rintro e wy1 ⟨rfl, rfl⟩) | (go_at_call 44; refine (HLev.out _ (rr2_out (by assumption)).2).mono ?_; rw [hv]; rintro e wy2 ⟨rfl, hb⟩) | fail)
      have HB2 : Hid (Below q11.heap.size q11 wy2) := hB.out.trans (Below.mono (rr2_out (by assumption)).2 (by omega))
      go_wp2_with fail
      go_roundw
      case rel => exact ⟨j + 1, by omega, by go_num, HA2, HB2⟩
      case measure => simp [intOf]; omega

end Go.Proofs.Ytnaifkmganngfaa
