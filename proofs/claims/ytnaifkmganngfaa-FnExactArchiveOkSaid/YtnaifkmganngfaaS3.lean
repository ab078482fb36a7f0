/- A level of an archive: the program. -/
import Derived.Test.YtnaifkmganngfaaS2
namespace Go.Proofs.Ytnaifkmganngfaa
open Go.RowKit


theorem row5_cell {w : World} {lo hi n c : Nat} {a : Option Addr} {l : List Rw} (h : Row 5 w lo hi (.slice a n c) n (flat l)) {i : Nat} {r : Rw} (hx : l[i]? = some r) : ∃ g, a = some ⟨g, 0, none⟩ ∧ lo ≤ g ∧ g < hi ∧ w.cell? ⟨g, i * 5, none⟩ = some (.int .i64 r.1) ∧ w.cell? ⟨g, i * 5 + 1, none⟩ = some (.int .i64 r.2.1) ∧ w.cell? ⟨g, i * 5 + 2, none⟩ = some (.int .i64 r.2.2.1) ∧ w.cell? ⟨g, i * 5 + 3, none⟩ = some (.int .i64 r.2.2.2.1) ∧ w.cell? ⟨g, i * 5 + 4, none⟩ = some (.int .i64 r.2.2.2.2) := by
  have hil : i < l.length := by
    rcases Nat.lt_or_ge i l.length with h1 | h1
    · exact h1
    · rw [List.getElem?_eq_none h1] at hx; simp at hx
  obtain ⟨f0, f1, f2, f3, f4⟩ := flat_at l i r hx
  rcases h with ⟨h0, ⟨e, _⟩ | ⟨g, cap, e, h1, h2, _, h4, _⟩⟩
  · have := flat_len l; omega
  · simp only [Value.slice.injEq] at e
    exact ⟨g, e.1, h1, h2, h4 _ _ f0, h4 _ _ f1, h4 _ _ f2, h4 _ _ f3, h4 _ _ f4⟩
set_option maxRecDepth 100000 in
set_option maxHeartbeats 4000000 in
theorem ilev_any (lo hi m c : Nat) (a : Option Addr) (l : List Rw) (n t : Int) (w : World) (hr : Row 5 w lo hi (.slice a m c) m (flat l)) (hh : hi ≤ w.heap.size) (hl : l.length = m) (h0 : 1 ≤ n) (h1 : n ≤ 16) (t0 : 0 ≤ t) (t1 : t ≤ 1000000) :
    Calls Try.prog 44 #[.slice a m c, .int .i64 n, .int .i64 t] w fun e w' => e = .returned (.bool (levB n t l)) ∧ Below w.heap.size w w' := by
  have hm : m ≤ 1100000 := by obtain ⟨_, _, _, h, _⟩ := hr.opened; exact h
  obtain ⟨k0, k1, k2, k3, k4⟩ := kept_in t0 h0
  have HL := Lib.hid hl
  have HR := Lib.hid hr
  obtain ⟨f, hf⟩ : ∃ f, f = t / n := ⟨_, rfl⟩
  obtain ⟨k, hk⟩ : ∃ k, k = kept n t := ⟨_, rfl⟩
  have htd : Int.tdiv t n = f := by rw [hf]; exact Int.tdiv_eq_ediv_of_nonneg t0
  rw [← hk] at k0 k1 k2
  rw [← hf] at k2 k3 k4
  have hmin : (if (8 : Int) < f then (8 : Int) else f) = k := by rw [hf, hk]; unfold kept; split <;> split <;> omega
  have wf : IntKind.i64.wrap f = f := IntWalk.i64_in _ (by omega)
  have n0 : (n == 0) = false := by simp; omega
  have n1 : n ≠ 0 := by omega
  have HF := Lib.hid hf
  have HK := Lib.hid hk
  clear hl hr hf hk
  by_cases hlen : (m : Int) = k
  case neg =>
    have hb : ((m : Int) != k) = true := by simp; exact hlen
    have He : Hid (levB n t l = false) := by
      show _ = _
      exact levB_no fun h => hlen (by rw [HK.out, ← HL.out]; exact h.1)
    clear hlen
    go_enter Try.func44, Try.ntmps44
    go_wp2
    go_ret
    exact ⟨by rw [He.out]; rfl, by go_grown⟩
  case pos =>
  go_enter Try.func44, Try.ntmps44
  go_wp2
  have w0 : ∀ j : Nat, (j : Int) < m → IntKind.i64.wrap (f - k + j) = f - k + j := fun j hj => IntWalk.i64_in _ (by omega)
  have wk : IntKind.i64.wrap (f - k) = f - k := IntWalk.i64_in _ (by omega)
  have W0 := Lib.hid w0
  clear w0
  go_loopw [22] (fun i wr => ∃ j : Nat, j ≤ m ∧ i = .int .i64 (j : Int) ∧ Hid (∀ (u : Nat) (r : Rw), u < j → l[u]? = some r → rowP n ((f - k + u) * n) r) ∧ Hid (Below w.heap.size w wr)) (fun i _ => m - (intOf i).toNat)
  case atStart => exact ⟨0, Nat.zero_le _, rfl, fun u r hu => absurd hu (Nat.not_lt_zero _), Below.refl _ _⟩
  case round =>
    obtain ⟨wo, rfl⟩ : ∃ x, x = wr := ⟨_, rfl⟩
    obtain ⟨j, hj, rfl, hA, hB⟩ := hrel
    by_cases hlt : j < m
    case neg =>
      obtain rfl : j = m := by omega
      have hge : ¬ ((j : Int) < (j : Int)) := by omega
      have He : Hid (levB n t l = true) := by
        show _ = _
        refine levB_iff.2 ⟨by rw [HL.out, ← HK.out]; exact hlen, fun u r hu => ?_⟩
        have hul : u < l.length := by
          rcases Nat.lt_or_ge u l.length with h1 | h1
          · exact h1
          · rw [List.getElem?_eq_none h1] at hu; simp at hu
        have := hA.out u r (by rw [HL.out] at hul; exact hul) hu
        rw [HF.out, HK.out] at this
        exact this
      go_wp2
      go_ret
      exact ⟨by rw [He.out]; rfl, hB.out⟩
    case pos =>
    obtain ⟨r, hr⟩ : ∃ r, l[j]? = some r := ⟨_, List.getElem?_eq_getElem (by rw [HL.out]; exact hlt)⟩
    obtain ⟨g, rfl, _, hg, c0, c1, c2, c3, c4⟩ := row5_cell (HR.out.below hB.out hh) hr
    obtain ⟨x0, x1, x2, x3, x4⟩ := r
    have HRr := Lib.hid hr
    simp only at c0 c1 c2 c3 c4
    have q0 : (0 : Int) ≤ (j : Int) := by omega
    have q1 : (j : Int) < (m : Int) := by omega
    have wj := W0.out j q1
    have hsz := hB.out.size
    have hgw : g < wo.heap.size := by omega
    obtain ⟨y, hy⟩ : ∃ y, y = (f - k + j) * n := ⟨_, rfl⟩
    have wy : IntKind.i64.wrap ((f - k + j) * n) = y := by
      rw [hy]
      refine IntWalk.i64_in _ ?_
      have h2 : 0 ≤ (f - k + j) * n := Int.mul_nonneg (by omega) (by omega)
      have h3 : (f - k + j) * n ≤ 1000000 * 16 := Int.mul_le_mul (by omega) h1 (by omega) (by omega)
      omega
    have HY := Lib.hid hy
    have Hbad : ∀ (P : ¬ rowP n y (x0, x1, x2, x3, x4)), Hid (levB n t l = false) := fun hno => by
      show _ = _
      refine levB_no fun h => hno ?_
      have := h.2 j _ HRr.out
      rw [← HF.out, ← HK.out, ← HY.out] at this
      exact this
    have HBad := Lib.hid Hbad
    clear hr hy Hbad
    by_cases e0 : x0 = y
    case neg =>
      have b0 : (x0 != y) = true := by simp [e0]
      have He := HBad.out (fun h => e0 h.1)
      clear e0
      go_wp2
      go_ret
      exact ⟨by rw [He.out]; rfl, hB.out.trans (by go_grown)⟩
    case pos =>
    have b0 : (x0 != y) = false := by simp [e0]
    by_cases e1 : x1 = n
    case neg =>
      have b1 : (x1 != n) = true := by simp [e1]
      have He := HBad.out (fun h => e1 h.2.1)
      clear e1 e0
      go_wp2
      go_ret
      exact ⟨by rw [He.out]; rfl, hB.out.trans (by go_grown)⟩
    case pos =>
    have b1 : (x1 != n) = false := by simp [e1]
    have E0 := Lib.hid e0
    have E1 := Lib.hid e1
    clear e0 e1
    have hok := iok_any x0 n x2 x3 x4 h0 h1
    rw [← E1.out] at hok
    cases hv : okB x1 x2 x3 x4 with
    | false =>
      have He := HBad.out (fun h => by have h2 := h.2.2; rw [← E1.out] at h2; simp only at h2; rw [okB_iff.2 h2] at hv; cases hv)
      have HO := Lib.hid hok
      clear hok
      go_wp2_with fail
      go_at_call 64
      refine (HO.out _).mono ?_
      rw [hv]
      rintro e w2 ⟨rfl, hb2⟩
      have HB2 : Hid (Below w.heap.size w w2) := hB.out.trans (Below.trans (by go_grown) (hb2.mono (by simp <;> omega)))
      clear hb2
      go_wp2_with fail
      go_ret
      exact ⟨by rw [He.out]; rfl, HB2.out⟩
    | true =>
      have HO := Lib.hid hok
      have HA2 : Hid (∀ (u : Nat) (r : Rw), u < j + 1 → l[u]? = some r → rowP n ((f - k + u) * n) r) := fun u r hu hr => by
        by_cases e : u = j
        · subst e
          rw [HRr.out] at hr
          obtain rfl := Option.some.inj hr
          exact ⟨by rw [← HY.out]; exact E0.out, E1.out, by rw [← E1.out]; exact okB_iff.1 hv⟩
        · exact hA.out u r (by omega) hr
      clear hok hA
      go_wp2_with fail
      go_at_call 64
      refine (HO.out _).mono ?_
      rw [hv]
      rintro e w2 ⟨rfl, hb2⟩
      have HB2 : Hid (Below w.heap.size w w2) := hB.out.trans (Below.trans (by go_grown) (hb2.mono (by simp <;> omega)))
      clear hb2
      go_wp2_with fail
      go_roundw
      case rel => exact ⟨j + 1, by omega, by go_num, HA2, HB2⟩
      case measure => simp [intOf]; omega

end Go.Proofs.Ytnaifkmganngfaa
