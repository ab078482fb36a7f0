/- The best route of the program and the hops, over contracts. -/
import Derived.Test.YtgdnfglhlpnooaaBs
import Derived.RangeFuncNested
namespace Go.Proofs.Ytgdnfglhlpnooaa
open Go.RowKit


/-- The hop of the best route; -1 where there is none. -/
def hopO : Option Rt → Int
  | none => -1
  | some r => r.2.2

set_option maxHeartbeats 1000000 in
theorem hop_s (ad : Option Addr) (n c : Nat) (a : Int) (o : Option Rt) (w : World)
    (H : ∀ w1, Below w.heap.size w w1 → Calls Try.prog 26 #[.agg #[.slice ad n c], .int .i64 a] w1 fun e w' => e = .returned (.tuple #[.agg (r3 (optR o)), .bool o.isSome]) ∧ Below w1.heap.size w1 w') :
    Calls Try.prog 25 #[.agg #[.slice ad n c], .int .i64 a] w fun e w' => e = .returned (.int .i64 (hopO o)) ∧ Below w.heap.size w w' := by
  have HH := Lib.hid H
  clear H
  cases o with
  | none =>
    go_enter Try.func25, Try.ntmps25
    go_wp2_with fail
    go_at_call 26
    refine (HH.out _ (by go_grown)).mono ?_
    rintro e w1 ⟨rfl, hb1⟩
    have hB := unbox hb1
    clear hb1
    simp only [optR, rt0, r3, Option.getD_none, Option.isSome_none]
    go_wp2_with fail
    go_ret
    exact ⟨rfl, hB.alloc hB.size _⟩
  | some r =>
    obtain ⟨r0, r1, r2⟩ := r
    go_enter Try.func25, Try.ntmps25
    go_wp2_with fail
    go_at_call 26
    refine (HH.out _ (by go_grown)).mono ?_
    rintro e w1 ⟨rfl, hb1⟩
    have hB := unbox hb1
    clear hb1
    simp only [optR, r3, Option.getD_some, Option.isSome_some]
    go_wp2_with fail
    go_ret
    exact ⟨rfl, hB.alloc hB.size _⟩

set_option maxHeartbeats 1000000 in
theorem hop_i (ad : Option Addr) (n c : Nat) (a : Int) (o : Option Rt) (w : World)
    (H : ∀ w1, Below w.heap.size w w1 → Calls Try.prog 72 #[.agg #[.slice ad n c], .int .i64 a] w1 fun e w' => e = .returned (.tuple #[.agg (r3 (optR o)), .bool o.isSome]) ∧ Below w1.heap.size w1 w') :
    Calls Try.prog 28 #[.agg #[.slice ad n c], .int .i64 a] w fun e w' => e = .returned (.int .i64 (hopO o)) ∧ Below w.heap.size w w' := by
  have HH := Lib.hid H
  clear H
  cases o with
  | none =>
    go_enter Try.func28, Try.ntmps28
    go_wp2_with fail
    go_at_call 72
    refine (HH.out _ (by go_grown)).mono ?_
    rintro e w1 ⟨rfl, hb1⟩
    have hB := unbox hb1
    clear hb1
    simp only [optR, rt0, r3, Option.getD_none, Option.isSome_none]
    go_wp2_with fail
    go_ret
    exact ⟨rfl, hB.alloc hB.size _⟩
  | some r =>
    obtain ⟨r0, r1, r2⟩ := r
    go_enter Try.func28, Try.ntmps28
    go_wp2_with fail
    go_at_call 72
    refine (HH.out _ (by go_grown)).mono ?_
    rintro e w1 ⟨rfl, hb1⟩
    have hB := unbox hb1
    clear hb1
    simp only [optR, r3, Option.getD_some, Option.isSome_some]
    go_wp2_with fail
    go_ret
    exact ⟨rfl, hB.alloc hB.size _⟩

attribute [local go_sem] Oper.semAt_some
set_option maxRecDepth 100000 in
set_option maxHeartbeats 4000000 in
theorem ibest_no (lo hi len cap : Nat) (A : Option Addr) (L : List Rt) (a : Int) (w : World) (hL : L.length = len) (hr : Row 3 w lo hi (.slice A len cap) len (flat L)) (hh : hi ≤ w.heap.size) (ht : tok L = false) :
    Calls Try.prog 72 #[.agg #[.slice A len cap], .int .i64 a] w fun e w' => e = .returned (.tuple #[.agg (r3 (optR none)), .bool false]) ∧ Below w.heap.size w w' := by
  refine (callsIn_wide (n := 3)).1 ?_
  refine callsIn_of_wp_marks Try.func72 rfl trivial ?_ rfl
  simp only [Try.ntmps72, List.size_toArray, List.length_cons, List.length_nil, Nat.reduceAdd, Nat.reduceSub, Array.replicate_succ, Array.replicate_zero, List.push_toArray, List.append_toArray, List.nil_append, List.cons_append]
  gi_wp2_with fail
  refine ⟨trivial, ?_⟩
  gi_at_call 56
  refine (callsIn_wide.2 (itok_any lo hi len _ L _ hL (hr.below (B := w.heap.size) (by go_grown) hh) (by simp; omega))).mono ?_
  rw [ht]
  rintro e w1 ⟨rfl, hb1⟩
  have q2 := (BlkB.new ((w.alloc (.cells #[.slice A len cap] 30)).alloc (.cells #[.int .i64 a] 3)) z3 43).alloc (.cells #[.bool false] 4)
  have q3 := BlkB.new (((w.alloc (.cells #[.slice A len cap] 30)).alloc (.cells #[.int .i64 a] 3)).alloc (.cells #[.int .i64 0, .int .i64 0, .int .i64 0] 43)) #[.bool false] 4
  simp only [World.size_alloc] at q2 q3
  have k2 := q2.below hb1 (by simp <;> omega)
  have k3 := q3.below hb1 (by simp)
  have hB1 : Below w.heap.size w w1 := Below.trans (by go_grown) (hb1.mono (by simp <;> omega))
  have e0 := k2.cell 0
  have e1 := k2.cell 1
  have e2 := k2.cell 2
  have e3 := k3.cell 0
  have f0 := k2.frozen 0
  have f1 := k2.frozen 1
  have f2 := k2.frozen 2
  have f3 := k3.frozen 0
  simp [z3] at e0 e1 e2 e3
  have HB := Lib.hid hB1
  clear hb1 q2 q3 k2 k3 hB1 hr
  gi_wp2
  refine ⟨.tuple #[.agg z3, .bool false], ?_, rfl, (((HB.out.setCell (p := ⟨w.heap.size + 1 + 1, 0, none⟩) (by simp; omega) _).setCell (p := ⟨w.heap.size + 1 + 1, 1, none⟩) (by simp; omega) _).setCell (p := ⟨w.heap.size + 1 + 1, 2, none⟩) (by simp; omega) _).setCell (p := ⟨w.heap.size + 1 + 1 + 1, 0, none⟩) (by simp; omega) _⟩
  simp [results, Try.f72, go_sem, z3, *]

theorem upb_get {L : List Rt} (hv : ∀ r ∈ L, pokB r.1 r.2.1 = true) {j : Nat} (hj : j < L.length) : (mkB ((L.length : Int) - 1 - (j : Int), L.getD (L.length - 1 - j) rt0)).1.2 = L.getD (L.length - 1 - j) rt0 := by
  rw [mkB_val]
  rw [List.getD_eq_getElem?_getD, List.getElem?_eq_getElem (by omega)]
  exact hv _ (List.getElem_mem _)
theorem upb_mem {L : List Rt} (hv : ∀ r ∈ L, pokB r.1 r.2.1 = true) {k : Nat} (hk : k ≤ L.length) {a : Int} (h : ∀ p ∈ upb L k, hasR p.1.2 a = false) : ∀ i, L.length - k ≤ i → ∀ r, L[i]? = some r → hasR r a = false := by
  intro i hi r hr
  have hlt := (List.getElem?_eq_some_iff.1 hr).1
  have h1 := h (mkB ((L.length : Int) - 1 - ((L.length - 1 - i : Nat) : Int), L.getD (L.length - 1 - (L.length - 1 - i)) rt0)) (by unfold upb; rw [List.mem_map]; exact ⟨L.length - 1 - i, by rw [List.mem_range]; omega, rfl⟩)
  rw [upb_get hv (by omega), show L.length - 1 - (L.length - 1 - i) = i by omega, List.getD_eq_getElem?_getD, hr] at h1
  exact h1
theorem lastH_none {L : List Rt} {a : Int} : ∀ k, (∀ i, i < k → ∀ r, L[i]? = some r → hasR r a = false) → lastH L a k = none := by
  intro k h
  unfold lastH
  rw [List.find?_eq_none]
  intro r hr
  rw [List.mem_reverse] at hr
  obtain ⟨i, hi⟩ := List.getElem?_of_mem hr
  rw [List.getElem?_take] at hi
  split at hi
  · rw [h i (by assumption) r hi]; simp
  · cases hi
theorem lastH_skip {L : List Rt} {a : Int} {i : Nat} {b : Rt} (hb : L[i]? = some b) (ha : hasR b a = true) : ∀ d, i + 1 + d ≤ L.length → (∀ j, i < j → ∀ r, L[j]? = some r → hasR r a = false) → lastH L a (i + 1 + d) = some b
  | 0, _, _ => by rw [Nat.add_zero, lastH_succ hb, if_pos ha]
  | d + 1, hd, h => by
    obtain ⟨r, hr⟩ : ∃ r, L[i + 1 + d]? = some r := ⟨L[i + 1 + d]'(by omega), List.getElem?_eq_getElem _⟩
    rw [show i + 1 + (d + 1) = (i + 1 + d) + 1 by omega, lastH_succ hr, h _ (by omega) r hr, if_neg (by simp)]
    exact lastH_skip hb ha d (by omega) h
theorem has_addr {r : Rt} {a : Int} (h : pokB r.1 r.2.1 = true) (ha : hasR r a = true) : inB a 0 65535 = true := by
  obtain ⟨h0, h1, h2, h3, h4⟩ := pokB_true h
  unfold hasR at ha
  rw [inB_iff] at *
  have hz : psz 0 = 65536 := by decide
  have hd : (65536 : Int) % psz r.2.1 = 0 := Int.emod_eq_zero_of_dvd (hz ▸ psz_dvd 0 r.2.1 (by omega) h0 h1)
  have := apart_le r.1 65536 (psz r.2.1) h4 hd (by omega)
  omega

theorem ibest_any (lo hi n : Nat) (v : Value) (L : List Rt) (a : Int) (w : World) (hL : L.length = n) (hr : Row 3 w lo hi v n (flat L)) (hh : hi ≤ w.heap.size) :
    Calls Try.prog 72 #[.agg #[v], .int .i64 a] w fun e w' => e = .returned (.tuple #[.agg (r3 (optR (bestO L a))), .bool (bestO L a).isSome]) ∧ Below w.heap.size w w' := by
  obtain ⟨ad, c, rfl⟩ := hr.slice
  by_cases ht : tok L = true
  · have hv := tok_pok ht
    refine (callsIn_wide.1 (best_walk lo hi n c ad L a w hL hr hh ht hv)).mono ?_
    rintro e w' ⟨h | ⟨k, last, hk, h1, h2, h3, h4⟩, hB⟩
    · obtain ⟨rfl, hno⟩ := h
      have hn := lastH_none (L := L) (a := a) L.length fun i hi r hr => upb_mem hv (Nat.le_refl _) hno i (by omega) r hr
      have : bestO L a = none := by unfold bestO; split; exact hn; rfl
      rw [this]
      exact ⟨rfl, hB⟩
    · have hlast : last.1.2 = L.getD (L.length - 1 - k) rt0 := by
        rw [upb_succ] at h1
        have := List.append_cancel_left h1
        simp only [List.cons.injEq, and_true] at this
        rw [← this, upb_get hv hk]
      obtain ⟨b, hb⟩ : ∃ b, L[L.length - 1 - k]? = some b := ⟨L[L.length - 1 - k]'(by omega), List.getElem?_eq_getElem _⟩
      have hlb : last.1.2 = b := by rw [hlast, List.getD_eq_getElem?_getD, hb]; rfl
      rw [hlb] at h3 h4
      have hs := lastH_skip hb h3 k (by omega) fun j hj r hr => upb_mem hv (by omega) h2 j (by omega) r hr
      rw [show L.length - 1 - k + 1 + k = L.length by omega] at hs
      have : bestO L a = some b := by
        unfold bestO
        rw [if_pos ⟨ht, has_addr (hv b (List.mem_of_getElem? hb)) h3⟩]
        exact hs
      rw [this]
      exact ⟨h4, hB⟩
  · rw [Bool.not_eq_true] at ht
    have : bestO L a = none := by unfold bestO; rw [if_neg (fun h => by rw [ht] at h; cases h.1)]
    rw [this]
    exact ibest_no lo hi n c ad L a w hL hr hh ht

theorem shop_any (lo hi n : Nat) (v : Value) (L : List Rt) (a : Int) (w : World) (hL : L.length = n) (hr : Row 3 w lo hi v n (flat L)) (hh : hi ≤ w.heap.size) :
    Calls Try.prog 25 #[.agg #[v], .int .i64 a] w fun e w' => e = .returned (.int .i64 (hopO (bestO L a))) ∧ Below w.heap.size w w' := by
  have H := fun w1 (hb : Below w.heap.size w w1) => sbest_any lo hi n v L a w1 hL (hr.below hb hh) (Nat.le_trans hh hb.size)
  obtain ⟨ad, c, rfl⟩ := hr.slice
  exact hop_s ad n c a (bestO L a) w H
theorem ihop_any (lo hi n : Nat) (v : Value) (L : List Rt) (a : Int) (w : World) (hL : L.length = n) (hr : Row 3 w lo hi v n (flat L)) (hh : hi ≤ w.heap.size) :
    Calls Try.prog 28 #[.agg #[v], .int .i64 a] w fun e w' => e = .returned (.int .i64 (hopO (bestO L a))) ∧ Below w.heap.size w w' := by
  have H := fun w1 (hb : Below w.heap.size w w1) => ibest_any lo hi n v L a w1 hL (hr.below hb hh) (Nat.le_trans hh hb.size)
  obtain ⟨ad, c, rfl⟩ := hr.slice
  exact hop_i ad n c a (bestO L a) w H

end Go.Proofs.Ytgdnfglhlpnooaa
