/- The place of a route in a valid table. -/
import Derived.Test.YtgdnfglhlpnooaaPd
namespace Go.Proofs.Ytgdnfglhlpnooaa
open Go.RowKit


def fcmp (L : List Rt) (pn pl : Int) (k : Nat) : Int := cmpP (L.getD k rt0).1 (L.getD k rt0).2.1 pn pl
theorem fcmp_at {L : List Rt} {pn pl : Int} {k : Nat} {r : Rt} (h : L[k]? = some r) : fcmp L pn pl k = cmpP r.1 r.2.1 pn pl := by unfold fcmp; rw [List.getD_eq_getElem?_getD, h]; rfl
theorem fcmp_mono {L : List Rt} {pn pl : Int} (hs : Srt L) (j k : Nat) (hjk : j ≤ k) (hk : k < L.length) (h : fcmp L pn pl k < 0) : fcmp L pn pl j < 0 := by
  rcases Nat.eq_or_lt_of_le hjk with rfl | hlt
  · exact h
  · obtain ⟨a, b, c, hr⟩ := at_of_lt hk
    obtain ⟨a', b', c', hr'⟩ := at_of_lt (L := L) (i := j) (by omega)
    rw [fcmp_at hr, cmpP_lt] at h
    rw [fcmp_at hr', cmpP_lt]
    exact ahP_trans (hs j k _ _ hlt hr' hr) h
/-- The first place at which the order is not ahead is the place; there the search sees whether it is found. -/
theorem place_of {L : List Rt} {pn pl : Int} {i : Nat} (hi : i ≤ L.length) (h1 : ∀ k, k < i → fcmp L pn pl k < 0) (h2 : ∀ k, i ≤ k → k < L.length → 0 ≤ fcmp L pn pl k) :
    plc L pn pl = i ∧ (decide (i < L.length) && (fcmp L pn pl i == 0)) = fndB L pn pl := by
  have hp : plc L pn pl = i := plc_uniq L pn pl i hi (fun k r hk hr => by have := h1 k hk; rw [fcmp_at hr, cmpP_lt] at this; exact this) (fun r hr => by
    have h3 := h2 i (Nat.le_refl _) (lt_of_at hr)
    rw [fcmp_at hr] at h3
    rw [Bool.eq_false_iff, ne_eq, ← cmpP_lt]
    omega)
  refine ⟨hp, ?_⟩
  rcases Nat.lt_or_ge i L.length with hlt | hge
  · obtain ⟨a, b, c, hr⟩ := at_of_lt hlt
    rw [decide_eq_true hlt, Bool.true_and, fcmp_at hr, fndB_at (by rw [hp]; exact hr)]
    rw [Bool.eq_iff_iff, beq_iff_eq, cmpP_zero, Bool.and_eq_true, decide_eq_true_iff, decide_eq_true_iff]
  · rw [decide_eq_false (by omega), Bool.false_and, fndB_none (by rw [hp]; exact hge)]
set_option maxRecDepth 100000 in
set_option maxHeartbeats 4000000 in
theorem place_any (lo hi n : Nat) (v : Value) (L : List Rt) (pn pl : Int) (w : World) (hL : L.length = n) (hr : Row 3 w lo hi v n (flat L)) (hh : hi ≤ w.heap.size) (ht : tok L = true) :
    Calls Try.prog 57 #[.agg #[v], .agg #[.int .i64 pn, .int .i64 pl]] w fun e w' => e = .returned (.tuple #[.int .i64 ((plc L pn pl : Nat) : Int), .bool (fndB L pn pl)]) ∧ Below w.heap.size w w' := by
  obtain ⟨ad, cp, rfl, hn, hc⟩ := hr.opened
  have h120 := (tok_parts ht).1
  have hs := tok_srt ht
  obtain ⟨w3, hw3⟩ : ∃ w3, w3 = ((w.alloc (.cells #[.slice ad n cp] 30)).alloc (.cells #[.int .i64 pn, .int .i64 pl] 34)) := ⟨_, rfl⟩
  have HB : Hid (Below w.heap.size w w3) := by rw [hw3]; show Below _ _ _; go_grown
  have H := Lib.hid (bs_any ad n cp L pn pl (fcmp L pn pl) w3 hL (by omega) (fun h0 => by
    obtain ⟨g, e, hg, hz⟩ := hc h0
    exact ⟨g, e, by have := HB.out.size; omega, fun q z hq => by rw [HB.out.cell (p := ⟨g, q, none⟩) (by show g < _; omega)]; exact hz q z hq⟩) (fun k r hk => (fcmp_at hk).symm) (fun j k h1 h2 h3 => fcmp_mono hs j k h1 (by omega) h3))
  have HL := Lib.hid hL
  obtain ⟨P, hP⟩ : ∃ P, P = plc L pn pl := ⟨_, rfl⟩
  obtain ⟨Fb, hF⟩ : ∃ Fb, Fb = fndB L pn pl := ⟨_, rfl⟩
  rw [← hP, ← hF]
  have HPF := Lib.hid (And.intro hP hF)
  clear hr hc hs ht hL hP hF
  go_enter Try.func57, Try.ntmps57
  go_wp2_with fail
  rw [← hw3]
  go_at_call 101
  refine H.out.mono ?_
  rintro e w4 ⟨⟨i, rfl, hi1, hi2, hi3⟩, hb⟩
  rw [← HL.out] at hi1 hi3 ⊢
  obtain ⟨hp, hf⟩ := place_of hi1 hi2 hi3
  rw [hf, ← hp, ← HPF.out.1, ← HPF.out.2]
  have HB4 := Lib.hid (HB.out.trans (hb.mono HB.out.size))
  clear hi1 hi2 hi3 hp hf hb hw3
  go_wp2_with fail
  go_ret2
  exact ⟨rfl, HB4.out⟩

end Go.Proofs.Ytgdnfglhlpnooaa
