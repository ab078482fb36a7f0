/- Whether a graph is valid: the specification. -/
import Derived.Test.YtfpafjdakipccaaMl
import Derived.Test.YtfpafjdakipccaaX1
import Derived.Test.YtfpafjdakipccaaGg
namespace Go.Proofs.Ytfpafjdakipccaa
open Go.RowKit

/-- Whether x is a node. -/
def ndB (N x : Int) : Bool := inB x 0 (N - 1)
def eokB (N a b c : Int) : Bool := ndB N a && ndB N b && !(a == b) && inB c 1 1000
/-- Whether edge i of the list is valid and stands behind the one before it. -/
def echk (N : Int) (L : List Ed) (i : Nat) : Bool := eokB N (L.getD i e0).1 (L.getD i e0).2.1 (L.getD i e0).2.2 && (i == 0 || eahB (L.getD (i - 1) e0).1 (L.getD (i - 1) e0).2.1 (L.getD i e0).1 (L.getD i e0).2.1)
/-- Whether the graph is valid. -/
def gok (N : Int) (L : List Ed) : Bool := inB N 1 10 && decide (L.length ≤ 60) && (List.range L.length).all (echk N L)
theorem gok_n {N : Int} {L : List Ed} (h : N < 1 ∨ 10 < N) : gok N L = false := by unfold gok; rw [inB_false h, Bool.false_and, Bool.false_and]
theorem gok_big {N : Int} {L : List Ed} (h : 60 < L.length) : gok N L = false := by unfold gok; rw [decide_eq_false (by omega), Bool.and_false, Bool.false_and]
theorem gok_no {N : Int} {L : List Ed} {i : Nat} (h : i < L.length) (hc : echk N L i = false) : gok N L = false := by
  unfold gok
  rw [Bool.and_eq_false_iff]
  right
  rw [List.all_eq_false]
  exact ⟨i, List.mem_range.2 h, by rw [hc]; simp⟩
theorem gok_yes {N : Int} {L : List Ed} (h1 : 1 ≤ N) (h2 : N ≤ 10) (h : L.length ≤ 60) (hc : ∀ i, i < L.length → echk N L i = true) : gok N L = true := by
  unfold gok
  rw [inB_true h1 h2, decide_eq_true h, Bool.true_and, Bool.true_and, List.all_eq_true]
  exact fun i hi => hc i (List.mem_range.1 hi)
theorem gok_parts {N : Int} {L : List Ed} (h : gok N L = true) : 1 ≤ N ∧ N ≤ 10 ∧ L.length ≤ 60 ∧ ∀ i, i < L.length → echk N L i = true := by
  unfold gok at h
  rw [Bool.and_eq_true, Bool.and_eq_true, inB_iff, decide_eq_true_iff, List.all_eq_true] at h
  exact ⟨h.1.1.1, h.1.1.2, h.1.2, fun i hi => h.2 i (List.mem_range.2 hi)⟩
theorem echk_at {N : Int} {L : List Ed} {i : Nat} {r : Ed} (h : L[i]? = some r) : echk N L i = (eokB N r.1 r.2.1 r.2.2 && (i == 0 || eahB (L.getD (i - 1) e0).1 (L.getD (i - 1) e0).2.1 r.1 r.2.1)) := by
  unfold echk
  rw [List.getD_eq_getElem?_getD (i := i), h]
  rfl
theorem echk_prev {N : Int} {L : List Ed} {i : Nat} {p r : Ed} (h : L[i + 1]? = some r) (h' : L[i]? = some p) : echk N L (i + 1) = (eokB N r.1 r.2.1 r.2.2 && eahB p.1 p.2.1 r.1 r.2.1) := by
  rw [echk_at h, show i + 1 - 1 = i by omega, List.getD_eq_getElem?_getD, h']
  simp

theorem eokB_iff {N a b c : Int} : eokB N a b c = true ↔ (0 ≤ a ∧ a < N) ∧ (0 ≤ b ∧ b < N) ∧ a ≠ b ∧ 1 ≤ c ∧ c ≤ 1000 := by
  unfold eokB ndB
  simp only [Bool.and_eq_true, inB_iff, Bool.not_eq_true', beq_eq_false_iff_ne, ne_eq]
  constructor
  · rintro ⟨⟨⟨h1, h2⟩, h3⟩, h4⟩; exact ⟨⟨h1.1, by omega⟩, ⟨h2.1, by omega⟩, h3, h4⟩
  · rintro ⟨h1, h2, h3, h4⟩; exact ⟨⟨⟨⟨h1.1, by omega⟩, ⟨h2.1, by omega⟩⟩, h3⟩, h4⟩
theorem eahB_iff {a b c d : Int} : eahB a b c d = true ↔ a < c ∨ a = c ∧ b < d := by
  unfold eahB; simp
theorem gok_mem {N : Int} {L : List Ed} (h : gok N L = true) {e : Ed} (he : e ∈ L) : (0 ≤ e.1 ∧ e.1 < N) ∧ (0 ≤ e.2.1 ∧ e.2.1 < N) ∧ e.1 ≠ e.2.1 ∧ 1 ≤ e.2.2 ∧ e.2.2 ≤ 1000 := by
  obtain ⟨i, hi⟩ := List.getElem?_of_mem he
  have hl : i < L.length := (List.getElem?_eq_some_iff.1 hi).1
  have := (gok_parts h).2.2.2 i hl
  rw [echk_at hi, Bool.and_eq_true] at this
  exact eokB_iff.1 this.1
theorem gok_step {N : Int} {L : List Ed} (h : gok N L = true) {i : Nat} {p r : Ed} (hp : L[i]? = some p) (hr : L[i + 1]? = some r) : p.1 < r.1 ∨ p.1 = r.1 ∧ p.2.1 < r.2.1 := by
  have hl : i + 1 < L.length := (List.getElem?_eq_some_iff.1 hr).1
  have := (gok_parts h).2.2.2 (i + 1) hl
  rw [echk_prev hr hp, Bool.and_eq_true] at this
  exact eahB_iff.1 this.2
theorem gok_lt {N : Int} {L : List Ed} (h : gok N L = true) {i : Nat} {p : Ed} (hp : L[i]? = some p) : ∀ (d : Nat) {r : Ed}, L[i + 1 + d]? = some r → p.1 < r.1 ∨ p.1 = r.1 ∧ p.2.1 < r.2.1
  | 0, r, hr => gok_step h hp hr
  | d + 1, r, hr => by
    have hl : i + 1 + (d + 1) < L.length := (List.getElem?_eq_some_iff.1 hr).1
    have hq : L[i + 1 + d]? = some (L[i + 1 + d]'(by omega)) := List.getElem?_eq_getElem _
    have h1 := gok_lt h hp d hq
    have h2 := gok_step h hq hr
    omega
/-- Two edges between the same nodes are one. -/
theorem gok_inj {N : Int} {L : List Ed} (h : gok N L = true) {i j : Nat} {p r : Ed} (hp : L[i]? = some p) (hr : L[j]? = some r) (h1 : p.1 = r.1) (h2 : p.2.1 = r.2.1) : i = j := by
  rcases Nat.lt_trichotomy i j with hlt | rfl | hlt
  · have := gok_lt h hp (j - (i + 1)) (r := r) (by rw [show i + 1 + (j - (i + 1)) = j by omega]; exact hr)
    omega
  · rfl
  · have := gok_lt h hr (i - (j + 1)) (r := p) (by rw [show j + 1 + (i - (j + 1)) = i by omega]; exact hp)
    omega

/-! What an edge costs -/

set_option maxHeartbeats 1000000 in
theorem node_any (N : Int) (a : Option Addr) (n c : Nat) (x : Int) (w : World) (h1 : 1 ≤ N) (h2 : N ≤ 10) :
    Calls Try.prog 104 #[.agg #[.int .i64 N, .slice a n c], .int .i64 x] w fun e w' => e = .returned (.bool (ndB N x)) ∧ Below w.heap.size w w' := by
  go_enter Try.func104, Try.ntmps104
  go_wp2_with fail
  go_at_call 74
  refine (in_any x 0 (N - 1) _).mono ?_
  rintro e w1 ⟨rfl, rfl⟩
  go_wp2
  go_ret
  exact ⟨rfl, by go_grown⟩




/-- What stands at the head of the loop's rounds: edges below k are well. -/
def GRel (w wr : World) (N : Int) (v : Value) (L : List Ed) (k : Nat) : Prop := (∀ j, j < k → echk N L j = true) ∧ wr.cell? ⟨w.heap.size, 0, none⟩ = some (.int .i64 N) ∧ wr.cell? ⟨w.heap.size, 1, none⟩ = some v ∧ w.heap.size < wr.heap.size ∧ Below w.heap.size w wr
theorem GRel.next {w wr : World} {N : Int} {v : Value} {L : List Ed} {k : Nat} (h : ∀ j, j < k → echk N L j = true) (hk : echk N L k = true) (h0 : wr.cell? ⟨w.heap.size, 0, none⟩ = some (.int .i64 N)) (h1 : wr.cell? ⟨w.heap.size, 1, none⟩ = some v) (hs : w.heap.size < wr.heap.size) (hB : Below w.heap.size w wr) : GRel w wr N v L (k + 1) :=
  ⟨fun j hj => by
    by_cases e : j = k
    · subst e; exact hk
    · exact h j (by omega), h0, h1, hs, hB⟩

set_option maxRecDepth 100000 in
set_option maxHeartbeats 4000000 in
theorem sgok_some (N : Int) (g n cap : Nat) (L : List Ed) (w : World) (hN1 : 1 ≤ N) (hN2 : N ≤ 10) (hn : L.length = n) (h60 : n ≤ 60) (hg : g < w.heap.size) (h : ∀ q z, (flat L)[q]? = some z → w.cell? ⟨g, q, none⟩ = some (.int .i64 z)) :
    Calls Try.prog 81 #[.agg #[.int .i64 N, .slice (some ⟨g, 0, none⟩) n cap]] w fun e w' => e = .returned (.bool (gok N L)) ∧ Below w.heap.size w w' := by
  have Hn := Lib.hid hn
  have H := Lib.hid h
  clear h hn
  go_enter Try.func81, Try.ntmps81
  go_wp2_with fail
  go_at_call 74
  refine (in_any N 1 10 _).mono ?_
  rw [inB_true hN1 hN2]
  rintro e w1 ⟨rfl, rfl⟩
  go_wp2
  go_loopw [3] (fun i wr => ∃ k : Nat, k ≤ n ∧ i = .int .i64 (k : Int) ∧ Hid (GRel w wr N (.slice (some ⟨g, 0, none⟩) n cap) L k)) (fun i _ => n - (intOf i).toNat)
  case atStart => exact ⟨0, Nat.zero_le _, rfl, fun j hj => absurd hj (Nat.not_lt_zero _), by simp, by simp, by simp, by go_grown⟩
  case round =>
    obtain ⟨k, hk, rfl, hR⟩ := hrel
    have k0 := hR.out.2.1
    have k1 := hR.out.2.2.1
    have hsz := hR.out.2.2.2.1
    have hB := hR.out.2.2.2.2
    have HB := Lib.hid hB
    by_cases hlt : k < n
    · obtain ⟨r, hr⟩ : ∃ r, L[k]? = some r := ⟨L[k]'(by rw [Hn.out]; exact hlt), List.getElem?_eq_getElem _⟩
      obtain ⟨a, b, c⟩ := r
      obtain ⟨r0, r1, r2⟩ := flat_at L k _ hr
      have HL : Hid (L[k]? = some (a, b, c)) := hr
      have z0 : wr.cell? ⟨g, k * 3, none⟩ = some (.int .i64 a) := by rw [hB.cell (p := ⟨g, k * 3, none⟩) hg]; exact H.out _ _ r0
      have z1 : wr.cell? ⟨g, k * 3 + 1, none⟩ = some (.int .i64 b) := by rw [hB.cell (p := ⟨g, k * 3 + 1, none⟩) hg]; exact H.out _ _ r1
      have z2 : wr.cell? ⟨g, k * 3 + 2, none⟩ = some (.int .i64 c) := by rw [hB.cell (p := ⟨g, k * 3 + 2, none⟩) hg]; exact H.out _ _ r2
      have HO := Lib.hid hR.out.1
      have hgw : g < wr.heap.size := by omega
      have q0 : (0 : Int) ≤ (k : Int) := by omega
      have q1 : (k : Int) < (n : Int) := by omega
      clear r0 r1 r2 hr hB hR
      by_cases h1 : ndB N a = true
      · by_cases h2 : ndB N b = true
        · by_cases h3 : a = b
          · have Hno : Hid (gok N L = false) := gok_no (i := k) (by rw [Hn.out]; exact hlt) (by rw [echk_at HL.out]; unfold eokB; rw [h3]; simp)
            have h5 : (a == b) = true := by simp [h3]
            have H3 := Lib.hid h3
            clear h3
            go_wp2_with fail
            go_at_call 104
            refine (node_any N _ _ _ a _ hN1 hN2).mono ?_
            rw [h1]
            rintro e v1 ⟨rfl, hb1⟩
            have sz1 : wr.heap.size + 1 ≤ v1.heap.size := by have hh := hb1.size; simp at hh; omega
            have st1 : Below wr.heap.size wr v1 := Below.trans (by go_grown) (hb1.mono (by simp))
            have c1_0 : v1.cell? ⟨w.heap.size, 0, none⟩ = some (.int .i64 N) := by rw [(bcell st1).1 _ _ (by omega)]; exact k0
            have c1_1 : v1.cell? ⟨w.heap.size, 1, none⟩ = some (.slice (some ⟨g, 0, none⟩) n cap) := by rw [(bcell st1).1 _ _ (by omega)]; exact k1
            have c1_2 : v1.cell? ⟨g, k * 3, none⟩ = some (.int .i64 a) := by rw [(bcell st1).1 _ _ (by omega)]; exact z0
            have c1_3 : v1.cell? ⟨g, k * 3 + 1, none⟩ = some (.int .i64 b) := by rw [(bcell st1).1 _ _ (by omega)]; exact z1
            have c1_4 : v1.cell? ⟨g, k * 3 + 2, none⟩ = some (.int .i64 c) := by rw [(bcell st1).1 _ _ (by omega)]; exact z2
            have c1_5 : v1.cell? ⟨wr.heap.size, 0, none⟩ = some (.int .i64 a) := by rw [(bcell hb1).1 _ _ (by simp)]; simp
            have c1_6 : v1.cell? ⟨wr.heap.size, 1, none⟩ = some (.int .i64 b) := by rw [(bcell hb1).1 _ _ (by simp)]; simp
            have c1_7 : v1.cell? ⟨wr.heap.size, 2, none⟩ = some (.int .i64 c) := by rw [(bcell hb1).1 _ _ (by simp)]; simp
            have B1 : Hid (Below w.heap.size w v1) := HB.out.trans (st1.mono (by omega))
            have d1_0 : w.heap.size < v1.heap.size := by omega
            have e1_0 : w.heap.size ≠ v1.heap.size := by omega
            have d1_2 : wr.heap.size < v1.heap.size := by omega
            have e1_2 : wr.heap.size ≠ v1.heap.size := by omega
            clear k0 k1 z0 z1 z2 HB st1 hb1
            go_wp2_with fail
            go_at_call 104
            refine (node_any N _ _ _ b _ hN1 hN2).mono ?_
            rw [h2]
            rintro e v2 ⟨rfl, hb2⟩
            have sz2 : v1.heap.size ≤ v2.heap.size := hb2.size
            have st2 : Below v1.heap.size v1 v2 := hb2
            have c2_0 : v2.cell? ⟨w.heap.size, 0, none⟩ = some (.int .i64 N) := by rw [(bcell st2).1 _ _ (by omega)]; exact c1_0
            have c2_1 : v2.cell? ⟨w.heap.size, 1, none⟩ = some (.slice (some ⟨g, 0, none⟩) n cap) := by rw [(bcell st2).1 _ _ (by omega)]; exact c1_1
            have c2_2 : v2.cell? ⟨g, k * 3, none⟩ = some (.int .i64 a) := by rw [(bcell st2).1 _ _ (by omega)]; exact c1_2
            have c2_3 : v2.cell? ⟨g, k * 3 + 1, none⟩ = some (.int .i64 b) := by rw [(bcell st2).1 _ _ (by omega)]; exact c1_3
            have c2_4 : v2.cell? ⟨g, k * 3 + 2, none⟩ = some (.int .i64 c) := by rw [(bcell st2).1 _ _ (by omega)]; exact c1_4
            have c2_5 : v2.cell? ⟨wr.heap.size, 0, none⟩ = some (.int .i64 a) := by rw [(bcell st2).1 _ _ (by omega)]; exact c1_5
            have c2_6 : v2.cell? ⟨wr.heap.size, 1, none⟩ = some (.int .i64 b) := by rw [(bcell st2).1 _ _ (by omega)]; exact c1_6
            have c2_7 : v2.cell? ⟨wr.heap.size, 2, none⟩ = some (.int .i64 c) := by rw [(bcell st2).1 _ _ (by omega)]; exact c1_7
            have B2 : Hid (Below w.heap.size w v2) := B1.out.trans (st2.mono (by omega))
            have d2_0 : w.heap.size < v2.heap.size := by omega
            have e2_0 : w.heap.size ≠ v2.heap.size := by omega
            have d2_2 : wr.heap.size < v2.heap.size := by omega
            have e2_2 : wr.heap.size ≠ v2.heap.size := by omega
            clear d1_0 e1_0 d1_2 e1_2 c1_0 c1_1 c1_2 c1_3 c1_4 c1_5 c1_6 c1_7 B1 st2 hb2
            go_wp2_with fail
            go_ret
            exact ⟨by rw [Hno.out]; rfl, B2.out⟩
          · have h5 : (a == b) = false := by simp [h3]
            have H3 := Lib.hid h3
            clear h3
            by_cases h4 : inB c 1 1000 = true
            · have He : Hid (eokB N a b c = true) := by show eokB N a b c = true; unfold eokB; rw [h1, h2, h4, h5]; rfl
              by_cases hk0 : k = 0
              · have Hc : Hid (echk N L k = true) := by show echk N L k = true; rw [echk_at HL.out, He.out, hk0]; rfl
                have d0 : decide (0 < k) = false := by rw [hk0]; decide
                have Hk0 := Lib.hid hk0
                clear hk0
                go_wp2_with fail
                go_at_call 104
                refine (node_any N _ _ _ a _ hN1 hN2).mono ?_
                rw [h1]
                rintro e v1 ⟨rfl, hb1⟩
                have sz1 : wr.heap.size + 1 ≤ v1.heap.size := by have hh := hb1.size; simp at hh; omega
                have st1 : Below wr.heap.size wr v1 := Below.trans (by go_grown) (hb1.mono (by simp))
                have c1_0 : v1.cell? ⟨w.heap.size, 0, none⟩ = some (.int .i64 N) := by rw [(bcell st1).1 _ _ (by omega)]; exact k0
                have c1_1 : v1.cell? ⟨w.heap.size, 1, none⟩ = some (.slice (some ⟨g, 0, none⟩) n cap) := by rw [(bcell st1).1 _ _ (by omega)]; exact k1
                have c1_2 : v1.cell? ⟨g, k * 3, none⟩ = some (.int .i64 a) := by rw [(bcell st1).1 _ _ (by omega)]; exact z0
                have c1_3 : v1.cell? ⟨g, k * 3 + 1, none⟩ = some (.int .i64 b) := by rw [(bcell st1).1 _ _ (by omega)]; exact z1
                have c1_4 : v1.cell? ⟨g, k * 3 + 2, none⟩ = some (.int .i64 c) := by rw [(bcell st1).1 _ _ (by omega)]; exact z2
                have c1_5 : v1.cell? ⟨wr.heap.size, 0, none⟩ = some (.int .i64 a) := by rw [(bcell hb1).1 _ _ (by simp)]; simp
                have c1_6 : v1.cell? ⟨wr.heap.size, 1, none⟩ = some (.int .i64 b) := by rw [(bcell hb1).1 _ _ (by simp)]; simp
                have c1_7 : v1.cell? ⟨wr.heap.size, 2, none⟩ = some (.int .i64 c) := by rw [(bcell hb1).1 _ _ (by simp)]; simp
                have B1 : Hid (Below w.heap.size w v1) := HB.out.trans (st1.mono (by omega))
                have d1_0 : w.heap.size < v1.heap.size := by omega
                have e1_0 : w.heap.size ≠ v1.heap.size := by omega
                have d1_2 : wr.heap.size < v1.heap.size := by omega
                have e1_2 : wr.heap.size ≠ v1.heap.size := by omega
                clear k0 k1 z0 z1 z2 HB st1 hb1
                go_wp2_with fail
                go_at_call 104
                refine (node_any N _ _ _ b _ hN1 hN2).mono ?_
                rw [h2]
                rintro e v2 ⟨rfl, hb2⟩
                have sz2 : v1.heap.size ≤ v2.heap.size := hb2.size
                have st2 : Below v1.heap.size v1 v2 := hb2
                have c2_0 : v2.cell? ⟨w.heap.size, 0, none⟩ = some (.int .i64 N) := by rw [(bcell st2).1 _ _ (by omega)]; exact c1_0
                have c2_1 : v2.cell? ⟨w.heap.size, 1, none⟩ = some (.slice (some ⟨g, 0, none⟩) n cap) := by rw [(bcell st2).1 _ _ (by omega)]; exact c1_1
                have c2_2 : v2.cell? ⟨g, k * 3, none⟩ = some (.int .i64 a) := by rw [(bcell st2).1 _ _ (by omega)]; exact c1_2
                have c2_3 : v2.cell? ⟨g, k * 3 + 1, none⟩ = some (.int .i64 b) := by rw [(bcell st2).1 _ _ (by omega)]; exact c1_3
                have c2_4 : v2.cell? ⟨g, k * 3 + 2, none⟩ = some (.int .i64 c) := by rw [(bcell st2).1 _ _ (by omega)]; exact c1_4
                have c2_5 : v2.cell? ⟨wr.heap.size, 0, none⟩ = some (.int .i64 a) := by rw [(bcell st2).1 _ _ (by omega)]; exact c1_5
                have c2_6 : v2.cell? ⟨wr.heap.size, 1, none⟩ = some (.int .i64 b) := by rw [(bcell st2).1 _ _ (by omega)]; exact c1_6
                have c2_7 : v2.cell? ⟨wr.heap.size, 2, none⟩ = some (.int .i64 c) := by rw [(bcell st2).1 _ _ (by omega)]; exact c1_7
                have B2 : Hid (Below w.heap.size w v2) := B1.out.trans (st2.mono (by omega))
                have d2_0 : w.heap.size < v2.heap.size := by omega
                have e2_0 : w.heap.size ≠ v2.heap.size := by omega
                have d2_2 : wr.heap.size < v2.heap.size := by omega
                have e2_2 : wr.heap.size ≠ v2.heap.size := by omega
                clear d1_0 e1_0 d1_2 e1_2 c1_0 c1_1 c1_2 c1_3 c1_4 c1_5 c1_6 c1_7 B1 st2 hb2
                go_wp2_with fail
                go_at_call 74
                refine (in_any c 1 1000 _).mono ?_
                rw [h4]
                rintro e w' ⟨rfl, rfl⟩
                go_wp2_with fail
                go_roundw
                case rel => exact ⟨k + 1, by omega, by go_num, GRel.next HO.out Hc.out (by exact c2_0) (by exact c2_1) (by first | omega | (simp; omega)) B2.out⟩
                case measure => simp [intOf]; omega
              · obtain ⟨m, hm⟩ : ∃ m, k = m + 1 := ⟨k - 1, by omega⟩
                obtain ⟨r', hr'⟩ : ∃ r, L[m]? = some r := ⟨L[m]'(by rw [Hn.out]; omega), List.getElem?_eq_getElem _⟩
                obtain ⟨a0, b0, d0⟩ := r'
                obtain ⟨r0, r1, r2⟩ := flat_at L m _ hr'
                have HL' : Hid (L[m]? = some (a0, b0, d0)) := hr'
                have z3 : wr.cell? ⟨g, m * 3, none⟩ = some (.int .i64 a0) := by rw [HB.out.cell (p := ⟨g, m * 3, none⟩) hg]; exact H.out _ _ r0
                have z4 : wr.cell? ⟨g, m * 3 + 1, none⟩ = some (.int .i64 b0) := by rw [HB.out.cell (p := ⟨g, m * 3 + 1, none⟩) hg]; exact H.out _ _ r1
                have z5 : wr.cell? ⟨g, m * 3 + 2, none⟩ = some (.int .i64 d0) := by rw [HB.out.cell (p := ⟨g, m * 3 + 2, none⟩) hg]; exact H.out _ _ r2
                clear r0 r1 r2 hr'
                have dk : decide (0 < k) = true := decide_eq_true (by omega)
                have dk1 : 0 < k := by omega
                have e1 : IntKind.i64.wrap ((k : Int) - 1) = (m : Int) := by rw [IntWalk.i64_in _ (by omega)]; omega
                have q2 : (0 : Int) ≤ (m : Int) := by omega
                have q3 : (m : Int) < (n : Int) := by omega
                have Hm := Lib.hid hm
                clear hm hk0
                have Hch : Hid (echk N L k = eahB a0 b0 a b) := by show echk N L k = _; rw [Hm.out, echk_prev (by rw [← Hm.out]; exact HL.out) HL'.out, He.out]; rfl
                by_cases l1 : a < a0
                · have Hno : Hid (gok N L = false) := gok_no (i := k) (by rw [Hn.out]; exact hlt) (by rw [Hch.out, Bool.eq_false_iff, ne_eq, eahB_iff]; omega)
                  go_wp2_with fail
                  go_at_call 104
                  refine (node_any N _ _ _ a _ hN1 hN2).mono ?_
                  rw [h1]
                  rintro e v1 ⟨rfl, hb1⟩
                  have sz1 : wr.heap.size + 1 ≤ v1.heap.size := by have hh := hb1.size; simp at hh; omega
                  have st1 : Below wr.heap.size wr v1 := Below.trans (by go_grown) (hb1.mono (by simp))
                  have c1_0 : v1.cell? ⟨w.heap.size, 0, none⟩ = some (.int .i64 N) := by rw [(bcell st1).1 _ _ (by omega)]; exact k0
                  have c1_1 : v1.cell? ⟨w.heap.size, 1, none⟩ = some (.slice (some ⟨g, 0, none⟩) n cap) := by rw [(bcell st1).1 _ _ (by omega)]; exact k1
                  have c1_2 : v1.cell? ⟨g, k * 3, none⟩ = some (.int .i64 a) := by rw [(bcell st1).1 _ _ (by omega)]; exact z0
                  have c1_3 : v1.cell? ⟨g, k * 3 + 1, none⟩ = some (.int .i64 b) := by rw [(bcell st1).1 _ _ (by omega)]; exact z1
                  have c1_4 : v1.cell? ⟨g, k * 3 + 2, none⟩ = some (.int .i64 c) := by rw [(bcell st1).1 _ _ (by omega)]; exact z2
                  have c1_5 : v1.cell? ⟨g, m * 3, none⟩ = some (.int .i64 a0) := by rw [(bcell st1).1 _ _ (by omega)]; exact z3
                  have c1_6 : v1.cell? ⟨g, m * 3 + 1, none⟩ = some (.int .i64 b0) := by rw [(bcell st1).1 _ _ (by omega)]; exact z4
                  have c1_7 : v1.cell? ⟨g, m * 3 + 2, none⟩ = some (.int .i64 d0) := by rw [(bcell st1).1 _ _ (by omega)]; exact z5
                  have c1_8 : v1.cell? ⟨wr.heap.size, 0, none⟩ = some (.int .i64 a) := by rw [(bcell hb1).1 _ _ (by simp)]; simp
                  have c1_9 : v1.cell? ⟨wr.heap.size, 1, none⟩ = some (.int .i64 b) := by rw [(bcell hb1).1 _ _ (by simp)]; simp
                  have c1_10 : v1.cell? ⟨wr.heap.size, 2, none⟩ = some (.int .i64 c) := by rw [(bcell hb1).1 _ _ (by simp)]; simp
                  have B1 : Hid (Below w.heap.size w v1) := HB.out.trans (st1.mono (by omega))
                  have d1_0 : w.heap.size < v1.heap.size := by omega
                  have e1_0 : w.heap.size ≠ v1.heap.size := by omega
                  have d1_2 : wr.heap.size < v1.heap.size := by omega
                  have e1_2 : wr.heap.size ≠ v1.heap.size := by omega
                  clear k0 k1 z0 z1 z2 z3 z4 z5 HB st1 hb1
                  go_wp2_with fail
                  go_at_call 104
                  refine (node_any N _ _ _ b _ hN1 hN2).mono ?_
                  rw [h2]
                  rintro e v2 ⟨rfl, hb2⟩
                  have sz2 : v1.heap.size ≤ v2.heap.size := hb2.size
                  have st2 : Below v1.heap.size v1 v2 := hb2
                  have c2_0 : v2.cell? ⟨w.heap.size, 0, none⟩ = some (.int .i64 N) := by rw [(bcell st2).1 _ _ (by omega)]; exact c1_0
                  have c2_1 : v2.cell? ⟨w.heap.size, 1, none⟩ = some (.slice (some ⟨g, 0, none⟩) n cap) := by rw [(bcell st2).1 _ _ (by omega)]; exact c1_1
                  have c2_2 : v2.cell? ⟨g, k * 3, none⟩ = some (.int .i64 a) := by rw [(bcell st2).1 _ _ (by omega)]; exact c1_2
                  have c2_3 : v2.cell? ⟨g, k * 3 + 1, none⟩ = some (.int .i64 b) := by rw [(bcell st2).1 _ _ (by omega)]; exact c1_3
                  have c2_4 : v2.cell? ⟨g, k * 3 + 2, none⟩ = some (.int .i64 c) := by rw [(bcell st2).1 _ _ (by omega)]; exact c1_4
                  have c2_5 : v2.cell? ⟨g, m * 3, none⟩ = some (.int .i64 a0) := by rw [(bcell st2).1 _ _ (by omega)]; exact c1_5
                  have c2_6 : v2.cell? ⟨g, m * 3 + 1, none⟩ = some (.int .i64 b0) := by rw [(bcell st2).1 _ _ (by omega)]; exact c1_6
                  have c2_7 : v2.cell? ⟨g, m * 3 + 2, none⟩ = some (.int .i64 d0) := by rw [(bcell st2).1 _ _ (by omega)]; exact c1_7
                  have c2_8 : v2.cell? ⟨wr.heap.size, 0, none⟩ = some (.int .i64 a) := by rw [(bcell st2).1 _ _ (by omega)]; exact c1_8
                  have c2_9 : v2.cell? ⟨wr.heap.size, 1, none⟩ = some (.int .i64 b) := by rw [(bcell st2).1 _ _ (by omega)]; exact c1_9
                  have c2_10 : v2.cell? ⟨wr.heap.size, 2, none⟩ = some (.int .i64 c) := by rw [(bcell st2).1 _ _ (by omega)]; exact c1_10
                  have B2 : Hid (Below w.heap.size w v2) := B1.out.trans (st2.mono (by omega))
                  have d2_0 : w.heap.size < v2.heap.size := by omega
                  have e2_0 : w.heap.size ≠ v2.heap.size := by omega
                  have d2_2 : wr.heap.size < v2.heap.size := by omega
                  have e2_2 : wr.heap.size ≠ v2.heap.size := by omega
                  clear d1_0 e1_0 d1_2 e1_2 c1_0 c1_1 c1_2 c1_3 c1_4 c1_5 c1_6 c1_7 c1_8 c1_9 c1_10 B1 st2 hb2
                  go_wp2_with fail
                  go_at_call 74
                  refine (in_any c 1 1000 _).mono ?_
                  rw [h4]
                  rintro e w' ⟨rfl, rfl⟩
                  go_wp2_with fail
                  go_ret
                  exact ⟨by rw [Hno.out]; rfl, (B2.out.alloc (by first | omega | (simp; omega)) _)⟩
                · have l1' : decide (a < a0) = false := decide_eq_false l1
                  by_cases l2 : a0 = a
                  · by_cases l3 : b ≤ b0
                    · have Hno : Hid (gok N L = false) := gok_no (i := k) (by rw [Hn.out]; exact hlt) (by rw [Hch.out, Bool.eq_false_iff, ne_eq, eahB_iff]; omega)
                      have l5 : (a0 == a) = true := by simp [l2]
                      have HL2 := Lib.hid l2
                      clear l2
                      go_wp2_with fail
                      go_at_call 104
                      refine (node_any N _ _ _ a _ hN1 hN2).mono ?_
                      rw [h1]
                      rintro e v1 ⟨rfl, hb1⟩
                      have sz1 : wr.heap.size + 1 ≤ v1.heap.size := by have hh := hb1.size; simp at hh; omega
                      have st1 : Below wr.heap.size wr v1 := Below.trans (by go_grown) (hb1.mono (by simp))
                      have c1_0 : v1.cell? ⟨w.heap.size, 0, none⟩ = some (.int .i64 N) := by rw [(bcell st1).1 _ _ (by omega)]; exact k0
                      have c1_1 : v1.cell? ⟨w.heap.size, 1, none⟩ = some (.slice (some ⟨g, 0, none⟩) n cap) := by rw [(bcell st1).1 _ _ (by omega)]; exact k1
                      have c1_2 : v1.cell? ⟨g, k * 3, none⟩ = some (.int .i64 a) := by rw [(bcell st1).1 _ _ (by omega)]; exact z0
                      have c1_3 : v1.cell? ⟨g, k * 3 + 1, none⟩ = some (.int .i64 b) := by rw [(bcell st1).1 _ _ (by omega)]; exact z1
                      have c1_4 : v1.cell? ⟨g, k * 3 + 2, none⟩ = some (.int .i64 c) := by rw [(bcell st1).1 _ _ (by omega)]; exact z2
                      have c1_5 : v1.cell? ⟨g, m * 3, none⟩ = some (.int .i64 a0) := by rw [(bcell st1).1 _ _ (by omega)]; exact z3
                      have c1_6 : v1.cell? ⟨g, m * 3 + 1, none⟩ = some (.int .i64 b0) := by rw [(bcell st1).1 _ _ (by omega)]; exact z4
                      have c1_7 : v1.cell? ⟨g, m * 3 + 2, none⟩ = some (.int .i64 d0) := by rw [(bcell st1).1 _ _ (by omega)]; exact z5
                      have c1_8 : v1.cell? ⟨wr.heap.size, 0, none⟩ = some (.int .i64 a) := by rw [(bcell hb1).1 _ _ (by simp)]; simp
                      have c1_9 : v1.cell? ⟨wr.heap.size, 1, none⟩ = some (.int .i64 b) := by rw [(bcell hb1).1 _ _ (by simp)]; simp
                      have c1_10 : v1.cell? ⟨wr.heap.size, 2, none⟩ = some (.int .i64 c) := by rw [(bcell hb1).1 _ _ (by simp)]; simp
                      have B1 : Hid (Below w.heap.size w v1) := HB.out.trans (st1.mono (by omega))
                      have d1_0 : w.heap.size < v1.heap.size := by omega
                      have e1_0 : w.heap.size ≠ v1.heap.size := by omega
                      have d1_2 : wr.heap.size < v1.heap.size := by omega
                      have e1_2 : wr.heap.size ≠ v1.heap.size := by omega
                      clear k0 k1 z0 z1 z2 z3 z4 z5 HB st1 hb1
                      go_wp2_with fail
                      go_at_call 104
                      refine (node_any N _ _ _ b _ hN1 hN2).mono ?_
                      rw [h2]
                      rintro e v2 ⟨rfl, hb2⟩
                      have sz2 : v1.heap.size ≤ v2.heap.size := hb2.size
                      have st2 : Below v1.heap.size v1 v2 := hb2
                      have c2_0 : v2.cell? ⟨w.heap.size, 0, none⟩ = some (.int .i64 N) := by rw [(bcell st2).1 _ _ (by omega)]; exact c1_0
                      have c2_1 : v2.cell? ⟨w.heap.size, 1, none⟩ = some (.slice (some ⟨g, 0, none⟩) n cap) := by rw [(bcell st2).1 _ _ (by omega)]; exact c1_1
                      have c2_2 : v2.cell? ⟨g, k * 3, none⟩ = some (.int .i64 a) := by rw [(bcell st2).1 _ _ (by omega)]; exact c1_2
                      have c2_3 : v2.cell? ⟨g, k * 3 + 1, none⟩ = some (.int .i64 b) := by rw [(bcell st2).1 _ _ (by omega)]; exact c1_3
                      have c2_4 : v2.cell? ⟨g, k * 3 + 2, none⟩ = some (.int .i64 c) := by rw [(bcell st2).1 _ _ (by omega)]; exact c1_4
                      have c2_5 : v2.cell? ⟨g, m * 3, none⟩ = some (.int .i64 a0) := by rw [(bcell st2).1 _ _ (by omega)]; exact c1_5
                      have c2_6 : v2.cell? ⟨g, m * 3 + 1, none⟩ = some (.int .i64 b0) := by rw [(bcell st2).1 _ _ (by omega)]; exact c1_6
                      have c2_7 : v2.cell? ⟨g, m * 3 + 2, none⟩ = some (.int .i64 d0) := by rw [(bcell st2).1 _ _ (by omega)]; exact c1_7
                      have c2_8 : v2.cell? ⟨wr.heap.size, 0, none⟩ = some (.int .i64 a) := by rw [(bcell st2).1 _ _ (by omega)]; exact c1_8
                      have c2_9 : v2.cell? ⟨wr.heap.size, 1, none⟩ = some (.int .i64 b) := by rw [(bcell st2).1 _ _ (by omega)]; exact c1_9
                      have c2_10 : v2.cell? ⟨wr.heap.size, 2, none⟩ = some (.int .i64 c) := by rw [(bcell st2).1 _ _ (by omega)]; exact c1_10
                      have B2 : Hid (Below w.heap.size w v2) := B1.out.trans (st2.mono (by omega))
                      have d2_0 : w.heap.size < v2.heap.size := by omega
                      have e2_0 : w.heap.size ≠ v2.heap.size := by omega
                      have d2_2 : wr.heap.size < v2.heap.size := by omega
                      have e2_2 : wr.heap.size ≠ v2.heap.size := by omega
                      clear d1_0 e1_0 d1_2 e1_2 c1_0 c1_1 c1_2 c1_3 c1_4 c1_5 c1_6 c1_7 c1_8 c1_9 c1_10 B1 st2 hb2
                      go_wp2_with fail
                      go_at_call 74
                      refine (in_any c 1 1000 _).mono ?_
                      rw [h4]
                      rintro e w' ⟨rfl, rfl⟩
                      go_wp2_with fail
                      go_ret
                      exact ⟨by rw [Hno.out]; rfl, (B2.out.alloc (by first | omega | (simp; omega)) _)⟩
                    · have Hc : Hid (echk N L k = true) := by show echk N L k = true; rw [Hch.out, eahB_iff]; omega
                      have l5 : (a0 == a) = true := by simp [l2]
                      have l4 : decide (b ≤ b0) = false := decide_eq_false l3
                      have HL2 := Lib.hid l2
                      clear l2
                      go_wp2_with fail
                      go_at_call 104
                      refine (node_any N _ _ _ a _ hN1 hN2).mono ?_
                      rw [h1]
                      rintro e v1 ⟨rfl, hb1⟩
                      have sz1 : wr.heap.size + 1 ≤ v1.heap.size := by have hh := hb1.size; simp at hh; omega
                      have st1 : Below wr.heap.size wr v1 := Below.trans (by go_grown) (hb1.mono (by simp))
                      have c1_0 : v1.cell? ⟨w.heap.size, 0, none⟩ = some (.int .i64 N) := by rw [(bcell st1).1 _ _ (by omega)]; exact k0
                      have c1_1 : v1.cell? ⟨w.heap.size, 1, none⟩ = some (.slice (some ⟨g, 0, none⟩) n cap) := by rw [(bcell st1).1 _ _ (by omega)]; exact k1
                      have c1_2 : v1.cell? ⟨g, k * 3, none⟩ = some (.int .i64 a) := by rw [(bcell st1).1 _ _ (by omega)]; exact z0
                      have c1_3 : v1.cell? ⟨g, k * 3 + 1, none⟩ = some (.int .i64 b) := by rw [(bcell st1).1 _ _ (by omega)]; exact z1
                      have c1_4 : v1.cell? ⟨g, k * 3 + 2, none⟩ = some (.int .i64 c) := by rw [(bcell st1).1 _ _ (by omega)]; exact z2
                      have c1_5 : v1.cell? ⟨g, m * 3, none⟩ = some (.int .i64 a0) := by rw [(bcell st1).1 _ _ (by omega)]; exact z3
                      have c1_6 : v1.cell? ⟨g, m * 3 + 1, none⟩ = some (.int .i64 b0) := by rw [(bcell st1).1 _ _ (by omega)]; exact z4
                      have c1_7 : v1.cell? ⟨g, m * 3 + 2, none⟩ = some (.int .i64 d0) := by rw [(bcell st1).1 _ _ (by omega)]; exact z5
                      have c1_8 : v1.cell? ⟨wr.heap.size, 0, none⟩ = some (.int .i64 a) := by rw [(bcell hb1).1 _ _ (by simp)]; simp
                      have c1_9 : v1.cell? ⟨wr.heap.size, 1, none⟩ = some (.int .i64 b) := by rw [(bcell hb1).1 _ _ (by simp)]; simp
                      have c1_10 : v1.cell? ⟨wr.heap.size, 2, none⟩ = some (.int .i64 c) := by rw [(bcell hb1).1 _ _ (by simp)]; simp
                      have B1 : Hid (Below w.heap.size w v1) := HB.out.trans (st1.mono (by omega))
                      have d1_0 : w.heap.size < v1.heap.size := by omega
                      have e1_0 : w.heap.size ≠ v1.heap.size := by omega
                      have d1_2 : wr.heap.size < v1.heap.size := by omega
                      have e1_2 : wr.heap.size ≠ v1.heap.size := by omega
                      clear k0 k1 z0 z1 z2 z3 z4 z5 HB st1 hb1
                      go_wp2_with fail
                      go_at_call 104
                      refine (node_any N _ _ _ b _ hN1 hN2).mono ?_
                      rw [h2]
                      rintro e v2 ⟨rfl, hb2⟩
                      have sz2 : v1.heap.size ≤ v2.heap.size := hb2.size
                      have st2 : Below v1.heap.size v1 v2 := hb2
                      have c2_0 : v2.cell? ⟨w.heap.size, 0, none⟩ = some (.int .i64 N) := by rw [(bcell st2).1 _ _ (by omega)]; exact c1_0
                      have c2_1 : v2.cell? ⟨w.heap.size, 1, none⟩ = some (.slice (some ⟨g, 0, none⟩) n cap) := by rw [(bcell st2).1 _ _ (by omega)]; exact c1_1
                      have c2_2 : v2.cell? ⟨g, k * 3, none⟩ = some (.int .i64 a) := by rw [(bcell st2).1 _ _ (by omega)]; exact c1_2
                      have c2_3 : v2.cell? ⟨g, k * 3 + 1, none⟩ = some (.int .i64 b) := by rw [(bcell st2).1 _ _ (by omega)]; exact c1_3
                      have c2_4 : v2.cell? ⟨g, k * 3 + 2, none⟩ = some (.int .i64 c) := by rw [(bcell st2).1 _ _ (by omega)]; exact c1_4
                      have c2_5 : v2.cell? ⟨g, m * 3, none⟩ = some (.int .i64 a0) := by rw [(bcell st2).1 _ _ (by omega)]; exact c1_5
                      have c2_6 : v2.cell? ⟨g, m * 3 + 1, none⟩ = some (.int .i64 b0) := by rw [(bcell st2).1 _ _ (by omega)]; exact c1_6
                      have c2_7 : v2.cell? ⟨g, m * 3 + 2, none⟩ = some (.int .i64 d0) := by rw [(bcell st2).1 _ _ (by omega)]; exact c1_7
                      have c2_8 : v2.cell? ⟨wr.heap.size, 0, none⟩ = some (.int .i64 a) := by rw [(bcell st2).1 _ _ (by omega)]; exact c1_8
                      have c2_9 : v2.cell? ⟨wr.heap.size, 1, none⟩ = some (.int .i64 b) := by rw [(bcell st2).1 _ _ (by omega)]; exact c1_9
                      have c2_10 : v2.cell? ⟨wr.heap.size, 2, none⟩ = some (.int .i64 c) := by rw [(bcell st2).1 _ _ (by omega)]; exact c1_10
                      have B2 : Hid (Below w.heap.size w v2) := B1.out.trans (st2.mono (by omega))
                      have d2_0 : w.heap.size < v2.heap.size := by omega
                      have e2_0 : w.heap.size ≠ v2.heap.size := by omega
                      have d2_2 : wr.heap.size < v2.heap.size := by omega
                      have e2_2 : wr.heap.size ≠ v2.heap.size := by omega
                      clear d1_0 e1_0 d1_2 e1_2 c1_0 c1_1 c1_2 c1_3 c1_4 c1_5 c1_6 c1_7 c1_8 c1_9 c1_10 B1 st2 hb2
                      go_wp2_with fail
                      go_at_call 74
                      refine (in_any c 1 1000 _).mono ?_
                      rw [h4]
                      rintro e w' ⟨rfl, rfl⟩
                      go_wp2_with fail
                      go_roundw
                      case rel => exact ⟨k + 1, by omega, by go_num, GRel.next HO.out Hc.out (by rw [old_box (by first | omega | (simp; omega))]; exact c2_0) (by rw [old_box (by first | omega | (simp; omega))]; exact c2_1) (by first | omega | (simp; omega)) (B2.out.alloc (by first | omega | (simp; omega)) _)⟩
                      case measure => simp [intOf]; omega
                  · have Hc : Hid (echk N L k = true) := by show echk N L k = true; rw [Hch.out, eahB_iff]; omega
                    have l5 : (a0 == a) = false := by simp [l2]
                    have HL2 := Lib.hid l2
                    clear l2
                    go_wp2_with fail
                    go_at_call 104
                    refine (node_any N _ _ _ a _ hN1 hN2).mono ?_
                    rw [h1]
                    rintro e v1 ⟨rfl, hb1⟩
                    have sz1 : wr.heap.size + 1 ≤ v1.heap.size := by have hh := hb1.size; simp at hh; omega
                    have st1 : Below wr.heap.size wr v1 := Below.trans (by go_grown) (hb1.mono (by simp))
                    have c1_0 : v1.cell? ⟨w.heap.size, 0, none⟩ = some (.int .i64 N) := by rw [(bcell st1).1 _ _ (by omega)]; exact k0
                    have c1_1 : v1.cell? ⟨w.heap.size, 1, none⟩ = some (.slice (some ⟨g, 0, none⟩) n cap) := by rw [(bcell st1).1 _ _ (by omega)]; exact k1
                    have c1_2 : v1.cell? ⟨g, k * 3, none⟩ = some (.int .i64 a) := by rw [(bcell st1).1 _ _ (by omega)]; exact z0
                    have c1_3 : v1.cell? ⟨g, k * 3 + 1, none⟩ = some (.int .i64 b) := by rw [(bcell st1).1 _ _ (by omega)]; exact z1
                    have c1_4 : v1.cell? ⟨g, k * 3 + 2, none⟩ = some (.int .i64 c) := by rw [(bcell st1).1 _ _ (by omega)]; exact z2
                    have c1_5 : v1.cell? ⟨g, m * 3, none⟩ = some (.int .i64 a0) := by rw [(bcell st1).1 _ _ (by omega)]; exact z3
                    have c1_6 : v1.cell? ⟨g, m * 3 + 1, none⟩ = some (.int .i64 b0) := by rw [(bcell st1).1 _ _ (by omega)]; exact z4
                    have c1_7 : v1.cell? ⟨g, m * 3 + 2, none⟩ = some (.int .i64 d0) := by rw [(bcell st1).1 _ _ (by omega)]; exact z5
                    have c1_8 : v1.cell? ⟨wr.heap.size, 0, none⟩ = some (.int .i64 a) := by rw [(bcell hb1).1 _ _ (by simp)]; simp
                    have c1_9 : v1.cell? ⟨wr.heap.size, 1, none⟩ = some (.int .i64 b) := by rw [(bcell hb1).1 _ _ (by simp)]; simp
                    have c1_10 : v1.cell? ⟨wr.heap.size, 2, none⟩ = some (.int .i64 c) := by rw [(bcell hb1).1 _ _ (by simp)]; simp
                    have B1 : Hid (Below w.heap.size w v1) := HB.out.trans (st1.mono (by omega))
                    have d1_0 : w.heap.size < v1.heap.size := by omega
                    have e1_0 : w.heap.size ≠ v1.heap.size := by omega
                    have d1_2 : wr.heap.size < v1.heap.size := by omega
                    have e1_2 : wr.heap.size ≠ v1.heap.size := by omega
                    clear k0 k1 z0 z1 z2 z3 z4 z5 HB st1 hb1
                    go_wp2_with fail
                    go_at_call 104
                    refine (node_any N _ _ _ b _ hN1 hN2).mono ?_
                    rw [h2]
                    rintro e v2 ⟨rfl, hb2⟩
                    have sz2 : v1.heap.size ≤ v2.heap.size := hb2.size
                    have st2 : Below v1.heap.size v1 v2 := hb2
                    have c2_0 : v2.cell? ⟨w.heap.size, 0, none⟩ = some (.int .i64 N) := by rw [(bcell st2).1 _ _ (by omega)]; exact c1_0
                    have c2_1 : v2.cell? ⟨w.heap.size, 1, none⟩ = some (.slice (some ⟨g, 0, none⟩) n cap) := by rw [(bcell st2).1 _ _ (by omega)]; exact c1_1
                    have c2_2 : v2.cell? ⟨g, k * 3, none⟩ = some (.int .i64 a) := by rw [(bcell st2).1 _ _ (by omega)]; exact c1_2
                    have c2_3 : v2.cell? ⟨g, k * 3 + 1, none⟩ = some (.int .i64 b) := by rw [(bcell st2).1 _ _ (by omega)]; exact c1_3
                    have c2_4 : v2.cell? ⟨g, k * 3 + 2, none⟩ = some (.int .i64 c) := by rw [(bcell st2).1 _ _ (by omega)]; exact c1_4
                    have c2_5 : v2.cell? ⟨g, m * 3, none⟩ = some (.int .i64 a0) := by rw [(bcell st2).1 _ _ (by omega)]; exact c1_5
                    have c2_6 : v2.cell? ⟨g, m * 3 + 1, none⟩ = some (.int .i64 b0) := by rw [(bcell st2).1 _ _ (by omega)]; exact c1_6
                    have c2_7 : v2.cell? ⟨g, m * 3 + 2, none⟩ = some (.int .i64 d0) := by rw [(bcell st2).1 _ _ (by omega)]; exact c1_7
                    have c2_8 : v2.cell? ⟨wr.heap.size, 0, none⟩ = some (.int .i64 a) := by rw [(bcell st2).1 _ _ (by omega)]; exact c1_8
                    have c2_9 : v2.cell? ⟨wr.heap.size, 1, none⟩ = some (.int .i64 b) := by rw [(bcell st2).1 _ _ (by omega)]; exact c1_9
                    have c2_10 : v2.cell? ⟨wr.heap.size, 2, none⟩ = some (.int .i64 c) := by rw [(bcell st2).1 _ _ (by omega)]; exact c1_10
                    have B2 : Hid (Below w.heap.size w v2) := B1.out.trans (st2.mono (by omega))
                    have d2_0 : w.heap.size < v2.heap.size := by omega
                    have e2_0 : w.heap.size ≠ v2.heap.size := by omega
                    have d2_2 : wr.heap.size < v2.heap.size := by omega
                    have e2_2 : wr.heap.size ≠ v2.heap.size := by omega
                    clear d1_0 e1_0 d1_2 e1_2 c1_0 c1_1 c1_2 c1_3 c1_4 c1_5 c1_6 c1_7 c1_8 c1_9 c1_10 B1 st2 hb2
                    go_wp2_with fail
                    go_at_call 74
                    refine (in_any c 1 1000 _).mono ?_
                    rw [h4]
                    rintro e w' ⟨rfl, rfl⟩
                    go_wp2_with fail
                    go_roundw
                    case rel => exact ⟨k + 1, by omega, by go_num, GRel.next HO.out Hc.out (by rw [old_box (by first | omega | (simp; omega))]; exact c2_0) (by rw [old_box (by first | omega | (simp; omega))]; exact c2_1) (by first | omega | (simp; omega)) (B2.out.alloc (by first | omega | (simp; omega)) _)⟩
                    case measure => simp [intOf]; omega
            · rw [Bool.not_eq_true] at h4
              have Hno : Hid (gok N L = false) := gok_no (i := k) (by rw [Hn.out]; exact hlt) (by rw [echk_at HL.out]; unfold eokB; rw [h4]; simp)
              go_wp2_with fail
              go_at_call 104
              refine (node_any N _ _ _ a _ hN1 hN2).mono ?_
              rw [h1]
              rintro e v1 ⟨rfl, hb1⟩
              have sz1 : wr.heap.size + 1 ≤ v1.heap.size := by have hh := hb1.size; simp at hh; omega
              have st1 : Below wr.heap.size wr v1 := Below.trans (by go_grown) (hb1.mono (by simp))
              have c1_0 : v1.cell? ⟨w.heap.size, 0, none⟩ = some (.int .i64 N) := by rw [(bcell st1).1 _ _ (by omega)]; exact k0
              have c1_1 : v1.cell? ⟨w.heap.size, 1, none⟩ = some (.slice (some ⟨g, 0, none⟩) n cap) := by rw [(bcell st1).1 _ _ (by omega)]; exact k1
              have c1_2 : v1.cell? ⟨g, k * 3, none⟩ = some (.int .i64 a) := by rw [(bcell st1).1 _ _ (by omega)]; exact z0
              have c1_3 : v1.cell? ⟨g, k * 3 + 1, none⟩ = some (.int .i64 b) := by rw [(bcell st1).1 _ _ (by omega)]; exact z1
              have c1_4 : v1.cell? ⟨g, k * 3 + 2, none⟩ = some (.int .i64 c) := by rw [(bcell st1).1 _ _ (by omega)]; exact z2
              have c1_5 : v1.cell? ⟨wr.heap.size, 0, none⟩ = some (.int .i64 a) := by rw [(bcell hb1).1 _ _ (by simp)]; simp
              have c1_6 : v1.cell? ⟨wr.heap.size, 1, none⟩ = some (.int .i64 b) := by rw [(bcell hb1).1 _ _ (by simp)]; simp
              have c1_7 : v1.cell? ⟨wr.heap.size, 2, none⟩ = some (.int .i64 c) := by rw [(bcell hb1).1 _ _ (by simp)]; simp
              have B1 : Hid (Below w.heap.size w v1) := HB.out.trans (st1.mono (by omega))
              have d1_0 : w.heap.size < v1.heap.size := by omega
              have e1_0 : w.heap.size ≠ v1.heap.size := by omega
              have d1_2 : wr.heap.size < v1.heap.size := by omega
              have e1_2 : wr.heap.size ≠ v1.heap.size := by omega
              clear k0 k1 z0 z1 z2 HB st1 hb1
              go_wp2_with fail
              go_at_call 104
              refine (node_any N _ _ _ b _ hN1 hN2).mono ?_
              rw [h2]
              rintro e v2 ⟨rfl, hb2⟩
              have sz2 : v1.heap.size ≤ v2.heap.size := hb2.size
              have st2 : Below v1.heap.size v1 v2 := hb2
              have c2_0 : v2.cell? ⟨w.heap.size, 0, none⟩ = some (.int .i64 N) := by rw [(bcell st2).1 _ _ (by omega)]; exact c1_0
              have c2_1 : v2.cell? ⟨w.heap.size, 1, none⟩ = some (.slice (some ⟨g, 0, none⟩) n cap) := by rw [(bcell st2).1 _ _ (by omega)]; exact c1_1
              have c2_2 : v2.cell? ⟨g, k * 3, none⟩ = some (.int .i64 a) := by rw [(bcell st2).1 _ _ (by omega)]; exact c1_2
              have c2_3 : v2.cell? ⟨g, k * 3 + 1, none⟩ = some (.int .i64 b) := by rw [(bcell st2).1 _ _ (by omega)]; exact c1_3
              have c2_4 : v2.cell? ⟨g, k * 3 + 2, none⟩ = some (.int .i64 c) := by rw [(bcell st2).1 _ _ (by omega)]; exact c1_4
              have c2_5 : v2.cell? ⟨wr.heap.size, 0, none⟩ = some (.int .i64 a) := by rw [(bcell st2).1 _ _ (by omega)]; exact c1_5
              have c2_6 : v2.cell? ⟨wr.heap.size, 1, none⟩ = some (.int .i64 b) := by rw [(bcell st2).1 _ _ (by omega)]; exact c1_6
              have c2_7 : v2.cell? ⟨wr.heap.size, 2, none⟩ = some (.int .i64 c) := by rw [(bcell st2).1 _ _ (by omega)]; exact c1_7
              have B2 : Hid (Below w.heap.size w v2) := B1.out.trans (st2.mono (by omega))
              have d2_0 : w.heap.size < v2.heap.size := by omega
              have e2_0 : w.heap.size ≠ v2.heap.size := by omega
              have d2_2 : wr.heap.size < v2.heap.size := by omega
              have e2_2 : wr.heap.size ≠ v2.heap.size := by omega
              clear d1_0 e1_0 d1_2 e1_2 c1_0 c1_1 c1_2 c1_3 c1_4 c1_5 c1_6 c1_7 B1 st2 hb2
              go_wp2_with fail
              go_at_call 74
              refine (in_any c 1 1000 _).mono ?_
              rw [h4]
              rintro e w' ⟨rfl, rfl⟩
              go_wp2_with fail
              go_ret
              exact ⟨by rw [Hno.out]; rfl, B2.out⟩
        · rw [Bool.not_eq_true] at h2
          have Hno : Hid (gok N L = false) := gok_no (i := k) (by rw [Hn.out]; exact hlt) (by rw [echk_at HL.out]; unfold eokB; rw [h2]; simp)
          go_wp2_with fail
          go_at_call 104
          refine (node_any N _ _ _ a _ hN1 hN2).mono ?_
          rw [h1]
          rintro e v1 ⟨rfl, hb1⟩
          have sz1 : wr.heap.size + 1 ≤ v1.heap.size := by have hh := hb1.size; simp at hh; omega
          have st1 : Below wr.heap.size wr v1 := Below.trans (by go_grown) (hb1.mono (by simp))
          have c1_0 : v1.cell? ⟨w.heap.size, 0, none⟩ = some (.int .i64 N) := by rw [(bcell st1).1 _ _ (by omega)]; exact k0
          have c1_1 : v1.cell? ⟨w.heap.size, 1, none⟩ = some (.slice (some ⟨g, 0, none⟩) n cap) := by rw [(bcell st1).1 _ _ (by omega)]; exact k1
          have c1_2 : v1.cell? ⟨g, k * 3, none⟩ = some (.int .i64 a) := by rw [(bcell st1).1 _ _ (by omega)]; exact z0
          have c1_3 : v1.cell? ⟨g, k * 3 + 1, none⟩ = some (.int .i64 b) := by rw [(bcell st1).1 _ _ (by omega)]; exact z1
          have c1_4 : v1.cell? ⟨g, k * 3 + 2, none⟩ = some (.int .i64 c) := by rw [(bcell st1).1 _ _ (by omega)]; exact z2
          have c1_5 : v1.cell? ⟨wr.heap.size, 0, none⟩ = some (.int .i64 a) := by rw [(bcell hb1).1 _ _ (by simp)]; simp
          have c1_6 : v1.cell? ⟨wr.heap.size, 1, none⟩ = some (.int .i64 b) := by rw [(bcell hb1).1 _ _ (by simp)]; simp
          have c1_7 : v1.cell? ⟨wr.heap.size, 2, none⟩ = some (.int .i64 c) := by rw [(bcell hb1).1 _ _ (by simp)]; simp
          have B1 : Hid (Below w.heap.size w v1) := HB.out.trans (st1.mono (by omega))
          have d1_0 : w.heap.size < v1.heap.size := by omega
          have e1_0 : w.heap.size ≠ v1.heap.size := by omega
          have d1_2 : wr.heap.size < v1.heap.size := by omega
          have e1_2 : wr.heap.size ≠ v1.heap.size := by omega
          clear k0 k1 z0 z1 z2 HB st1 hb1
          go_wp2_with fail
          go_at_call 104
          refine (node_any N _ _ _ b _ hN1 hN2).mono ?_
          rw [h2]
          rintro e v2 ⟨rfl, hb2⟩
          have sz2 : v1.heap.size ≤ v2.heap.size := hb2.size
          have st2 : Below v1.heap.size v1 v2 := hb2
          have c2_0 : v2.cell? ⟨w.heap.size, 0, none⟩ = some (.int .i64 N) := by rw [(bcell st2).1 _ _ (by omega)]; exact c1_0
          have c2_1 : v2.cell? ⟨w.heap.size, 1, none⟩ = some (.slice (some ⟨g, 0, none⟩) n cap) := by rw [(bcell st2).1 _ _ (by omega)]; exact c1_1
          have c2_2 : v2.cell? ⟨g, k * 3, none⟩ = some (.int .i64 a) := by rw [(bcell st2).1 _ _ (by omega)]; exact c1_2
          have c2_3 : v2.cell? ⟨g, k * 3 + 1, none⟩ = some (.int .i64 b) := by rw [(bcell st2).1 _ _ (by omega)]; exact c1_3
          have c2_4 : v2.cell? ⟨g, k * 3 + 2, none⟩ = some (.int .i64 c) := by rw [(bcell st2).1 _ _ (by omega)]; exact c1_4
          have c2_5 : v2.cell? ⟨wr.heap.size, 0, none⟩ = some (.int .i64 a) := by rw [(bcell st2).1 _ _ (by omega)]; exact c1_5
          have c2_6 : v2.cell? ⟨wr.heap.size, 1, none⟩ = some (.int .i64 b) := by rw [(bcell st2).1 _ _ (by omega)]; exact c1_6
          have c2_7 : v2.cell? ⟨wr.heap.size, 2, none⟩ = some (.int .i64 c) := by rw [(bcell st2).1 _ _ (by omega)]; exact c1_7
          have B2 : Hid (Below w.heap.size w v2) := B1.out.trans (st2.mono (by omega))
          have d2_0 : w.heap.size < v2.heap.size := by omega
          have e2_0 : w.heap.size ≠ v2.heap.size := by omega
          have d2_2 : wr.heap.size < v2.heap.size := by omega
          have e2_2 : wr.heap.size ≠ v2.heap.size := by omega
          clear d1_0 e1_0 d1_2 e1_2 c1_0 c1_1 c1_2 c1_3 c1_4 c1_5 c1_6 c1_7 B1 st2 hb2
          go_wp2_with fail
          go_ret
          exact ⟨by rw [Hno.out]; rfl, B2.out⟩
      · rw [Bool.not_eq_true] at h1
        have Hno : Hid (gok N L = false) := gok_no (i := k) (by rw [Hn.out]; exact hlt) (by rw [echk_at HL.out]; unfold eokB; rw [h1]; simp)
        go_wp2_with fail
        go_at_call 104
        refine (node_any N _ _ _ a _ hN1 hN2).mono ?_
        rw [h1]
        rintro e v1 ⟨rfl, hb1⟩
        have sz1 : wr.heap.size + 1 ≤ v1.heap.size := by have hh := hb1.size; simp at hh; omega
        have st1 : Below wr.heap.size wr v1 := Below.trans (by go_grown) (hb1.mono (by simp))
        have c1_0 : v1.cell? ⟨w.heap.size, 0, none⟩ = some (.int .i64 N) := by rw [(bcell st1).1 _ _ (by omega)]; exact k0
        have c1_1 : v1.cell? ⟨w.heap.size, 1, none⟩ = some (.slice (some ⟨g, 0, none⟩) n cap) := by rw [(bcell st1).1 _ _ (by omega)]; exact k1
        have c1_2 : v1.cell? ⟨g, k * 3, none⟩ = some (.int .i64 a) := by rw [(bcell st1).1 _ _ (by omega)]; exact z0
        have c1_3 : v1.cell? ⟨g, k * 3 + 1, none⟩ = some (.int .i64 b) := by rw [(bcell st1).1 _ _ (by omega)]; exact z1
        have c1_4 : v1.cell? ⟨g, k * 3 + 2, none⟩ = some (.int .i64 c) := by rw [(bcell st1).1 _ _ (by omega)]; exact z2
        have c1_5 : v1.cell? ⟨wr.heap.size, 0, none⟩ = some (.int .i64 a) := by rw [(bcell hb1).1 _ _ (by simp)]; simp
        have c1_6 : v1.cell? ⟨wr.heap.size, 1, none⟩ = some (.int .i64 b) := by rw [(bcell hb1).1 _ _ (by simp)]; simp
        have c1_7 : v1.cell? ⟨wr.heap.size, 2, none⟩ = some (.int .i64 c) := by rw [(bcell hb1).1 _ _ (by simp)]; simp
        have B1 : Hid (Below w.heap.size w v1) := HB.out.trans (st1.mono (by omega))
        have d1_0 : w.heap.size < v1.heap.size := by omega
        have e1_0 : w.heap.size ≠ v1.heap.size := by omega
        have d1_2 : wr.heap.size < v1.heap.size := by omega
        have e1_2 : wr.heap.size ≠ v1.heap.size := by omega
        clear k0 k1 z0 z1 z2 HB st1 hb1
        go_wp2_with fail
        go_ret
        exact ⟨by rw [Hno.out]; rfl, B1.out⟩
    · have hge : ¬ ((k : Int) < (n : Int)) := by omega
      obtain rfl : k = n := by omega
      have Hy : Hid (gok N L = true) := gok_yes hN1 hN2 (by rw [Hn.out]; exact h60) (fun i hi => hR.out.1 i (by rw [Hn.out] at hi; exact hi))
      clear hR hB
      go_wp2
      go_ret
      exact ⟨by rw [Hy.out]; rfl, HB.out⟩





set_option maxHeartbeats 1000000 in
theorem sgok_nil (N : Int) (a : Option Addr) (c : Nat) (w : World) (hN1 : 1 ≤ N) (hN2 : N ≤ 10) :
    Calls Try.prog 81 #[.agg #[.int .i64 N, .slice a 0 c]] w fun e w' => e = .returned (.bool true) ∧ Below w.heap.size w w' := by
  have hl1 : decide (N < 1) = false := decide_eq_false (by omega)
  have hl2 : decide (10 < N) = false := decide_eq_false (by omega)
  go_enter Try.func81, Try.ntmps81
  go_wp2_with fail
  go_at_call 74
  refine (in_any N 1 10 _).mono ?_
  rw [inB_true hN1 hN2]
  rintro e w1 ⟨rfl, rfl⟩
  go_wp2
  go_loop [3] (fun i => i = .int .i64 0) (fun i => (intOf i).toNat)
  case atStart => exact rfl
  case round =>
    subst hrel
    go_wp2
    go_ret
    exact ⟨rfl, by go_grown⟩

set_option maxHeartbeats 1000000 in
theorem sgok_big (N : Int) (a : Option Addr) (n c : Nat) (w : World) (hN1 : 1 ≤ N) (hN2 : N ≤ 10) (h : 60 < n) (hn : n ≤ 1100000) :
    Calls Try.prog 81 #[.agg #[.int .i64 N, .slice a n c]] w fun e w' => e = .returned (.bool false) ∧ Below w.heap.size w w' := by
  have hl1 : decide (N < 1) = false := decide_eq_false (by omega)
  have hl2 : decide (10 < N) = false := decide_eq_false (by omega)
  have h1 : (60 : Int) < (n : Int) := by omega
  go_enter Try.func81, Try.ntmps81
  go_wp2_with fail
  go_at_call 74
  refine (in_any N 1 10 _).mono ?_
  rw [inB_true hN1 hN2]
  rintro e w1 ⟨rfl, rfl⟩
  go_wp2
  go_ret
  exact ⟨rfl, by go_grown⟩


set_option maxHeartbeats 1000000 in
theorem sgok_out (N : Int) (a : Option Addr) (n c : Nat) (w : World) (h : N < 1 ∨ 10 < N) :
    Calls Try.prog 81 #[.agg #[.int .i64 N, .slice a n c]] w fun e w' => e = .returned (.bool false) ∧ Below w.heap.size w w' := by
  have hi := inB_false (x := N) (a := 1) (b := 10) h
  clear h
  go_enter Try.func81, Try.ntmps81
  go_wp2_with fail
  go_at_call 74
  refine (in_any N 1 10 _).mono ?_
  rw [hi]
  rintro e w1 ⟨rfl, rfl⟩
  go_wp2
  go_ret
  exact ⟨rfl, by go_grown⟩

/-- The model says of every graph whether it is valid. -/
theorem sgok_any (N : Int) (lo hi n : Nat) (v : Value) (L : List Ed) (w : World) (hL : L.length = n) (hr : Row 3 w lo hi v n (flat L)) (hh : hi ≤ w.heap.size) :
    Calls Try.prog 81 #[.agg #[.int .i64 N, v]] w fun e w' => e = .returned (.bool (gok N L)) ∧ Below w.heap.size w w' := by
  by_cases hN : 1 ≤ N ∧ N ≤ 10
  · obtain ⟨hN1, hN2⟩ := hN
    rcases hr.2 with ⟨rfl, a, c, rfl⟩ | ⟨g, cap, rfl, h1, h2, h3, h4, h5⟩
    · have : L = [] := List.eq_nil_of_length_eq_zero hL
      subst this
      rw [gok_yes hN1 hN2 (by simp) (fun i hi => absurd hi (Nat.not_lt_zero _))]
      exact sgok_nil N a c w hN1 hN2
    · by_cases h60 : n ≤ 60
      · exact sgok_some N g n cap L w hN1 hN2 hL h60 (by omega) h4
      · rw [gok_big (by omega)]
        exact sgok_big N _ n cap w hN1 hN2 (by omega) h3
  · obtain ⟨a, c, rfl⟩ := hr.slice
    rw [gok_n (by omega)]
    exact sgok_out N a n c w (by omega)


end Go.Proofs.Ytfpafjdakipccaa
