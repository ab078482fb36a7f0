/- GraphOk of the model as a contract: a graph with edges. -/
import Derived.Test.YtjenjdhoblcohaaW1
namespace Go.Proofs.Ytjenjdhoblcohaa
open Go.RowKit


/-- What stands at the head of the loop's rounds: edges below k are well. -/
def GRel (w wr : World) (N : Int) (v : Value) (L : List Ed) (k : Nat) : Prop := (∀ j, j < k → echk N L j = true) ∧ wr.cell? ⟨w.heap.size, 0, none⟩ = some (.int .i64 N) ∧ wr.cell? ⟨w.heap.size, 1, none⟩ = some v ∧ w.heap.size < wr.heap.size ∧ Below w.heap.size w wr
theorem GRel.next {w wr : World} {N : Int} {v : Value} {L : List Ed} {k : Nat} (h : ∀ j, j < k → echk N L j = true) (hk : echk N L k = true) (h0 : wr.cell? ⟨w.heap.size, 0, none⟩ = some (.int .i64 N)) (h1 : wr.cell? ⟨w.heap.size, 1, none⟩ = some v) (hs : w.heap.size < wr.heap.size) (hB : Below w.heap.size w wr) : GRel w wr N v L (k + 1) :=
  ⟨fun j hj => by
    by_cases e : j = k
    · subst e; exact hk
    · exact h j (by omega), h0, h1, hs, hB⟩

set_option maxRecDepth 100000 in
set_option maxHeartbeats 4000000 in
theorem sgok_some (N : Int) (g n cap : Nat) (L : List Ed) (w : World) (hN1 : 1 ≤ N) (hN2 : N ≤ 10) (hn : L.length = n) (h60 : n ≤ 60) (hg : g < w.heap.size) (h : ∀ q z, (flat L)[q]? = some z → w.cell? ⟨g, q, none⟩ = some (.int .i64 z)) :
    Calls Try.prog 47 #[.agg #[.int .i64 N, .slice (some ⟨g, 0, none⟩) n cap]] w fun e w' => e = .returned (.bool (gok N L)) ∧ Below w.heap.size w w' := by
  have Hn := Lib.hid hn
  have H := Lib.hid h
  clear h hn
  go_enter Try.func47, Try.ntmps47
  go_wp2_with fail
  go_at_call 59
  refine (in_any N 1 10 _).mono ?_
  rw [inB_true hN1 hN2]
  rintro e w1 ⟨rfl, rfl⟩
  go_wp2
  go_loopw [3] (fun i wr => ∃ k : Nat, k ≤ n ∧ i = .int .i64 (k : Int) ∧ Hid (GRel w wr N (.slice (some ⟨g, 0, none⟩) n cap) L k)) (fun i _ => n - (intOf i).toNat)
  case atStart => exact ⟨0, Nat.zero_le _, rfl, fun j hj => absurd hj (Nat.not_lt_zero _), by simp, by simp, by simp, by go_grown⟩
  case round =>
    obtain ⟨k, hk, rfl, hR⟩ := hrel
    have k0 := hR.out.2.1
    have k1 := hR.out.2.2.1
    have hsz := hR.out.2.2.2.1
    have hB := hR.out.2.2.2.2
    have HB := Lib.hid hB
    by_cases hlt : k < n
    · obtain ⟨r, hr⟩ : ∃ r, L[k]? = some r := ⟨L[k]'(by rw [Hn.out]; exact hlt), List.getElem?_eq_getElem _⟩
      obtain ⟨a, b, c⟩ := r
      obtain ⟨r0, r1, r2⟩ := flat_at L k _ hr
      have HL : Hid (L[k]? = some (a, b, c)) := hr
      have z0 : wr.cell? ⟨g, k * 3, none⟩ = some (.int .i64 a) := by rw [hB.cell (p := ⟨g, k * 3, none⟩) hg]; exact H.out _ _ r0
      have z1 : wr.cell? ⟨g, k * 3 + 1, none⟩ = some (.int .i64 b) := by rw [hB.cell (p := ⟨g, k * 3 + 1, none⟩) hg]; exact H.out _ _ r1
      have z2 : wr.cell? ⟨g, k * 3 + 2, none⟩ = some (.int .i64 c) := by rw [hB.cell (p := ⟨g, k * 3 + 2, none⟩) hg]; exact H.out _ _ r2
      have HO := Lib.hid hR.out.1
      have hgw : g < wr.heap.size := by omega
      have q0 : (0 : Int) ≤ (k : Int) := by omega
      have q1 : (k : Int) < (n : Int) := by omega
      clear r0 r1 r2 hr hB hR
      by_cases h1 : ndB N a = true
      · by_cases h2 : ndB N b = true
        · by_cases h3 : a = b
          · have Hno : Hid (gok N L = false) := gok_no (i := k) (by rw [Hn.out]; exact hlt) (by rw [echk_at HL.out]; unfold eokB; rw [h3]; simp)
            have h5 : (a == b) = true := by simp [h3]
            have H3 := Lib.hid h3
            clear h3
            go_wp2_with fail
            go_at_call 48
            refine (node_any N _ _ _ a _ hN1 hN2).mono ?_
            rw [h1]
            rintro e v1 ⟨rfl, hb1⟩
            have sz1 : wr.heap.size + 1 ≤ v1.heap.size := by have hh := hb1.size; simp at hh; omega
            have st1 : Below wr.heap.size wr v1 := Below.trans (by go_grown) (hb1.mono (by simp))
            have c1_0 : v1.cell? ⟨w.heap.size, 0, none⟩ = some (.int .i64 N) := by rw [(bcell st1).1 _ _ (by omega)]; exact k0
            have c1_1 : v1.cell? ⟨w.heap.size, 1, none⟩ = some (.slice (some ⟨g, 0, none⟩) n cap) := by rw [(bcell st1).1 _ _ (by omega)]; exact k1
            have c1_2 : v1.cell? ⟨g, k * 3, none⟩ = some (.int .i64 a) := by rw [(bcell st1).1 _ _ (by omega)]; exact z0
            have c1_3 : v1.cell? ⟨g, k * 3 + 1, none⟩ = some (.int .i64 b) := by rw [(bcell st1).1 _ _ (by omega)]; exact z1
            have c1_4 : v1.cell? ⟨g, k * 3 + 2, none⟩ = some (.int .i64 c) := by rw [(bcell st1).1 _ _ (by omega)]; exact z2
            have c1_5 : v1.cell? ⟨wr.heap.size, 0, none⟩ = some (.int .i64 a) := by rw [(bcell hb1).1 _ _ (by simp)]; simp
            have c1_6 : v1.cell? ⟨wr.heap.size, 1, none⟩ = some (.int .i64 b) := by rw [(bcell hb1).1 _ _ (by simp)]; simp
            have c1_7 : v1.cell? ⟨wr.heap.size, 2, none⟩ = some (.int .i64 c) := by rw [(bcell hb1).1 _ _ (by simp)]; simp
            have B1 : Hid (Below w.heap.size w v1) := HB.out.trans (st1.mono (by omega))
            have d1_0 : w.heap.size < v1.heap.size := by omega
            have e1_0 : w.heap.size ≠ v1.heap.size := by omega
            have d1_2 : wr.heap.size < v1.heap.size := by omega
            have e1_2 : wr.heap.size ≠ v1.heap.size := by omega
            clear k0 k1 z0 z1 z2 HB st1 hb1
            go_wp2_with fail
            go_at_call 48
            refine (node_any N _ _ _ b _ hN1 hN2).mono ?_
            rw [h2]
            rintro e v2 ⟨rfl, hb2⟩
            have sz2 : v1.heap.size ≤ v2.heap.size := hb2.size
            have st2 : Below v1.heap.size v1 v2 := hb2
            have c2_0 : v2.cell? ⟨w.heap.size, 0, none⟩ = some (.int .i64 N) := by rw [(bcell st2).1 _ _ (by omega)]; exact c1_0
            have c2_1 : v2.cell? ⟨w.heap.size, 1, none⟩ = some (.slice (some ⟨g, 0, none⟩) n cap) := by rw [(bcell st2).1 _ _ (by omega)]; exact c1_1
            have c2_2 : v2.cell? ⟨g, k * 3, none⟩ = some (.int .i64 a) := by rw [(bcell st2).1 _ _ (by omega)]; exact c1_2
            have c2_3 : v2.cell? ⟨g, k * 3 + 1, none⟩ = some (.int .i64 b) := by rw [(bcell st2).1 _ _ (by omega)]; exact c1_3
            have c2_4 : v2.cell? ⟨g, k * 3 + 2, none⟩ = some (.int .i64 c) := by rw [(bcell st2).1 _ _ (by omega)]; exact c1_4
            have c2_5 : v2.cell? ⟨wr.heap.size, 0, none⟩ = some (.int .i64 a) := by rw [(bcell st2).1 _ _ (by omega)]; exact c1_5
            have c2_6 : v2.cell? ⟨wr.heap.size, 1, none⟩ = some (.int .i64 b) := by rw [(bcell st2).1 _ _ (by omega)]; exact c1_6
            have c2_7 : v2.cell? ⟨wr.heap.size, 2, none⟩ = some (.int .i64 c) := by rw [(bcell st2).1 _ _ (by omega)]; exact c1_7
            have B2 : Hid (Below w.heap.size w v2) := B1.out.trans (st2.mono (by omega))
            have d2_0 : w.heap.size < v2.heap.size := by omega
            have e2_0 : w.heap.size ≠ v2.heap.size := by omega
            have d2_2 : wr.heap.size < v2.heap.size := by omega
            have e2_2 : wr.heap.size ≠ v2.heap.size := by omega
            clear d1_0 e1_0 d1_2 e1_2 c1_0 c1_1 c1_2 c1_3 c1_4 c1_5 c1_6 c1_7 B1 st2 hb2
            go_wp2_with fail
            go_ret
            exact ⟨by rw [Hno.out]; rfl, B2.out⟩
          · have h5 : (a == b) = false := by simp [h3]
            have H3 := Lib.hid h3
            clear h3
            by_cases h4 : inB c 1 1000 = true
            · have He : Hid (eokB N a b c = true) := by show eokB N a b c = true; unfold eokB; rw [h1, h2, h4, h5]; rfl
              by_cases hk0 : k = 0
              · have Hc : Hid (echk N L k = true) := by show echk N L k = true; rw [echk_at HL.out, He.out, hk0]; rfl
                have d0 : decide (0 < k) = false := by rw [hk0]; decide
                have Hk0 := Lib.hid hk0
                clear hk0
                go_wp2_with fail
                go_at_call 48
                refine (node_any N _ _ _ a _ hN1 hN2).mono ?_
                rw [h1]
                rintro e v1 ⟨rfl, hb1⟩
                have sz1 : wr.heap.size + 1 ≤ v1.heap.size := by have hh := hb1.size; simp at hh; omega
                have st1 : Below wr.heap.size wr v1 := Below.trans (by go_grown) (hb1.mono (by simp))
                have c1_0 : v1.cell? ⟨w.heap.size, 0, none⟩ = some (.int .i64 N) := by rw [(bcell st1).1 _ _ (by omega)]; exact k0
                have c1_1 : v1.cell? ⟨w.heap.size, 1, none⟩ = some (.slice (some ⟨g, 0, none⟩) n cap) := by rw [(bcell st1).1 _ _ (by omega)]; exact k1
                have c1_2 : v1.cell? ⟨g, k * 3, none⟩ = some (.int .i64 a) := by rw [(bcell st1).1 _ _ (by omega)]; exact z0
                have c1_3 : v1.cell? ⟨g, k * 3 + 1, none⟩ = some (.int .i64 b) := by rw [(bcell st1).1 _ _ (by omega)]; exact z1
                have c1_4 : v1.cell? ⟨g, k * 3 + 2, none⟩ = some (.int .i64 c) := by rw [(bcell st1).1 _ _ (by omega)]; exact z2
                have c1_5 : v1.cell? ⟨wr.heap.size, 0, none⟩ = some (.int .i64 a) := by rw [(bcell hb1).1 _ _ (by simp)]; simp
                have c1_6 : v1.cell? ⟨wr.heap.size, 1, none⟩ = some (.int .i64 b) := by rw [(bcell hb1).1 _ _ (by simp)]; simp
                have c1_7 : v1.cell? ⟨wr.heap.size, 2, none⟩ = some (.int .i64 c) := by rw [(bcell hb1).1 _ _ (by simp)]; simp
                have B1 : Hid (Below w.heap.size w v1) := HB.out.trans (st1.mono (by omega))
                have d1_0 : w.heap.size < v1.heap.size := by omega
                have e1_0 : w.heap.size ≠ v1.heap.size := by omega
                have d1_2 : wr.heap.size < v1.heap.size := by omega
                have e1_2 : wr.heap.size ≠ v1.heap.size := by omega
                clear k0 k1 z0 z1 z2 HB st1 hb1
                go_wp2_with fail
                go_at_call 48
                refine (node_any N _ _ _ b _ hN1 hN2).mono ?_
                rw [h2]
                rintro e v2 ⟨rfl, hb2⟩
                have sz2 : v1.heap.size ≤ v2.heap.size := hb2.size
                have st2 : Below v1.heap.size v1 v2 := hb2
                have c2_0 : v2.cell? ⟨w.heap.size, 0, none⟩ = some (.int .i64 N) := by rw [(bcell st2).1 _ _ (by omega)]; exact c1_0
                have c2_1 : v2.cell? ⟨w.heap.size, 1, none⟩ = some (.slice (some ⟨g, 0, none⟩) n cap) := by rw [(bcell st2).1 _ _ (by omega)]; exact c1_1
                have c2_2 : v2.cell? ⟨g, k * 3, none⟩ = some (.int .i64 a) := by rw [(bcell st2).1 _ _ (by omega)]; exact c1_2
                have c2_3 : v2.cell? ⟨g, k * 3 + 1, none⟩ = some (.int .i64 b) := by rw [(bcell st2).1 _ _ (by omega)]; exact c1_3
                have c2_4 : v2.cell? ⟨g, k * 3 + 2, none⟩ = some (.int .i64 c) := by rw [(bcell st2).1 _ _ (by omega)]; exact c1_4
                have c2_5 : v2.cell? ⟨wr.heap.size, 0, none⟩ = some (.int .i64 a) := by rw [(bcell st2).1 _ _ (by omega)]; exact c1_5
                have c2_6 : v2.cell? ⟨wr.heap.size, 1, none⟩ = some (.int .i64 b) := by rw [(bcell st2).1 _ _ (by omega)]; exact c1_6
                have c2_7 : v2.cell? ⟨wr.heap.size, 2, none⟩ = some (.int .i64 c) := by rw [(bcell st2).1 _ _ (by omega)]; exact c1_7
                have B2 : Hid (Below w.heap.size w v2) := B1.out.trans (st2.mono (by omega))
                have d2_0 : w.heap.size < v2.heap.size := by omega
                have e2_0 : w.heap.size ≠ v2.heap.size := by omega
                have d2_2 : wr.heap.size < v2.heap.size := by omega
                have e2_2 : wr.heap.size ≠ v2.heap.size := by omega
                clear d1_0 e1_0 d1_2 e1_2 c1_0 c1_1 c1_2 c1_3 c1_4 c1_5 c1_6 c1_7 B1 st2 hb2
                go_wp2_with fail
                go_at_call 59
                refine (in_any c 1 1000 _).mono ?_
                rw [h4]
                rintro e w' ⟨rfl, rfl⟩
                go_wp2_with fail
                go_roundw
                case rel => exact ⟨k + 1, by omega, by go_num, GRel.next HO.out Hc.out (by exact c2_0) (by exact c2_1) (by first | omega | (simp; omega)) B2.out⟩
                case measure => simp [intOf]; omega
              · obtain ⟨m, hm⟩ : ∃ m, k = m + 1 := ⟨k - 1, by omega⟩
                obtain ⟨r', hr'⟩ : ∃ r, L[m]? = some r := ⟨L[m]'(by rw [Hn.out]; omega), List.getElem?_eq_getElem _⟩
                obtain ⟨a0, b0, d0⟩ := r'
                obtain ⟨r0, r1, r2⟩ := flat_at L m _ hr'
                have HL' : Hid (L[m]? = some (a0, b0, d0)) := hr'
                have z3 : wr.cell? ⟨g, m * 3, none⟩ = some (.int .i64 a0) := by rw [HB.out.cell (p := ⟨g, m * 3, none⟩) hg]; exact H.out _ _ r0
                have z4 : wr.cell? ⟨g, m * 3 + 1, none⟩ = some (.int .i64 b0) := by rw [HB.out.cell (p := ⟨g, m * 3 + 1, none⟩) hg]; exact H.out _ _ r1
                have z5 : wr.cell? ⟨g, m * 3 + 2, none⟩ = some (.int .i64 d0) := by rw [HB.out.cell (p := ⟨g, m * 3 + 2, none⟩) hg]; exact H.out _ _ r2
                clear r0 r1 r2 hr'
                have dk : decide (0 < k) = true := decide_eq_true (by omega)
                have dk1 : 0 < k := by omega
                have e1 : IntKind.i64.wrap ((k : Int) - 1) = (m : Int) := by rw [IntWalk.i64_in _ (by omega)]; omega
                have q2 : (0 : Int) ≤ (m : Int) := by omega
                have q3 : (m : Int) < (n : Int) := by omega
                have Hm := Lib.hid hm
                clear hm hk0
                have Hch : Hid (echk N L k = eahB a0 b0 a b) := by show echk N L k = _; rw [Hm.out, echk_prev (by rw [← Hm.out]; exact HL.out) HL'.out, He.out]; rfl
                by_cases l1 : a < a0
                · have Hno : Hid (gok N L = false) := gok_no (i := k) (by rw [Hn.out]; exact hlt) (by rw [Hch.out, Bool.eq_false_iff, ne_eq, eahB_iff]; omega)
                  go_wp2_with fail
                  go_at_call 48
                  refine (node_any N _ _ _ a _ hN1 hN2).mono ?_
                  rw [h1]
                  rintro e v1 ⟨rfl, hb1⟩
                  have sz1 : wr.heap.size + 1 ≤ v1.heap.size := by have hh := hb1.size; simp at hh; omega
                  have st1 : Below wr.heap.size wr v1 := Below.trans (by go_grown) (hb1.mono (by simp))
                  have c1_0 : v1.cell? ⟨w.heap.size, 0, none⟩ = some (.int .i64 N) := by rw [(bcell st1).1 _ _ (by omega)]; exact k0
                  have c1_1 : v1.cell? ⟨w.heap.size, 1, none⟩ = some (.slice (some ⟨g, 0, none⟩) n cap) := by rw [(bcell st1).1 _ _ (by omega)]; exact k1
                  have c1_2 : v1.cell? ⟨g, k * 3, none⟩ = some (.int .i64 a) := by rw [(bcell st1).1 _ _ (by omega)]; exact z0
                  have c1_3 : v1.cell? ⟨g, k * 3 + 1, none⟩ = some (.int .i64 b) := by rw [(bcell st1).1 _ _ (by omega)]; exact z1
                  have c1_4 : v1.cell? ⟨g, k * 3 + 2, none⟩ = some (.int .i64 c) := by rw [(bcell st1).1 _ _ (by omega)]; exact z2
                  have c1_5 : v1.cell? ⟨g, m * 3, none⟩ = some (.int .i64 a0) := by rw [(bcell st1).1 _ _ (by omega)]; exact z3
                  have c1_6 : v1.cell? ⟨g, m * 3 + 1, none⟩ = some (.int .i64 b0) := by rw [(bcell st1).1 _ _ (by omega)]; exact z4
                  have c1_7 : v1.cell? ⟨g, m * 3 + 2, none⟩ = some (.int .i64 d0) := by rw [(bcell st1).1 _ _ (by omega)]; exact z5
                  have c1_8 : v1.cell? ⟨wr.heap.size, 0, none⟩ = some (.int .i64 a) := by rw [(bcell hb1).1 _ _ (by simp)]; simp
                  have c1_9 : v1.cell? ⟨wr.heap.size, 1, none⟩ = some (.int .i64 b) := by rw [(bcell hb1).1 _ _ (by simp)]; simp
                  have c1_10 : v1.cell? ⟨wr.heap.size, 2, none⟩ = some (.int .i64 c) := by rw [(bcell hb1).1 _ _ (by simp)]; simp
                  have B1 : Hid (Below w.heap.size w v1) := HB.out.trans (st1.mono (by omega))
                  have d1_0 : w.heap.size < v1.heap.size := by omega
                  have e1_0 : w.heap.size ≠ v1.heap.size := by omega
                  have d1_2 : wr.heap.size < v1.heap.size := by omega
                  have e1_2 : wr.heap.size ≠ v1.heap.size := by omega
                  clear k0 k1 z0 z1 z2 z3 z4 z5 HB st1 hb1
                  go_wp2_with fail
                  go_at_call 48
                  refine (node_any N _ _ _ b _ hN1 hN2).mono ?_
                  rw [h2]
                  rintro e v2 ⟨rfl, hb2⟩
                  have sz2 : v1.heap.size ≤ v2.heap.size := hb2.size
                  have st2 : Below v1.heap.size v1 v2 := hb2
                  have c2_0 : v2.cell? ⟨w.heap.size, 0, none⟩ = some (.int .i64 N) := by rw [(bcell st2).1 _ _ (by omega)]; exact c1_0
                  have c2_1 : v2.cell? ⟨w.heap.size, 1, none⟩ = some (.slice (some ⟨g, 0, none⟩) n cap) := by rw [(bcell st2).1 _ _ (by omega)]; exact c1_1
                  have c2_2 : v2.cell? ⟨g, k * 3, none⟩ = some (.int .i64 a) := by rw [(bcell st2).1 _ _ (by omega)]; exact c1_2
                  have c2_3 : v2.cell? ⟨g, k * 3 + 1, none⟩ = some (.int .i64 b) := by rw [(bcell st2).1 _ _ (by omega)]; exact c1_3
                  have c2_4 : v2.cell? ⟨g, k * 3 + 2, none⟩ = some (.int .i64 c) := by rw [(bcell st2).1 _ _ (by omega)]; exact c1_4
                  have c2_5 : v2.cell? ⟨g, m * 3, none⟩ = some (.int .i64 a0) := by rw [(bcell st2).1 _ _ (by omega)]; exact c1_5
                  have c2_6 : v2.cell? ⟨g, m * 3 + 1, none⟩ = some (.int .i64 b0) := by rw [(bcell st2).1 _ _ (by omega)]; exact c1_6
                  have c2_7 : v2.cell? ⟨g, m * 3 + 2, none⟩ = some (.int .i64 d0) := by rw [(bcell st2).1 _ _ (by omega)]; exact c1_7
                  have c2_8 : v2.cell? ⟨wr.heap.size, 0, none⟩ = some (.int .i64 a) := by rw [(bcell st2).1 _ _ (by omega)]; exact c1_8
                  have c2_9 : v2.cell? ⟨wr.heap.size, 1, none⟩ = some (.int .i64 b) := by rw [(bcell st2).1 _ _ (by omega)]; exact c1_9
                  have c2_10 : v2.cell? ⟨wr.heap.size, 2, none⟩ = some (.int .i64 c) := by rw [(bcell st2).1 _ _ (by omega)]; exact c1_10
                  have B2 : Hid (Below w.heap.size w v2) := B1.out.trans (st2.mono (by omega))
                  have d2_0 : w.heap.size < v2.heap.size := by omega
                  have e2_0 : w.heap.size ≠ v2.heap.size := by omega
                  have d2_2 : wr.heap.size < v2.heap.size := by omega
                  have e2_2 : wr.heap.size ≠ v2.heap.size := by omega
                  clear d1_0 e1_0 d1_2 e1_2 c1_0 c1_1 c1_2 c1_3 c1_4 c1_5 c1_6 c1_7 c1_8 c1_9 c1_10 B1 st2 hb2
                  go_wp2_with fail
                  go_at_call 59
                  refine (in_any c 1 1000 _).mono ?_
                  rw [h4]
                  rintro e w' ⟨rfl, rfl⟩
                  go_wp2_with fail
                  go_ret
                  exact ⟨by rw [Hno.out]; rfl, (B2.out.alloc (by first | omega | (simp; omega)) _)⟩
                · have l1' : decide (a < a0) = false := decide_eq_false l1
                  by_cases l2 : a0 = a
                  · by_cases l3 : b ≤ b0
                    · have Hno : Hid (gok N L = false) := gok_no (i := k) (by rw [Hn.out]; exact hlt) (by rw [Hch.out, Bool.eq_false_iff, ne_eq, eahB_iff]; omega)
                      have l5 : (a0 == a) = true := by simp [l2]
                      have HL2 := Lib.hid l2
                      clear l2
                      go_wp2_with fail
                      go_at_call 48
                      refine (node_any N _ _ _ a _ hN1 hN2).mono ?_
                      rw [h1]
                      rintro e v1 ⟨rfl, hb1⟩
                      have sz1 : wr.heap.size + 1 ≤ v1.heap.size := by have hh := hb1.size; simp at hh; omega
                      have st1 : Below wr.heap.size wr v1 := Below.trans (by go_grown) (hb1.mono (by simp))
                      have c1_0 : v1.cell? ⟨w.heap.size, 0, none⟩ = some (.int .i64 N) := by rw [(bcell st1).1 _ _ (by omega)]; exact k0
                      have c1_1 : v1.cell? ⟨w.heap.size, 1, none⟩ = some (.slice (some ⟨g, 0, none⟩) n cap) := by rw [(bcell st1).1 _ _ (by omega)]; exact k1
                      have c1_2 : v1.cell? ⟨g, k * 3, none⟩ = some (.int .i64 a) := by rw [(bcell st1).1 _ _ (by omega)]; exact z0
                      have c1_3 : v1.cell? ⟨g, k * 3 + 1, none⟩ = some (.int .i64 b) := by rw [(bcell st1).1 _ _ (by omega)]; exact z1
                      have c1_4 : v1.cell? ⟨g, k * 3 + 2, none⟩ = some (.int .i64 c) := by rw [(bcell st1).1 _ _ (by omega)]; exact z2
                      have c1_5 : v1.cell? ⟨g, m * 3, none⟩ = some (.int .i64 a0) := by rw [(bcell st1).1 _ _ (by omega)]; exact z3
                      have c1_6 : v1.cell? ⟨g, m * 3 + 1, none⟩ = some (.int .i64 b0) := by rw [(bcell st1).1 _ _ (by omega)]; exact z4
                      have c1_7 : v1.cell? ⟨g, m * 3 + 2, none⟩ = some (.int .i64 d0) := by rw [(bcell st1).1 _ _ (by omega)]; exact z5
                      have c1_8 : v1.cell? ⟨wr.heap.size, 0, none⟩ = some (.int .i64 a) := by rw [(bcell hb1).1 _ _ (by simp)]; simp
                      have c1_9 : v1.cell? ⟨wr.heap.size, 1, none⟩ = some (.int .i64 b) := by rw [(bcell hb1).1 _ _ (by simp)]; simp
                      have c1_10 : v1.cell? ⟨wr.heap.size, 2, none⟩ = some (.int .i64 c) := by rw [(bcell hb1).1 _ _ (by simp)]; simp
                      have B1 : Hid (Below w.heap.size w v1) := HB.out.trans (st1.mono (by omega))
                      have d1_0 : w.heap.size < v1.heap.size := by omega
                      have e1_0 : w.heap.size ≠ v1.heap.size := by omega
                      have d1_2 : wr.heap.size < v1.heap.size := by omega
                      have e1_2 : wr.heap.size ≠ v1.heap.size := by omega
                      clear k0 k1 z0 z1 z2 z3 z4 z5 HB st1 hb1
                      go_wp2_with fail
                      go_at_call 48
                      refine (node_any N _ _ _ b _ hN1 hN2).mono ?_
                      rw [h2]
                      rintro e v2 ⟨rfl, hb2⟩
                      have sz2 : v1.heap.size ≤ v2.heap.size := hb2.size
                      have st2 : Below v1.heap.size v1 v2 := hb2
                      have c2_0 : v2.cell? ⟨w.heap.size, 0, none⟩ = some (.int .i64 N) := by rw [(bcell st2).1 _ _ (by omega)]; exact c1_0
                      have c2_1 : v2.cell? ⟨w.heap.size, 1, none⟩ = some (.slice (some ⟨g, 0, none⟩) n cap) := by rw [(bcell st2).1 _ _ (by omega)]; exact c1_1
                      have c2_2 : v2.cell? ⟨g, k * 3, none⟩ = some (.int .i64 a) := by rw [(bcell st2).1 _ _ (by omega)]; exact c1_2
                      have c2_3 : v2.cell? ⟨g, k * 3 + 1, none⟩ = some (.int .i64 b) := by rw [(bcell st2).1 _ _ (by omega)]; exact c1_3
                      have c2_4 : v2.cell? ⟨g, k * 3 + 2, none⟩ = some (.int .i64 c) := by rw [(bcell st2).1 _ _ (by omega)]; exact c1_4
                      have c2_5 : v2.cell? ⟨g, m * 3, none⟩ = some (.int .i64 a0) := by rw [(bcell st2).1 _ _ (by omega)]; exact c1_5
                      have c2_6 : v2.cell? ⟨g, m * 3 + 1, none⟩ = some (.int .i64 b0) := by rw [(bcell st2).1 _ _ (by omega)]; exact c1_6
                      have c2_7 : v2.cell? ⟨g, m * 3 + 2, none⟩ = some (.int .i64 d0) := by rw [(bcell st2).1 _ _ (by omega)]; exact c1_7
                      have c2_8 : v2.cell? ⟨wr.heap.size, 0, none⟩ = some (.int .i64 a) := by rw [(bcell st2).1 _ _ (by omega)]; exact c1_8
                      have c2_9 : v2.cell? ⟨wr.heap.size, 1, none⟩ = some (.int .i64 b) := by rw [(bcell st2).1 _ _ (by omega)]; exact c1_9
                      have c2_10 : v2.cell? ⟨wr.heap.size, 2, none⟩ = some (.int .i64 c) := by rw [(bcell st2).1 _ _ (by omega)]; exact c1_10
                      have B2 : Hid (Below w.heap.size w v2) := B1.out.trans (st2.mono (by omega))
                      have d2_0 : w.heap.size < v2.heap.size := by omega
                      have e2_0 : w.heap.size ≠ v2.heap.size := by omega
                      have d2_2 : wr.heap.size < v2.heap.size := by omega
                      have e2_2 : wr.heap.size ≠ v2.heap.size := by omega
                      clear d1_0 e1_0 d1_2 e1_2 c1_0 c1_1 c1_2 c1_3 c1_4 c1_5 c1_6 c1_7 c1_8 c1_9 c1_10 B1 st2 hb2
                      go_wp2_with fail
                      go_at_call 59
                      refine (in_any c 1 1000 _).mono ?_
                      rw [h4]
                      rintro e w' ⟨rfl, rfl⟩
                      go_wp2_with fail
                      go_ret
                      exact ⟨by rw [Hno.out]; rfl, (B2.out.alloc (by first | omega | (simp; omega)) _)⟩
                    · have Hc : Hid (echk N L k = true) := by show echk N L k = true; rw [Hch.out, eahB_iff]; omega
                      have l5 : (a0 == a) = true := by simp [l2]
                      have l4 : decide (b ≤ b0) = false := decide_eq_false l3
                      have HL2 := Lib.hid l2
                      clear l2
                      go_wp2_with fail
                      go_at_call 48
                      refine (node_any N _ _ _ a _ hN1 hN2).mono ?_
                      rw [h1]
                      rintro e v1 ⟨rfl, hb1⟩
                      have sz1 : wr.heap.size + 1 ≤ v1.heap.size := by have hh := hb1.size; simp at hh; omega
                      have st1 : Below wr.heap.size wr v1 := Below.trans (by go_grown) (hb1.mono (by simp))
                      have c1_0 : v1.cell? ⟨w.heap.size, 0, none⟩ = some (.int .i64 N) := by rw [(bcell st1).1 _ _ (by omega)]; exact k0
                      have c1_1 : v1.cell? ⟨w.heap.size, 1, none⟩ = some (.slice (some ⟨g, 0, none⟩) n cap) := by rw [(bcell st1).1 _ _ (by omega)]; exact k1
                      have c1_2 : v1.cell? ⟨g, k * 3, none⟩ = some (.int .i64 a) := by rw [(bcell st1).1 _ _ (by omega)]; exact z0
                      have c1_3 : v1.cell? ⟨g, k * 3 + 1, none⟩ = some (.int .i64 b) := by rw [(bcell st1).1 _ _ (by omega)]; exact z1
                      have c1_4 : v1.cell? ⟨g, k * 3 + 2, none⟩ = some (.int .i64 c) := by rw [(bcell st1).1 _ _ (by omega)]; exact z2
                      have c1_5 : v1.cell? ⟨g, m * 3, none⟩ = some (.int .i64 a0) := by rw [(bcell st1).1 _ _ (by omega)]; exact z3
                      have c1_6 : v1.cell? ⟨g, m * 3 + 1, none⟩ = some (.int .i64 b0) := by rw [(bcell st1).1 _ _ (by omega)]; exact z4
                      have c1_7 : v1.cell? ⟨g, m * 3 + 2, none⟩ = some (.int .i64 d0) := by rw [(bcell st1).1 _ _ (by omega)]; exact z5
                      have c1_8 : v1.cell? ⟨wr.heap.size, 0, none⟩ = some (.int .i64 a) := by rw [(bcell hb1).1 _ _ (by simp)]; simp
                      have c1_9 : v1.cell? ⟨wr.heap.size, 1, none⟩ = some (.int .i64 b) := by rw [(bcell hb1).1 _ _ (by simp)]; simp
                      have c1_10 : v1.cell? ⟨wr.heap.size, 2, none⟩ = some (.int .i64 c) := by rw [(bcell hb1).1 _ _ (by simp)]; simp
                      have B1 : Hid (Below w.heap.size w v1) := HB.out.trans (st1.mono (by omega))
                      have d1_0 : w.heap.size < v1.heap.size := by omega
                      have e1_0 : w.heap.size ≠ v1.heap.size := by omega
                      have d1_2 : wr.heap.size < v1.heap.size := by omega
                      have e1_2 : wr.heap.size ≠ v1.heap.size := by omega
                      clear k0 k1 z0 z1 z2 z3 z4 z5 HB st1 hb1
                      go_wp2_with fail
                      go_at_call 48
                      refine (node_any N _ _ _ b _ hN1 hN2).mono ?_
                      rw [h2]
                      rintro e v2 ⟨rfl, hb2⟩
                      have sz2 : v1.heap.size ≤ v2.heap.size := hb2.size
                      have st2 : Below v1.heap.size v1 v2 := hb2
                      have c2_0 : v2.cell? ⟨w.heap.size, 0, none⟩ = some (.int .i64 N) := by rw [(bcell st2).1 _ _ (by omega)]; exact c1_0
                      have c2_1 : v2.cell? ⟨w.heap.size, 1, none⟩ = some (.slice (some ⟨g, 0, none⟩) n cap) := by rw [(bcell st2).1 _ _ (by omega)]; exact c1_1
                      have c2_2 : v2.cell? ⟨g, k * 3, none⟩ = some (.int .i64 a) := by rw [(bcell st2).1 _ _ (by omega)]; exact c1_2
                      have c2_3 : v2.cell? ⟨g, k * 3 + 1, none⟩ = some (.int .i64 b) := by rw [(bcell st2).1 _ _ (by omega)]; exact c1_3
                      have c2_4 : v2.cell? ⟨g, k * 3 + 2, none⟩ = some (.int .i64 c) := by rw [(bcell st2).1 _ _ (by omega)]; exact c1_4
                      have c2_5 : v2.cell? ⟨g, m * 3, none⟩ = some (.int .i64 a0) := by rw [(bcell st2).1 _ _ (by omega)]; exact c1_5
                      have c2_6 : v2.cell? ⟨g, m * 3 + 1, none⟩ = some (.int .i64 b0) := by rw [(bcell st2).1 _ _ (by omega)]; exact c1_6
                      have c2_7 : v2.cell? ⟨g, m * 3 + 2, none⟩ = some (.int .i64 d0) := by rw [(bcell st2).1 _ _ (by omega)]; exact c1_7
                      have c2_8 : v2.cell? ⟨wr.heap.size, 0, none⟩ = some (.int .i64 a) := by rw [(bcell st2).1 _ _ (by omega)]; exact c1_8
                      have c2_9 : v2.cell? ⟨wr.heap.size, 1, none⟩ = some (.int .i64 b) := by rw [(bcell st2).1 _ _ (by omega)]; exact c1_9
                      have c2_10 : v2.cell? ⟨wr.heap.size, 2, none⟩ = some (.int .i64 c) := by rw [(bcell st2).1 _ _ (by omega)]; exact c1_10
                      have B2 : Hid (Below w.heap.size w v2) := B1.out.trans (st2.mono (by omega))
                      have d2_0 : w.heap.size < v2.heap.size := by omega
                      have e2_0 : w.heap.size ≠ v2.heap.size := by omega
                      have d2_2 : wr.heap.size < v2.heap.size := by omega
                      have e2_2 : wr.heap.size ≠ v2.heap.size := by omega
                      clear d1_0 e1_0 d1_2 e1_2 c1_0 c1_1 c1_2 c1_3 c1_4 c1_5 c1_6 c1_7 c1_8 c1_9 c1_10 B1 st2 hb2
                      go_wp2_with fail
                      go_at_call 59
                      refine (in_any c 1 1000 _).mono ?_
                      rw [h4]
                      rintro e w' ⟨rfl, rfl⟩
                      go_wp2_with fail
                      go_roundw
                      case rel => exact ⟨k + 1, by omega, by go_num, GRel.next HO.out Hc.out (by rw [old_box (by first | omega | (simp; omega))]; exact c2_0) (by rw [old_box (by first | omega | (simp; omega))]; exact c2_1) (by first | omega | (simp; omega)) (B2.out.alloc (by first | omega | (simp; omega)) _)⟩
                      case measure => simp [intOf]; omega
                  · have Hc : Hid (echk N L k = true) := by show echk N L k = true; rw [Hch.out, eahB_iff]; omega
                    have l5 : (a0 == a) = false := by simp [l2]
                    have HL2 := Lib.hid l2
                    clear l2
                    go_wp2_with fail
                    go_at_call 48
                    refine (node_any N _ _ _ a _ hN1 hN2).mono ?_
                    rw [h1]
                    rintro e v1 ⟨rfl, hb1⟩
                    have sz1 : wr.heap.size + 1 ≤ v1.heap.size := by have hh := hb1.size; simp at hh; omega
                    have st1 : Below wr.heap.size wr v1 := Below.trans (by go_grown) (hb1.mono (by simp))
                    have c1_0 : v1.cell? ⟨w.heap.size, 0, none⟩ = some (.int .i64 N) := by rw [(bcell st1).1 _ _ (by omega)]; exact k0
                    have c1_1 : v1.cell? ⟨w.heap.size, 1, none⟩ = some (.slice (some ⟨g, 0, none⟩) n cap) := by rw [(bcell st1).1 _ _ (by omega)]; exact k1
                    have c1_2 : v1.cell? ⟨g, k * 3, none⟩ = some (.int .i64 a) := by rw [(bcell st1).1 _ _ (by omega)]; exact z0
                    have c1_3 : v1.cell? ⟨g, k * 3 + 1, none⟩ = some (.int .i64 b) := by rw [(bcell st1).1 _ _ (by omega)]; exact z1
                    have c1_4 : v1.cell? ⟨g, k * 3 + 2, none⟩ = some (.int .i64 c) := by rw [(bcell st1).1 _ _ (by omega)]; exact z2
                    have c1_5 : v1.cell? ⟨g, m * 3, none⟩ = some (.int .i64 a0) := by rw [(bcell st1).1 _ _ (by omega)]; exact z3
                    have c1_6 : v1.cell? ⟨g, m * 3 + 1, none⟩ = some (.int .i64 b0) := by rw [(bcell st1).1 _ _ (by omega)]; exact z4
                    have c1_7 : v1.cell? ⟨g, m * 3 + 2, none⟩ = some (.int .i64 d0) := by rw [(bcell st1).1 _ _ (by omega)]; exact z5
                    have c1_8 : v1.cell? ⟨wr.heap.size, 0, none⟩ = some (.int .i64 a) := by rw [(bcell hb1).1 _ _ (by simp)]; simp
                    have c1_9 : v1.cell? ⟨wr.heap.size, 1, none⟩ = some (.int .i64 b) := by rw [(bcell hb1).1 _ _ (by simp)]; simp
                    have c1_10 : v1.cell? ⟨wr.heap.size, 2, none⟩ = some (.int .i64 c) := by rw [(bcell hb1).1 _ _ (by simp)]; simp
                    have B1 : Hid (Below w.heap.size w v1) := HB.out.trans (st1.mono (by omega))
                    have d1_0 : w.heap.size < v1.heap.size := by omega
                    have e1_0 : w.heap.size ≠ v1.heap.size := by omega
                    have d1_2 : wr.heap.size < v1.heap.size := by omega
                    have e1_2 : wr.heap.size ≠ v1.heap.size := by omega
                    clear k0 k1 z0 z1 z2 z3 z4 z5 HB st1 hb1
                    go_wp2_with fail
                    go_at_call 48
                    refine (node_any N _ _ _ b _ hN1 hN2).mono ?_
                    rw [h2]
                    rintro e v2 ⟨rfl, hb2⟩
                    have sz2 : v1.heap.size ≤ v2.heap.size := hb2.size
                    have st2 : Below v1.heap.size v1 v2 := hb2
                    have c2_0 : v2.cell? ⟨w.heap.size, 0, none⟩ = some (.int .i64 N) := by rw [(bcell st2).1 _ _ (by omega)]; exact c1_0
                    have c2_1 : v2.cell? ⟨w.heap.size, 1, none⟩ = some (.slice (some ⟨g, 0, none⟩) n cap) := by rw [(bcell st2).1 _ _ (by omega)]; exact c1_1
                    have c2_2 : v2.cell? ⟨g, k * 3, none⟩ = some (.int .i64 a) := by rw [(bcell st2).1 _ _ (by omega)]; exact c1_2
                    have c2_3 : v2.cell? ⟨g, k * 3 + 1, none⟩ = some (.int .i64 b) := by rw [(bcell st2).1 _ _ (by omega)]; exact c1_3
                    have c2_4 : v2.cell? ⟨g, k * 3 + 2, none⟩ = some (.int .i64 c) := by rw [(bcell st2).1 _ _ (by omega)]; exact c1_4
                    have c2_5 : v2.cell? ⟨g, m * 3, none⟩ = some (.int .i64 a0) := by rw [(bcell st2).1 _ _ (by omega)]; exact c1_5
                    have c2_6 : v2.cell? ⟨g, m * 3 + 1, none⟩ = some (.int .i64 b0) := by rw [(bcell st2).1 _ _ (by omega)]; exact c1_6
                    have c2_7 : v2.cell? ⟨g, m * 3 + 2, none⟩ = some (.int .i64 d0) := by rw [(bcell st2).1 _ _ (by omega)]; exact c1_7
                    have c2_8 : v2.cell? ⟨wr.heap.size, 0, none⟩ = some (.int .i64 a) := by rw [(bcell st2).1 _ _ (by omega)]; exact c1_8
                    have c2_9 : v2.cell? ⟨wr.heap.size, 1, none⟩ = some (.int .i64 b) := by rw [(bcell st2).1 _ _ (by omega)]; exact c1_9
                    have c2_10 : v2.cell? ⟨wr.heap.size, 2, none⟩ = some (.int .i64 c) := by rw [(bcell st2).1 _ _ (by omega)]; exact c1_10
                    have B2 : Hid (Below w.heap.size w v2) := B1.out.trans (st2.mono (by omega))
                    have d2_0 : w.heap.size < v2.heap.size := by omega
                    have e2_0 : w.heap.size ≠ v2.heap.size := by omega
                    have d2_2 : wr.heap.size < v2.heap.size := by omega
                    have e2_2 : wr.heap.size ≠ v2.heap.size := by omega
                    clear d1_0 e1_0 d1_2 e1_2 c1_0 c1_1 c1_2 c1_3 c1_4 c1_5 c1_6 c1_7 c1_8 c1_9 c1_10 B1 st2 hb2
                    go_wp2_with fail
                    go_at_call 59
                    refine (in_any c 1 1000 _).mono ?_
                    rw [h4]
                    rintro e w' ⟨rfl, rfl⟩
                    go_wp2_with fail
                    go_roundw
                    case rel => exact ⟨k + 1, by omega, by go_num, GRel.next HO.out Hc.out (by rw [old_box (by first | omega | (simp; omega))]; exact c2_0) (by rw [old_box (by first | omega | (simp; omega))]; exact c2_1) (by first | omega | (simp; omega)) (B2.out.alloc (by first | omega | (simp; omega)) _)⟩
                    case measure => simp [intOf]; omega
            · rw [Bool.not_eq_true] at h4
              have Hno : Hid (gok N L = false) := gok_no (i := k) (by rw [Hn.out]; exact hlt) (by rw [echk_at HL.out]; unfold eokB; rw [h4]; simp)
              go_wp2_with fail
              go_at_call 48
              refine (node_any N _ _ _ a _ hN1 hN2).mono ?_
              rw [h1]
              rintro e v1 ⟨rfl, hb1⟩
              have sz1 : wr.heap.size + 1 ≤ v1.heap.size := by have hh := hb1.size; simp at hh; omega
              have st1 : Below wr.heap.size wr v1 := Below.trans (by go_grown) (hb1.mono (by simp))
              have c1_0 : v1.cell? ⟨w.heap.size, 0, none⟩ = some (.int .i64 N) := by rw [(bcell st1).1 _ _ (by omega)]; exact k0
              have c1_1 : v1.cell? ⟨w.heap.size, 1, none⟩ = some (.slice (some ⟨g, 0, none⟩) n cap) := by rw [(bcell st1).1 _ _ (by omega)]; exact k1
              have c1_2 : v1.cell? ⟨g, k * 3, none⟩ = some (.int .i64 a) := by rw [(bcell st1).1 _ _ (by omega)]; exact z0
              have c1_3 : v1.cell? ⟨g, k * 3 + 1, none⟩ = some (.int .i64 b) := by rw [(bcell st1).1 _ _ (by omega)]; exact z1
              have c1_4 : v1.cell? ⟨g, k * 3 + 2, none⟩ = some (.int .i64 c) := by rw [(bcell st1).1 _ _ (by omega)]; exact z2
              have c1_5 : v1.cell? ⟨wr.heap.size, 0, none⟩ = some (.int .i64 a) := by rw [(bcell hb1).1 _ _ (by simp)]; simp
              have c1_6 : v1.cell? ⟨wr.heap.size, 1, none⟩ = some (.int .i64 b) := by rw [(bcell hb1).1 _ _ (by simp)]; simp
              have c1_7 : v1.cell? ⟨wr.heap.size, 2, none⟩ = some (.int .i64 c) := by rw [(bcell hb1).1 _ _ (by simp)]; simp
              have B1 : Hid (Below w.heap.size w v1) := HB.out.trans (st1.mono (by omega))
              have d1_0 : w.heap.size < v1.heap.size := by omega
              have e1_0 : w.heap.size ≠ v1.heap.size := by omega
              have d1_2 : wr.heap.size < v1.heap.size := by omega
              have e1_2 : wr.heap.size ≠ v1.heap.size := by omega
              clear k0 k1 z0 z1 z2 HB st1 hb1
              go_wp2_with fail
              go_at_call 48
              refine (node_any N _ _ _ b _ hN1 hN2).mono ?_
              rw [h2]
              rintro e v2 ⟨rfl, hb2⟩
              have sz2 : v1.heap.size ≤ v2.heap.size := hb2.size
              have st2 : Below v1.heap.size v1 v2 := hb2
              have c2_0 : v2.cell? ⟨w.heap.size, 0, none⟩ = some (.int .i64 N) := by rw [(bcell st2).1 _ _ (by omega)]; exact c1_0
              have c2_1 : v2.cell? ⟨w.heap.size, 1, none⟩ = some (.slice (some ⟨g, 0, none⟩) n cap) := by rw [(bcell st2).1 _ _ (by omega)]; exact c1_1
              have c2_2 : v2.cell? ⟨g, k * 3, none⟩ = some (.int .i64 a) := by rw [(bcell st2).1 _ _ (by omega)]; exact c1_2
              have c2_3 : v2.cell? ⟨g, k * 3 + 1, none⟩ = some (.int .i64 b) := by rw [(bcell st2).1 _ _ (by omega)]; exact c1_3
              have c2_4 : v2.cell? ⟨g, k * 3 + 2, none⟩ = some (.int .i64 c) := by rw [(bcell st2).1 _ _ (by omega)]; exact c1_4
              have c2_5 : v2.cell? ⟨wr.heap.size, 0, none⟩ = some (.int .i64 a) := by rw [(bcell st2).1 _ _ (by omega)]; exact c1_5
              have c2_6 : v2.cell? ⟨wr.heap.size, 1, none⟩ = some (.int .i64 b) := by rw [(bcell st2).1 _ _ (by omega)]; exact c1_6
              have c2_7 : v2.cell? ⟨wr.heap.size, 2, none⟩ = some (.int .i64 c) := by rw [(bcell st2).1 _ _ (by omega)]; exact c1_7
              have B2 : Hid (Below w.heap.size w v2) := B1.out.trans (st2.mono (by omega))
              have d2_0 : w.heap.size < v2.heap.size := by omega
              have e2_0 : w.heap.size ≠ v2.heap.size := by omega
              have d2_2 : wr.heap.size < v2.heap.size := by omega
              have e2_2 : wr.heap.size ≠ v2.heap.size := by omega
              clear d1_0 e1_0 d1_2 e1_2 c1_0 c1_1 c1_2 c1_3 c1_4 c1_5 c1_6 c1_7 B1 st2 hb2
              go_wp2_with fail
              go_at_call 59
              refine (in_any c 1 1000 _).mono ?_
              rw [h4]
              rintro e w' ⟨rfl, rfl⟩
              go_wp2_with fail
              go_ret
              exact ⟨by rw [Hno.out]; rfl, B2.out⟩
        · rw [Bool.not_eq_true] at h2
          have Hno : Hid (gok N L = false) := gok_no (i := k) (by rw [Hn.out]; exact hlt) (by rw [echk_at HL.out]; unfold eokB; rw [h2]; simp)
          go_wp2_with fail
          go_at_call 48
          refine (node_any N _ _ _ a _ hN1 hN2).mono ?_
          rw [h1]
          rintro e v1 ⟨rfl, hb1⟩
          have sz1 : wr.heap.size + 1 ≤ v1.heap.size := by have hh := hb1.size; simp at hh; omega
          have st1 : Below wr.heap.size wr v1 := Below.trans (by go_grown) (hb1.mono (by simp))
          have c1_0 : v1.cell? ⟨w.heap.size, 0, none⟩ = some (.int .i64 N) := by rw [(bcell st1).1 _ _ (by omega)]; exact k0
          have c1_1 : v1.cell? ⟨w.heap.size, 1, none⟩ = some (.slice (some ⟨g, 0, none⟩) n cap) := by rw [(bcell st1).1 _ _ (by omega)]; exact k1
          have c1_2 : v1.cell? ⟨g, k * 3, none⟩ = some (.int .i64 a) := by rw [(bcell st1).1 _ _ (by omega)]; exact z0
          have c1_3 : v1.cell? ⟨g, k * 3 + 1, none⟩ = some (.int .i64 b) := by rw [(bcell st1).1 _ _ (by omega)]; exact z1
          have c1_4 : v1.cell? ⟨g, k * 3 + 2, none⟩ = some (.int .i64 c) := by rw [(bcell st1).1 _ _ (by omega)]; exact z2
          have c1_5 : v1.cell? ⟨wr.heap.size, 0, none⟩ = some (.int .i64 a) := by rw [(bcell hb1).1 _ _ (by simp)]; simp
          have c1_6 : v1.cell? ⟨wr.heap.size, 1, none⟩ = some (.int .i64 b) := by rw [(bcell hb1).1 _ _ (by simp)]; simp
          have c1_7 : v1.cell? ⟨wr.heap.size, 2, none⟩ = some (.int .i64 c) := by rw [(bcell hb1).1 _ _ (by simp)]; simp
          have B1 : Hid (Below w.heap.size w v1) := HB.out.trans (st1.mono (by omega))
          have d1_0 : w.heap.size < v1.heap.size := by omega
          have e1_0 : w.heap.size ≠ v1.heap.size := by omega
          have d1_2 : wr.heap.size < v1.heap.size := by omega
          have e1_2 : wr.heap.size ≠ v1.heap.size := by omega
          clear k0 k1 z0 z1 z2 HB st1 hb1
          go_wp2_with fail
          go_at_call 48
          refine (node_any N _ _ _ b _ hN1 hN2).mono ?_
          rw [h2]
          rintro e v2 ⟨rfl, hb2⟩
          have sz2 : v1.heap.size ≤ v2.heap.size := hb2.size
          have st2 : Below v1.heap.size v1 v2 := hb2
          have c2_0 : v2.cell? ⟨w.heap.size, 0, none⟩ = some (.int .i64 N) := by rw [(bcell st2).1 _ _ (by omega)]; exact c1_0
          have c2_1 : v2.cell? ⟨w.heap.size, 1, none⟩ = some (.slice (some ⟨g, 0, none⟩) n cap) := by rw [(bcell st2).1 _ _ (by omega)]; exact c1_1
          have c2_2 : v2.cell? ⟨g, k * 3, none⟩ = some (.int .i64 a) := by rw [(bcell st2).1 _ _ (by omega)]; exact c1_2
          have c2_3 : v2.cell? ⟨g, k * 3 + 1, none⟩ = some (.int .i64 b) := by rw [(bcell st2).1 _ _ (by omega)]; exact c1_3
          have c2_4 : v2.cell? ⟨g, k * 3 + 2, none⟩ = some (.int .i64 c) := by rw [(bcell st2).1 _ _ (by omega)]; exact c1_4
          have c2_5 : v2.cell? ⟨wr.heap.size, 0, none⟩ = some (.int .i64 a) := by rw [(bcell st2).1 _ _ (by omega)]; exact c1_5
          have c2_6 : v2.cell? ⟨wr.heap.size, 1, none⟩ = some (.int .i64 b) := by rw [(bcell st2).1 _ _ (by omega)]; exact c1_6
          have c2_7 : v2.cell? ⟨wr.heap.size, 2, none⟩ = some (.int .i64 c) := by rw [(bcell st2).1 _ _ (by omega)]; exact c1_7
          have B2 : Hid (Below w.heap.size w v2) := B1.out.trans (st2.mono (by omega))
          have d2_0 : w.heap.size < v2.heap.size := by omega
          have e2_0 : w.heap.size ≠ v2.heap.size := by omega
          have d2_2 : wr.heap.size < v2.heap.size := by omega
          have e2_2 : wr.heap.size ≠ v2.heap.size := by omega
          clear d1_0 e1_0 d1_2 e1_2 c1_0 c1_1 c1_2 c1_3 c1_4 c1_5 c1_6 c1_7 B1 st2 hb2
          go_wp2_with fail
          go_ret
          exact ⟨by rw [Hno.out]; rfl, B2.out⟩
      · rw [Bool.not_eq_true] at h1
        have Hno : Hid (gok N L = false) := gok_no (i := k) (by rw [Hn.out]; exact hlt) (by rw [echk_at HL.out]; unfold eokB; rw [h1]; simp)
        go_wp2_with fail
        go_at_call 48
        refine (node_any N _ _ _ a _ hN1 hN2).mono ?_
        rw [h1]
        rintro e v1 ⟨rfl, hb1⟩
        have sz1 : wr.heap.size + 1 ≤ v1.heap.size := by have hh := hb1.size; simp at hh; omega
        have st1 : Below wr.heap.size wr v1 := Below.trans (by go_grown) (hb1.mono (by simp))
        have c1_0 : v1.cell? ⟨w.heap.size, 0, none⟩ = some (.int .i64 N) := by rw [(bcell st1).1 _ _ (by omega)]; exact k0
        have c1_1 : v1.cell? ⟨w.heap.size, 1, none⟩ = some (.slice (some ⟨g, 0, none⟩) n cap) := by rw [(bcell st1).1 _ _ (by omega)]; exact k1
        have c1_2 : v1.cell? ⟨g, k * 3, none⟩ = some (.int .i64 a) := by rw [(bcell st1).1 _ _ (by omega)]; exact z0
        have c1_3 : v1.cell? ⟨g, k * 3 + 1, none⟩ = some (.int .i64 b) := by rw [(bcell st1).1 _ _ (by omega)]; exact z1
        have c1_4 : v1.cell? ⟨g, k * 3 + 2, none⟩ = some (.int .i64 c) := by rw [(bcell st1).1 _ _ (by omega)]; exact z2
        have c1_5 : v1.cell? ⟨wr.heap.size, 0, none⟩ = some (.int .i64 a) := by rw [(bcell hb1).1 _ _ (by simp)]; simp
        have c1_6 : v1.cell? ⟨wr.heap.size, 1, none⟩ = some (.int .i64 b) := by rw [(bcell hb1).1 _ _ (by simp)]; simp
        have c1_7 : v1.cell? ⟨wr.heap.size, 2, none⟩ = some (.int .i64 c) := by rw [(bcell hb1).1 _ _ (by simp)]; simp
        have B1 : Hid (Below w.heap.size w v1) := HB.out.trans (st1.mono (by omega))
        have d1_0 : w.heap.size < v1.heap.size := by omega
        have e1_0 : w.heap.size ≠ v1.heap.size := by omega
        have d1_2 : wr.heap.size < v1.heap.size := by omega
        have e1_2 : wr.heap.size ≠ v1.heap.size := by omega
        clear k0 k1 z0 z1 z2 HB st1 hb1
        go_wp2_with fail
        go_ret
        exact ⟨by rw [Hno.out]; rfl, B1.out⟩
    · have hge : ¬ ((k : Int) < (n : Int)) := by omega
      obtain rfl : k = n := by omega
      have Hy : Hid (gok N L = true) := gok_yes hN1 hN2 (by rw [Hn.out]; exact h60) (fun i hi => hR.out.1 i (by rw [Hn.out] at hi; exact hi))
      clear hR hB
      go_wp2
      go_ret
      exact ⟨by rw [Hy.out]; rfl, HB.out⟩

end Go.Proofs.Ytjenjdhoblcohaa
