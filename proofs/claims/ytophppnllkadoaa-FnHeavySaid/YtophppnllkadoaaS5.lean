/- TopOk of the program. -/
import Derived.Test.YtophppnllkadoaaS4
namespace Go.Proofs.Ytophppnllkadoaa
open Go.RowKit


set_option maxRecDepth 100000 in
set_option maxHeartbeats 4000000 in
theorem itop_any (lo hi n : Nat) (v : Value) (L : List Hv) (w : World) (hL : L.length = n) (hr : Row 3 w lo hi v n (flat L)) (hh : hi ≤ w.heap.size) :
    Calls Try.prog 42 #[.agg #[v]] w fun e w' => e = .returned (.bool (topB L)) ∧ Below w.heap.size w w' := by
  obtain ⟨ad, cp, rfl, hn, hop⟩ := hr.opened
  have Hn := Lib.hid hL
  have H := Lib.hid hop
  have HR := Lib.hid hr
  clear hL hr hop
  by_cases h4 : n ≤ 4
  case neg =>
    have hx : (4 : Int) < (n : Int) := by omega
    have Hno : Hid (topB L = false) := topB_big (by rw [Hn.out]; omega)
    go_enter Try.func42, Try.ntmps42
    go_wp2
    go_ret
    exact ⟨by rw [Hno.out]; rfl, by go_grown⟩
  case pos =>
  have hx : ¬ (4 : Int) < (n : Int) := by omega
  go_enter Try.func42, Try.ntmps42
  go_wp2_with fail
  obtain ⟨q1, hq1⟩ : ∃ q, q = (w.alloc (.cells #[.slice ad n cp] 38)) := ⟨_, rfl⟩
  have hb1 : Below w.heap.size w q1 := by rw [hq1]; go_grown
  have sz1 : w.heap.size + 1 ≤ q1.heap.size := by rw [hq1]; simp
  have c1_0 : q1.cell? ⟨w.heap.size, 0, none⟩ = some (.slice ad n cp) := by rw [hq1, new_at (by simp)]; rfl
  have B1 : Hid (Below w.heap.size w q1) := Lib.hid hb1
  rw [← hq1]
  have d1_0 : w.heap.size < q1.heap.size := by omega
  have e1_0 : w.heap.size ≠ q1.heap.size := by omega
  clear hq1 hb1
  have hbB := Lib.hid B1.out.size
  have RQ : Hid (Row 3 q1 lo hi (.slice ad n cp) n (flat L)) := HR.out.below B1.out hh
  have cx := c1_0
  go_loopw [12] (fun i wr => ∃ k : Nat, k ≤ n ∧ i = .int .i64 (k : Int) ∧ Hid (∀ (j : Nat) (r : Hv), j < k → L[j]? = some r → hvB r.1 r.2.1 r.2.2 = true ∧ skey L j) ∧ Hid (Below q1.heap.size q1 wr)) (fun i _ => n - (intOf i).toNat)
  case atStart => exact ⟨0, Nat.zero_le _, rfl, fun j r hj => absurd hj (Nat.not_lt_zero _), Below.refl _ _⟩
  case round =>
    obtain ⟨k, hk, rfl, hF, hB⟩ := hrel
    have hbx := hbB.out
    have cw : wr.cell? ⟨w.heap.size, 0, none⟩ = some (.slice ad n cp) := by rw [hB.out.cell (p := ⟨w.heap.size, 0, none⟩) (by show w.heap.size < _; omega)]; exact cx
    have RW : Hid (Row 3 wr lo hi (.slice ad n cp) n (flat L)) := RQ.out.below hB.out (by omega)
    have hsz := hB.out.size
    by_cases hlt : k < n
    case neg =>
      obtain rfl : k = n := by omega
      have hge : ¬ ((k : Int) < (k : Int)) := by omega
      have HE : Hid (topB L = srtB L) := by
        show _ = _
        cases hs : srtB L with
        | true =>
          rw [topB_iff]
          refine top_of_prog (by rw [Hn.out]; exact h4) (fun i r hr => hF.out i r (by rw [← Hn.out]; exact lt_of_at hr) hr) (srtB_iff.1 hs)
        | false =>
          refine topB_no fun t => ?_
          rw [Bool.eq_false_iff, ne_eq, srtB_iff] at hs
          exact hs fun i p r hp hr => ah_asym (t.ahead hp hr)
      clear cx RQ
      go_wp2_with fail
      go_at_call 74
      refine (issort_any lo hi k _ L _ Hn.out RW.out (by omega)).mono ?_
      rintro e w2 ⟨rfl, hb⟩
      have hB2 := chain (B1.out.trans (hB.out.mono (by omega))) hb
      clear hb
      go_wp2_with fail
      go_ret
      exact ⟨by rw [HE.out]; rfl, hB2⟩
    case pos =>
    obtain ⟨g, rfl, hg, hz⟩ := H.out (by omega)
    clear H
    obtain ⟨a, b, c, hr⟩ := at_of_lt (L := L) (i := k) (by rw [Hn.out]; exact hlt)
    obtain ⟨r0, r1, r2⟩ := flat_at L k _ hr
    have HL : Hid (L[k]? = some (a, b, c)) := hr
    have hgs : g < wr.heap.size := by omega
    have hBw := B1.out.trans (hB.out.mono hbx)
    have z0 : wr.cell? ⟨g, k * 3, none⟩ = some (.int .i64 a) := by rw [hBw.cell (p := ⟨g, k * 3, none⟩) (by show g < _; omega)]; exact hz _ _ r0
    have z1 : wr.cell? ⟨g, k * 3 + 1, none⟩ = some (.int .i64 b) := by rw [hBw.cell (p := ⟨g, k * 3 + 1, none⟩) (by show g < _; omega)]; exact hz _ _ r1
    have z2 : wr.cell? ⟨g, k * 3 + 2, none⟩ = some (.int .i64 c) := by rw [hBw.cell (p := ⟨g, k * 3 + 2, none⟩) (by show g < _; omega)]; exact hz _ _ r2
    have q0 : (0 : Int) ≤ (k : Int) := by omega
    have q1 : (k : Int) < (n : Int) := by omega
    have nw0 : w.heap.size ≠ wr.heap.size := by omega
    have nw1 : w.heap.size < wr.heap.size := by omega
    have HBW := Lib.hid hBw
    clear r0 r1 r2 hr hz cx RQ hBw
    cases hp : hvB a b c with
    | false =>
      have Hno : Hid (topB L = false) := topB_no fun t => by have := t.at_ HL.out; rw [hp] at this; simp at this
      go_wp2_with fail
      go_at_call 72
      refine (hvok_any a b c _).mono ?_
      rw [hp]
      rintro e v1 ⟨rfl, hb1⟩
      have sz1 : wr.heap.size + 1 ≤ v1.heap.size := by have hh := hb1.size; simp at hh; omega
      have st1 : Below wr.heap.size wr v1 := Below.trans (by go_grown) (hb1.mono (by simp))
      have c1_0 : v1.cell? ⟨g, k * 3, none⟩ = some (.int .i64 a) := by rw [(bcell st1).1 _ _ (by omega)]; exact z0
      have c1_1 : v1.cell? ⟨g, k * 3 + 1, none⟩ = some (.int .i64 b) := by rw [(bcell st1).1 _ _ (by omega)]; exact z1
      have c1_2 : v1.cell? ⟨g, k * 3 + 2, none⟩ = some (.int .i64 c) := by rw [(bcell st1).1 _ _ (by omega)]; exact z2
      have c1_3 : v1.cell? ⟨w.heap.size, 0, none⟩ = some (.slice (some ⟨g, 0, none⟩) n cp) := by rw [(bcell st1).1 _ _ (by omega)]; exact cw
      have c1_4 : v1.cell? ⟨wr.heap.size, 0, none⟩ = some (.int .i64 a) := by rw [(bcell hb1).1 _ _ (by simp)]; first | (rw [new_at (by simp)]; rfl) | simp
      have c1_5 : v1.cell? ⟨wr.heap.size, 1, none⟩ = some (.int .i64 b) := by rw [(bcell hb1).1 _ _ (by simp)]; first | (rw [new_at (by simp)]; rfl) | simp
      have c1_6 : v1.cell? ⟨wr.heap.size, 2, none⟩ = some (.int .i64 c) := by rw [(bcell hb1).1 _ _ (by simp)]; first | (rw [new_at (by simp)]; rfl) | simp
      have B1 : Hid (Below wr.heap.size wr v1) := st1
      have R1_0 : Hid (Row 3 v1 (lo) (hi) (.slice (some ⟨g, 0, none⟩) n cp) n (flat L)) := RW.out.below st1 (by omega)
      have d1_1 : w.heap.size < v1.heap.size := by omega
      have e1_1 : w.heap.size ≠ v1.heap.size := by omega
      have d1_2 : wr.heap.size < v1.heap.size := by omega
      have e1_2 : wr.heap.size ≠ v1.heap.size := by omega
      clear z0 z1 z2 cw st1 RW hb1
      go_wp2_with fail
      go_ret
      exact ⟨by rw [Hno.out]; rfl, HBW.out.trans (B1.out.mono (by omega))⟩
    | true =>
      go_wp2_with fail
      go_at_call 72
      refine (hvok_any a b c _).mono ?_
      rw [hp]
      rintro e v1 ⟨rfl, hb1⟩
      have sz1 : wr.heap.size + 1 ≤ v1.heap.size := by have hh := hb1.size; simp at hh; omega
      have st1 : Below wr.heap.size wr v1 := Below.trans (by go_grown) (hb1.mono (by simp))
      have c1_0 : v1.cell? ⟨g, k * 3, none⟩ = some (.int .i64 a) := by rw [(bcell st1).1 _ _ (by omega)]; exact z0
      have c1_1 : v1.cell? ⟨g, k * 3 + 1, none⟩ = some (.int .i64 b) := by rw [(bcell st1).1 _ _ (by omega)]; exact z1
      have c1_2 : v1.cell? ⟨g, k * 3 + 2, none⟩ = some (.int .i64 c) := by rw [(bcell st1).1 _ _ (by omega)]; exact z2
      have c1_3 : v1.cell? ⟨w.heap.size, 0, none⟩ = some (.slice (some ⟨g, 0, none⟩) n cp) := by rw [(bcell st1).1 _ _ (by omega)]; exact cw
      have c1_4 : v1.cell? ⟨wr.heap.size, 0, none⟩ = some (.int .i64 a) := by rw [(bcell hb1).1 _ _ (by simp)]; first | (rw [new_at (by simp)]; rfl) | simp
      have c1_5 : v1.cell? ⟨wr.heap.size, 1, none⟩ = some (.int .i64 b) := by rw [(bcell hb1).1 _ _ (by simp)]; first | (rw [new_at (by simp)]; rfl) | simp
      have c1_6 : v1.cell? ⟨wr.heap.size, 2, none⟩ = some (.int .i64 c) := by rw [(bcell hb1).1 _ _ (by simp)]; first | (rw [new_at (by simp)]; rfl) | simp
      have B1 : Hid (Below wr.heap.size wr v1) := st1
      have R1_0 : Hid (Row 3 v1 (lo) (hi) (.slice (some ⟨g, 0, none⟩) n cp) n (flat L)) := RW.out.below st1 (by omega)
      have d1_1 : w.heap.size < v1.heap.size := by omega
      have e1_1 : w.heap.size ≠ v1.heap.size := by omega
      have d1_2 : wr.heap.size < v1.heap.size := by omega
      have e1_2 : wr.heap.size ≠ v1.heap.size := by omega
      clear z0 z1 z2 cw st1 RW hb1
      by_cases hs : skey L k
      case pos =>
        have hfd : Hid (fndI L a = (k : Int)) := (skey_fnd HL.out).2 hs
        have HF : Hid (∀ (j : Nat) (r : Hv), j < k + 1 → L[j]? = some r → hvB r.1 r.2.1 r.2.2 = true ∧ skey L j) := fun j r hj hr => by
          by_cases ej : j = k
          · subst ej; rw [HL.out] at hr; obtain rfl := Option.some.inj hr; exact ⟨hp, hs⟩
          · exact hF.out j r (by omega) hr
        have e9 : ((k : Int) != (k : Int)) = false := by simp
        clear hs hF
        go_wp2_with fail
        go_at_call 73
        refine (find_any lo hi n _ L a _ Hn.out R1_0.out (by omega)).mono ?_
        rw [hfd.out]
        rintro e v2 ⟨rfl, hb2⟩
        have sz2 : v1.heap.size ≤ v2.heap.size := hb2.size
        have st2 : Below v1.heap.size v1 v2 := hb2
        have c2_0 : v2.cell? ⟨g, k * 3, none⟩ = some (.int .i64 a) := by rw [(bcell st2).1 _ _ (by omega)]; exact c1_0
        have c2_1 : v2.cell? ⟨g, k * 3 + 1, none⟩ = some (.int .i64 b) := by rw [(bcell st2).1 _ _ (by omega)]; exact c1_1
        have c2_2 : v2.cell? ⟨g, k * 3 + 2, none⟩ = some (.int .i64 c) := by rw [(bcell st2).1 _ _ (by omega)]; exact c1_2
        have c2_3 : v2.cell? ⟨w.heap.size, 0, none⟩ = some (.slice (some ⟨g, 0, none⟩) n cp) := by rw [(bcell st2).1 _ _ (by omega)]; exact c1_3
        have c2_4 : v2.cell? ⟨wr.heap.size, 0, none⟩ = some (.int .i64 a) := by rw [(bcell st2).1 _ _ (by omega)]; exact c1_4
        have c2_5 : v2.cell? ⟨wr.heap.size, 1, none⟩ = some (.int .i64 b) := by rw [(bcell st2).1 _ _ (by omega)]; exact c1_5
        have c2_6 : v2.cell? ⟨wr.heap.size, 2, none⟩ = some (.int .i64 c) := by rw [(bcell st2).1 _ _ (by omega)]; exact c1_6
        have B2 : Hid (Below wr.heap.size wr v2) := B1.out.trans (st2.mono (by omega))
        have R2_0 : Hid (Row 3 v2 (lo) (hi) (.slice (some ⟨g, 0, none⟩) n cp) n (flat L)) := R1_0.out.below st2 (by omega)
        have d2_1 : w.heap.size < v2.heap.size := by omega
        have e2_1 : w.heap.size ≠ v2.heap.size := by omega
        have d2_2 : wr.heap.size < v2.heap.size := by omega
        have e2_2 : wr.heap.size ≠ v2.heap.size := by omega
        clear d1_1 e1_1 d1_2 e1_2 c1_0 c1_1 c1_2 c1_3 c1_4 c1_5 c1_6 B1 st2 R1_0 hb2
        have HB2 := Lib.hid (hB.out.trans (B2.out.mono (by omega)))
        go_wp2_with fail
        go_roundw
        case rel => exact ⟨k + 1, by omega, by go_num, HF, HB2⟩
        case measure => simp [intOf]; omega
      case neg =>
        have Hno : Hid (topB L = false) := topB_no fun t => hs (t.key k)
        obtain ⟨ix, hix⟩ : ∃ ix, ix = fndI L a := ⟨_, rfl⟩
        have hne : ¬ ix = (k : Int) := fun e => hs ((skey_fnd HL.out).1 (by rw [← e, hix]))
        have e9 : (ix != (k : Int)) = true := by simp [hne]
        have hin : -1 ≤ ix ∧ ix ≤ (n : Int) := by have := fndN_le L a; rw [Hn.out] at this; rw [hix]; unfold fndI; split <;> omega
        have HIX := Lib.hid hix
        clear hix hs hne
        go_wp2_with fail
        go_at_call 73
        refine (find_any lo hi n _ L a _ Hn.out R1_0.out (by omega)).mono ?_
        rw [← HIX.out]
        rintro e v2 ⟨rfl, hb2⟩
        have sz2 : v1.heap.size ≤ v2.heap.size := hb2.size
        have st2 : Below v1.heap.size v1 v2 := hb2
        have c2_0 : v2.cell? ⟨g, k * 3, none⟩ = some (.int .i64 a) := by rw [(bcell st2).1 _ _ (by omega)]; exact c1_0
        have c2_1 : v2.cell? ⟨g, k * 3 + 1, none⟩ = some (.int .i64 b) := by rw [(bcell st2).1 _ _ (by omega)]; exact c1_1
        have c2_2 : v2.cell? ⟨g, k * 3 + 2, none⟩ = some (.int .i64 c) := by rw [(bcell st2).1 _ _ (by omega)]; exact c1_2
        have c2_3 : v2.cell? ⟨w.heap.size, 0, none⟩ = some (.slice (some ⟨g, 0, none⟩) n cp) := by rw [(bcell st2).1 _ _ (by omega)]; exact c1_3
        have c2_4 : v2.cell? ⟨wr.heap.size, 0, none⟩ = some (.int .i64 a) := by rw [(bcell st2).1 _ _ (by omega)]; exact c1_4
        have c2_5 : v2.cell? ⟨wr.heap.size, 1, none⟩ = some (.int .i64 b) := by rw [(bcell st2).1 _ _ (by omega)]; exact c1_5
        have c2_6 : v2.cell? ⟨wr.heap.size, 2, none⟩ = some (.int .i64 c) := by rw [(bcell st2).1 _ _ (by omega)]; exact c1_6
        have B2 : Hid (Below wr.heap.size wr v2) := B1.out.trans (st2.mono (by omega))
        have R2_0 : Hid (Row 3 v2 (lo) (hi) (.slice (some ⟨g, 0, none⟩) n cp) n (flat L)) := R1_0.out.below st2 (by omega)
        have d2_1 : w.heap.size < v2.heap.size := by omega
        have e2_1 : w.heap.size ≠ v2.heap.size := by omega
        have d2_2 : wr.heap.size < v2.heap.size := by omega
        have e2_2 : wr.heap.size ≠ v2.heap.size := by omega
        clear d1_1 e1_1 d1_2 e1_2 c1_0 c1_1 c1_2 c1_3 c1_4 c1_5 c1_6 B1 st2 R1_0 hb2
        go_wp2_with fail
        go_ret
        exact ⟨by rw [Hno.out]; rfl, HBW.out.trans (B2.out.mono (by omega))⟩

end Go.Proofs.Ytophppnllkadoaa
