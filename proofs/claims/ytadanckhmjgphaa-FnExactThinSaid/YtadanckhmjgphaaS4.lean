/- The steps of a series, as the program makes them. -/
import Derived.Test.YtadanckhmjgphaaS3
import Derived.Test.YtadanckhmjgphaaS2
namespace Go.Proofs.Ytadanckhmjgphaa
open Go.RowKit


/-- What stands at the head of stepsOf's rounds. -/
def StRel (w wr : World) (v : Value) (L : List Sm) (q : Nat) : Prop := OwnR 86 7 w wr v q (stpK L (q + 1))
set_option maxRecDepth 100000 in
set_option maxHeartbeats 4000000 in
theorem steps_any (lo hi n : Nat) (v : Value) (L : List Sm) (w : World) (hL : L.length = n) (hr : Row 3 w lo hi v n (flat L)) (hh : hi ≤ w.heap.size) (hn1 : n ≤ 1000000) :
    Calls Try.prog 62 #[v] w fun e w' => ∃ rv, e = .returned rv ∧ Row 7 w' w.heap.size w'.heap.size rv (n - 1) (stpK L (n - 1 + 1)) ∧ Below w.heap.size w w' := by
  obtain ⟨ad, cp, rfl, hn, hop⟩ := hr.opened
  have Hn := Lib.hid hL
  have H := Lib.hid hop
  obtain ⟨iI, hi0, hz0, hz1, hz2⟩ := info_parts Try.info86s
  have I := Lib.hid (And.intro hi0 (And.intro hz0 (And.intro hz1 hz2)))
  clear hi0 hz0 hz1 hz2
  clear hL hr hop
  go_enter Try.func62, Try.ntmps62
  go_wp2
  go_loopw [3, 4] (fun v i wr => ∃ q : Nat, (q + 1 ≤ n ∨ q = 0) ∧ i = .int .i64 ((q : Int) + 1) ∧ Hid (StRel w wr v L q)) (fun _ i _ => n + 1 - (intOf i).toNat)
  case atStart => exact ⟨0, .inr rfl, rfl, OwnR.nil _ _ _⟩
  case round =>
    obtain ⟨q, hq, rfl, hR⟩ := hrel
    have hB := hR.out.below
    have hsz := hB.size
    obtain ⟨oa, oc, hov⟩ := own_slice hR.out.row
    subst hov
    have hl7 := stpK_len L q
    by_cases hlt : q + 1 < n
    case neg =>
      have hge : ¬ ((q : Int) + 1 < (n : Int)) := by omega
      obtain rfl : q = n - 1 := by omega
      clear hB hl7
      go_wp2
      go_ret
      exact ⟨_, rfl, hR.out.toRow (by omega), hR.out.below⟩
    case pos =>
    obtain ⟨g, rfl, hg, hz⟩ := H.out (by omega)
    clear H
    obtain ⟨a0, b0, c0, hr0⟩ := at_of_lt (L := L) (i := q) (by rw [Hn.out]; omega)
    obtain ⟨r0, r1, r2⟩ := flat_at L (q) _ hr0
    have H0 : Hid (L[q]? = some (a0, b0, c0)) := hr0
    have z00 : wr.cell? ⟨g, (q) * 3, none⟩ = some (.int .i64 a0) := by rw [hB.cell (p := ⟨g, (q) * 3, none⟩) (by show g < _; omega)]; exact hz _ _ r0
    have z01 : wr.cell? ⟨g, (q) * 3 + 1, none⟩ = some (.int .i64 b0) := by rw [hB.cell (p := ⟨g, (q) * 3 + 1, none⟩) (by show g < _; omega)]; exact hz _ _ r1
    have z02 : wr.cell? ⟨g, (q) * 3 + 2, none⟩ = some (.int .i64 c0) := by rw [hB.cell (p := ⟨g, (q) * 3 + 2, none⟩) (by show g < _; omega)]; exact hz _ _ r2
    clear r0 r1 r2 hr0
    obtain ⟨a1, b1, c1, hr1⟩ := at_of_lt (L := L) (i := q + 1) (by rw [Hn.out]; omega)
    obtain ⟨r0, r1, r2⟩ := flat_at L (q + 1) _ hr1
    have H1 : Hid (L[q + 1]? = some (a1, b1, c1)) := hr1
    have z10 : wr.cell? ⟨g, (q + 1) * 3, none⟩ = some (.int .i64 a1) := by rw [hB.cell (p := ⟨g, (q + 1) * 3, none⟩) (by show g < _; omega)]; exact hz _ _ r0
    have z11 : wr.cell? ⟨g, (q + 1) * 3 + 1, none⟩ = some (.int .i64 b1) := by rw [hB.cell (p := ⟨g, (q + 1) * 3 + 1, none⟩) (by show g < _; omega)]; exact hz _ _ r1
    have z12 : wr.cell? ⟨g, (q + 1) * 3 + 2, none⟩ = some (.int .i64 c1) := by rw [hB.cell (p := ⟨g, (q + 1) * 3 + 2, none⟩) (by show g < _; omega)]; exact hz _ _ r2
    clear r0 r1 r2 hr1
    have hN : Hid (stpK L (q + 2) = stpK L (q + 1) ++ [a0, b0, c0, a1, b1, c1, (q : Int) + 1]) := stpK_next H0.out H1.out
    obtain ⟨Y, hY⟩ : ∃ Y, Y = stpK L (q + 1) := ⟨_, rfl⟩
    unfold StRel at hR
    rw [← hY] at hR hN hl7
    have HY := Lib.hid hY
    have p0 : (0 : Int) ≤ (q : Int) := by omega
    have p1 : (q : Int) + 1 < (n : Int) := by omega
    have p2 : (q : Int) < (n : Int) := by omega
    have p4 : (0 : Int) ≤ (q : Int) + 1 := by omega
    have p5 : ((q : Int) + 1).toNat = q + 1 := by omega
    have p3 : (n : Int) ≤ 1000000 := by omega
    have e1 : IntKind.i64.wrap ((q : Int) + 1 - 1) = (q : Int) := by rw [IntWalk.i64_in _ (by omega)]; omega
    have e2 : IntKind.i64.wrap (q : Int) = (q : Int) := IntWalk.i64_in _ (by omega)
    have Hw := Lib.hid hR.out.row
    have hgw : g < wr.heap.size := by omega
    clear hY hB hz
    go_wp2_with fail
    have H7 := Lib.hid hl7
    clear hl7
    go_region_law ((refine step_append_lies _ rfl _ _ 94 rfl w.heap.size 86 iI (.agg #[.int .i64 0, .int .i64 0, .int .i64 0, .int .i64 0, .int .i64 0, .int .i64 0, .int .i64 0]) 7 56 Try.underlying94 I.out.1 I.out.2.1 I.out.2.2.1 I.out.2.2.2 rfl (by decide) _ q (ints Y) rfl (Hw.out.drew.alloc _) ⟨wr.heap.size, 0, none⟩ 1 1 (ints [a0, b0, c0, a1, b1, c1, (q : Int) + 1]) rfl rfl (fun j u hj => cells_new wr.drew [a0, b0, c0, a1, b1, c1, (q : Int) + 1] 86 rfl j u hj) (ints_one _) (by decide) (by unfold maxLen; omega) (by omega) (by simp; omega) _ rfl ?_; intro g4 cap4 w4 hown4 hgrow4 hat4 hlt4))
    all_goals
      have HF : Hid (StRel w w4 (.slice (some ⟨g4, 0, none⟩) (q + 1) cap4) L (q + 1)) := by
        show OwnR _ _ _ _ _ _ _
        rw [show q + 1 + 1 = q + 2 from rfl, hN.out]
        exact (hR.out.grow ((Below.refl _ _).drew.alloc (Nat.le_refl _) _)).app hgrow4 hown4
      clear hown4 hgrow4 hat4 hlt4 hR Hw hN
      go_wp2_with fail
      go_roundw
      case rel => exact ⟨q + 1, .inl (by omega), by go_num, HF⟩
      case measure => simp [intOf]; omega

end Go.Proofs.Ytadanckhmjgphaa
