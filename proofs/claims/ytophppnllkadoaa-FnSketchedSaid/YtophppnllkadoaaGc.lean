/- A list of additions, copied by the law, with its capacity. -/
import Derived.Test.YtophppnllkadoaaL0
namespace Go.Proofs.Ytophppnllkadoaa
open Go.RowKit

/-- A slice with room for its elements. -/
def capOk (v : Value) (n : Nat) : Prop := ∃ a c, v = .slice a n c ∧ n ≤ c
set_option maxHeartbeats 2000000 in
theorem toAddSC_any (v : Value) (n : Nat) (Z : Nat → Int) (w : World) (hA : Arg 2 w v n Z) (hn : n ≤ 1048576) :
    Calls Try.prog 49 #[v] w fun e w' => ∃ rv, e = .returned rv ∧ Row 2 w' w.heap.size w'.heap.size rv n ((List.range (n * 2)).map Z) ∧ capOk rv n ∧ Below w.heap.size w w' := by
  obtain ⟨hI, _, hA⟩ := hA
  obtain ⟨i39, hi, hz0, hz1, hz2⟩ := info_parts Try.info33
  obtain ⟨a, c, rfl, hcell⟩ : ∃ a c, v = .slice a n c ∧ ∀ q, q < n * 2 → ∃ b off, a = some ⟨b, off, none⟩ ∧ b < w.heap.size ∧ ∀ q, q < n * 2 → w.cell? ⟨b, off + q, none⟩ = some (.int .i64 (Z q)) := by
    rcases hA with ⟨rfl, a, c, rfl⟩ | ⟨b, off, cap, rfl, hb, hc⟩
    · exact ⟨a, c, rfl, fun q hq => by omega⟩
    · exact ⟨_, cap, rfl, fun q hq => ⟨b, off, rfl, hb, hc⟩⟩
  have HI := Lib.hid hI
  have HC := Lib.hid hcell
  clear hI hcell hA
  go_enter Try.func49, Try.ntmps49
  go_wp2_with (at_make; refine wpList_make_full _ rfl _ _ 24 rfl w.heap.size 33 i39 (.agg #[.int .i64 0, .int .i64 0]) 2 Try.underlying24 hi hz0 hz1 .i64 .i64 _ _ n rfl rfl rfl rfl ?b2 ?b3 ?b4 ?_)
  case b2 => rw [hz2]; omega
  case b3 => unfold maxLen; omega
  case b4 => exact Nat.le_refl _
  intro w1 hown hgr
  have HF := Lib.hid (Fill.start (F := Z) hown hgr)
  clear hi hz0 hz1 hz2 hown hgr
  go_wp2
  go_loopw [4] (fun i wr => ∃ j : Nat, j ≤ n ∧ i = .int .i64 (j : Int) ∧ Hid (Fill w wr w.heap.size (n * 2) (j * 2) Z)) (fun i _ => n - (intOf i).toNat)
  case atStart => exact ⟨0, Nat.zero_le _, rfl, by rw [Nat.zero_mul]; exact HF⟩
  case round =>
    obtain ⟨j, hj, rfl, hF⟩ := hrel
    by_cases hlt : j < n
    · have hjk : j * 2 + 2 ≤ n * 2 := by have := Nat.mul_le_mul_right 2 (show j + 1 ≤ n by omega); omega
      obtain ⟨b, off, rfl, hb, hc⟩ := HC.out (j * 2) (by omega)
      have c0 := hc (j * 2) (by omega)
      have d0 : wr.cell? ⟨b, off + j * 2, none⟩ = some (.int .i64 (Z (j * 2))) := by first | (rw [hF.out.1.cell (p := ⟨b, off + (j * 2), none⟩) hb] ; exact c0) | (rw [show off + j * 2 = off + (j * 2) by omega, hF.out.1.cell (p := ⟨b, off + (j * 2), none⟩) hb]; exact c0)
      clear c0
      have c1 := hc (j * 2 + 1) (by omega)
      have d1 : wr.cell? ⟨b, off + j * 2 + 1, none⟩ = some (.int .i64 (Z (j * 2 + 1))) := by first | (rw [hF.out.1.cell (p := ⟨b, off + (j * 2 + 1), none⟩) hb] ; exact c1) | (rw [show off + j * 2 + 1 = off + (j * 2 + 1) by omega, hF.out.1.cell (p := ⟨b, off + (j * 2 + 1), none⟩) hb]; exact c1)
      clear c1
      clear hc
      have q0 : (0 : Int) ≤ (j : Int) := by omega
      have q1 : (j : Int) < (n : Int) := by omega
      go_wp2_with fail
      go_at_call 82
      refine (toAdd_any (Z (j * 2)) (Z (j * 2 + 1)) wr).mono ?_
      rintro e w2 ⟨rfl, hb2⟩
      have hF2 := hF.out.below hb2
      obtain ⟨u0, e0⟩ := hF2.2.2.2.2.2 (j * 2) (by omega)
      have f0 := hF2.2.2.2.1 (j * 2)
      obtain ⟨u1, e1⟩ := hF2.2.2.2.2.2 (j * 2 + 1) (by omega)
      have f1 := hF2.2.2.2.1 (j * 2 + 1)
      have hS1 := (hF2).one (u := Z (j * 2)) (by omega) rfl
      have hS2 := (hS1).one (u := Z (j * 2 + 1)) (by omega) rfl
      have HS := Lib.hid hS2
      clear hF2 hS1 hS2 hb2 hF d0 d1
      go_wp2
      go_roundw
      case rel => exact ⟨j + 1, by omega, by go_num, by have hh := HS.out; rw [show (j + 1) * 2 = j * 2 + 2 by omega]; exact hh⟩
      case measure => simp [intOf]; omega
    · have hge : ¬ ((j : Int) < (n : Int)) := by omega
      obtain rfl : j = n := by omega
      go_wp2
      go_ret
      exact ⟨_, rfl, hF.out.row (by omega), ⟨_, _, rfl, Nat.le_refl _⟩, hF.out.1⟩

end Go.Proofs.Ytophppnllkadoaa
