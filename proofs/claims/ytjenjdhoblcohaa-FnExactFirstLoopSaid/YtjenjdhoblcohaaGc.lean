/- A list of numbers, copied by the law, with its capacity. -/
import Derived.Test.YtjenjdhoblcohaaGm
namespace Go.Proofs.Ytjenjdhoblcohaa
open Go.RowKit

/-- A slice with room for its elements. -/
def capOk (v : Value) (n : Nat) : Prop := ∃ a c, v = .slice a n c ∧ n ≤ c
set_option maxHeartbeats 2000000 in
theorem toIntSC_any (v : Value) (n : Nat) (Z : Nat → Int) (w : World) (hA : Arg 1 w v n Z) (hn : n ≤ 1048576) :
    Calls Try.prog 17 #[v] w fun e w' => ∃ rv, e = .returned rv ∧ Row 1 w' w.heap.size w'.heap.size rv n ((List.range (n * 1)).map Z) ∧ capOk rv n ∧ Below w.heap.size w w' := by
  obtain ⟨hI, _, hA⟩ := hA
  obtain ⟨i39, hi, hz0, hz1, hz2⟩ := info_parts Try.info3
  obtain ⟨a, c, rfl, hcell⟩ : ∃ a c, v = .slice a n c ∧ ∀ q, q < n * 1 → ∃ b off, a = some ⟨b, off, none⟩ ∧ b < w.heap.size ∧ ∀ q, q < n * 1 → w.cell? ⟨b, off + q, none⟩ = some (.int .i64 (Z q)) := by
    rcases hA with ⟨rfl, a, c, rfl⟩ | ⟨b, off, cap, rfl, hb, hc⟩
    · exact ⟨a, c, rfl, fun q hq => by omega⟩
    · exact ⟨_, cap, rfl, fun q hq => ⟨b, off, rfl, hb, hc⟩⟩
  have HC := Lib.hid hcell
  clear hI hcell hA
  go_enter Try.func17, Try.ntmps17
  go_wp2_with (at_make; refine wpList_make_full _ rfl _ _ 33 rfl w.heap.size 3 i39 (.int .i64 0) 1 Try.underlying33 hi hz0 hz1 .i64 .i64 _ _ n rfl rfl rfl rfl ?b2 ?b3 ?b4 ?_)
  case b2 => rw [hz2]; omega
  case b3 => unfold maxLen; omega
  case b4 => exact Nat.le_refl _
  intro w1 hown hgr
  have HF := Lib.hid (Fill.start (F := Z) hown hgr)
  clear hi hz0 hz1 hz2 hown hgr
  go_wp2
  go_loopw [4] (fun i wr => ∃ j : Nat, j ≤ n ∧ i = .int .i64 (j : Int) ∧ Hid (Fill w wr w.heap.size (n * 1) j Z)) (fun i _ => n - (intOf i).toNat)
  case atStart => exact ⟨0, Nat.zero_le _, rfl, HF⟩
  case round =>
    obtain ⟨j, hj, rfl, hF⟩ := hrel
    by_cases hlt : j < n
    · obtain ⟨b, off, rfl, hb, hc⟩ := HC.out j (by omega)
      have c0 := hc j (by omega)
      have d0 : wr.cell? ⟨b, off + j, none⟩ = some (.int .i64 (Z j)) := by rw [hF.out.1.cell (p := ⟨b, off + j, none⟩) hb]; exact c0
      obtain ⟨u0, e0⟩ := hF.out.2.2.2.2.2 j (by omega)
      have f0 := hF.out.2.2.2.1 j
      have HS := Lib.hid (hF.out.one (u := Z j) (by omega) rfl)
      clear hc c0 hF
      have q0 : (0 : Int) ≤ (j : Int) := by omega
      have q1 : (j : Int) < (n : Int) := by omega
      go_wp2
      go_roundw
      case rel => exact ⟨j + 1, by omega, by go_num, HS⟩
      case measure => simp [intOf]; omega
    · have hge : ¬ ((j : Int) < (n : Int)) := by omega
      obtain rfl : j = n := by omega
      have HF2 : ∀ cap, Hid (Row 1 wr w.heap.size wr.heap.size (.slice (some ⟨w.heap.size, 0, none⟩) j cap) j ((List.range j).map Z)) := fun cap => by
        have h2 : Fill w wr w.heap.size (j * 1) (j * 1) Z := by rw [Nat.mul_one]; have := hF.out; rwa [Nat.mul_one] at this
        have := h2.row (cap := cap) (by omega)
        rw [Nat.mul_one] at this
        exact this
      have HB2 : Hid (Below w.heap.size w wr) := hF.out.1
      clear hF
      go_wp2
      go_ret
      exact ⟨_, rfl, (HF2 _).out, ⟨_, _, rfl, Nat.le_refl _⟩, HB2.out⟩

end Go.Proofs.Ytjenjdhoblcohaa
