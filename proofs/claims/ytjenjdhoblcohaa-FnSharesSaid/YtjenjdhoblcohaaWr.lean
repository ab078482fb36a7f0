/- slices.Repeat of one number. -/
import Derived.Test.YtjenjdhoblcohaaOi
import Derived.Laws.CopyOwn
namespace Go.Proofs.Ytjenjdhoblcohaa
open Go.RowKit


set_option maxRecDepth 100000 in
set_option maxHeartbeats 4000000 in
theorem mul64_one (M : Nat) (w : World) (h1 : 1 ≤ M) (h2 : M ≤ 10) : Calls Try.prog 132 #[.int .u64 1, .int .u64 (M : Int)] w fun e w' => e = .returned (.tuple #[.int .u64 0, .int .u64 (M : Int)]) ∧ w = w' := by
  have : M = 1 ∨ M = 2 ∨ M = 3 ∨ M = 4 ∨ M = 5 ∨ M = 6 ∨ M = 7 ∨ M = 8 ∨ M = 9 ∨ M = 10 := by omega
  rcases this with rfl | rfl | rfl | rfl | rfl | rfl | rfl | rfl | rfl | rfl
  all_goals
    go_enter Try.func132, Try.ntmps132
    go_wp2
    exact bodyPost_ret (v := .tuple #[.int .u64 0, .int .u64 _]) (by simp [results, Try.results132, go_sem]; rfl) rfl ⟨rfl, rfl⟩
set_option maxRecDepth 100000 in
set_option maxHeartbeats 4000000 in
theorem mul_one' (M : Nat) (w : World) (h1 : 1 ≤ M) (h2 : M ≤ 10) : Calls Try.prog 118 #[.int .u64 1, .int .u64 (M : Int)] w fun e w' => e = .returned (.tuple #[.int .u64 0, .int .u64 (M : Int)]) ∧ w = w' := by
  go_enter Try.func118, Try.ntmps118
  go_wp2_with fail
  go_at_call 132
  refine (mul64_one M _ h1 h2).mono ?_
  rintro e w' ⟨rfl, rfl⟩
  go_wp2_with fail
  exact bodyPost_ret (v := .tuple #[.int .u64 0, .int .u64 (M : Int)]) (by simp [results, Try.results118, go_sem]) rfl ⟨rfl, rfl⟩

/-- A row of which the first k are z. -/
def FillK (M : Nat) (z : Int) (k : Nat) (Z : List Int) : Prop := Z.length = M ∧ ∀ i, i < k → Z[i]? = some z
theorem FillK.step {M k m : Nat} {z : Int} {Z : List Int} (h : FillK M z k Z) (hm : k + m ≤ M) : ∃ Z', FillK M z (k + m) Z' ∧ splice (ints Z) k (ints (List.replicate m z)) = ints Z' := by
  refine ⟨Z.take k ++ (List.replicate m z ++ Z.drop (k + m)), ⟨?_, fun i hi => ?_⟩, ?_⟩
  · have := h.1; simp; omega
  · by_cases h1 : i < k
    · rw [List.getElem?_append_left (by rw [List.length_take, h.1]; omega), List.getElem?_take, if_pos h1]; exact h.2 i h1
    · rw [List.getElem?_append_right (by rw [List.length_take, h.1]; omega), List.length_take, h.1, Nat.min_eq_left (by omega), List.getElem?_append_left (by simp; omega), List.getElem?_replicate, if_pos (by omega)]
  · unfold splice ints; simp [List.map_take, List.map_drop]
theorem own_heap {w : World} {b g n : Nat} {e : TypeId} {xs : List Value} (h : w.ownsRow b e 1 (.slice (some ⟨g, 0, none⟩) n n) n xs) : w.heap[g]? = some (.cells xs.toArray e (0, 0)) := by
  rcases h.2 with ⟨h', _⟩ | ⟨g', cap', cur, h', hb, hg, hnc, hcm, hcs, htake⟩
  · simp at h'
  · simp only [Value.slice.injEq, Option.some.injEq, Addr.mk.injEq, and_true, true_and] at h'
    obtain ⟨rfl, rfl⟩ := h'
    rw [hg, ← htake, List.take_of_length_le (by rw [Array.length_toList, hcs]; exact Nat.le_refl _)]
theorem heap_own {w : World} {b g n : Nat} {e : TypeId} {xs : List Value} (h : w.heap[g]? = some (.cells xs.toArray e (0, 0))) (hb : b ≤ g) (hn : n ≤ 1000) (hl : xs.length = n) : w.ownsRow b e 1 (.slice (some ⟨g, 0, none⟩) n n) n xs :=
  ⟨by rw [hl, Nat.mul_one], .inr ⟨g, n, xs.toArray, rfl, hb, h, Nat.le_refl _, by unfold maxLen; omega, by simp [hl], by rw [Nat.mul_one, ← hl]; exact List.take_length⟩⟩
theorem keepT {p : Prop} (h : p ∧ True) : p := h.1
/-- What holds of Repeat's row. -/
def RepR (w wr : World) (M : Nat) (z : Int) (k : Nat) : Prop := Below w.heap.size w wr ∧ w.heap.size < wr.heap.size ∧ ∃ Z, FillK M z k Z ∧ wr.heap[w.heap.size]? = some (.cells (ints Z).toArray 3 (0, 0))
set_option maxRecDepth 100000 in
set_option maxHeartbeats 1000000 in
theorem repeat_any (M g0 cap0 : Nat) (z : Int) (w : World) (h1 : 1 ≤ M) (h2 : M ≤ 10) (hz : w.cell? ⟨g0, 0, none⟩ = some (.int .i64 z)) (hg : g0 < w.heap.size) :
    Calls Try.prog 109 #[.slice (some ⟨g0, 0, none⟩) 1 cap0, .int .i64 (M : Int)] w fun e w' => ∃ g, e = .returned (.slice (some ⟨g, 0, none⟩) M M) ∧ OwnI w w' (.slice (some ⟨g, 0, none⟩) M M) M (tabI M fun _ => z) := by
  obtain ⟨i3, hi, hz0, hz1, hz2⟩ := info_parts Try.info3
  have I := Lib.hid (And.intro hi (And.intro hz0 (And.intro hz1 hz2)))
  have hsz : Hid ((Try.prog.info? 3).map (·.size) = some 1) := by show _ = _; rw [hi]; simp [hz1]
  have q0 : ¬ (M : Int) < 0 := by omega
  have q1 : (0 : Int) ≤ (M : Int) := by omega
  have q2 : ¬ (9223372036854775807 : Int) < (M : Int) := by omega
  have e1 : IntKind.u64.wrap (M : Int) = (M : Int) := by unfold IntKind.wrap; simp [IntKind.bits, IntKind.signed]; omega
  go_enter Try.func109, Try.ntmps109
  go_wp2_with fail
  go_at_call 118
  refine (mul_one' M _ h1 h2).mono ?_
  rintro e w' ⟨rfl, rfl⟩
  go_wp2_with (at_make; refine wpList_make_full _ rfl _ _ 33 rfl w.heap.size 3 i3 (.int .i64 0) 1 Try.underlying33 hi hz0 hz1 .i64 .i64 _ _ M rfl rfl rfl rfl ?b2 ?b3 ?b4 ?_)
  case b2 => rw [hz2]; omega
  case b3 => unfold maxLen; omega
  case b4 => exact Nat.le_refl _
  intro w1 hown hgr
  have hlt := (hown.lt _ rfl).2
  have hb1 : Below w.heap.size w w1 := ⟨hgr.os, hgr.tape, hgr.output, hgr.size, fun k hk => hgr.block k hk (by simp)⟩
  have hh := own_heap hown
  have hl0 := hown.1
  simp only [Nat.mul_one] at hh hl0
  obtain ⟨Z0, hZ0⟩ : ∃ Z0 : List Int, (madeCells #[Value.int .i64 0] M).toList = ints Z0 := ⟨List.replicate M 0, by simp [ints, toList_madeCells_one]⟩
  rw [hZ0] at hh hl0
  have hZl : Z0.length = M := by simpa [ints] using hl0
  have c0 : w1.cell? ⟨g0, 0, none⟩ = some (.int .i64 z) := by rw [hb1.cell (p := ⟨g0, 0, none⟩) hg]; exact hz
  have HH := Lib.hid hh
  have HB1 := Lib.hid hb1
  obtain ⟨Z1, hZ1, hs1⟩ := FillK.step (M := M) (k := 0) (m := 1) (z := z) (Z := Z0) ⟨hZl, fun i hi => absurd hi (Nat.not_lt_zero _)⟩ (by omega)
  have HZ := Lib.hid (And.intro hZ1 hs1)
  have HZl := Lib.hid hZl
  have Hsrc : Hid (∀ j v, [Value.int .i64 z][j]? = some v → w1.cell? ((⟨g0, 0, none⟩ : Addr).add j) = some v) := fun j v hv => by
    rcases j with _ | j
    · simp at hv; subst hv; simpa [Addr.add] using c0
    · simp at hv
  have Hfit : Hid (0 + [Value.int .i64 z].length ≤ (ints Z0).length) := by show 0 + 1 ≤ _; rw [ints, List.length_map, hZl]; omega
  clear hi hz0 hz1 hz2 hown hgr hb1 hh hl0 hZ0 hz hZ1 hs1 hZl
  go_wp2_with (refine wpList_copy_splice rfl _ _ 33 33 rfl 3 Try.underlying33 hsz.out _ _ M M 1 cap0 rfl rfl w.heap.size 0 (ints Z0) 3 HH.out [.int .i64 z] (by show 1 = Nat.min 1 M; exact (Nat.min_eq_left h1).symm) (fun _ => ⟨rfl, _, rfl, Hsrc.out⟩) Hfit.out (int_one z) w.heap.size w HB1.out (Nat.le_refl _) ?_)
  intro w2 HG2 hB2
  have HR0 : Hid (RepR w w2 M z 1) := ⟨hB2, (Array.getElem?_eq_some_iff.1 HG2.out).1, Z1, HZ.out.1, by rw [HG2.out]; have e := HZ.out.2; simp only [ints, List.replicate_one, List.map_cons, List.map_nil] at e ⊢; rw [e]⟩
  clear HG2 hB2 HH HB1 c0 hlt Hsrc Hfit HZ HZl
  go_wp2_with fail
  go_loopw [8] (fun i wr => ∃ k : Nat, 1 ≤ k ∧ k ≤ M ∧ i = .int .i64 (k : Int) ∧ Hid (RepR w wr M z k)) (fun i _ => M - (intOf i).toNat)
  case atStart => exact ⟨1, Nat.le_refl _, h1, rfl, HR0⟩
  case round =>
    obtain ⟨k, hk1, hk, rfl, hR⟩ := hrel
    by_cases hlt : k < M
    · obtain ⟨Z, hZ, hh⟩ := hR.out.2.2
      have hB := Lib.hid hR.out.1
      obtain ⟨m, hm⟩ : ∃ m, m = Nat.min k (M - k) := ⟨_, rfl⟩
      have hm1 : m ≤ M - k := by rw [hm]; exact Nat.min_le_right _ _
      have hm2 : m ≤ k := by rw [hm]; exact Nat.min_le_left _ _
      have hm3 : 1 ≤ m := by rw [hm]; exact Nat.le_min.2 ⟨hk1, by omega⟩
      obtain ⟨Z2, hZ2, hs2⟩ := hZ.step (m := m) (by omega)
      have HH := Lib.hid hh
      have Hsrc : Hid (∀ j v, (ints (List.replicate m z))[j]? = some v → wr.cell? ((⟨w.heap.size, 0, none⟩ : Addr).add j) = some v) := fun j v hv => by
        have hj : j < m := by
          by_cases h : j < m
          · exact h
          · rw [List.getElem?_eq_none (by simp [ints]; omega)] at hv; cases hv
        have h1 : v = .int .i64 z := by simp [ints, hj] at hv; exact hv.symm
        have h2 := ints_at' (hZ.2 j (by omega))
        rw [h1, add_none, cell_of_row wr _ j _ _ _ HH.out]
        simpa using h2
      have Hlen : Hid ((ints (List.replicate m z)).length = m) := by show _ = _; simp [ints]
      have Hfit : Hid (k + (ints (List.replicate m z)).length ≤ (ints Z).length) := by show _ ≤ _; rw [Hlen.out, ints, List.length_map, hZ.1]; omega
      have Hone : Hid (∀ v ∈ ints (List.replicate m z), v.oneCell' = true) := fun v hv => by
        obtain ⟨x, _, rfl⟩ := List.mem_map.1 hv
        rfl
      have Hm := Lib.hid hm
      obtain ⟨cs, hcs⟩ : ∃ cs, cs = ints (List.replicate m z) := ⟨_, rfl⟩
      rw [← hcs] at Hsrc Hlen Hfit Hone hs2
      have hcl : cs.length = m := Hlen.out
      have e2 : IntKind.i64.wrap ((k : Int) + (m : Int)) = (k : Int) + (m : Int) := IntWalk.i64_in _ (by omega)
      have HZ := Lib.hid (And.intro hZ2 hs2)
      have p0 : (0 : Int) ≤ (k : Int) := by omega
      have p1 : (k : Int) ≤ (M : Int) := by omega
      have p2 : (k : Int) < (M : Int) := by omega
      have p3 : ¬ (M = k) := by omega
      clear hR hZ hh hm hZ2 hs2 hcs
      go_wp2_with fail
      go_region_law (first | (refine step_copy_splice rfl (.tmp 41) (.tmp 44) 33 33 rfl 3 Try.underlying33 hsz.out (some ⟨w.heap.size, k, none⟩) (some ⟨w.heap.size, 0, none⟩) (M - k) (M - k) k M (by simp [go_sem]) (by simp [go_sem]) w.heap.size k (ints Z) 3 HH.out cs (by rw [Hlen.out]; exact Hm.out) (fun _ => ⟨rfl, _, rfl, Hsrc.out⟩) Hfit.out Hone.out w.heap.size w hB.out.drew (Nat.le_refl _) ?_; intro w4 hg4 hb4))
      have HE : Hid (RepR w w4 M z (k + m)) := ⟨hb4, (Array.getElem?_eq_some_iff.1 hg4.out).1, Z2, HZ.out.1, by rw [hg4.out, HZ.out.2]⟩
      have hcg : goInt cs.length = .int .i64 (m : Int) := by rw [hcl]; rfl
      clear hg4 hb4
      go_simp
      go_roundw
      case rel => exact ⟨_, _, _, _, _, _, _, _, _, _, _, _, _, _, ⟨k + m, by omega, by omega, (by rw [Int.natCast_add]), HE⟩, rfl⟩
      case measure => simp [intOf]; omega
    · obtain rfl : M = k := by omega
      have hge : ¬ ((M : Int) < (M : Int)) := by omega
      go_wp2_with fail
      refine bodyPost_ret (v := .slice (some ⟨w.heap.size, 0, none⟩) M M) (by simp [results, Try.results109, go_sem]) rfl ⟨_, rfl, ?_⟩
      obtain ⟨Z, hZ, hh⟩ := hR.out.2.2
      have e : Z = tabI M fun _ => z := by
        apply List.ext_getElem?
        intro i
        by_cases hi : i < M
        · rw [hZ.2 i hi, tabI_at _ hi]
        · rw [List.getElem?_eq_none (by rw [hZ.1]; omega), List.getElem?_eq_none (by rw [tabI_len]; omega)]
      rw [← e]
      exact ⟨hR.out.1, heap_own hh (Nat.le_refl _) (by omega) (by simp [ints, hZ.1])⟩

end Go.Proofs.Ytjenjdhoblcohaa
