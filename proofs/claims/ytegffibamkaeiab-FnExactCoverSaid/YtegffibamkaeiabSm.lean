/- The laws' mark and held over slices of prefixes. -/
import Derived.Test.YtegffibamkaeiabSl
namespace Go.Proofs.Ytegffibamkaeiab
open Go.RowKit

/-- Of w nothing but block g has turned, and nothing is new. -/
def Only (g : Nat) (w wr : World) : Prop := wr.os = w.os ∧ wr.tape = w.tape ∧ wr.output = w.output ∧ wr.heap.size = w.heap.size ∧ ∀ b, b ≠ g → wr.heap[b]? = w.heap[b]?
theorem Only.refl (g : Nat) (w : World) : Only g w w := ⟨rfl, rfl, rfl, rfl, fun _ _ => rfl⟩
theorem Only.setCell {g : Nat} {w wr : World} (h : Only g w wr) (o : Nat) (u : Value) : Only g w (wr.setCell ⟨g, o, none⟩ u) :=
  ⟨h.1, h.2.1, h.2.2.1, by rw [← h.2.2.2.1]; simp [World.setCell], fun b hb => by rw [Below.heap_setCell _ _ _ _ hb]; exact h.2.2.2.2 b hb⟩
theorem Only.below {g : Nat} {w wr : World} (h : Only g w wr) {B : Nat} (hB : B ≤ g) : Below B w wr :=
  ⟨h.1, h.2.1, h.2.2.1, by rw [h.2.2.2.1]; exact Nat.le_refl _, fun k hk => h.2.2.2.2 k (by omega)⟩
theorem Row.only {w wr : World} {g lo hi : Nat} {v : Value} {L : List (Int × Int)} (h : Row w lo hi v L) (ho : Only g w wr) (hg : hi ≤ g ∨ g < lo) : Row wr lo hi v L := by
  rcases h with h | ⟨b, cap, rfl, h1, h2, h3, h4, h5⟩
  · exact .inl h
  · have hb := ho.2.2.2.2 b (by omega)
    refine .inr ⟨b, cap, rfl, h1, h2, h3, fun i p hp => ?_, fun o => ?_⟩
    · rw [World.cell?_of_block (w := w) (a := ⟨b, i * 2, none⟩) hb, World.cell?_of_block (w := w) (a := ⟨b, i * 2 + 1, none⟩) hb]; exact h4 i p hp
    · rw [World.frozen?_of_block (w := w) (a := ⟨b, o, none⟩) hb]; exact h5 o

/-- The marks that mark leaves from k on in n prefixes. -/
def marks (k : Int) (n : Nat) : List (Int × Int) := (List.range n).map fun (j : Nat) => (k + 2 * (j : Int), k + 2 * (j : Int) + 1)

def Marked (w wr : World) (g : Nat) (L : List (Int × Int)) (k : Int) (i : Nat) : Prop :=
  Only g w wr ∧ (∀ o, wr.frozen? ⟨g, o, none⟩ = false) ∧
  (∀ j, j < i → wr.cell? ⟨g, j * 2, none⟩ = some (.int .i64 (k + 2 * (j : Int))) ∧ wr.cell? ⟨g, j * 2 + 1, none⟩ = some (.int .i64 (k + 2 * (j : Int) + 1))) ∧
  (∀ j p, i ≤ j → L[j]? = some p → wr.cell? ⟨g, j * 2, none⟩ = some (.int .i64 p.1) ∧ wr.cell? ⟨g, j * 2 + 1, none⟩ = some (.int .i64 p.2))

theorem Marked.step {w wr : World} {g : Nat} {L : List (Int × Int)} {k : Int} {i : Nat} {p : Int × Int} (h : Marked w wr g L k i) (hp : L[i]? = some p) :
    Marked w ((wr.setCell ⟨g, i * 2, none⟩ (.int .i64 (k + 2 * (i : Int)))).setCell ⟨g, i * 2 + 1, none⟩ (.int .i64 (k + 2 * (i : Int) + 1))) g L k (i + 1) := by
  obtain ⟨h1, h2, h3, h4⟩ := h
  obtain ⟨c0, c1⟩ := h4 i p (Nat.le_refl _) hp
  refine ⟨(h1.setCell _ _).setCell _ _, fun o => by simp [h2], fun j hj => ?_, fun j q hj hq => ?_⟩
  · have far : ∀ a, a ≠ i * 2 → a ≠ i * 2 + 1 → ((wr.setCell ⟨g, i * 2, none⟩ (.int .i64 (k + 2 * (i : Int)))).setCell ⟨g, i * 2 + 1, none⟩ (.int .i64 (k + 2 * (i : Int) + 1))).cell? ⟨g, a, none⟩ = wr.cell? ⟨g, a, none⟩ := fun a ha hb => by
      rw [World.cell?_setCell_other _ _ _ _ (by simp <;> omega), World.cell?_setCell_other _ _ _ _ (by simp <;> omega)]
    by_cases e : j = i
    · subst e
      constructor
      · rw [World.cell?_setCell_other _ _ _ _ (by simp)]
        exact World.cell?_setCell_same' _ _ _ (by rw [c0]; rfl)
      · exact World.cell?_setCell_same' _ _ _ (by rw [World.cell?_setCell_other _ _ _ _ (by simp), c1]; rfl)
    · obtain ⟨d0, d1⟩ := h3 j (by omega)
      rw [far _ (by omega) (by omega), far _ (by omega) (by omega)]
      exact ⟨d0, d1⟩
  · obtain ⟨d0, d1⟩ := h4 j q (by omega) hq
    have far : ∀ a, a ≠ i * 2 → a ≠ i * 2 + 1 → ((wr.setCell ⟨g, i * 2, none⟩ (.int .i64 (k + 2 * (i : Int)))).setCell ⟨g, i * 2 + 1, none⟩ (.int .i64 (k + 2 * (i : Int) + 1))).cell? ⟨g, a, none⟩ = wr.cell? ⟨g, a, none⟩ := fun a ha hb => by
      rw [World.cell?_setCell_other _ _ _ _ (by simp <;> omega), World.cell?_setCell_other _ _ _ _ (by simp <;> omega)]
    rw [far _ (by omega) (by omega), far _ (by omega) (by omega)]
    exact ⟨d0, d1⟩

set_option maxHeartbeats 1000000 in
theorem markS_nil (a : Option Addr) (c : Nat) (k : Int) (w : World) :
    Calls Try.prog 10 #[.slice a 0 c, .int .i64 k] w fun e w' => e = .returned (.int .i64 k) ∧ w = w' := by
  go_enter Try.func10, Try.ntmps10
  go_wp2
  go_loop [1, 5] (fun q i => q = .int .i64 k ∧ i = .int .i64 0) (fun _ i => (intOf i).toNat)
  case atStart => exact ⟨rfl, rfl⟩
  case round =>
    obtain ⟨rfl, rfl⟩ := hrel
    go_wp2
    go_ret
    exact ⟨rfl, rfl⟩

set_option maxHeartbeats 2000000 in
theorem markS_some (g n cap : Nat) (L : List (Int × Int)) (k : Int) (w : World) (hn : n = L.length) (hl : n ≤ 1000000) (hk0 : 0 ≤ k) (hk1 : k ≤ 1000000000)
    (h : ∀ i p, L[i]? = some p → w.cell? ⟨g, i * 2, none⟩ = some (.int .i64 p.1) ∧ w.cell? ⟨g, i * 2 + 1, none⟩ = some (.int .i64 p.2)) (hf : ∀ o, w.frozen? ⟨g, o, none⟩ = false) :
    Calls Try.prog 10 #[.slice (some ⟨g, 0, none⟩) n cap, .int .i64 k] w fun e w' => e = .returned (.int .i64 (k + 2 * (n : Int))) ∧ Marked w w' g L k n := by
  have Hn := Lib.hid hn
  have H0 : Marked w w g L k 0 := ⟨Only.refl _ _, hf, fun j hj => absurd hj (Nat.not_lt_zero _), fun j p _ hp => h j p hp⟩
  clear h hn hf
  go_enter Try.func10, Try.ntmps10
  go_wp2
  go_loopw [1, 5] (fun q i wr => ∃ j : Nat, j ≤ n ∧ i = .int .i64 (j : Int) ∧ q = .int .i64 (k + 2 * (j : Int)) ∧ Marked w wr g L k j) (fun _ i _ => n - (intOf i).toNat)
  case atStart => exact ⟨0, Nat.zero_le _, rfl, by simp, H0⟩
  case round =>
    obtain ⟨j, hj, rfl, rfl, hM⟩ := hrel
    by_cases hlt : j < n
    · obtain ⟨p, hp⟩ : ∃ p, L[j]? = some p := ⟨L[j]'(by rw [← Hn.out]; exact hlt), List.getElem?_eq_getElem _⟩
      have hS := hM.step hp
      obtain ⟨c0, c1⟩ := hM.2.2.2 j p (Nat.le_refl _) hp
      have f0 := hM.2.1 (j * 2)
      have f1 := hM.2.1 (j * 2 + 1)
      have Hs := Lib.hid hS
      clear hS hM hp
      have q0 : (0 : Int) ≤ (j : Int) := by omega
      have q1 : (j : Int) < (n : Int) := by omega
      go_wp2
      go_roundw
      case rel => exact ⟨j + 1, by omega, by go_num, by go_num, Hs.out⟩
      case measure => simp [intOf]; omega
    · have hge : ¬ ((j : Int) < (n : Int)) := by omega
      obtain rfl : j = n := by omega
      have Hm := Lib.hid hM
      clear hM
      go_wp2
      go_ret
      exact ⟨rfl, Hm.out⟩

set_option maxHeartbeats 1000000 in
theorem heldS_nil (a : Option Addr) (c : Nat) (k : Int) (w : World) :
    Calls Try.prog 11 #[.slice a 0 c, .int .i64 k] w fun e w' => e = .returned (.int .i64 k) ∧ w = w' := by
  go_enter Try.func11, Try.ntmps11
  go_wp2
  go_loop [1, 5] (fun q i => q = .int .i64 k ∧ i = .int .i64 0) (fun _ i => (intOf i).toNat)
  case atStart => exact ⟨rfl, rfl⟩
  case round =>
    obtain ⟨rfl, rfl⟩ := hrel
    go_wp2
    go_ret
    exact ⟨rfl, rfl⟩

set_option maxHeartbeats 2000000 in
theorem heldS_some (g n cap : Nat) (k : Int) (w : World) (hl : n ≤ 1000000) (hk0 : 0 ≤ k) (hk1 : k ≤ 1000000000)
    (h : ∀ j, j < n → w.cell? ⟨g, j * 2, none⟩ = some (.int .i64 (k + 2 * (j : Int))) ∧ w.cell? ⟨g, j * 2 + 1, none⟩ = some (.int .i64 (k + 2 * (j : Int) + 1))) :
    Calls Try.prog 11 #[.slice (some ⟨g, 0, none⟩) n cap, .int .i64 k] w fun e w' => e = .returned (.int .i64 (k + 2 * (n : Int))) ∧ w = w' := by
  have H := Lib.hid h
  clear h
  go_enter Try.func11, Try.ntmps11
  go_wp2
  go_loop [1, 5] (fun q i => ∃ j : Nat, j ≤ n ∧ i = .int .i64 (j : Int) ∧ q = .int .i64 (k + 2 * (j : Int))) (fun _ i => n - (intOf i).toNat)
  case atStart => exact ⟨0, Nat.zero_le _, rfl, by simp⟩
  case round =>
    obtain ⟨j, hj, rfl, rfl⟩ := hrel
    by_cases hlt : j < n
    · obtain ⟨c0, c1⟩ := H.out j hlt
      have q0 : (0 : Int) ≤ (j : Int) := by omega
      have q1 : (j : Int) < (n : Int) := by omega
      go_wp2
      go_round
      case rel => exact ⟨j + 1, by omega, by go_num, by go_num⟩
      case measure => simp [intOf]; omega
    · have hge : ¬ ((j : Int) < (n : Int)) := by omega
      obtain rfl : j = n := by omega
      go_wp2
      go_ret
      exact ⟨rfl, rfl⟩

/-- mark over a slice that holds L, and what it then holds: held finds just the marks, in every later world in which its block stands. -/
theorem markS (L : List (Int × Int)) (lo hi : Nat) (v : Value) (k : Int) (w : World) (hr : Row w lo hi v L) (hl : L.length ≤ 1000000) (hk0 : 0 ≤ k) (hk1 : k ≤ 1000000000) :
    Calls Try.prog 10 #[v, .int .i64 k] w fun e w' => e = .returned (.int .i64 (k + 2 * (L.length : Int))) ∧ Row w' lo hi v (marks k L.length) ∧ ∃ g, Only g w w' ∧ (lo ≤ g ∧ g < hi ∨ w = w') := by
  rcases hr with ⟨hL, a, c, rfl⟩ | ⟨g, cap, rfl, h1, h2, h3, h4, h5⟩
  · subst hL
    refine (markS_nil a c k w).mono fun e w' ⟨h1, h2⟩ => ⟨by rw [h1]; simp, .inl ⟨rfl, a, c, rfl⟩, 0, h2 ▸ Only.refl _ _, .inr h2⟩
  · refine (markS_some g L.length cap L k w rfl hl hk0 hk1 h4 h5).mono fun e w' ⟨he, hm⟩ => ⟨he, .inr ⟨g, cap, by simp [marks], h1, h2, by simp [marks]; exact hl, fun i p hp => ?_, hm.2.1⟩, g, hm.1, .inl ⟨h1, h2⟩⟩
    unfold marks at hp
    rw [List.getElem?_map, Option.map_eq_some_iff] at hp
    obtain ⟨j, hj, rfl⟩ := hp
    obtain ⟨hlt, rfl⟩ := List.getElem?_eq_some_iff.1 hj
    rw [List.getElem_range]
    exact hm.2.2.1 i (by simpa using hlt)

theorem heldS (n lo hi : Nat) (v : Value) (k : Int) (w : World) (hr : Row w lo hi v (marks k n)) (hl : n ≤ 1000000) (hk0 : 0 ≤ k) (hk1 : k ≤ 1000000000) :
    Calls Try.prog 11 #[v, .int .i64 k] w fun e w' => e = .returned (.int .i64 (k + 2 * (n : Int))) ∧ w = w' := by
  have hlen : (marks k n).length = n := by simp [marks]
  rcases hr with ⟨hL, a, c, rfl⟩ | ⟨g, cap, rfl, h1, h2, h3, h4, h5⟩
  · obtain rfl : n = 0 := by rw [hL] at hlen; simpa using hlen.symm
    exact (heldS_nil a c k w).mono fun e w' ⟨h1, h2⟩ => ⟨by rw [h1]; simp, h2⟩
  · rw [hlen]
    refine heldS_some g n cap k w hl hk0 hk1 fun j hj => h4 j (k + 2 * (j : Int), k + 2 * (j : Int) + 1) ?_
    unfold marks
    rw [List.getElem?_map, List.getElem?_range hj]
    rfl

end Go.Proofs.Ytegffibamkaeiab
