/- Draws: the cursor. -/
import Derived.Test.YtgdnfglhlpnooaaRows
import Derived.Test.YtgdnfglhlpnooaaGa
import Derived.Test.YtgdnfglhlpnooaaPa
import Derived.Laws.BitsLemmas
import Derived.WalkSpells
import Derived.WalkLawsBesides
import Derived.BigQuiet
import Derived.Deep.QuietTactic
import Derived.Deep.RegionHeld3
import Derived.WalkSmall
import Derived.Handy
namespace Go.Proofs.Ytgdnfglhlpnooaa
open Go.RowKit


theorem and255 (x : Int) : 0 ≤ bits .and .i64 x 255 ∧ bits .and .i64 x 255 ≤ 255 := by
  simp only [bits, BitVec.toNat_and]
  have h : (BitVec.ofInt IntKind.i64.bits x).toNat &&& (BitVec.ofInt IntKind.i64.bits 255).toNat ≤ 255 := Nat.le_trans Nat.and_le_right (by decide)
  rw [IntKind.wrap_i64]
  omega
/-- A cursor over the bytes of a draw. -/
structure Cur (w : World) (C : Nat) (a : Option Addr) (n cp i : Nat) : Prop where
  c0 : w.cell? ⟨C, 0, none⟩ = some (.slice a n cp)
  c1 : w.cell? ⟨C, 1, none⟩ = some (.int .i64 (i : Int))
  c2 : ∃ h, w.cell? ⟨C, 2, none⟩ = some (.int .i64 h)
  frz : ∀ o, w.frozen? ⟨C, o, none⟩ = false
  lt : C < w.heap.size
  le : i ≤ n ∧ n ≤ maxLen
  bytes : 0 < n → ∃ b off, a = some ⟨b, off, none⟩ ∧ b < w.heap.size ∧ b ≠ C ∧ ∀ q, q < n → ∃ z : Int, w.cell? ⟨b, off + q, none⟩ = some (.int .u8 z) ∧ 0 ≤ z ∧ z ≤ 255
theorem Else.refl' (C : Nat) (w : World) : Else C w w := ⟨rfl, rfl, rfl, Nat.le_refl _, fun _ _ _ => rfl⟩
theorem Else.set (C j : Nat) (w : World) (u : Value) : Else C w (w.setCell ⟨C, j, none⟩ u) := (Only.refl C w).setCell j u |>.else_
theorem Else.drewN' {C : Nat} {w w' : World} (h : Else C w w') (k : Nat) : Else C w (w'.drewN k) := h
theorem Cur.keep {w w' : World} {C : Nat} {a : Option Addr} {n cp i : Nat} (h : Cur w C a n cp i) (he : Else C w w') {j : Nat} (hj : j ≤ n) (c0 : w'.cell? ⟨C, 0, none⟩ = some (.slice a n cp)) (c1 : w'.cell? ⟨C, 1, none⟩ = some (.int .i64 (j : Int))) (c2 : ∃ q, w'.cell? ⟨C, 2, none⟩ = some (.int .i64 q)) (hf : ∀ o, w'.frozen? ⟨C, o, none⟩ = false) : Cur w' C a n cp j where
  c0 := c0
  c1 := c1
  c2 := c2
  frz := hf
  lt := Nat.lt_of_lt_of_le h.lt he.2.2.2.1
  le := ⟨hj, h.le.2⟩
  bytes hn := by
    obtain ⟨b, off, h1, h2, h3, h4⟩ := h.bytes hn
    refine ⟨b, off, h1, Nat.lt_of_lt_of_le h2 he.2.2.2.1, h3, fun q hq => ?_⟩
    obtain ⟨z, h5, h6⟩ := h4 q hq
    exact ⟨z, by rw [World.cell?_of_block (w := w) (a := ⟨b, off + q, none⟩) (he.2.2.2.2 b h2 h3)]; exact h5, h6⟩
theorem Cur.set2 {w : World} {C : Nat} {a : Option Addr} {n cp i : Nat} (h : Cur w C a n cp i) (q : Int) : Cur (w.setCell ⟨C, 2, none⟩ (.int .i64 q)) C a n cp i := by
  obtain ⟨p, hp⟩ := h.c2
  exact h.keep (Else.set C 2 w _) h.le.1 (by rw [World.cell?_setCell_other _ _ _ _ (by simp)]; exact h.c0) (by rw [World.cell?_setCell_other _ _ _ _ (by simp)]; exact h.c1) ⟨q, World.cell?_setCell_same _ _ _ hp⟩ (fun o => by simpa using h.frz o)
theorem Cur.set1 {w : World} {C : Nat} {a : Option Addr} {n cp i j : Nat} (h : Cur w C a n cp i) (hj : j ≤ n) : Cur (w.setCell ⟨C, 1, none⟩ (.int .i64 (j : Int))) C a n cp j := by
  obtain ⟨p, hp⟩ := h.c2
  exact h.keep (Else.set C 1 w _) hj (by rw [World.cell?_setCell_other _ _ _ _ (by simp)]; exact h.c0) (World.cell?_setCell_same _ _ _ h.c1) ⟨p, by rw [World.cell?_setCell_other _ _ _ _ (by simp)]; exact hp⟩ (fun o => by simpa using h.frz o)
theorem Cur.drewN {w : World} {C : Nat} {a : Option Addr} {n cp i : Nat} (h : Cur w C a n cp i) (k : Nat) : Cur (w.drewN k) C a n cp i := ⟨h.c0, h.c1, h.c2, h.frz, h.lt, h.le, h.bytes⟩
def CurPost (w : World) (C : Nat) (a : Option Addr) (n cp : Nat) (w' : World) : Prop := (∃ i, Cur w' C a n cp i) ∧ Else C w w'
set_option maxRecDepth 100000 in
set_option maxHeartbeats 2400000 in
theorem byte_any (C : Nat) (a : Option Addr) (n cp i : Nat) (w : World) (h : Cur w C a n cp i) :
    Calls Try.prog 107 #[.pointer (some ⟨C, 0, none⟩)] w fun e w' => (∃ x : Int, e = .returned (.int .i64 x) ∧ 0 ≤ x ∧ x ≤ 255) ∧ CurPost w C a n cp w' := by
  obtain ⟨hh, k2⟩ := h.c2
  have f2 := h.frz 2
  have hl := h.lt
  have HC := Lib.hid h
  clear h
  go_enter Try.func107, Try.ntmps107
  go_wp2_with fail
  obtain ⟨h2, hh2⟩ : ∃ z, z = wrap64 (wrap64 (hh * 6364136223846793005) + 1442695040888963407) := ⟨_, rfl⟩
  rw [← hh2]
  obtain ⟨w1, hw1⟩ : ∃ w1, w1 = w.setCell ⟨C, 2, none⟩ (.int .i64 h2) := ⟨_, rfl⟩
  have H1 : Hid (Cur w1 C a n cp i) := by rw [hw1]; exact HC.out.set2 h2
  have E1 : Hid (Else C w w1) := by rw [hw1]; exact Else.set C 2 w _
  have k2' : w1.cell? ⟨C, 2, none⟩ = some (.int .i64 h2) := by rw [hw1]; exact World.cell?_setCell_same _ _ _ k2
  rw [← hw1]
  have k0 := H1.out.c0
  have k1 := H1.out.c1
  have f1 := H1.out.frz 1
  clear hh2 hw1 k2 f2 hl
  have hl := H1.out.lt
  go_quiet (fail)
  go_wp2_with fail
  obtain ⟨x, hx⟩ : ∃ x, x = bits .and .i64 (bits .xor .i64 (h2 / 8589934592) (h2 / 35184372088832)) 255 := ⟨_, rfl⟩
  rw [← hx]
  have hb : 0 ≤ x ∧ x ≤ 255 := by rw [hx]; exact and255 _
  clear hx
  by_cases hlt : i < n
  · have q0 : (i : Int) < (n : Int) := by omega
    have q1 : (0 : Int) ≤ (i : Int) := by omega
    have d0 : decide ((i : Int) < (n : Int)) = true := decide_eq_true q0
    obtain ⟨b, off, rfl, hb1, hb2, hb3⟩ := H1.out.bytes (by omega)
    obtain ⟨z, z0, z1, z2⟩ := hb3 i hlt
    have e1 : IntKind.i64.wrap ((i : Int) + 1) = (i : Int) + 1 := IntWalk.i64_in _ (by have := H1.out.le.2; unfold maxLen at this; omega)
    clear hb3
    go_quiet (fail)
    go_wp2_with fail
    go_quiet (fail)
    go_wp2_with fail
    go_ret
    refine ⟨⟨_, rfl, and255 _⟩, ⟨i + 1, ?_⟩, ?_⟩
    · have hset : ∀ k, Cur ((w1.drewN k).setCell ⟨C, 1, none⟩ (.int .i64 ((i : Int) + 1))) C (some ⟨b, off, none⟩) n cp (i + 1) := fun k => by
        have := (H1.out.drewN k).set1 (j := i + 1) (by omega)
        rw [Int.natCast_add] at this
        exact this
      exact hset _
    · exact E1.out.trans (Else.set C 1 (w1.drewN _) _)
  · have q0 : ¬ (i : Int) < (n : Int) := by omega
    go_quiet (fail)
    go_wp2_with fail
    go_ret
    exact ⟨⟨x, rfl, hb⟩, ⟨i, (H1.out.drewN _)⟩, E1.out.drewN' _⟩

set_option maxRecDepth 100000 in
set_option maxHeartbeats 2400000 in
theorem below_any (C : Nat) (a : Option Addr) (n cp i : Nat) (m : Int) (w : World) (h : Cur w C a n cp i) (hm : m ≤ 1000000000) :
    Calls Try.prog 67 #[.pointer (some ⟨C, 0, none⟩), .int .i64 m] w fun e w' => (∃ x : Int, e = .returned (.int .i64 x) ∧ 0 ≤ x ∧ (0 < m → x < m) ∧ (m ≤ 0 → x = 0)) ∧ CurPost w C a n cp w' := by
  have HC := Lib.hid h
  clear h
  by_cases h0 : m ≤ 0
  · go_enter Try.func67, Try.ntmps67
    go_wp2_with fail
    go_ret
    exact ⟨⟨0, rfl, Int.le_refl _, fun h => by omega, fun _ => rfl⟩, ⟨i, HC.out⟩, Else.refl' _ _⟩
  · by_cases h1 : m ≤ 256
    · have hne : (m == 0) = false := by simp; omega
      go_enter Try.func67, Try.ntmps67
      go_wp2_with fail
      go_at_call 107
      refine (byte_any C a n cp i _ HC.out).mono ?_
      rintro e w1 ⟨⟨x, rfl, hx0, hx1⟩, hC1, hE1⟩
      go_wp2_with fail
      go_ret
      exact ⟨⟨x % m, rfl, Int.emod_nonneg _ (by omega), fun _ => Int.emod_lt_of_pos _ (by omega), fun h => by omega⟩, hC1, hE1⟩
    · have hne : (m == 0) = false := by simp; omega
      go_enter Try.func67, Try.ntmps67
      go_wp2_with fail
      go_at_call 107
      refine (byte_any C a n cp i _ HC.out).mono ?_
      rintro e w1 ⟨⟨x, rfl, hx0, hx1⟩, ⟨i1, hC1⟩, hE1⟩
      go_wp2_with fail
      go_at_call 107
      refine (byte_any C a n cp i1 _ hC1).mono ?_
      rintro e w2 ⟨⟨y, rfl, hy0, hy1⟩, ⟨i2, hC2⟩, hE2⟩
      go_wp2_with fail
      go_at_call 107
      refine (byte_any C a n cp i2 _ hC2).mono ?_
      rintro e w3 ⟨⟨z, rfl, hz0, hz1⟩, hC3, hE3⟩
      go_wp2_with fail
      go_ret
      exact ⟨⟨_, rfl, Int.emod_nonneg _ (by omega), fun _ => Int.emod_lt_of_pos _ (by omega), fun h => by omega⟩, hC3, (hE1.trans hE2).trans hE3⟩
set_option maxRecDepth 100000 in
set_option maxHeartbeats 2400000 in
theorem once_any (C : Nat) (a : Option Addr) (n cp i : Nat) (m : Int) (w : World) (h : Cur w C a n cp i) (hm : m ≤ 1000000000) :
    Calls Try.prog 87 #[.pointer (some ⟨C, 0, none⟩), .int .i64 m] w fun e w' => (∃ x : Bool, e = .returned (.bool x)) ∧ CurPost w C a n cp w' := by
  have HC := Lib.hid h
  clear h
  go_enter Try.func87, Try.ntmps87
  go_wp2_with fail
  go_at_call 67
  refine (below_any C a n cp i m _ HC.out hm).mono ?_
  rintro e w1 ⟨⟨x, rfl, hx0, hx1, hx2⟩, hC1, hE1⟩
  clear hx1 hx2
  go_wp2_with fail
  go_ret
  exact ⟨⟨_, rfl⟩, hC1, hE1⟩
/-- A list of numbers in memory, not the cursor's. -/
def ListAt (w : World) (g : Nat) (Z : List Int) : Prop := g < w.heap.size ∧ ∀ q z, Z[q]? = some z → w.cell? ⟨g, q, none⟩ = some (.int .i64 z)
theorem ListAt.else_ {w w' : World} {C g : Nat} {Z : List Int} (h : ListAt w g Z) (he : Else C w w') (hne : g ≠ C) : ListAt w' g Z :=
  ⟨Nat.lt_of_lt_of_le h.1 he.2.2.2.1, fun q z hz => by rw [World.cell?_of_block (w := w) (a := ⟨g, q, none⟩) (he.2.2.2.2 g h.1 hne)]; exact h.2 q z hz⟩
set_option maxRecDepth 100000 in
set_option maxHeartbeats 2400000 in
theorem pick_any (C : Nat) (a : Option Addr) (n cp i g m mc : Nat) (Z : List Int) (w : World) (h : Cur w C a n cp i) (hm : m ≤ 1000000) (h0 : 0 < m) (hZ : Z.length = m) (hg : ListAt w g Z) (hne : g ≠ C) :
    Calls Try.prog 66 #[.pointer (some ⟨C, 0, none⟩), .slice (some ⟨g, 0, none⟩) m mc] w fun e w' => (∃ x : Int, e = .returned (.int .i64 x) ∧ x ∈ Z) ∧ CurPost w C a n cp w' := by
  have HC := Lib.hid h
  have HG := Lib.hid hg
  have HZ := Lib.hid hZ
  clear h hg hZ
  go_enter Try.func66, Try.ntmps66
  go_wp2_with fail
  go_at_call 67
  refine (below_any C a n cp i (m : Int) _ HC.out (by omega)).mono ?_
  rintro e w1 ⟨⟨x, rfl, hx0, hx1, hx2⟩, hC1, hE1⟩
  have hx3 := hx1 (by omega)
  obtain ⟨k, rfl⟩ : ∃ k : Nat, x = (k : Int) := ⟨x.toNat, by omega⟩
  have hk : k < m := by omega
  have hz : Z[k]? = some (Z[k]'(by rw [HZ.out]; exact hk)) := List.getElem?_eq_getElem _
  have hm2 := List.getElem_mem (l := Z) (n := k) (by rw [HZ.out]; exact hk)
  have hL := HG.out.else_ hE1 hne
  have z0 := hL.2 k _ hz
  generalize Z[k]'(by rw [HZ.out]; exact hk) = zz at *
  have Hm2 := Lib.hid hm2
  clear hx1 hx2 hz hL hm2
  go_wp2_with fail
  go_ret
  exact ⟨⟨zz, rfl, Hm2.out⟩, hC1, hE1⟩
set_option maxRecDepth 100000 in
set_option maxHeartbeats 2400000 in
theorem drsz_any (a : Option Addr) (n cp : Nat) (m : Int) (w : World) (hn : n ≤ 1099511627776) : Calls Try.prog 86 #[.slice a n cp, .int .i64 m] w fun e w' => (∃ x : Int, e = .returned (.int .i64 x) ∧ x ≤ m ∧ (2 ≤ m → 2 ≤ x)) ∧ w = w' := by
  have hN : (n : Int) / 16 + 2 ≤ 17592186044420 := by omega
  have e1 : IntKind.i64.wrap (2 + (n : Int) / 16) = 2 + (n : Int) / 16 := IntWalk.i64_in _ (by omega)
  by_cases h : m < 2 + (n : Int) / 16
  · go_enter Try.func86, Try.ntmps86
    go_wp2
    go_ret
    exact ⟨⟨m, rfl, Int.le_refl _, fun h => h⟩, rfl⟩
  · go_enter Try.func86, Try.ntmps86
    go_wp2
    go_ret
    exact ⟨⟨_, rfl, by omega, fun _ => by omega⟩, rfl⟩
/-- The bytes of an argument. -/
def BytesAt (w : World) (a : Option Addr) (n : Nat) : Prop := n ≤ 1099511627776 ∧ (0 < n → ∃ b off, a = some ⟨b, off, none⟩ ∧ b < w.heap.size ∧ ∀ q, q < n → ∃ z : Int, w.cell? ⟨b, off + q, none⟩ = some (.int .u8 z) ∧ 0 ≤ z ∧ z ≤ 255)
theorem Cur.new (w : World) (a : Option Addr) (n cp : Nat) (hh : Int) (hn : n ≤ 1099511627776) (hb : 0 < n → ∃ b off, a = some ⟨b, off, none⟩ ∧ b < w.heap.size ∧ ∀ q, q < n → ∃ z : Int, w.cell? ⟨b, off + q, none⟩ = some (.int .u8 z) ∧ 0 ≤ z ∧ z ≤ 255) : Cur (w.alloc (.cells #[.slice a n cp, .int .i64 0, .int .i64 hh] 149)) w.heap.size a n cp 0 where
  c0 := by rw [cell_of_row _ _ _ _ _ _ (heap_alloc_new _ _)]; rfl
  c1 := by rw [cell_of_row _ _ _ _ _ _ (heap_alloc_new _ _)]; rfl
  c2 := ⟨hh, by rw [cell_of_row _ _ _ _ _ _ (heap_alloc_new _ _)]; rfl⟩
  frz o := frozen_of_row _ _ _ _ _ (heap_alloc_new _ _)
  lt := by simp
  le := ⟨Nat.zero_le _, by unfold maxLen; omega⟩
  bytes h0 := by
    obtain ⟨b, off, h1, h2, h3⟩ := hb h0
    refine ⟨b, off, h1, by simp; omega, by omega, fun q hq => ?_⟩
    obtain ⟨z, h4, h5⟩ := h3 q hq
    exact ⟨z, by rw [old_box h2]; exact h4, h5⟩
set_option maxRecDepth 100000 in
set_option maxHeartbeats 2400000 in
theorem new_any (a : Option Addr) (n cp : Nat) (w : World) (hb : BytesAt w a n) :
    Calls Try.prog 84 #[.slice a n cp] w fun e w' => ∃ C, e = .returned (.pointer (some ⟨C, 0, none⟩)) ∧ w.heap.size ≤ C ∧ Cur w' C a n cp 0 ∧ Below w.heap.size w w' := by
  have HB := Lib.hid hb.2
  have hn := hb.1
  clear hb
  have e1 : IntKind.i64.wrap (681681 + (n : Int)) = 681681 + (n : Int) := IntWalk.i64_in _ (by omega)
  go_enter Try.func84, Try.ntmps84
  go_wp2
  go_loop [3, 4] (fun q i => ∃ (k : Nat) (hh : Int), k ≤ n ∧ i = .int .i64 (k : Int) ∧ q = .int .i64 hh) (fun _ i => n - (intOf i).toNat)
  case atStart => exact ⟨0, _, Nat.zero_le _, rfl, rfl⟩
  case round =>
    obtain ⟨k, hh, hk, rfl, rfl⟩ := hrel
    by_cases hlt : k < n
    · have q0 : (k : Int) < (n : Int) := by omega
      have q1 : (0 : Int) ≤ (k : Int) := by omega
      obtain ⟨b, off, ha, _, hc⟩ := HB.out (by omega)
      obtain ⟨z, z0, z1, z2⟩ := hc k hlt
      subst ha
      clear hc
      by_cases h4 : (k : Int) < 4000
      · go_wp2
        go_round
        case rel => exact ⟨k + 1, _, by omega, by go_num, rfl⟩
        case measure => simp [intOf]; omega
      · go_wp2
        go_ret
        exact ⟨_, rfl, Nat.le_refl _, Cur.new w _ n cp hh hn HB.out, (Below.refl _ _).alloc (Nat.le_refl _) _⟩
    · have hge : ¬ ((k : Int) < (n : Int)) := by omega
      go_wp2
      go_ret
      exact ⟨_, rfl, Nat.le_refl _, Cur.new w a n cp hh hn HB.out, (Below.refl _ _).alloc (Nat.le_refl _) _⟩

end Go.Proofs.Ytgdnfglhlpnooaa
