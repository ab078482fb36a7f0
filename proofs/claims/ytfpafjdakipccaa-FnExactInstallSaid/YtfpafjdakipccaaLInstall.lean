/- The law of Install over contracts. -/
import Derived.Test.YtfpafjdakipccaaGw
import Derived.Deep.DeepCutAuto
import Derived.Test.YtfpafjdakipccaaGy
import Derived.Test.YtfpafjdakipccaaGk
import Derived.Test.YtfpafjdakipccaaGu
import Derived.Test.YtfpafjdakipccaaGn
import Derived.Test.YtfpafjdakipccaaGp
namespace Go.Proofs.Ytfpafjdakipccaa
open Go.RowKit
def lmYG (k0 : Int) (n : Nat) : List Int := marks k0 (n * 2)
def lmZG (k0 : Int) (n m : Nat) : List Int := marks (k0 + ((n * 2 : Nat) : Int)) (m * 3)
set_option maxHeartbeats 2000000 in
theorem markLsa_G (k0 K : Int) (hk0 : 0 <= k0) (hk1 : k0 <= 100000000) (o s g : Int) (Y Z : List Int) (n m lo hi : Nat) (u v : Value) (w : World) (hK : K = k0 + ((n * 2 + m * 3 : Nat) : Int)) (hr : LRow w lo hi u v n m Y Z) (hh : hi <= w.heap.size) (hn : n <= 1100000) (hm : m <= 1100000) :
    Calls Try.prog 26 #[.agg #[.int .i64 o, .int .i64 s, .int .i64 g, u, v], .int .i64 k0] w fun e w' => e = .returned (.int .i64 K) /\ LRow w' lo hi u v n m (lmYG k0 n) (lmZG k0 n m) /\ Tur lo hi w w' := by
  obtain ⟨a, c, a', c', rfl, rfl⟩ := hr.slice
  obtain ⟨K1, hK1⟩ : ∃ K1 : Int, K1 = k0 + ((n * 2 : Nat) : Int) := ⟨_, rfl⟩
  have hKK : K1 + ((m * 3 : Nat) : Int) = K := by rw [hK, hK1]; push_cast; omega
  have k10 : 0 <= K1 := by omega
  have k11 : K1 <= 1000000000 := by omega
  obtain ⟨mid, l1, l2, r1, r2⟩ := hr
  have HK1 := Lib.hid hK1
  have HKK := Lib.hid hKK
  have R1 := Lib.hid r1
  have R2 := Lib.hid r2
  clear hK1 hKK r1 r2 hK
  go_enter Try.func26, Try.ntmps26
  go_wp2_with fail
  go_at_call 63
  refine (markLinkS Y n lo mid _ k0 _ (R1.out.below (B := w.heap.size) (by go_grown) (by omega)) hn hk0 (by omega)).mono ?_
  rw [<- HK1.out]
  rintro e w1 ⟨rfl, q1, t1⟩
  have T1 := Lib.hid (Tur.of t1)
  have Q1 := Lib.hid q1
  have sz1 : w.heap.size + 1 <= w1.heap.size := by have hh := T1.out.size; simp at hh; exact hh
  have R2' : Hid (Row 3 w1 mid hi (.slice a' m c') m Z) := T1.out.row (R2.out.below (B := w.heap.size) (by go_grown) (by omega)) (by simp; omega) (.inr (Nat.le_refl _))
  have k0 : w1.cell? ⟨w.heap.size, 4, none⟩ = some (.slice a' m c') := by rw [T1.out.cell (by simp) (by omega)]; simp
  have hd : w.heap.size < w1.heap.size := by omega
  clear q1 t1
  go_wp2_with fail
  go_at_call 64
  refine (markStubS Z m mid hi _ K1 _ R2'.out hm k10 k11).mono ?_
  rw [HKK.out]
  rintro e w2 ⟨rfl, q2, t2⟩
  have T2 := Lib.hid (Tur.of t2)
  have Q2 := Lib.hid q2
  clear q2 t2
  go_wp2_with fail
  go_ret
  refine ⟨rfl, ⟨mid, l1, l2, T2.out.row Q1.out (by omega) (.inl (Nat.le_refl _)), ?_⟩, (T1.out.boxed.trans T2.out (Nat.le_refl _) l1 l2 (Nat.le_refl _))⟩
  have := Q2.out
  rw [HK1.out] at this
  exact this
theorem rr14_keep {w w1 w2 : World} {b0 b1 b2 b3 b4 b5 b6 b7 b8 b9 b10 b11 b12 b13 o0 o1 o2 o3 o4 o5 o6 o7 o8 o9 o10 o11 o12 o13 : Nat} {v0 v1 v2 v3 v4 v5 v6 v7 v8 v9 v10 v11 v12 v13 : Value} (l0 : b0 < w.heap.size) (l1 : b1 < w.heap.size) (l2 : b2 < w.heap.size) (l3 : b3 < w.heap.size) (l4 : b4 < w.heap.size) (l5 : b5 < w.heap.size) (l6 : b6 < w.heap.size) (l7 : b7 < w.heap.size) (l8 : b8 < w.heap.size) (l9 : b9 < w.heap.size) (l10 : b10 < w.heap.size) (l11 : b11 < w.heap.size) (l12 : b12 < w.heap.size) (l13 : b13 < w.heap.size) (hb : Below w1.heap.size w1 w2) (h : w1.cell? ⟨b0, o0, none⟩ = some v0 /\ w1.cell? ⟨b1, o1, none⟩ = some v1 /\ w1.cell? ⟨b2, o2, none⟩ = some v2 /\ w1.cell? ⟨b3, o3, none⟩ = some v3 /\ w1.cell? ⟨b4, o4, none⟩ = some v4 /\ w1.cell? ⟨b5, o5, none⟩ = some v5 /\ w1.cell? ⟨b6, o6, none⟩ = some v6 /\ w1.cell? ⟨b7, o7, none⟩ = some v7 /\ w1.cell? ⟨b8, o8, none⟩ = some v8 /\ w1.cell? ⟨b9, o9, none⟩ = some v9 /\ w1.cell? ⟨b10, o10, none⟩ = some v10 /\ w1.cell? ⟨b11, o11, none⟩ = some v11 /\ w1.cell? ⟨b12, o12, none⟩ = some v12 /\ w1.cell? ⟨b13, o13, none⟩ = some v13 /\ w.heap.size <= w1.heap.size /\ Below w.heap.size w w1) : w2.cell? ⟨b0, o0, none⟩ = some v0 /\ w2.cell? ⟨b1, o1, none⟩ = some v1 /\ w2.cell? ⟨b2, o2, none⟩ = some v2 /\ w2.cell? ⟨b3, o3, none⟩ = some v3 /\ w2.cell? ⟨b4, o4, none⟩ = some v4 /\ w2.cell? ⟨b5, o5, none⟩ = some v5 /\ w2.cell? ⟨b6, o6, none⟩ = some v6 /\ w2.cell? ⟨b7, o7, none⟩ = some v7 /\ w2.cell? ⟨b8, o8, none⟩ = some v8 /\ w2.cell? ⟨b9, o9, none⟩ = some v9 /\ w2.cell? ⟨b10, o10, none⟩ = some v10 /\ w2.cell? ⟨b11, o11, none⟩ = some v11 /\ w2.cell? ⟨b12, o12, none⟩ = some v12 /\ w2.cell? ⟨b13, o13, none⟩ = some v13 /\ w.heap.size <= w2.heap.size /\ Below w.heap.size w w2 := by
  obtain ⟨h0, h1, h2, h3, h4, h5, h6, h7, h8, h9, h10, h11, h12, h13, hs, hB⟩ := h
  obtain ⟨hc, hf⟩ := bcell hb
  have hz := hb.size
  exact ⟨by rw [hc _ _ (by omega)]; exact h0, by rw [hc _ _ (by omega)]; exact h1, by rw [hc _ _ (by omega)]; exact h2, by rw [hc _ _ (by omega)]; exact h3, by rw [hc _ _ (by omega)]; exact h4, by rw [hc _ _ (by omega)]; exact h5, by rw [hc _ _ (by omega)]; exact h6, by rw [hc _ _ (by omega)]; exact h7, by rw [hc _ _ (by omega)]; exact h8, by rw [hc _ _ (by omega)]; exact h9, by rw [hc _ _ (by omega)]; exact h10, by rw [hc _ _ (by omega)]; exact h11, by rw [hc _ _ (by omega)]; exact h12, by rw [hc _ _ (by omega)]; exact h13, by omega, hB.trans (hb.mono (by omega))⟩
theorem rr14_drew {w w1 : World} {b0 b1 b2 b3 b4 b5 b6 b7 b8 b9 b10 b11 b12 b13 o0 o1 o2 o3 o4 o5 o6 o7 o8 o9 o10 o11 o12 o13 : Nat} {v0 v1 v2 v3 v4 v5 v6 v7 v8 v9 v10 v11 v12 v13 : Value} (h : w1.cell? ⟨b0, o0, none⟩ = some v0 /\ w1.cell? ⟨b1, o1, none⟩ = some v1 /\ w1.cell? ⟨b2, o2, none⟩ = some v2 /\ w1.cell? ⟨b3, o3, none⟩ = some v3 /\ w1.cell? ⟨b4, o4, none⟩ = some v4 /\ w1.cell? ⟨b5, o5, none⟩ = some v5 /\ w1.cell? ⟨b6, o6, none⟩ = some v6 /\ w1.cell? ⟨b7, o7, none⟩ = some v7 /\ w1.cell? ⟨b8, o8, none⟩ = some v8 /\ w1.cell? ⟨b9, o9, none⟩ = some v9 /\ w1.cell? ⟨b10, o10, none⟩ = some v10 /\ w1.cell? ⟨b11, o11, none⟩ = some v11 /\ w1.cell? ⟨b12, o12, none⟩ = some v12 /\ w1.cell? ⟨b13, o13, none⟩ = some v13 /\ w.heap.size <= w1.heap.size /\ Below w.heap.size w w1) : w1.drew.cell? ⟨b0, o0, none⟩ = some v0 /\ w1.drew.cell? ⟨b1, o1, none⟩ = some v1 /\ w1.drew.cell? ⟨b2, o2, none⟩ = some v2 /\ w1.drew.cell? ⟨b3, o3, none⟩ = some v3 /\ w1.drew.cell? ⟨b4, o4, none⟩ = some v4 /\ w1.drew.cell? ⟨b5, o5, none⟩ = some v5 /\ w1.drew.cell? ⟨b6, o6, none⟩ = some v6 /\ w1.drew.cell? ⟨b7, o7, none⟩ = some v7 /\ w1.drew.cell? ⟨b8, o8, none⟩ = some v8 /\ w1.drew.cell? ⟨b9, o9, none⟩ = some v9 /\ w1.drew.cell? ⟨b10, o10, none⟩ = some v10 /\ w1.drew.cell? ⟨b11, o11, none⟩ = some v11 /\ w1.drew.cell? ⟨b12, o12, none⟩ = some v12 /\ w1.drew.cell? ⟨b13, o13, none⟩ = some v13 /\ w.heap.size <= w1.drew.heap.size /\ Below w.heap.size w w1.drew := by
  obtain ⟨h0, h1, h2, h3, h4, h5, h6, h7, h8, h9, h10, h11, h12, h13, hs, hB⟩ := h
  exact ⟨h0, h1, h2, h3, h4, h5, h6, h7, h8, h9, h10, h11, h12, h13, hs, hB.drew⟩
theorem rr14_start {w : World} {b0 b1 b2 b3 b4 b5 b6 b7 b8 b9 b10 b11 b12 b13 o0 o1 o2 o3 o4 o5 o6 o7 o8 o9 o10 o11 o12 o13 : Nat} {v0 v1 v2 v3 v4 v5 v6 v7 v8 v9 v10 v11 v12 v13 : Value} (h0 : w.cell? ⟨b0, o0, none⟩ = some v0) (h1 : w.cell? ⟨b1, o1, none⟩ = some v1) (h2 : w.cell? ⟨b2, o2, none⟩ = some v2) (h3 : w.cell? ⟨b3, o3, none⟩ = some v3) (h4 : w.cell? ⟨b4, o4, none⟩ = some v4) (h5 : w.cell? ⟨b5, o5, none⟩ = some v5) (h6 : w.cell? ⟨b6, o6, none⟩ = some v6) (h7 : w.cell? ⟨b7, o7, none⟩ = some v7) (h8 : w.cell? ⟨b8, o8, none⟩ = some v8) (h9 : w.cell? ⟨b9, o9, none⟩ = some v9) (h10 : w.cell? ⟨b10, o10, none⟩ = some v10) (h11 : w.cell? ⟨b11, o11, none⟩ = some v11) (h12 : w.cell? ⟨b12, o12, none⟩ = some v12) (h13 : w.cell? ⟨b13, o13, none⟩ = some v13) : w.drew.cell? ⟨b0, o0, none⟩ = some v0 /\ w.drew.cell? ⟨b1, o1, none⟩ = some v1 /\ w.drew.cell? ⟨b2, o2, none⟩ = some v2 /\ w.drew.cell? ⟨b3, o3, none⟩ = some v3 /\ w.drew.cell? ⟨b4, o4, none⟩ = some v4 /\ w.drew.cell? ⟨b5, o5, none⟩ = some v5 /\ w.drew.cell? ⟨b6, o6, none⟩ = some v6 /\ w.drew.cell? ⟨b7, o7, none⟩ = some v7 /\ w.drew.cell? ⟨b8, o8, none⟩ = some v8 /\ w.drew.cell? ⟨b9, o9, none⟩ = some v9 /\ w.drew.cell? ⟨b10, o10, none⟩ = some v10 /\ w.drew.cell? ⟨b11, o11, none⟩ = some v11 /\ w.drew.cell? ⟨b12, o12, none⟩ = some v12 /\ w.drew.cell? ⟨b13, o13, none⟩ = some v13 /\ w.heap.size <= w.drew.heap.size /\ Below w.heap.size w w.drew := ⟨h0, h1, h2, h3, h4, h5, h6, h7, h8, h9, h10, h11, h12, h13, Nat.le_refl _, (Below.refl _ _).drew⟩
theorem rr14_box {w w1 : World} {o : Obj} {b0 b1 b2 b3 b4 b5 b6 b7 b8 b9 b10 b11 b12 b13 o0 o1 o2 o3 o4 o5 o6 o7 o8 o9 o10 o11 o12 o13 : Nat} {v0 v1 v2 v3 v4 v5 v6 v7 v8 v9 v10 v11 v12 v13 : Value} (l0 : b0 < w.heap.size) (l1 : b1 < w.heap.size) (l2 : b2 < w.heap.size) (l3 : b3 < w.heap.size) (l4 : b4 < w.heap.size) (l5 : b5 < w.heap.size) (l6 : b6 < w.heap.size) (l7 : b7 < w.heap.size) (l8 : b8 < w.heap.size) (l9 : b9 < w.heap.size) (l10 : b10 < w.heap.size) (l11 : b11 < w.heap.size) (l12 : b12 < w.heap.size) (l13 : b13 < w.heap.size) (h : w1.cell? ⟨b0, o0, none⟩ = some v0 /\ w1.cell? ⟨b1, o1, none⟩ = some v1 /\ w1.cell? ⟨b2, o2, none⟩ = some v2 /\ w1.cell? ⟨b3, o3, none⟩ = some v3 /\ w1.cell? ⟨b4, o4, none⟩ = some v4 /\ w1.cell? ⟨b5, o5, none⟩ = some v5 /\ w1.cell? ⟨b6, o6, none⟩ = some v6 /\ w1.cell? ⟨b7, o7, none⟩ = some v7 /\ w1.cell? ⟨b8, o8, none⟩ = some v8 /\ w1.cell? ⟨b9, o9, none⟩ = some v9 /\ w1.cell? ⟨b10, o10, none⟩ = some v10 /\ w1.cell? ⟨b11, o11, none⟩ = some v11 /\ w1.cell? ⟨b12, o12, none⟩ = some v12 /\ w1.cell? ⟨b13, o13, none⟩ = some v13 /\ w.heap.size <= w1.heap.size /\ Below w.heap.size w w1) : (w1.alloc o).cell? ⟨b0, o0, none⟩ = some v0 /\ (w1.alloc o).cell? ⟨b1, o1, none⟩ = some v1 /\ (w1.alloc o).cell? ⟨b2, o2, none⟩ = some v2 /\ (w1.alloc o).cell? ⟨b3, o3, none⟩ = some v3 /\ (w1.alloc o).cell? ⟨b4, o4, none⟩ = some v4 /\ (w1.alloc o).cell? ⟨b5, o5, none⟩ = some v5 /\ (w1.alloc o).cell? ⟨b6, o6, none⟩ = some v6 /\ (w1.alloc o).cell? ⟨b7, o7, none⟩ = some v7 /\ (w1.alloc o).cell? ⟨b8, o8, none⟩ = some v8 /\ (w1.alloc o).cell? ⟨b9, o9, none⟩ = some v9 /\ (w1.alloc o).cell? ⟨b10, o10, none⟩ = some v10 /\ (w1.alloc o).cell? ⟨b11, o11, none⟩ = some v11 /\ (w1.alloc o).cell? ⟨b12, o12, none⟩ = some v12 /\ (w1.alloc o).cell? ⟨b13, o13, none⟩ = some v13 /\ w.heap.size <= (w1.alloc o).heap.size /\ Below w.heap.size w (w1.alloc o) :=
  rr14_keep l0 l1 l2 l3 l4 l5 l6 l7 l8 l9 l10 l11 l12 l13 ((Below.refl _ _).alloc (Nat.le_refl _) o) h
theorem rr14_out {w w1 : World} {b0 b1 b2 b3 b4 b5 b6 b7 b8 b9 b10 b11 b12 b13 o0 o1 o2 o3 o4 o5 o6 o7 o8 o9 o10 o11 o12 o13 : Nat} {v0 v1 v2 v3 v4 v5 v6 v7 v8 v9 v10 v11 v12 v13 : Value} (h : w1.cell? ⟨b0, o0, none⟩ = some v0 /\ w1.cell? ⟨b1, o1, none⟩ = some v1 /\ w1.cell? ⟨b2, o2, none⟩ = some v2 /\ w1.cell? ⟨b3, o3, none⟩ = some v3 /\ w1.cell? ⟨b4, o4, none⟩ = some v4 /\ w1.cell? ⟨b5, o5, none⟩ = some v5 /\ w1.cell? ⟨b6, o6, none⟩ = some v6 /\ w1.cell? ⟨b7, o7, none⟩ = some v7 /\ w1.cell? ⟨b8, o8, none⟩ = some v8 /\ w1.cell? ⟨b9, o9, none⟩ = some v9 /\ w1.cell? ⟨b10, o10, none⟩ = some v10 /\ w1.cell? ⟨b11, o11, none⟩ = some v11 /\ w1.cell? ⟨b12, o12, none⟩ = some v12 /\ w1.cell? ⟨b13, o13, none⟩ = some v13 /\ w.heap.size <= w1.heap.size /\ Below w.heap.size w w1) : w.heap.size <= w1.heap.size /\ Below w.heap.size w w1 := h.2.2.2.2.2.2.2.2.2.2.2.2.2.2
theorem rr6_swap {w w1 : World} {p p' : Obj} {b0 b1 b2 b3 b4 b5 o0 o1 o2 o3 o4 o5 : Nat} {v0 v1 v2 v3 v4 v5 : Value} (hz : w.heap.size <= w1.heap.size) (l0 : b0 < w.heap.size) (l1 : b1 < w.heap.size) (l2 : b2 < w.heap.size) (l3 : b3 < w.heap.size) (l4 : b4 < w.heap.size) (l5 : b5 < w.heap.size) (h : (w1.alloc p).cell? ⟨b0, o0, none⟩ = some v0 /\ (w1.alloc p).cell? ⟨b1, o1, none⟩ = some v1 /\ (w1.alloc p).cell? ⟨b2, o2, none⟩ = some v2 /\ (w1.alloc p).cell? ⟨b3, o3, none⟩ = some v3 /\ (w1.alloc p).cell? ⟨b4, o4, none⟩ = some v4 /\ (w1.alloc p).cell? ⟨b5, o5, none⟩ = some v5 /\ w.heap.size <= (w1.alloc p).heap.size /\ Below w.heap.size w (w1.alloc p)) : (w1.alloc p').cell? ⟨b0, o0, none⟩ = some v0 /\ (w1.alloc p').cell? ⟨b1, o1, none⟩ = some v1 /\ (w1.alloc p').cell? ⟨b2, o2, none⟩ = some v2 /\ (w1.alloc p').cell? ⟨b3, o3, none⟩ = some v3 /\ (w1.alloc p').cell? ⟨b4, o4, none⟩ = some v4 /\ (w1.alloc p').cell? ⟨b5, o5, none⟩ = some v5 /\ w.heap.size <= (w1.alloc p').heap.size /\ Below w.heap.size w (w1.alloc p') := by
  obtain ⟨h0, h1, h2, h3, h4, h5, hs, hB⟩ := h
  have e : ∀ b o, b < w.heap.size -> (w1.alloc p').cell? ⟨b, o, none⟩ = (w1.alloc p).cell? ⟨b, o, none⟩ := fun b o hb =>
    (World.cell?_of_block (w := w1) (a := ⟨b, o, none⟩) (Below.heap_alloc w1 p' b (by omega))).trans (World.cell?_of_block (w := w1) (a := ⟨b, o, none⟩) (Below.heap_alloc w1 p b (by omega))).symm
  exact ⟨(e _ _ l0).trans h0, (e _ _ l1).trans h1, (e _ _ l2).trans h2, (e _ _ l3).trans h3, (e _ _ l4).trans h4, (e _ _ l5).trans h5, by simp; omega, ⟨hB.os, hB.tape, hB.output, by simp; omega, fun k hk => (Below.heap_alloc w1 p' k (by omega)).trans ((Below.heap_alloc w1 p k (by omega)).symm.trans (hB.block k hk))⟩⟩
theorem rr14_swap {w w1 : World} {p p' : Obj} {b0 b1 b2 b3 b4 b5 b6 b7 b8 b9 b10 b11 b12 b13 o0 o1 o2 o3 o4 o5 o6 o7 o8 o9 o10 o11 o12 o13 : Nat} {v0 v1 v2 v3 v4 v5 v6 v7 v8 v9 v10 v11 v12 v13 : Value} (hz : w.heap.size <= w1.heap.size) (l0 : b0 < w.heap.size) (l1 : b1 < w.heap.size) (l2 : b2 < w.heap.size) (l3 : b3 < w.heap.size) (l4 : b4 < w.heap.size) (l5 : b5 < w.heap.size) (l6 : b6 < w.heap.size) (l7 : b7 < w.heap.size) (l8 : b8 < w.heap.size) (l9 : b9 < w.heap.size) (l10 : b10 < w.heap.size) (l11 : b11 < w.heap.size) (l12 : b12 < w.heap.size) (l13 : b13 < w.heap.size) (h : (w1.alloc p).cell? ⟨b0, o0, none⟩ = some v0 /\ (w1.alloc p).cell? ⟨b1, o1, none⟩ = some v1 /\ (w1.alloc p).cell? ⟨b2, o2, none⟩ = some v2 /\ (w1.alloc p).cell? ⟨b3, o3, none⟩ = some v3 /\ (w1.alloc p).cell? ⟨b4, o4, none⟩ = some v4 /\ (w1.alloc p).cell? ⟨b5, o5, none⟩ = some v5 /\ (w1.alloc p).cell? ⟨b6, o6, none⟩ = some v6 /\ (w1.alloc p).cell? ⟨b7, o7, none⟩ = some v7 /\ (w1.alloc p).cell? ⟨b8, o8, none⟩ = some v8 /\ (w1.alloc p).cell? ⟨b9, o9, none⟩ = some v9 /\ (w1.alloc p).cell? ⟨b10, o10, none⟩ = some v10 /\ (w1.alloc p).cell? ⟨b11, o11, none⟩ = some v11 /\ (w1.alloc p).cell? ⟨b12, o12, none⟩ = some v12 /\ (w1.alloc p).cell? ⟨b13, o13, none⟩ = some v13 /\ w.heap.size <= (w1.alloc p).heap.size /\ Below w.heap.size w (w1.alloc p)) : (w1.alloc p').cell? ⟨b0, o0, none⟩ = some v0 /\ (w1.alloc p').cell? ⟨b1, o1, none⟩ = some v1 /\ (w1.alloc p').cell? ⟨b2, o2, none⟩ = some v2 /\ (w1.alloc p').cell? ⟨b3, o3, none⟩ = some v3 /\ (w1.alloc p').cell? ⟨b4, o4, none⟩ = some v4 /\ (w1.alloc p').cell? ⟨b5, o5, none⟩ = some v5 /\ (w1.alloc p').cell? ⟨b6, o6, none⟩ = some v6 /\ (w1.alloc p').cell? ⟨b7, o7, none⟩ = some v7 /\ (w1.alloc p').cell? ⟨b8, o8, none⟩ = some v8 /\ (w1.alloc p').cell? ⟨b9, o9, none⟩ = some v9 /\ (w1.alloc p').cell? ⟨b10, o10, none⟩ = some v10 /\ (w1.alloc p').cell? ⟨b11, o11, none⟩ = some v11 /\ (w1.alloc p').cell? ⟨b12, o12, none⟩ = some v12 /\ (w1.alloc p').cell? ⟨b13, o13, none⟩ = some v13 /\ w.heap.size <= (w1.alloc p').heap.size /\ Below w.heap.size w (w1.alloc p') := by
  obtain ⟨h0, h1, h2, h3, h4, h5, h6, h7, h8, h9, h10, h11, h12, h13, hs, hB⟩ := h
  have e : ∀ b o, b < w.heap.size -> (w1.alloc p').cell? ⟨b, o, none⟩ = (w1.alloc p).cell? ⟨b, o, none⟩ := fun b o hb =>
    (World.cell?_of_block (w := w1) (a := ⟨b, o, none⟩) (Below.heap_alloc w1 p' b (by omega))).trans (World.cell?_of_block (w := w1) (a := ⟨b, o, none⟩) (Below.heap_alloc w1 p b (by omega))).symm
  exact ⟨(e _ _ l0).trans h0, (e _ _ l1).trans h1, (e _ _ l2).trans h2, (e _ _ l3).trans h3, (e _ _ l4).trans h4, (e _ _ l5).trans h5, (e _ _ l6).trans h6, (e _ _ l7).trans h7, (e _ _ l8).trans h8, (e _ _ l9).trans h9, (e _ _ l10).trans h10, (e _ _ l11).trans h11, (e _ _ l12).trans h12, (e _ _ l13).trans h13, by simp; omega, ⟨hB.os, hB.tape, hB.output, by simp; omega, fun k hk => (Below.heap_alloc w1 p' k (by omega)).trans ((Below.heap_alloc w1 p k (by omega)).symm.trans (hB.block k hk))⟩⟩
theorem rr6_set {w w1 : World} {X : Nat} {v : Value} {b0 b1 b2 b3 b4 b5 o0 o1 o2 o3 o4 o5 : Nat} {v0 v1 v2 v3 v4 v5 : Value} (lX : w.heap.size <= X) (l0 : b0 < w.heap.size) (l1 : b1 < w.heap.size) (l2 : b2 < w.heap.size) (l3 : b3 < w.heap.size) (l4 : b4 < w.heap.size) (l5 : b5 < w.heap.size) (h : w1.cell? ⟨b0, o0, none⟩ = some v0 /\ w1.cell? ⟨b1, o1, none⟩ = some v1 /\ w1.cell? ⟨b2, o2, none⟩ = some v2 /\ w1.cell? ⟨b3, o3, none⟩ = some v3 /\ w1.cell? ⟨b4, o4, none⟩ = some v4 /\ w1.cell? ⟨b5, o5, none⟩ = some v5 /\ w.heap.size <= w1.heap.size /\ Below w.heap.size w w1) : (w1.setCell ⟨X, 0, none⟩ v).cell? ⟨b0, o0, none⟩ = some v0 /\ (w1.setCell ⟨X, 0, none⟩ v).cell? ⟨b1, o1, none⟩ = some v1 /\ (w1.setCell ⟨X, 0, none⟩ v).cell? ⟨b2, o2, none⟩ = some v2 /\ (w1.setCell ⟨X, 0, none⟩ v).cell? ⟨b3, o3, none⟩ = some v3 /\ (w1.setCell ⟨X, 0, none⟩ v).cell? ⟨b4, o4, none⟩ = some v4 /\ (w1.setCell ⟨X, 0, none⟩ v).cell? ⟨b5, o5, none⟩ = some v5 /\ w.heap.size <= (w1.setCell ⟨X, 0, none⟩ v).heap.size /\ Below w.heap.size w (w1.setCell ⟨X, 0, none⟩ v) := by
  obtain ⟨h0, h1, h2, h3, h4, h5, hs, hB⟩ := h
  exact ⟨by rw [World.cell?_setCell_other _ _ _ _ (by simp <;> omega)]; exact h0, by rw [World.cell?_setCell_other _ _ _ _ (by simp <;> omega)]; exact h1, by rw [World.cell?_setCell_other _ _ _ _ (by simp <;> omega)]; exact h2, by rw [World.cell?_setCell_other _ _ _ _ (by simp <;> omega)]; exact h3, by rw [World.cell?_setCell_other _ _ _ _ (by simp <;> omega)]; exact h4, by rw [World.cell?_setCell_other _ _ _ _ (by simp <;> omega)]; exact h5, by simp [World.setCell]; exact hs, hB.setCell lX _⟩
theorem rr14_set {w w1 : World} {X : Nat} {v : Value} {b0 b1 b2 b3 b4 b5 b6 b7 b8 b9 b10 b11 b12 b13 o0 o1 o2 o3 o4 o5 o6 o7 o8 o9 o10 o11 o12 o13 : Nat} {v0 v1 v2 v3 v4 v5 v6 v7 v8 v9 v10 v11 v12 v13 : Value} (lX : w.heap.size <= X) (l0 : b0 < w.heap.size) (l1 : b1 < w.heap.size) (l2 : b2 < w.heap.size) (l3 : b3 < w.heap.size) (l4 : b4 < w.heap.size) (l5 : b5 < w.heap.size) (l6 : b6 < w.heap.size) (l7 : b7 < w.heap.size) (l8 : b8 < w.heap.size) (l9 : b9 < w.heap.size) (l10 : b10 < w.heap.size) (l11 : b11 < w.heap.size) (l12 : b12 < w.heap.size) (l13 : b13 < w.heap.size) (h : w1.cell? ⟨b0, o0, none⟩ = some v0 /\ w1.cell? ⟨b1, o1, none⟩ = some v1 /\ w1.cell? ⟨b2, o2, none⟩ = some v2 /\ w1.cell? ⟨b3, o3, none⟩ = some v3 /\ w1.cell? ⟨b4, o4, none⟩ = some v4 /\ w1.cell? ⟨b5, o5, none⟩ = some v5 /\ w1.cell? ⟨b6, o6, none⟩ = some v6 /\ w1.cell? ⟨b7, o7, none⟩ = some v7 /\ w1.cell? ⟨b8, o8, none⟩ = some v8 /\ w1.cell? ⟨b9, o9, none⟩ = some v9 /\ w1.cell? ⟨b10, o10, none⟩ = some v10 /\ w1.cell? ⟨b11, o11, none⟩ = some v11 /\ w1.cell? ⟨b12, o12, none⟩ = some v12 /\ w1.cell? ⟨b13, o13, none⟩ = some v13 /\ w.heap.size <= w1.heap.size /\ Below w.heap.size w w1) : (w1.setCell ⟨X, 0, none⟩ v).cell? ⟨b0, o0, none⟩ = some v0 /\ (w1.setCell ⟨X, 0, none⟩ v).cell? ⟨b1, o1, none⟩ = some v1 /\ (w1.setCell ⟨X, 0, none⟩ v).cell? ⟨b2, o2, none⟩ = some v2 /\ (w1.setCell ⟨X, 0, none⟩ v).cell? ⟨b3, o3, none⟩ = some v3 /\ (w1.setCell ⟨X, 0, none⟩ v).cell? ⟨b4, o4, none⟩ = some v4 /\ (w1.setCell ⟨X, 0, none⟩ v).cell? ⟨b5, o5, none⟩ = some v5 /\ (w1.setCell ⟨X, 0, none⟩ v).cell? ⟨b6, o6, none⟩ = some v6 /\ (w1.setCell ⟨X, 0, none⟩ v).cell? ⟨b7, o7, none⟩ = some v7 /\ (w1.setCell ⟨X, 0, none⟩ v).cell? ⟨b8, o8, none⟩ = some v8 /\ (w1.setCell ⟨X, 0, none⟩ v).cell? ⟨b9, o9, none⟩ = some v9 /\ (w1.setCell ⟨X, 0, none⟩ v).cell? ⟨b10, o10, none⟩ = some v10 /\ (w1.setCell ⟨X, 0, none⟩ v).cell? ⟨b11, o11, none⟩ = some v11 /\ (w1.setCell ⟨X, 0, none⟩ v).cell? ⟨b12, o12, none⟩ = some v12 /\ (w1.setCell ⟨X, 0, none⟩ v).cell? ⟨b13, o13, none⟩ = some v13 /\ w.heap.size <= (w1.setCell ⟨X, 0, none⟩ v).heap.size /\ Below w.heap.size w (w1.setCell ⟨X, 0, none⟩ v) := by
  obtain ⟨h0, h1, h2, h3, h4, h5, h6, h7, h8, h9, h10, h11, h12, h13, hs, hB⟩ := h
  exact ⟨by rw [World.cell?_setCell_other _ _ _ _ (by simp <;> omega)]; exact h0, by rw [World.cell?_setCell_other _ _ _ _ (by simp <;> omega)]; exact h1, by rw [World.cell?_setCell_other _ _ _ _ (by simp <;> omega)]; exact h2, by rw [World.cell?_setCell_other _ _ _ _ (by simp <;> omega)]; exact h3, by rw [World.cell?_setCell_other _ _ _ _ (by simp <;> omega)]; exact h4, by rw [World.cell?_setCell_other _ _ _ _ (by simp <;> omega)]; exact h5, by rw [World.cell?_setCell_other _ _ _ _ (by simp <;> omega)]; exact h6, by rw [World.cell?_setCell_other _ _ _ _ (by simp <;> omega)]; exact h7, by rw [World.cell?_setCell_other _ _ _ _ (by simp <;> omega)]; exact h8, by rw [World.cell?_setCell_other _ _ _ _ (by simp <;> omega)]; exact h9, by rw [World.cell?_setCell_other _ _ _ _ (by simp <;> omega)]; exact h10, by rw [World.cell?_setCell_other _ _ _ _ (by simp <;> omega)]; exact h11, by rw [World.cell?_setCell_other _ _ _ _ (by simp <;> omega)]; exact h12, by rw [World.cell?_setCell_other _ _ _ _ (by simp <;> omega)]; exact h13, by simp [World.setCell]; exact hs, hB.setCell lX _⟩
def DrawnDb (w2 wx : World) (DR : List Ls) (X : Nat) : Prop := ∃ a c, wx.cell? ⟨X, 0, none⟩ = some (.slice a DR.length c) /\ w2.heap.size <= X /\ X < wx.heap.size /\ DRow wx w2.heap.size wx.heap.size (.slice a DR.length c) DR
theorem drawnA {w2 w5 : World} {DR : List Ls} {a : Option Addr} {c : Nat} {T : TypeId} (hz : w2.heap.size <= w5.heap.size) (r : DRow w5 w2.heap.size w5.heap.size (.slice a DR.length c) DR) : DrawnDb w2 (w5.alloc (.cells #[.slice a DR.length c] T)) DR w5.heap.size :=
  ⟨a, c, by rw [new_at rfl]; rfl, hz, by simp, (r.below ((Below.refl _ _).alloc (Nat.le_refl _) _) (Nat.le_refl _)).wide (Nat.le_refl _) (by simp)⟩
theorem drawnB {w2 w5 : World} {DR : List Ls} {a : Option Addr} {c X : Nat} {u : Value} (hz : w2.heap.size <= X) (hX : X < w5.heap.size) (qc : w5.cell? ⟨X, 0, none⟩ = some u) (r : DRow w5 (X + 1) w5.heap.size (.slice a DR.length c) DR) : DrawnDb w2 (w5.setCell ⟨X, 0, none⟩ (.slice a DR.length c)) DR X :=
  ⟨a, c, World.cell?_setCell_same' _ _ _ (by rw [qc]; rfl), hz, by simp [World.setCell]; exact hX, (r.setCell (.inl (by simp)) _).wide (by omega) (by simp [World.setCell])⟩
set_option maxRecDepth 100000 in
set_option maxHeartbeats 8000000 in
theorem lawExactInstall_fit (v0 : Value) (D0 : List Ls) (o1 s1 g1 : Int) (u1 v1 : Value) (n1 m1 : Nat) (Y1 Z1 : Nat -> Int) (w : World) (hA0 : DArg w v0 D0) (hA1 : LArg w u1 v1 n1 m1 Y1 Z1) (hn : dtot D0 + n1 + m1 <= 1048576) (DR : List Ls) (r1 : Int) (hDR : mtot DR <= 5000000)
    (hs : ∀ (lo0 hi0 : Nat) (v0 : Value) (lo1 hi1 : Nat) (u1 v1 : Value) (w : World), DRow w lo0 hi0 v0 D0 -> hi0 <= w.heap.size -> LRow w lo1 hi1 u1 v1 n1 m1 (zs Y1 n1 2) (zs Z1 m1 3) -> hi1 <= w.heap.size -> Calls Try.prog 29 #[.agg #[v0], .agg #[.int .i64 o1, .int .i64 s1, .int .i64 g1, u1, v1]] w fun e w' => ∃ rv, e = .returned (.tuple #[.agg #[rv], .int .i64 r1]) /\ DRow w' w.heap.size w'.heap.size rv DR /\ Below w.heap.size w w')
    (hi : ∀ (lo0 hi0 : Nat) (v0 : Value) (lo1 hi1 : Nat) (u1 v1 : Value) (w : World), DRow w lo0 hi0 v0 D0 -> hi0 <= w.heap.size -> LRow w lo1 hi1 u1 v1 n1 m1 (zs Y1 n1 2) (zs Z1 m1 3) -> hi1 <= w.heap.size -> Calls Try.prog 31 #[.agg #[v0], .agg #[.int .i64 o1, .int .i64 s1, .int .i64 g1, u1, v1]] w fun e w' => ∃ rv, e = .returned (.tuple #[.agg #[rv], .int .i64 r1]) /\ DRow w' w.heap.size w'.heap.size rv DR /\ Below w.heap.size w w') :
    Calls Try.prog 6 #[.agg #[v0], .agg #[.int .i64 o1, .int .i64 s1, .int .i64 g1, u1, v1]] w fun e w' => e = .returned (.bool true) /\ Below w.heap.size w w' := by
  have HA0 := Lib.hid hA0
  obtain ⟨ad0, cp0, rfl⟩ := hA0.slice
  clear hA0
  have hx1 := hA1.1.2.1
  have hy1 := hA1.2.2.1
  have HA1 := Lib.hid hA1
  obtain ⟨ad1, cp1, rfl⟩ := hA1.1.slice
  obtain ⟨ae1, cq1, rfl⟩ := hA1.2.slice
  clear hA1
  have Hs := Lib.hid hs
  have Hi := Lib.hid hi
  clear hs hi
  obtain ⟨KG, hKG⟩ : ∃ K : Int, K = 1 + ((mtot DR : Nat) : Int) := ⟨_, rfl⟩
  have hKG0 : 0 <= KG := by omega
  have hKG1 : ¬ (KG < 0) := by omega
  have HKG := Lib.hid hKG
  clear hKG
  obtain ⟨KX0, hKX0⟩ : ∃ K : Int, K = 1 + ((mtot D0 : Nat) : Int) := ⟨_, rfl⟩
  have hKX00 : 0 <= KX0 := by omega
  have hKX01 : ¬ (KX0 < 0) := by omega
  have HKX0 := Lib.hid hKX0
  clear hKX0
  have hmt0 := mtot_le D0
  obtain ⟨KX1, hKX1⟩ : ∃ K : Int, K = 1 + ((n1 * 2 + m1 * 3 : Nat) : Int) := ⟨_, rfl⟩
  have hKX10 : 0 <= KX1 := by omega
  have hKX11 : ¬ (KX1 < 0) := by omega
  have HKX1 := Lib.hid hKX1
  clear hKX1
  have hKX0b : KX0 <= 100000000 := by have := HKX0.out; omega
  obtain ⟨KY1, hKY1⟩ : ∃ K : Int, K = KX0 + ((n1 * 2 + m1 * 3 : Nat) : Int) := ⟨_, rfl⟩
  have hKY10 : 0 <= KY1 := by omega
  have hKY11 : ¬ (KY1 < 0) := by omega
  have HKY1 := Lib.hid hKY1
  clear hKY1
  have hneg0 : ¬ ((1048576 : Int) - (dtot D0 : Int) < 0) := by omega
  have H1 := fun w => szLsa_any o1 s1 g1 ad1 ae1 n1 cp1 m1 cq1 (1048576 - (dtot D0 : Int)) w hx1 hy1 (by omega) (by omega)
  have hneg1 : ¬ ((1048576 - (dtot D0 : Int) : Int) - (n1 : Int) - (m1 : Int) < 0) := by omega
  simp only [if_neg hneg1] at H1
  go_enter Try.func6, Try.ntmps6
  go_wp2_with fail
  go_at_call 18
  refine (szDb_fit _ D0 (1048576) _ (HA0.out.below (Below.trans (Below.refl _ _) (by go_grown))) (by omega) (by omega)).mono ?_
  rintro e w1 ⟨rfl, hb1⟩
  have sz1 : w.heap.size + 2 <= w1.heap.size := by have hh := hb1.size; simp at hh; omega
  have st1 : Below w.heap.size w w1 := Below.trans (by go_grown) (hb1.mono (by simp; omega))
  have c1_0_0 : w1.cell? ⟨w.heap.size, 0, none⟩ = some (.slice ad0 D0.length cp0) := by rw [(bcell hb1).1 _ _ (by simp <;> omega), old_box (by simp), new_at (by simp)]; rfl
  have c1_1_0 : w1.cell? ⟨w.heap.size + 1, 0, none⟩ = some (.int .i64 o1) := by rw [(bcell hb1).1 _ _ (by simp), new_at (by simp)]; rfl
  have c1_1_1 : w1.cell? ⟨w.heap.size + 1, 1, none⟩ = some (.int .i64 s1) := by rw [(bcell hb1).1 _ _ (by simp), new_at (by simp)]; rfl
  have c1_1_2 : w1.cell? ⟨w.heap.size + 1, 2, none⟩ = some (.int .i64 g1) := by rw [(bcell hb1).1 _ _ (by simp), new_at (by simp)]; rfl
  have c1_1_3 : w1.cell? ⟨w.heap.size + 1, 3, none⟩ = some (.slice ad1 n1 cp1) := by rw [(bcell hb1).1 _ _ (by simp), new_at (by simp)]; rfl
  have c1_1_4 : w1.cell? ⟨w.heap.size + 1, 4, none⟩ = some (.slice ae1 m1 cq1) := by rw [(bcell hb1).1 _ _ (by simp), new_at (by simp)]; rfl
  have B1 : Hid (Below w.heap.size w w1) := st1
  have d1_0 : w.heap.size < w1.heap.size := by omega
  have e1_0 : w.heap.size ≠ w1.heap.size := by omega
  have d1_1 : w.heap.size + 1 < w1.heap.size := by omega
  have e1_1 : w.heap.size + 1 ≠ w1.heap.size := by omega
  clear st1 hb1
  go_wp2_with fail
  go_at_call 28
  refine (H1 _).mono ?_
  rintro e w2 ⟨rfl, hb2⟩
  have sz2 : w1.heap.size <= w2.heap.size := hb2.size
  have st2 : Below w1.heap.size w1 w2 := hb2
  have c2_0_0 : w2.cell? ⟨w.heap.size, 0, none⟩ = some (.slice ad0 D0.length cp0) := by rw [(bcell st2).1 _ _ (by omega)]; exact c1_0_0
  have c2_1_0 : w2.cell? ⟨w.heap.size + 1, 0, none⟩ = some (.int .i64 o1) := by rw [(bcell st2).1 _ _ (by omega)]; exact c1_1_0
  have c2_1_1 : w2.cell? ⟨w.heap.size + 1, 1, none⟩ = some (.int .i64 s1) := by rw [(bcell st2).1 _ _ (by omega)]; exact c1_1_1
  have c2_1_2 : w2.cell? ⟨w.heap.size + 1, 2, none⟩ = some (.int .i64 g1) := by rw [(bcell st2).1 _ _ (by omega)]; exact c1_1_2
  have c2_1_3 : w2.cell? ⟨w.heap.size + 1, 3, none⟩ = some (.slice ad1 n1 cp1) := by rw [(bcell st2).1 _ _ (by omega)]; exact c1_1_3
  have c2_1_4 : w2.cell? ⟨w.heap.size + 1, 4, none⟩ = some (.slice ae1 m1 cq1) := by rw [(bcell st2).1 _ _ (by omega)]; exact c1_1_4
  have B2 : Hid (Below w.heap.size w w2) := B1.out.trans (st2.mono (by omega))
  have d2_0 : w.heap.size < w2.heap.size := by omega
  have e2_0 : w.heap.size ≠ w2.heap.size := by omega
  have d2_1 : w.heap.size + 1 < w2.heap.size := by omega
  have e2_1 : w.heap.size + 1 ≠ w2.heap.size := by omega
  clear d1_0 e1_0 d1_1 e1_1 c1_0_0 c1_1_0 c1_1_1 c1_1_2 c1_1_3 c1_1_4 B1 st2 hb2
  have HS0 : w2.cell? ⟨w.heap.size, 0, none⟩ = some (.slice ad0 D0.length cp0) /\ w2.cell? ⟨w.heap.size + 1, 0, none⟩ = some (.int .i64 o1) /\ w2.cell? ⟨w.heap.size + 1, 1, none⟩ = some (.int .i64 s1) /\ w2.cell? ⟨w.heap.size + 1, 2, none⟩ = some (.int .i64 g1) /\ w2.cell? ⟨w.heap.size + 1, 3, none⟩ = some (.slice ad1 n1 cp1) /\ w2.cell? ⟨w.heap.size + 1, 4, none⟩ = some (.slice ae1 m1 cq1) /\ w2.heap.size <= w2.heap.size /\ Below w2.heap.size w2 w2 := ⟨c2_0_0, c2_1_0, c2_1_1, c2_1_2, c2_1_3, c2_1_4, Nat.le_refl _, Below.refl _ _⟩
  go_upto_region 9 with (fail)
  go_cut [6, 7] (fun sp sc wx => ∃ X : Nat, sp = .pointer (some ⟨X, 0, none⟩) /\ sc = .int .i64 r1 /\ Hid (DrawnDb w2 wx DR X) /\ Hid (wx.cell? ⟨w.heap.size, 0, none⟩ = some (.slice ad0 D0.length cp0) /\ wx.cell? ⟨w.heap.size + 1, 0, none⟩ = some (.int .i64 o1) /\ wx.cell? ⟨w.heap.size + 1, 1, none⟩ = some (.int .i64 s1) /\ wx.cell? ⟨w.heap.size + 1, 2, none⟩ = some (.int .i64 g1) /\ wx.cell? ⟨w.heap.size + 1, 3, none⟩ = some (.slice ad1 n1 cp1) /\ wx.cell? ⟨w.heap.size + 1, 4, none⟩ = some (.slice ae1 m1 cq1) /\ w2.heap.size <= wx.heap.size /\ Below w2.heap.size w2 wx))
  case first =>
    go_wp2_with fail
    have tk0 : True := trivial
    have tk1 : True := trivial
    go_region_held3 (fun w' => w'.cell? ⟨w.heap.size, 0, none⟩ = some (.slice ad0 D0.length cp0) /\ w'.cell? ⟨w.heap.size + 1, 0, none⟩ = some (.int .i64 o1) /\ w'.cell? ⟨w.heap.size + 1, 1, none⟩ = some (.int .i64 s1) /\ w'.cell? ⟨w.heap.size + 1, 2, none⟩ = some (.int .i64 g1) /\ w'.cell? ⟨w.heap.size + 1, 3, none⟩ = some (.slice ad1 n1 cp1) /\ w'.cell? ⟨w.heap.size + 1, 4, none⟩ = some (.slice ae1 m1 cq1) /\ w2.heap.size <= w'.heap.size /\ Below w2.heap.size w2 w') (first | assumption | exact rr6_start c2_0_0 c2_1_0 c2_1_1 c2_1_2 c2_1_3 c2_1_4 | exact rr6_drew (by assumption) | exact rr6_drew (rr6_box (by omega) (by omega) (by omega) (by omega) (by omega) (by omega) HS0) | exact rr6_set (by assumption) (by omega) (by omega) (by omega) (by omega) (by omega) (by omega) (by assumption) | exact rr6_swap (by assumption) (by omega) (by omega) (by omega) (by omega) (by omega) (by omega) (by assumption) | exact rr6_keep (by omega) (by omega) (by omega) (by omega) (by omega) (by omega) (by assumption) (by assumption) | exact rr6_box (by omega) (by omega) (by omega) (by omega) (by omega) (by omega) (by assumption) | fail)
      (first | (go_at_call 19; clear tk0; refine (toDb_any _ D0 _ (HA0.out.below (B2.out.trans ((rr6_out (by assumption)).2.mono (by omega)))) (by omega)).mono ?_; rintro e w3 ⟨xz0, rfl, ry0, hb⟩; have hz3 : w2.heap.size <= w3.heap.size := (by have hh := hb.size; first | omega | (simp at hh; omega)); have ql : w2.heap.size <= w2.heap.size := (by omega); have qc : w3.cell? ⟨w2.heap.size, 0, none⟩ = some (.slice none 0 0) := (((bcell hb).1 _ 0 (by simp)).trans (by first | (rw [new_at rfl]; rfl) | simp [go_sem])); have qf : w3.frozen? ⟨w2.heap.size, 0, none⟩ = false := (((bcell hb).2 _ 0 (by simp)).trans (by first | (rw [new_frz rfl]) | simp [go_sem])); have qz : w2.heap.size < w3.heap.size := (by have hh := hb.size; first | omega | (simp at hh; omega))) | (go_at_call 19; clear tk0; refine (toDb_any _ D0 _ (HA0.out.below (B2.out.trans ((rr6_out (by assumption)).2.mono (by omega)))) (by omega)).mono ?_; rintro e w3 ⟨xz0, rfl, ry0, hb⟩; have hz3 : w2.heap.size <= w3.heap.size := (by have hh := hb.size; first | omega | (simp at hh; omega))) | (go_at_call 30; clear tk1; refine (toLsa_any o1 s1 g1 _ _ n1 m1 Y1 Z1 _ (HA1.out.below (B2.out.trans ((rr6_out (by assumption)).2.mono (by omega)))) (by omega) (by omega)).mono ?_; rintro e w4 ⟨xz1, yz1, rfl, ry1, hb⟩; have hz4 : w2.heap.size <= w4.heap.size := (by have hh := hb.size; first | omega | (simp at hh; omega)); have hy4 : w3.heap.size <= w4.heap.size := (by have hh := hb.size; first | omega | (simp at hh; omega)); have ql := ql; have qc := ((bcell hb).1 _ 0 qz).trans qc; have qf := ((bcell hb).2 _ 0 qz).trans qf; have qz := Nat.lt_of_lt_of_le qz hb.size; have ry0 := ry0.below hb (by first | exact Nat.le_refl _ | omega)) | (go_at_call 30; clear tk1; refine (toLsa_any o1 s1 g1 _ _ n1 m1 Y1 Z1 _ (HA1.out.below (B2.out.trans ((rr6_out (by assumption)).2.mono (by omega)))) (by omega) (by omega)).mono ?_; rintro e w4 ⟨xz1, yz1, rfl, ry1, hb⟩; have hz4 : w2.heap.size <= w4.heap.size := (by have hh := hb.size; first | omega | (simp at hh; omega)); have hy4 : w3.heap.size <= w4.heap.size := (by have hh := hb.size; first | omega | (simp at hh; omega)); have ql : w2.heap.size <= w3.heap.size := (by omega); have qc : w4.cell? ⟨w3.heap.size, 0, none⟩ = some (.slice none 0 0) := (((bcell hb).1 _ 0 (by simp)).trans (by first | (rw [new_at rfl]; rfl) | simp [go_sem])); have qf : w4.frozen? ⟨w3.heap.size, 0, none⟩ = false := (((bcell hb).2 _ 0 (by simp)).trans (by first | (rw [new_frz rfl]) | simp [go_sem])); have qz : w3.heap.size < w4.heap.size := (by have hh := hb.size; first | omega | (simp at hh; omega)); have ry0 := ry0.below (Below.trans ((Below.refl _ _).alloc (Nat.le_refl _) _) (hb.mono (by simp))) (by first | exact Nat.le_refl _ | omega)) | (go_at_call 30; clear tk1; refine (toLsa_any o1 s1 g1 _ _ n1 m1 Y1 Z1 _ (HA1.out.below (B2.out.trans ((rr6_out (by assumption)).2.mono (by omega)))) (by omega) (by omega)).mono ?_; rintro e w4 ⟨xz1, yz1, rfl, ry1, hb⟩; have hz4 : w2.heap.size <= w4.heap.size := (by have hh := hb.size; first | omega | (simp at hh; omega)); have hy4 : w3.heap.size <= w4.heap.size := (by have hh := hb.size; first | omega | (simp at hh; omega)); have ry0 := ry0.below hb (by first | exact Nat.le_refl _ | omega)) | (go_at_call 29; have q0 := qz; refine (Hs.out _ _ _ _ _ _ _ _ ry0 (by first | exact Nat.le_refl _ | omega) ry1 (by first | exact Nat.le_refl _ | omega)).mono ?_; rintro e w5 ⟨RWv, rfl, ryW0, hb⟩; have ryW := ryW0.wide (Nat.succ_le_of_lt q0) (Nat.le_refl _); clear ryW0; have ql := ql; have qc := ((bcell hb).1 _ 0 qz).trans qc; have qf := ((bcell hb).2 _ 0 qz).trans qf; have qz := Nat.lt_of_lt_of_le qz hb.size; obtain ⟨RWva, RWvc, rfl⟩ := ryW.slice) | (go_at_call 29; refine (Hs.out _ _ _ _ _ _ _ _ (ry0.below ((Below.refl _ _).alloc (Nat.le_refl _) _) (by first | exact Nat.le_refl _ | omega)) (by simp <;> omega) (ry1.below ((Below.refl _ _).alloc (Nat.le_refl _) _) (by first | exact Nat.le_refl _ | omega)) (by simp <;> omega)).mono ?_; rintro e w5 ⟨RWv, rfl, ryW0, hb⟩; have ql : w2.heap.size <= w4.heap.size := (by omega); have qc : w5.cell? ⟨w4.heap.size, 0, none⟩ = some (.slice none 0 0) := (((bcell hb).1 _ 0 (by simp)).trans (by first | (rw [new_at rfl]; rfl) | simp [go_sem])); have qf : w5.frozen? ⟨w4.heap.size, 0, none⟩ = false := (((bcell hb).2 _ 0 (by simp)).trans (by first | (rw [new_frz rfl]) | simp [go_sem])); have qz : w4.heap.size < w5.heap.size := (by have hh := hb.size; first | omega | (simp at hh; omega)); have ryW : DRow w5 (w4.heap.size + 1) w5.heap.size RWv DR := ryW0.wide (by simp) (Nat.le_refl _); clear ryW0; obtain ⟨RWva, RWvc, rfl⟩ := ryW.slice) | (go_at_call 29; refine (Hs.out _ _ _ _ _ _ _ _ ry0 (by first | exact Nat.le_refl _ | omega) ry1 (by first | exact Nat.le_refl _ | omega)).mono ?_; rintro e w5 ⟨RWv, rfl, ryW0, hb⟩; have ryW := ryW0.wide (lo' := w2.heap.size) (by have hq := rr6_out (by assumption); omega) (Nat.le_refl _); clear ryW0; have hz5 : w2.heap.size <= w5.heap.size := Nat.le_trans hz4 hb.size; obtain ⟨RWva, RWvc, rfl⟩ := ryW.slice) | fail)
    all_goals go_wp2_with fail
    all_goals go_meet
    all_goals first
      | exact ⟨_, rfl, rfl, Lib.hid (drawnA hz5 ryW), Lib.hid (by assumption)⟩
      | exact ⟨_, rfl, rfl, Lib.hid (drawnB ql qz qc ryW), Lib.hid (by assumption)⟩
  case rest =>
    clear HS0
    obtain ⟨XRW, rfl, rfl, hD, hS⟩ := hcut
    obtain ⟨w5, rfl⟩ : ∃ x, x = wc := ⟨_, rfl⟩
    obtain ⟨RWva, RWvc, xcRW, xbRW, xlRW, ryW⟩ := hD.out
    have hb5 : Below w2.heap.size w2 w5 := (rr6_out hS.out).2
    clear hD hS
    have sz5 : w2.heap.size <= w5.heap.size := hb5.size
    have st5 : Below w2.heap.size w2 w5 := hb5
    have c5_0_0 : w5.cell? ⟨w.heap.size, 0, none⟩ = some (.slice ad0 D0.length cp0) := by rw [(bcell st5).1 _ _ (by omega)]; exact c2_0_0
    have c5_1_0 : w5.cell? ⟨w.heap.size + 1, 0, none⟩ = some (.int .i64 o1) := by rw [(bcell st5).1 _ _ (by omega)]; exact c2_1_0
    have c5_1_1 : w5.cell? ⟨w.heap.size + 1, 1, none⟩ = some (.int .i64 s1) := by rw [(bcell st5).1 _ _ (by omega)]; exact c2_1_1
    have c5_1_2 : w5.cell? ⟨w.heap.size + 1, 2, none⟩ = some (.int .i64 g1) := by rw [(bcell st5).1 _ _ (by omega)]; exact c2_1_2
    have c5_1_3 : w5.cell? ⟨w.heap.size + 1, 3, none⟩ = some (.slice ad1 n1 cp1) := by rw [(bcell st5).1 _ _ (by omega)]; exact c2_1_3
    have c5_1_4 : w5.cell? ⟨w.heap.size + 1, 4, none⟩ = some (.slice ae1 m1 cq1) := by rw [(bcell st5).1 _ _ (by omega)]; exact c2_1_4
    have B5 : Hid (Below w.heap.size w w5) := B2.out.trans (st5.mono (by omega))
    have R5_RW : Hid (DRow w5 (w2.heap.size) (w5.heap.size) (.slice RWva DR.length RWvc) DR) := Lib.hid (ryW)
    have d5_0 : w.heap.size < w5.heap.size := by omega
    have e5_0 : w.heap.size ≠ w5.heap.size := by omega
    have d5_1 : w.heap.size + 1 < w5.heap.size := by omega
    have e5_1 : w.heap.size + 1 ≠ w5.heap.size := by omega
    clear d2_0 e2_0 d2_1 e2_1 c2_0_0 c2_1_0 c2_1_1 c2_1_2 c2_1_3 c2_1_4 B2 st5 ryW hb5
    have c5_2_0 := xcRW
    have d5_2 := xlRW
    have e5_2 : XRW ≠ w5.heap.size := by omega
    clear xcRW
    go_wp2_with fail
    go_at_call 19
    refine (toDb_any _ D0 _ (HA0.out.below B5.out) (by omega)).mono ?_
    rintro e w6 ⟨xx0, rfl, hr, hb6⟩
    have sz6 : w5.heap.size <= w6.heap.size := hb6.size
    have st6 : Below w5.heap.size w5 w6 := hb6
    have c6_0_0 : w6.cell? ⟨w.heap.size, 0, none⟩ = some (.slice ad0 D0.length cp0) := by rw [(bcell st6).1 _ _ (by omega)]; exact c5_0_0
    have c6_1_0 : w6.cell? ⟨w.heap.size + 1, 0, none⟩ = some (.int .i64 o1) := by rw [(bcell st6).1 _ _ (by omega)]; exact c5_1_0
    have c6_1_1 : w6.cell? ⟨w.heap.size + 1, 1, none⟩ = some (.int .i64 s1) := by rw [(bcell st6).1 _ _ (by omega)]; exact c5_1_1
    have c6_1_2 : w6.cell? ⟨w.heap.size + 1, 2, none⟩ = some (.int .i64 g1) := by rw [(bcell st6).1 _ _ (by omega)]; exact c5_1_2
    have c6_1_3 : w6.cell? ⟨w.heap.size + 1, 3, none⟩ = some (.slice ad1 n1 cp1) := by rw [(bcell st6).1 _ _ (by omega)]; exact c5_1_3
    have c6_1_4 : w6.cell? ⟨w.heap.size + 1, 4, none⟩ = some (.slice ae1 m1 cq1) := by rw [(bcell st6).1 _ _ (by omega)]; exact c5_1_4
    have c6_2_0 : w6.cell? ⟨XRW, 0, none⟩ = some (.slice RWva DR.length RWvc) := by rw [(bcell st6).1 _ _ (by omega)]; exact c5_2_0
    have B6 : Hid (Below w.heap.size w w6) := B5.out.trans (st6.mono (by omega))
    have R6_RW : Hid (DRow w6 (w2.heap.size) (w5.heap.size) (.slice RWva DR.length RWvc) DR) := Lib.hid (R5_RW.out.below st6 (by omega))
    have R6_x0 : Hid (DRow w6 (w5.heap.size) (w6.heap.size) xx0 D0) := Lib.hid (hr)
    have d6_0 : w.heap.size < w6.heap.size := by omega
    have e6_0 : w.heap.size ≠ w6.heap.size := by omega
    have d6_1 : w.heap.size + 1 < w6.heap.size := by omega
    have e6_1 : w.heap.size + 1 ≠ w6.heap.size := by omega
    have d6_2 : XRW < w6.heap.size := by omega
    have e6_2 : XRW ≠ w6.heap.size := by omega
    clear d5_0 e5_0 d5_1 e5_1 d5_2 e5_2 c5_0_0 c5_1_0 c5_1_1 c5_1_2 c5_1_3 c5_1_4 c5_2_0 R5_RW B5 st6 hr hb6
    obtain ⟨xx0a, xx0c, rfl⟩ := R6_x0.out.slice
    go_wp2_with fail
    go_at_call 30
    refine (toLsa_any o1 s1 g1 _ _ n1 m1 Y1 Z1 _ (HA1.out.below (Below.trans B6.out (by go_grown))) (by omega) (by omega)).mono ?_
    rintro e w7 ⟨xx1, yx1, rfl, hr, hb7⟩
    have sz7 : w6.heap.size + 1 <= w7.heap.size := by have hh := hb7.size; simp at hh; omega
    have st7 : Below w6.heap.size w6 w7 := Below.trans (by go_grown) (hb7.mono (by simp))
    have c7_0_0 : w7.cell? ⟨w.heap.size, 0, none⟩ = some (.slice ad0 D0.length cp0) := by rw [(bcell st7).1 _ _ (by omega)]; exact c6_0_0
    have c7_1_0 : w7.cell? ⟨w.heap.size + 1, 0, none⟩ = some (.int .i64 o1) := by rw [(bcell st7).1 _ _ (by omega)]; exact c6_1_0
    have c7_1_1 : w7.cell? ⟨w.heap.size + 1, 1, none⟩ = some (.int .i64 s1) := by rw [(bcell st7).1 _ _ (by omega)]; exact c6_1_1
    have c7_1_2 : w7.cell? ⟨w.heap.size + 1, 2, none⟩ = some (.int .i64 g1) := by rw [(bcell st7).1 _ _ (by omega)]; exact c6_1_2
    have c7_1_3 : w7.cell? ⟨w.heap.size + 1, 3, none⟩ = some (.slice ad1 n1 cp1) := by rw [(bcell st7).1 _ _ (by omega)]; exact c6_1_3
    have c7_1_4 : w7.cell? ⟨w.heap.size + 1, 4, none⟩ = some (.slice ae1 m1 cq1) := by rw [(bcell st7).1 _ _ (by omega)]; exact c6_1_4
    have c7_2_0 : w7.cell? ⟨XRW, 0, none⟩ = some (.slice RWva DR.length RWvc) := by rw [(bcell st7).1 _ _ (by omega)]; exact c6_2_0
    have c7_3_0 : w7.cell? ⟨w6.heap.size, 0, none⟩ = some ((.slice xx0a D0.length xx0c)) := by rw [(bcell hb7).1 _ _ (by simp), new_at (by simp)]; rfl
    have B7 : Hid (Below w.heap.size w w7) := B6.out.trans (st7.mono (by omega))
    have R7_RW : Hid (DRow w7 (w2.heap.size) (w5.heap.size) (.slice RWva DR.length RWvc) DR) := Lib.hid (R6_RW.out.below st7 (by omega))
    have R7_x0 : Hid (DRow w7 (w5.heap.size) (w6.heap.size) (.slice xx0a D0.length xx0c) D0) := Lib.hid (R6_x0.out.below st7 (by omega))
    have R7_x1 : Hid (LRow w7 (w6.heap.size + 1) (w7.heap.size) xx1 yx1 n1 m1 (zs Y1 n1 2) (zs Z1 m1 3)) := Lib.hid (hr.wide (by simp) (Nat.le_refl _))
    have d7_0 : w.heap.size < w7.heap.size := by omega
    have e7_0 : w.heap.size ≠ w7.heap.size := by omega
    have d7_1 : w.heap.size + 1 < w7.heap.size := by omega
    have e7_1 : w.heap.size + 1 ≠ w7.heap.size := by omega
    have d7_2 : XRW < w7.heap.size := by omega
    have e7_2 : XRW ≠ w7.heap.size := by omega
    have d7_3 : w6.heap.size < w7.heap.size := by omega
    have e7_3 : w6.heap.size ≠ w7.heap.size := by omega
    clear d6_0 e6_0 d6_1 e6_1 d6_2 e6_2 c6_0_0 c6_1_0 c6_1_1 c6_1_2 c6_1_3 c6_1_4 c6_2_0 R6_RW R6_x0 B6 st7 hb7
    obtain ⟨xx1a, xx1c, yx1a, yx1c, rfl, rfl⟩ := R7_x1.out.slice
    go_wp2_with fail
    go_at_call 31
    refine (Hi.out _ _ (.slice xx0a D0.length xx0c) _ _ (.slice xx1a n1 xx1c) (.slice yx1a m1 yx1c) _ (R7_x0.out.below (B := w7.heap.size) (by go_grown) (by omega)) (by first | omega | (simp; omega) | simp) (R7_x1.out.below (B := w7.heap.size) (by go_grown) (by omega)) (by first | omega | (simp; omega) | simp)).mono ?_
    rintro e w8 ⟨RGv, rfl, hr, hb8⟩
    have sz8 : w7.heap.size + 1 <= w8.heap.size := by have hh := hb8.size; simp at hh; omega
    have st8 : Below w7.heap.size w7 w8 := Below.trans (by go_grown) (hb8.mono (by simp))
    have c8_0_0 : w8.cell? ⟨w.heap.size, 0, none⟩ = some (.slice ad0 D0.length cp0) := by rw [(bcell st8).1 _ _ (by omega)]; exact c7_0_0
    have c8_1_0 : w8.cell? ⟨w.heap.size + 1, 0, none⟩ = some (.int .i64 o1) := by rw [(bcell st8).1 _ _ (by omega)]; exact c7_1_0
    have c8_1_1 : w8.cell? ⟨w.heap.size + 1, 1, none⟩ = some (.int .i64 s1) := by rw [(bcell st8).1 _ _ (by omega)]; exact c7_1_1
    have c8_1_2 : w8.cell? ⟨w.heap.size + 1, 2, none⟩ = some (.int .i64 g1) := by rw [(bcell st8).1 _ _ (by omega)]; exact c7_1_2
    have c8_1_3 : w8.cell? ⟨w.heap.size + 1, 3, none⟩ = some (.slice ad1 n1 cp1) := by rw [(bcell st8).1 _ _ (by omega)]; exact c7_1_3
    have c8_1_4 : w8.cell? ⟨w.heap.size + 1, 4, none⟩ = some (.slice ae1 m1 cq1) := by rw [(bcell st8).1 _ _ (by omega)]; exact c7_1_4
    have c8_2_0 : w8.cell? ⟨XRW, 0, none⟩ = some (.slice RWva DR.length RWvc) := by rw [(bcell st8).1 _ _ (by omega)]; exact c7_2_0
    have c8_3_0 : w8.cell? ⟨w6.heap.size, 0, none⟩ = some ((.slice xx0a D0.length xx0c)) := by rw [(bcell st8).1 _ _ (by omega)]; exact c7_3_0
    have c8_4_0 : w8.cell? ⟨w7.heap.size, 0, none⟩ = some (.int .i64 o1) := by rw [(bcell hb8).1 _ _ (by simp), new_at (by simp)]; rfl
    have c8_4_1 : w8.cell? ⟨w7.heap.size, 1, none⟩ = some (.int .i64 s1) := by rw [(bcell hb8).1 _ _ (by simp), new_at (by simp)]; rfl
    have c8_4_2 : w8.cell? ⟨w7.heap.size, 2, none⟩ = some (.int .i64 g1) := by rw [(bcell hb8).1 _ _ (by simp), new_at (by simp)]; rfl
    have c8_4_3 : w8.cell? ⟨w7.heap.size, 3, none⟩ = some ((.slice xx1a n1 xx1c)) := by rw [(bcell hb8).1 _ _ (by simp), new_at (by simp)]; rfl
    have c8_4_4 : w8.cell? ⟨w7.heap.size, 4, none⟩ = some ((.slice yx1a m1 yx1c)) := by rw [(bcell hb8).1 _ _ (by simp), new_at (by simp)]; rfl
    have B8 : Hid (Below w.heap.size w w8) := B7.out.trans (st8.mono (by omega))
    have R8_RW : Hid (DRow w8 (w2.heap.size) (w5.heap.size) (.slice RWva DR.length RWvc) DR) := Lib.hid (R7_RW.out.below st8 (by omega))
    have R8_x0 : Hid (DRow w8 (w5.heap.size) (w6.heap.size) (.slice xx0a D0.length xx0c) D0) := Lib.hid (R7_x0.out.below st8 (by omega))
    have R8_x1 : Hid (LRow w8 (w6.heap.size + 1) (w7.heap.size) (.slice xx1a n1 xx1c) (.slice yx1a m1 yx1c) n1 m1 (zs Y1 n1 2) (zs Z1 m1 3)) := Lib.hid (R7_x1.out.below st8 (by omega))
    have R8_RG : Hid (DRow w8 (w7.heap.size + 1) (w8.heap.size) RGv DR) := Lib.hid (hr.wide (by simp) (Nat.le_refl _))
    have d8_0 : w.heap.size < w8.heap.size := by omega
    have e8_0 : w.heap.size ≠ w8.heap.size := by omega
    have d8_1 : w.heap.size + 1 < w8.heap.size := by omega
    have e8_1 : w.heap.size + 1 ≠ w8.heap.size := by omega
    have d8_2 : XRW < w8.heap.size := by omega
    have e8_2 : XRW ≠ w8.heap.size := by omega
    have d8_3 : w6.heap.size < w8.heap.size := by omega
    have e8_3 : w6.heap.size ≠ w8.heap.size := by omega
    have d8_4 : w7.heap.size < w8.heap.size := by omega
    have e8_4 : w7.heap.size ≠ w8.heap.size := by omega
    clear d7_0 e7_0 d7_1 e7_1 d7_2 e7_2 d7_3 e7_3 c7_0_0 c7_1_0 c7_1_1 c7_1_2 c7_1_3 c7_1_4 c7_2_0 c7_3_0 R7_RW R7_x0 R7_x1 B7 st8 hb8
    obtain ⟨RGva, RGvc, rfl⟩ := R8_RG.out.slice
    go_wp2_with fail
    go_at_call 21
    refine (eqDb_same DR _ _ _ _ _ _ _ (R8_RG.out.below (B := w8.heap.size) (by go_grown) (by omega)) (R8_RW.out.below (B := w8.heap.size) (by go_grown) (by omega)) (by first | omega | (simp; omega) | simp) (by first | omega | (simp; omega) | simp)).mono ?_
    rintro e w9 ⟨rfl, hb9⟩
    have sz9 : w8.heap.size + 1 <= w9.heap.size := by have hh := hb9.size; simp at hh; omega
    have st9 : Below w8.heap.size w8 w9 := Below.trans (by go_grown) (hb9.mono (by simp))
    have c9_0_0 : w9.cell? ⟨w.heap.size, 0, none⟩ = some (.slice ad0 D0.length cp0) := by rw [(bcell st9).1 _ _ (by omega)]; exact c8_0_0
    have c9_1_0 : w9.cell? ⟨w.heap.size + 1, 0, none⟩ = some (.int .i64 o1) := by rw [(bcell st9).1 _ _ (by omega)]; exact c8_1_0
    have c9_1_1 : w9.cell? ⟨w.heap.size + 1, 1, none⟩ = some (.int .i64 s1) := by rw [(bcell st9).1 _ _ (by omega)]; exact c8_1_1
    have c9_1_2 : w9.cell? ⟨w.heap.size + 1, 2, none⟩ = some (.int .i64 g1) := by rw [(bcell st9).1 _ _ (by omega)]; exact c8_1_2
    have c9_1_3 : w9.cell? ⟨w.heap.size + 1, 3, none⟩ = some (.slice ad1 n1 cp1) := by rw [(bcell st9).1 _ _ (by omega)]; exact c8_1_3
    have c9_1_4 : w9.cell? ⟨w.heap.size + 1, 4, none⟩ = some (.slice ae1 m1 cq1) := by rw [(bcell st9).1 _ _ (by omega)]; exact c8_1_4
    have c9_2_0 : w9.cell? ⟨XRW, 0, none⟩ = some (.slice RWva DR.length RWvc) := by rw [(bcell st9).1 _ _ (by omega)]; exact c8_2_0
    have c9_3_0 : w9.cell? ⟨w6.heap.size, 0, none⟩ = some ((.slice xx0a D0.length xx0c)) := by rw [(bcell st9).1 _ _ (by omega)]; exact c8_3_0
    have c9_4_0 : w9.cell? ⟨w7.heap.size, 0, none⟩ = some (.int .i64 o1) := by rw [(bcell st9).1 _ _ (by omega)]; exact c8_4_0
    have c9_4_1 : w9.cell? ⟨w7.heap.size, 1, none⟩ = some (.int .i64 s1) := by rw [(bcell st9).1 _ _ (by omega)]; exact c8_4_1
    have c9_4_2 : w9.cell? ⟨w7.heap.size, 2, none⟩ = some (.int .i64 g1) := by rw [(bcell st9).1 _ _ (by omega)]; exact c8_4_2
    have c9_4_3 : w9.cell? ⟨w7.heap.size, 3, none⟩ = some ((.slice xx1a n1 xx1c)) := by rw [(bcell st9).1 _ _ (by omega)]; exact c8_4_3
    have c9_4_4 : w9.cell? ⟨w7.heap.size, 4, none⟩ = some ((.slice yx1a m1 yx1c)) := by rw [(bcell st9).1 _ _ (by omega)]; exact c8_4_4
    have c9_5_0 : w9.cell? ⟨w8.heap.size, 0, none⟩ = some ((.slice RGva DR.length RGvc)) := by rw [(bcell hb9).1 _ _ (by simp), new_at (by simp)]; rfl
    have B9 : Hid (Below w.heap.size w w9) := B8.out.trans (st9.mono (by omega))
    have R9_RW : Hid (DRow w9 (w2.heap.size) (w5.heap.size) (.slice RWva DR.length RWvc) DR) := Lib.hid (R8_RW.out.below st9 (by omega))
    have R9_x0 : Hid (DRow w9 (w5.heap.size) (w6.heap.size) (.slice xx0a D0.length xx0c) D0) := Lib.hid (R8_x0.out.below st9 (by omega))
    have R9_x1 : Hid (LRow w9 (w6.heap.size + 1) (w7.heap.size) (.slice xx1a n1 xx1c) (.slice yx1a m1 yx1c) n1 m1 (zs Y1 n1 2) (zs Z1 m1 3)) := Lib.hid (R8_x1.out.below st9 (by omega))
    have R9_RG : Hid (DRow w9 (w7.heap.size + 1) (w8.heap.size) (.slice RGva DR.length RGvc) DR) := Lib.hid (R8_RG.out.below st9 (by omega))
    have d9_0 : w.heap.size < w9.heap.size := by omega
    have e9_0 : w.heap.size ≠ w9.heap.size := by omega
    have d9_1 : w.heap.size + 1 < w9.heap.size := by omega
    have e9_1 : w.heap.size + 1 ≠ w9.heap.size := by omega
    have d9_2 : XRW < w9.heap.size := by omega
    have e9_2 : XRW ≠ w9.heap.size := by omega
    have d9_3 : w6.heap.size < w9.heap.size := by omega
    have e9_3 : w6.heap.size ≠ w9.heap.size := by omega
    have d9_4 : w7.heap.size < w9.heap.size := by omega
    have e9_4 : w7.heap.size ≠ w9.heap.size := by omega
    have d9_5 : w8.heap.size < w9.heap.size := by omega
    have e9_5 : w8.heap.size ≠ w9.heap.size := by omega
    clear d8_0 e8_0 d8_1 e8_1 d8_2 e8_2 d8_3 e8_3 d8_4 e8_4 c8_0_0 c8_1_0 c8_1_1 c8_1_2 c8_1_3 c8_1_4 c8_2_0 c8_3_0 c8_4_0 c8_4_1 c8_4_2 c8_4_3 c8_4_4 R8_RW R8_x0 R8_x1 R8_RG B8 st9 hb9
    go_wp2_with fail
    go_region_held3 (fun w' => w'.cell? ⟨w.heap.size, 0, none⟩ = some (.slice ad0 D0.length cp0) /\ w'.cell? ⟨w.heap.size + 1, 0, none⟩ = some (.int .i64 o1) /\ w'.cell? ⟨w.heap.size + 1, 1, none⟩ = some (.int .i64 s1) /\ w'.cell? ⟨w.heap.size + 1, 2, none⟩ = some (.int .i64 g1) /\ w'.cell? ⟨w.heap.size + 1, 3, none⟩ = some (.slice ad1 n1 cp1) /\ w'.cell? ⟨w.heap.size + 1, 4, none⟩ = some (.slice ae1 m1 cq1) /\ w'.cell? ⟨XRW, 0, none⟩ = some (.slice RWva DR.length RWvc) /\ w'.cell? ⟨w6.heap.size, 0, none⟩ = some ((.slice xx0a D0.length xx0c)) /\ w'.cell? ⟨w7.heap.size, 0, none⟩ = some (.int .i64 o1) /\ w'.cell? ⟨w7.heap.size, 1, none⟩ = some (.int .i64 s1) /\ w'.cell? ⟨w7.heap.size, 2, none⟩ = some (.int .i64 g1) /\ w'.cell? ⟨w7.heap.size, 3, none⟩ = some ((.slice xx1a n1 xx1c)) /\ w'.cell? ⟨w7.heap.size, 4, none⟩ = some ((.slice yx1a m1 yx1c)) /\ w'.cell? ⟨w8.heap.size, 0, none⟩ = some ((.slice RGva DR.length RGvc)) /\ w9.heap.size <= w'.heap.size /\ Below w9.heap.size w9 w') (first | assumption | exact rr14_start c9_0_0 c9_1_0 c9_1_1 c9_1_2 c9_1_3 c9_1_4 c9_2_0 c9_3_0 c9_4_0 c9_4_1 c9_4_2 c9_4_3 c9_4_4 c9_5_0 | exact rr14_drew (by assumption) | exact rr14_keep (by omega) (by omega) (by omega) (by omega) (by omega) (by omega) (by omega) (by omega) (by omega) (by omega) (by omega) (by omega) (by omega) (by omega) (by assumption) (by assumption))
      (first | (go_at_call 19; refine (toDb_any _ D0 _ (HA0.out.below (B9.out.trans ((rr14_out (by assumption)).2.mono (by omega)))) (by omega)).mono ?_; rintro e w10 ⟨xz0, rfl, ry0, hb⟩; have hz10 := hb.size) | (go_at_call 21; refine (eqDb_same D0 _ _ _ _ _ _ _ (R9_x0.out.below (rr14_out (by assumption)).2 (by omega)) ry0 (by have hq := rr14_out (by assumption); omega) (Nat.le_refl _)).mono ?_; rintro e w11 ⟨rfl, hb⟩))
    have hb11 : Below w9.heap.size w9 w11 := (rr14_out (by assumption)).2
    have sz11 : w9.heap.size <= w11.heap.size := hb11.size
    have st11 : Below w9.heap.size w9 w11 := hb11
    have c11_0_0 : w11.cell? ⟨w.heap.size, 0, none⟩ = some (.slice ad0 D0.length cp0) := by rw [(bcell st11).1 _ _ (by omega)]; exact c9_0_0
    have c11_1_0 : w11.cell? ⟨w.heap.size + 1, 0, none⟩ = some (.int .i64 o1) := by rw [(bcell st11).1 _ _ (by omega)]; exact c9_1_0
    have c11_1_1 : w11.cell? ⟨w.heap.size + 1, 1, none⟩ = some (.int .i64 s1) := by rw [(bcell st11).1 _ _ (by omega)]; exact c9_1_1
    have c11_1_2 : w11.cell? ⟨w.heap.size + 1, 2, none⟩ = some (.int .i64 g1) := by rw [(bcell st11).1 _ _ (by omega)]; exact c9_1_2
    have c11_1_3 : w11.cell? ⟨w.heap.size + 1, 3, none⟩ = some (.slice ad1 n1 cp1) := by rw [(bcell st11).1 _ _ (by omega)]; exact c9_1_3
    have c11_1_4 : w11.cell? ⟨w.heap.size + 1, 4, none⟩ = some (.slice ae1 m1 cq1) := by rw [(bcell st11).1 _ _ (by omega)]; exact c9_1_4
    have c11_2_0 : w11.cell? ⟨XRW, 0, none⟩ = some (.slice RWva DR.length RWvc) := by rw [(bcell st11).1 _ _ (by omega)]; exact c9_2_0
    have c11_3_0 : w11.cell? ⟨w6.heap.size, 0, none⟩ = some ((.slice xx0a D0.length xx0c)) := by rw [(bcell st11).1 _ _ (by omega)]; exact c9_3_0
    have c11_4_0 : w11.cell? ⟨w7.heap.size, 0, none⟩ = some (.int .i64 o1) := by rw [(bcell st11).1 _ _ (by omega)]; exact c9_4_0
    have c11_4_1 : w11.cell? ⟨w7.heap.size, 1, none⟩ = some (.int .i64 s1) := by rw [(bcell st11).1 _ _ (by omega)]; exact c9_4_1
    have c11_4_2 : w11.cell? ⟨w7.heap.size, 2, none⟩ = some (.int .i64 g1) := by rw [(bcell st11).1 _ _ (by omega)]; exact c9_4_2
    have c11_4_3 : w11.cell? ⟨w7.heap.size, 3, none⟩ = some ((.slice xx1a n1 xx1c)) := by rw [(bcell st11).1 _ _ (by omega)]; exact c9_4_3
    have c11_4_4 : w11.cell? ⟨w7.heap.size, 4, none⟩ = some ((.slice yx1a m1 yx1c)) := by rw [(bcell st11).1 _ _ (by omega)]; exact c9_4_4
    have c11_5_0 : w11.cell? ⟨w8.heap.size, 0, none⟩ = some ((.slice RGva DR.length RGvc)) := by rw [(bcell st11).1 _ _ (by omega)]; exact c9_5_0
    have B11 : Hid (Below w.heap.size w w11) := B9.out.trans (st11.mono (by omega))
    have R11_RW : Hid (DRow w11 (w2.heap.size) (w5.heap.size) (.slice RWva DR.length RWvc) DR) := Lib.hid (R9_RW.out.below st11 (by omega))
    have R11_x0 : Hid (DRow w11 (w5.heap.size) (w6.heap.size) (.slice xx0a D0.length xx0c) D0) := Lib.hid (R9_x0.out.below st11 (by omega))
    have R11_x1 : Hid (LRow w11 (w6.heap.size + 1) (w7.heap.size) (.slice xx1a n1 xx1c) (.slice yx1a m1 yx1c) n1 m1 (zs Y1 n1 2) (zs Z1 m1 3)) := Lib.hid (R9_x1.out.below st11 (by omega))
    have R11_RG : Hid (DRow w11 (w7.heap.size + 1) (w8.heap.size) (.slice RGva DR.length RGvc) DR) := Lib.hid (R9_RG.out.below st11 (by omega))
    have d11_0 : w.heap.size < w11.heap.size := by omega
    have e11_0 : w.heap.size ≠ w11.heap.size := by omega
    have d11_1 : w.heap.size + 1 < w11.heap.size := by omega
    have e11_1 : w.heap.size + 1 ≠ w11.heap.size := by omega
    have d11_2 : XRW < w11.heap.size := by omega
    have e11_2 : XRW ≠ w11.heap.size := by omega
    have d11_3 : w6.heap.size < w11.heap.size := by omega
    have e11_3 : w6.heap.size ≠ w11.heap.size := by omega
    have d11_4 : w7.heap.size < w11.heap.size := by omega
    have e11_4 : w7.heap.size ≠ w11.heap.size := by omega
    have d11_5 : w8.heap.size < w11.heap.size := by omega
    have e11_5 : w8.heap.size ≠ w11.heap.size := by omega
    clear d9_0 e9_0 d9_1 e9_1 d9_2 e9_2 d9_3 e9_3 d9_4 e9_4 d9_5 e9_5 c9_0_0 c9_1_0 c9_1_1 c9_1_2 c9_1_3 c9_1_4 c9_2_0 c9_3_0 c9_4_0 c9_4_1 c9_4_2 c9_4_3 c9_4_4 c9_5_0 R9_RW R9_x0 R9_x1 R9_RG B9 st11 hb11
    go_wp2_with fail
    go_region_held3 (fun w' => w'.cell? ⟨w.heap.size, 0, none⟩ = some (.slice ad0 D0.length cp0) /\ w'.cell? ⟨w.heap.size + 1, 0, none⟩ = some (.int .i64 o1) /\ w'.cell? ⟨w.heap.size + 1, 1, none⟩ = some (.int .i64 s1) /\ w'.cell? ⟨w.heap.size + 1, 2, none⟩ = some (.int .i64 g1) /\ w'.cell? ⟨w.heap.size + 1, 3, none⟩ = some (.slice ad1 n1 cp1) /\ w'.cell? ⟨w.heap.size + 1, 4, none⟩ = some (.slice ae1 m1 cq1) /\ w'.cell? ⟨XRW, 0, none⟩ = some (.slice RWva DR.length RWvc) /\ w'.cell? ⟨w6.heap.size, 0, none⟩ = some ((.slice xx0a D0.length xx0c)) /\ w'.cell? ⟨w7.heap.size, 0, none⟩ = some (.int .i64 o1) /\ w'.cell? ⟨w7.heap.size, 1, none⟩ = some (.int .i64 s1) /\ w'.cell? ⟨w7.heap.size, 2, none⟩ = some (.int .i64 g1) /\ w'.cell? ⟨w7.heap.size, 3, none⟩ = some ((.slice xx1a n1 xx1c)) /\ w'.cell? ⟨w7.heap.size, 4, none⟩ = some ((.slice yx1a m1 yx1c)) /\ w'.cell? ⟨w8.heap.size, 0, none⟩ = some ((.slice RGva DR.length RGvc)) /\ w11.heap.size <= w'.heap.size /\ Below w11.heap.size w11 w') (first | assumption | exact rr14_start c11_0_0 c11_1_0 c11_1_1 c11_1_2 c11_1_3 c11_1_4 c11_2_0 c11_3_0 c11_4_0 c11_4_1 c11_4_2 c11_4_3 c11_4_4 c11_5_0 | exact rr14_drew (by assumption) | exact rr14_keep (by omega) (by omega) (by omega) (by omega) (by omega) (by omega) (by omega) (by omega) (by omega) (by omega) (by omega) (by omega) (by omega) (by omega) (by assumption) (by assumption))
      (first | (go_at_call 30; refine (toLsa_any o1 s1 g1 _ _ n1 m1 Y1 Z1 _ (HA1.out.below (B11.out.trans ((rr14_out (by assumption)).2.mono (by omega)))) (by omega) (by omega)).mono ?_; rintro e w12 ⟨xz1, yz1, rfl, ry1, hb⟩; have hz12 := hb.size) | (go_at_call 24; refine (eqLsa_same o1 s1 g1 (zs Y1 n1 2) (zs Z1 m1 3) n1 m1 _ _ _ _ _ _ _ _ _ (R11_x1.out.below (rr14_out (by assumption)).2 (by omega)) ry1 (by have hq := rr14_out (by assumption); omega) (Nat.le_refl _)).mono ?_; rintro e w13 ⟨rfl, hb⟩))
    have hb13 : Below w11.heap.size w11 w13 := (rr14_out (by assumption)).2
    have sz13 : w11.heap.size <= w13.heap.size := hb13.size
    have st13 : Below w11.heap.size w11 w13 := hb13
    have c13_0_0 : w13.cell? ⟨w.heap.size, 0, none⟩ = some (.slice ad0 D0.length cp0) := by rw [(bcell st13).1 _ _ (by omega)]; exact c11_0_0
    have c13_1_0 : w13.cell? ⟨w.heap.size + 1, 0, none⟩ = some (.int .i64 o1) := by rw [(bcell st13).1 _ _ (by omega)]; exact c11_1_0
    have c13_1_1 : w13.cell? ⟨w.heap.size + 1, 1, none⟩ = some (.int .i64 s1) := by rw [(bcell st13).1 _ _ (by omega)]; exact c11_1_1
    have c13_1_2 : w13.cell? ⟨w.heap.size + 1, 2, none⟩ = some (.int .i64 g1) := by rw [(bcell st13).1 _ _ (by omega)]; exact c11_1_2
    have c13_1_3 : w13.cell? ⟨w.heap.size + 1, 3, none⟩ = some (.slice ad1 n1 cp1) := by rw [(bcell st13).1 _ _ (by omega)]; exact c11_1_3
    have c13_1_4 : w13.cell? ⟨w.heap.size + 1, 4, none⟩ = some (.slice ae1 m1 cq1) := by rw [(bcell st13).1 _ _ (by omega)]; exact c11_1_4
    have c13_2_0 : w13.cell? ⟨XRW, 0, none⟩ = some (.slice RWva DR.length RWvc) := by rw [(bcell st13).1 _ _ (by omega)]; exact c11_2_0
    have c13_3_0 : w13.cell? ⟨w6.heap.size, 0, none⟩ = some ((.slice xx0a D0.length xx0c)) := by rw [(bcell st13).1 _ _ (by omega)]; exact c11_3_0
    have c13_4_0 : w13.cell? ⟨w7.heap.size, 0, none⟩ = some (.int .i64 o1) := by rw [(bcell st13).1 _ _ (by omega)]; exact c11_4_0
    have c13_4_1 : w13.cell? ⟨w7.heap.size, 1, none⟩ = some (.int .i64 s1) := by rw [(bcell st13).1 _ _ (by omega)]; exact c11_4_1
    have c13_4_2 : w13.cell? ⟨w7.heap.size, 2, none⟩ = some (.int .i64 g1) := by rw [(bcell st13).1 _ _ (by omega)]; exact c11_4_2
    have c13_4_3 : w13.cell? ⟨w7.heap.size, 3, none⟩ = some ((.slice xx1a n1 xx1c)) := by rw [(bcell st13).1 _ _ (by omega)]; exact c11_4_3
    have c13_4_4 : w13.cell? ⟨w7.heap.size, 4, none⟩ = some ((.slice yx1a m1 yx1c)) := by rw [(bcell st13).1 _ _ (by omega)]; exact c11_4_4
    have c13_5_0 : w13.cell? ⟨w8.heap.size, 0, none⟩ = some ((.slice RGva DR.length RGvc)) := by rw [(bcell st13).1 _ _ (by omega)]; exact c11_5_0
    have B13 : Hid (Below w.heap.size w w13) := B11.out.trans (st13.mono (by omega))
    have R13_RW : Hid (DRow w13 (w2.heap.size) (w5.heap.size) (.slice RWva DR.length RWvc) DR) := Lib.hid (R11_RW.out.below st13 (by omega))
    have R13_x0 : Hid (DRow w13 (w5.heap.size) (w6.heap.size) (.slice xx0a D0.length xx0c) D0) := Lib.hid (R11_x0.out.below st13 (by omega))
    have R13_x1 : Hid (LRow w13 (w6.heap.size + 1) (w7.heap.size) (.slice xx1a n1 xx1c) (.slice yx1a m1 yx1c) n1 m1 (zs Y1 n1 2) (zs Z1 m1 3)) := Lib.hid (R11_x1.out.below st13 (by omega))
    have R13_RG : Hid (DRow w13 (w7.heap.size + 1) (w8.heap.size) (.slice RGva DR.length RGvc) DR) := Lib.hid (R11_RG.out.below st13 (by omega))
    have d13_0 : w.heap.size < w13.heap.size := by omega
    have e13_0 : w.heap.size ≠ w13.heap.size := by omega
    have d13_1 : w.heap.size + 1 < w13.heap.size := by omega
    have e13_1 : w.heap.size + 1 ≠ w13.heap.size := by omega
    have d13_2 : XRW < w13.heap.size := by omega
    have e13_2 : XRW ≠ w13.heap.size := by omega
    have d13_3 : w6.heap.size < w13.heap.size := by omega
    have e13_3 : w6.heap.size ≠ w13.heap.size := by omega
    have d13_4 : w7.heap.size < w13.heap.size := by omega
    have e13_4 : w7.heap.size ≠ w13.heap.size := by omega
    have d13_5 : w8.heap.size < w13.heap.size := by omega
    have e13_5 : w8.heap.size ≠ w13.heap.size := by omega
    clear d11_0 e11_0 d11_1 e11_1 d11_2 e11_2 d11_3 e11_3 d11_4 e11_4 d11_5 e11_5 c11_0_0 c11_1_0 c11_1_1 c11_1_2 c11_1_3 c11_1_4 c11_2_0 c11_3_0 c11_4_0 c11_4_1 c11_4_2 c11_4_3 c11_4_4 c11_5_0 R11_RW R11_x0 R11_x1 R11_RG B11 st13 hb13
    go_wp2_with fail
    go_at_call 25
    refine (markDb_K KX0 D0 _ _ _ _ HKX0.out R13_x0.out (by omega) (by first | omega | (simp; omega))).mono ?_
    rintro e w14 ⟨rfl, hr, hb14⟩
    have sz14 : w13.heap.size <= w14.heap.size := hb14.size
    have c14_0_0 : w14.cell? ⟨w.heap.size, 0, none⟩ = some (.slice ad0 D0.length cp0) := by rw [hb14.cell (by omega) (by omega)]; exact c13_0_0
    have c14_1_0 : w14.cell? ⟨w.heap.size + 1, 0, none⟩ = some (.int .i64 o1) := by rw [hb14.cell (by omega) (by omega)]; exact c13_1_0
    have c14_1_1 : w14.cell? ⟨w.heap.size + 1, 1, none⟩ = some (.int .i64 s1) := by rw [hb14.cell (by omega) (by omega)]; exact c13_1_1
    have c14_1_2 : w14.cell? ⟨w.heap.size + 1, 2, none⟩ = some (.int .i64 g1) := by rw [hb14.cell (by omega) (by omega)]; exact c13_1_2
    have c14_1_3 : w14.cell? ⟨w.heap.size + 1, 3, none⟩ = some (.slice ad1 n1 cp1) := by rw [hb14.cell (by omega) (by omega)]; exact c13_1_3
    have c14_1_4 : w14.cell? ⟨w.heap.size + 1, 4, none⟩ = some (.slice ae1 m1 cq1) := by rw [hb14.cell (by omega) (by omega)]; exact c13_1_4
    have c14_2_0 : w14.cell? ⟨XRW, 0, none⟩ = some (.slice RWva DR.length RWvc) := by rw [hb14.cell (by omega) (by omega)]; exact c13_2_0
    have c14_3_0 : w14.cell? ⟨w6.heap.size, 0, none⟩ = some ((.slice xx0a D0.length xx0c)) := by rw [hb14.cell (by omega) (by omega)]; exact c13_3_0
    have c14_4_0 : w14.cell? ⟨w7.heap.size, 0, none⟩ = some (.int .i64 o1) := by rw [hb14.cell (by omega) (by omega)]; exact c13_4_0
    have c14_4_1 : w14.cell? ⟨w7.heap.size, 1, none⟩ = some (.int .i64 s1) := by rw [hb14.cell (by omega) (by omega)]; exact c13_4_1
    have c14_4_2 : w14.cell? ⟨w7.heap.size, 2, none⟩ = some (.int .i64 g1) := by rw [hb14.cell (by omega) (by omega)]; exact c13_4_2
    have c14_4_3 : w14.cell? ⟨w7.heap.size, 3, none⟩ = some ((.slice xx1a n1 xx1c)) := by rw [hb14.cell (by omega) (by omega)]; exact c13_4_3
    have c14_4_4 : w14.cell? ⟨w7.heap.size, 4, none⟩ = some ((.slice yx1a m1 yx1c)) := by rw [hb14.cell (by omega) (by omega)]; exact c13_4_4
    have c14_5_0 : w14.cell? ⟨w8.heap.size, 0, none⟩ = some ((.slice RGva DR.length RGvc)) := by rw [hb14.cell (by omega) (by omega)]; exact c13_5_0
    have B14 : Hid (Below w.heap.size w w14) := B13.out.trans (hb14.below (by omega) (by omega))
    have R14_RW : Hid (DRow w14 (w2.heap.size) (w5.heap.size) (.slice RWva DR.length RWvc) DR) := Lib.hid (hb14.drow R13_RW.out (by omega) (by omega))
    have R14_x1 : Hid (LRow w14 (w6.heap.size + 1) (w7.heap.size) (.slice xx1a n1 xx1c) (.slice yx1a m1 yx1c) n1 m1 (zs Y1 n1 2) (zs Z1 m1 3)) := Lib.hid (hb14.lrow R13_x1.out (by omega) (by omega))
    have R14_RG : Hid (DRow w14 (w7.heap.size + 1) (w8.heap.size) (.slice RGva DR.length RGvc) DR) := Lib.hid (hb14.drow R13_RG.out (by omega) (by omega))
    have R14_x0 : Hid (DRow w14 (w5.heap.size) (w6.heap.size) (.slice xx0a D0.length xx0c) (dmk D0)) := Lib.hid (hr)
    have d14_0 : w.heap.size < w14.heap.size := by omega
    have e14_0 : w.heap.size ≠ w14.heap.size := by omega
    have d14_1 : w.heap.size + 1 < w14.heap.size := by omega
    have e14_1 : w.heap.size + 1 ≠ w14.heap.size := by omega
    have d14_2 : XRW < w14.heap.size := by omega
    have e14_2 : XRW ≠ w14.heap.size := by omega
    have d14_3 : w6.heap.size < w14.heap.size := by omega
    have e14_3 : w6.heap.size ≠ w14.heap.size := by omega
    have d14_4 : w7.heap.size < w14.heap.size := by omega
    have e14_4 : w7.heap.size ≠ w14.heap.size := by omega
    have d14_5 : w8.heap.size < w14.heap.size := by omega
    have e14_5 : w8.heap.size ≠ w14.heap.size := by omega
    clear d13_0 e13_0 d13_1 e13_1 d13_2 e13_2 d13_3 e13_3 d13_4 e13_4 d13_5 e13_5 c13_0_0 c13_1_0 c13_1_1 c13_1_2 c13_1_3 c13_1_4 c13_2_0 c13_3_0 c13_4_0 c13_4_1 c13_4_2 c13_4_3 c13_4_4 c13_5_0 R13_RW R13_x0 R13_x1 R13_RG B13 hr hb14
    go_wp2_with fail
    go_at_call 26
    refine (markLsa_G KX0 KY1 hKX00 hKX0b o1 s1 g1 (zs Y1 n1 2) (zs Z1 m1 3) n1 m1 _ _ _ _ _ HKY1.out R14_x1.out (by omega) (by omega) (by omega)).mono ?_
    rintro e w15 ⟨rfl, hr, hb15⟩
    have sz15 : w14.heap.size <= w15.heap.size := hb15.size
    have c15_0_0 : w15.cell? ⟨w.heap.size, 0, none⟩ = some (.slice ad0 D0.length cp0) := by rw [hb15.cell (by omega) (by omega)]; exact c14_0_0
    have c15_1_0 : w15.cell? ⟨w.heap.size + 1, 0, none⟩ = some (.int .i64 o1) := by rw [hb15.cell (by omega) (by omega)]; exact c14_1_0
    have c15_1_1 : w15.cell? ⟨w.heap.size + 1, 1, none⟩ = some (.int .i64 s1) := by rw [hb15.cell (by omega) (by omega)]; exact c14_1_1
    have c15_1_2 : w15.cell? ⟨w.heap.size + 1, 2, none⟩ = some (.int .i64 g1) := by rw [hb15.cell (by omega) (by omega)]; exact c14_1_2
    have c15_1_3 : w15.cell? ⟨w.heap.size + 1, 3, none⟩ = some (.slice ad1 n1 cp1) := by rw [hb15.cell (by omega) (by omega)]; exact c14_1_3
    have c15_1_4 : w15.cell? ⟨w.heap.size + 1, 4, none⟩ = some (.slice ae1 m1 cq1) := by rw [hb15.cell (by omega) (by omega)]; exact c14_1_4
    have c15_2_0 : w15.cell? ⟨XRW, 0, none⟩ = some (.slice RWva DR.length RWvc) := by rw [hb15.cell (by omega) (by omega)]; exact c14_2_0
    have c15_3_0 : w15.cell? ⟨w6.heap.size, 0, none⟩ = some ((.slice xx0a D0.length xx0c)) := by rw [hb15.cell (by omega) (by omega)]; exact c14_3_0
    have c15_4_0 : w15.cell? ⟨w7.heap.size, 0, none⟩ = some (.int .i64 o1) := by rw [hb15.cell (by omega) (by omega)]; exact c14_4_0
    have c15_4_1 : w15.cell? ⟨w7.heap.size, 1, none⟩ = some (.int .i64 s1) := by rw [hb15.cell (by omega) (by omega)]; exact c14_4_1
    have c15_4_2 : w15.cell? ⟨w7.heap.size, 2, none⟩ = some (.int .i64 g1) := by rw [hb15.cell (by omega) (by omega)]; exact c14_4_2
    have c15_4_3 : w15.cell? ⟨w7.heap.size, 3, none⟩ = some ((.slice xx1a n1 xx1c)) := by rw [hb15.cell (by omega) (by omega)]; exact c14_4_3
    have c15_4_4 : w15.cell? ⟨w7.heap.size, 4, none⟩ = some ((.slice yx1a m1 yx1c)) := by rw [hb15.cell (by omega) (by omega)]; exact c14_4_4
    have c15_5_0 : w15.cell? ⟨w8.heap.size, 0, none⟩ = some ((.slice RGva DR.length RGvc)) := by rw [hb15.cell (by omega) (by omega)]; exact c14_5_0
    have B15 : Hid (Below w.heap.size w w15) := B14.out.trans (hb15.below (by omega) (by omega))
    have R15_RW : Hid (DRow w15 (w2.heap.size) (w5.heap.size) (.slice RWva DR.length RWvc) DR) := Lib.hid (hb15.drow R14_RW.out (by omega) (by omega))
    have R15_RG : Hid (DRow w15 (w7.heap.size + 1) (w8.heap.size) (.slice RGva DR.length RGvc) DR) := Lib.hid (hb15.drow R14_RG.out (by omega) (by omega))
    have R15_x0 : Hid (DRow w15 (w5.heap.size) (w6.heap.size) (.slice xx0a D0.length xx0c) (dmk D0)) := Lib.hid (hb15.drow R14_x0.out (by omega) (by omega))
    have R15_x1 : Hid (LRow w15 (w6.heap.size + 1) (w7.heap.size) (.slice xx1a n1 xx1c) (.slice yx1a m1 yx1c) n1 m1 (lmYG KX0 n1) (lmZG KX0 n1 m1)) := Lib.hid (hr)
    have d15_0 : w.heap.size < w15.heap.size := by omega
    have e15_0 : w.heap.size ≠ w15.heap.size := by omega
    have d15_1 : w.heap.size + 1 < w15.heap.size := by omega
    have e15_1 : w.heap.size + 1 ≠ w15.heap.size := by omega
    have d15_2 : XRW < w15.heap.size := by omega
    have e15_2 : XRW ≠ w15.heap.size := by omega
    have d15_3 : w6.heap.size < w15.heap.size := by omega
    have e15_3 : w6.heap.size ≠ w15.heap.size := by omega
    have d15_4 : w7.heap.size < w15.heap.size := by omega
    have e15_4 : w7.heap.size ≠ w15.heap.size := by omega
    have d15_5 : w8.heap.size < w15.heap.size := by omega
    have e15_5 : w8.heap.size ≠ w15.heap.size := by omega
    clear d14_0 e14_0 d14_1 e14_1 d14_2 e14_2 d14_3 e14_3 d14_4 e14_4 d14_5 e14_5 c14_0_0 c14_1_0 c14_1_1 c14_1_2 c14_1_3 c14_1_4 c14_2_0 c14_3_0 c14_4_0 c14_4_1 c14_4_2 c14_4_3 c14_4_4 c14_5_0 R14_RW R14_x1 R14_RG R14_x0 B14 hr hb15
    go_wp2_with fail
    go_at_call 21
    refine (eqDb_same DR _ _ _ _ _ _ _ R15_RG.out R15_RW.out (by first | omega | (simp; omega) | simp) (by first | omega | (simp; omega) | simp)).mono ?_
    rintro e w16 ⟨rfl, hb16⟩
    have sz16 : w15.heap.size <= w16.heap.size := hb16.size
    have st16 : Below w15.heap.size w15 w16 := hb16
    have c16_0_0 : w16.cell? ⟨w.heap.size, 0, none⟩ = some (.slice ad0 D0.length cp0) := by rw [(bcell st16).1 _ _ (by omega)]; exact c15_0_0
    have c16_1_0 : w16.cell? ⟨w.heap.size + 1, 0, none⟩ = some (.int .i64 o1) := by rw [(bcell st16).1 _ _ (by omega)]; exact c15_1_0
    have c16_1_1 : w16.cell? ⟨w.heap.size + 1, 1, none⟩ = some (.int .i64 s1) := by rw [(bcell st16).1 _ _ (by omega)]; exact c15_1_1
    have c16_1_2 : w16.cell? ⟨w.heap.size + 1, 2, none⟩ = some (.int .i64 g1) := by rw [(bcell st16).1 _ _ (by omega)]; exact c15_1_2
    have c16_1_3 : w16.cell? ⟨w.heap.size + 1, 3, none⟩ = some (.slice ad1 n1 cp1) := by rw [(bcell st16).1 _ _ (by omega)]; exact c15_1_3
    have c16_1_4 : w16.cell? ⟨w.heap.size + 1, 4, none⟩ = some (.slice ae1 m1 cq1) := by rw [(bcell st16).1 _ _ (by omega)]; exact c15_1_4
    have c16_2_0 : w16.cell? ⟨XRW, 0, none⟩ = some (.slice RWva DR.length RWvc) := by rw [(bcell st16).1 _ _ (by omega)]; exact c15_2_0
    have c16_3_0 : w16.cell? ⟨w6.heap.size, 0, none⟩ = some ((.slice xx0a D0.length xx0c)) := by rw [(bcell st16).1 _ _ (by omega)]; exact c15_3_0
    have c16_4_0 : w16.cell? ⟨w7.heap.size, 0, none⟩ = some (.int .i64 o1) := by rw [(bcell st16).1 _ _ (by omega)]; exact c15_4_0
    have c16_4_1 : w16.cell? ⟨w7.heap.size, 1, none⟩ = some (.int .i64 s1) := by rw [(bcell st16).1 _ _ (by omega)]; exact c15_4_1
    have c16_4_2 : w16.cell? ⟨w7.heap.size, 2, none⟩ = some (.int .i64 g1) := by rw [(bcell st16).1 _ _ (by omega)]; exact c15_4_2
    have c16_4_3 : w16.cell? ⟨w7.heap.size, 3, none⟩ = some ((.slice xx1a n1 xx1c)) := by rw [(bcell st16).1 _ _ (by omega)]; exact c15_4_3
    have c16_4_4 : w16.cell? ⟨w7.heap.size, 4, none⟩ = some ((.slice yx1a m1 yx1c)) := by rw [(bcell st16).1 _ _ (by omega)]; exact c15_4_4
    have c16_5_0 : w16.cell? ⟨w8.heap.size, 0, none⟩ = some ((.slice RGva DR.length RGvc)) := by rw [(bcell st16).1 _ _ (by omega)]; exact c15_5_0
    have B16 : Hid (Below w.heap.size w w16) := B15.out.trans (st16.mono (by omega))
    have R16_RW : Hid (DRow w16 (w2.heap.size) (w5.heap.size) (.slice RWva DR.length RWvc) DR) := Lib.hid (R15_RW.out.below st16 (by omega))
    have R16_RG : Hid (DRow w16 (w7.heap.size + 1) (w8.heap.size) (.slice RGva DR.length RGvc) DR) := Lib.hid (R15_RG.out.below st16 (by omega))
    have R16_x0 : Hid (DRow w16 (w5.heap.size) (w6.heap.size) (.slice xx0a D0.length xx0c) (dmk D0)) := Lib.hid (R15_x0.out.below st16 (by omega))
    have R16_x1 : Hid (LRow w16 (w6.heap.size + 1) (w7.heap.size) (.slice xx1a n1 xx1c) (.slice yx1a m1 yx1c) n1 m1 (lmYG KX0 n1) (lmZG KX0 n1 m1)) := Lib.hid (R15_x1.out.below st16 (by omega))
    have d16_0 : w.heap.size < w16.heap.size := by omega
    have e16_0 : w.heap.size ≠ w16.heap.size := by omega
    have d16_1 : w.heap.size + 1 < w16.heap.size := by omega
    have e16_1 : w.heap.size + 1 ≠ w16.heap.size := by omega
    have d16_2 : XRW < w16.heap.size := by omega
    have e16_2 : XRW ≠ w16.heap.size := by omega
    have d16_3 : w6.heap.size < w16.heap.size := by omega
    have e16_3 : w6.heap.size ≠ w16.heap.size := by omega
    have d16_4 : w7.heap.size < w16.heap.size := by omega
    have e16_4 : w7.heap.size ≠ w16.heap.size := by omega
    have d16_5 : w8.heap.size < w16.heap.size := by omega
    have e16_5 : w8.heap.size ≠ w16.heap.size := by omega
    clear d15_0 e15_0 d15_1 e15_1 d15_2 e15_2 d15_3 e15_3 d15_4 e15_4 d15_5 e15_5 c15_0_0 c15_1_0 c15_1_1 c15_1_2 c15_1_3 c15_1_4 c15_2_0 c15_3_0 c15_4_0 c15_4_1 c15_4_2 c15_4_3 c15_4_4 c15_5_0 R15_RW R15_RG R15_x0 R15_x1 B15 st16 hb16
    go_wp2_with fail
    go_at_call 25
    refine (markDb_K KG DR _ _ _ _ HKG.out R16_RG.out (by omega) (by first | omega | (simp; omega))).mono ?_
    rintro e w17 ⟨rfl, hr, hb17⟩
    have sz17 : w16.heap.size <= w17.heap.size := hb17.size
    have c17_0_0 : w17.cell? ⟨w.heap.size, 0, none⟩ = some (.slice ad0 D0.length cp0) := by rw [hb17.cell (by omega) (by omega)]; exact c16_0_0
    have c17_1_0 : w17.cell? ⟨w.heap.size + 1, 0, none⟩ = some (.int .i64 o1) := by rw [hb17.cell (by omega) (by omega)]; exact c16_1_0
    have c17_1_1 : w17.cell? ⟨w.heap.size + 1, 1, none⟩ = some (.int .i64 s1) := by rw [hb17.cell (by omega) (by omega)]; exact c16_1_1
    have c17_1_2 : w17.cell? ⟨w.heap.size + 1, 2, none⟩ = some (.int .i64 g1) := by rw [hb17.cell (by omega) (by omega)]; exact c16_1_2
    have c17_1_3 : w17.cell? ⟨w.heap.size + 1, 3, none⟩ = some (.slice ad1 n1 cp1) := by rw [hb17.cell (by omega) (by omega)]; exact c16_1_3
    have c17_1_4 : w17.cell? ⟨w.heap.size + 1, 4, none⟩ = some (.slice ae1 m1 cq1) := by rw [hb17.cell (by omega) (by omega)]; exact c16_1_4
    have c17_2_0 : w17.cell? ⟨XRW, 0, none⟩ = some (.slice RWva DR.length RWvc) := by rw [hb17.cell (by omega) (by omega)]; exact c16_2_0
    have c17_3_0 : w17.cell? ⟨w6.heap.size, 0, none⟩ = some ((.slice xx0a D0.length xx0c)) := by rw [hb17.cell (by omega) (by omega)]; exact c16_3_0
    have c17_4_0 : w17.cell? ⟨w7.heap.size, 0, none⟩ = some (.int .i64 o1) := by rw [hb17.cell (by omega) (by omega)]; exact c16_4_0
    have c17_4_1 : w17.cell? ⟨w7.heap.size, 1, none⟩ = some (.int .i64 s1) := by rw [hb17.cell (by omega) (by omega)]; exact c16_4_1
    have c17_4_2 : w17.cell? ⟨w7.heap.size, 2, none⟩ = some (.int .i64 g1) := by rw [hb17.cell (by omega) (by omega)]; exact c16_4_2
    have c17_4_3 : w17.cell? ⟨w7.heap.size, 3, none⟩ = some ((.slice xx1a n1 xx1c)) := by rw [hb17.cell (by omega) (by omega)]; exact c16_4_3
    have c17_4_4 : w17.cell? ⟨w7.heap.size, 4, none⟩ = some ((.slice yx1a m1 yx1c)) := by rw [hb17.cell (by omega) (by omega)]; exact c16_4_4
    have c17_5_0 : w17.cell? ⟨w8.heap.size, 0, none⟩ = some ((.slice RGva DR.length RGvc)) := by rw [hb17.cell (by omega) (by omega)]; exact c16_5_0
    have B17 : Hid (Below w.heap.size w w17) := B16.out.trans (hb17.below (by omega) (by omega))
    have R17_RW : Hid (DRow w17 (w2.heap.size) (w5.heap.size) (.slice RWva DR.length RWvc) DR) := Lib.hid (hb17.drow R16_RW.out (by omega) (by omega))
    have R17_x0 : Hid (DRow w17 (w5.heap.size) (w6.heap.size) (.slice xx0a D0.length xx0c) (dmk D0)) := Lib.hid (hb17.drow R16_x0.out (by omega) (by omega))
    have R17_x1 : Hid (LRow w17 (w6.heap.size + 1) (w7.heap.size) (.slice xx1a n1 xx1c) (.slice yx1a m1 yx1c) n1 m1 (lmYG KX0 n1) (lmZG KX0 n1 m1)) := Lib.hid (hb17.lrow R16_x1.out (by omega) (by omega))
    have R17_RG : Hid (DRow w17 (w7.heap.size + 1) (w8.heap.size) (.slice RGva DR.length RGvc) (dmk DR)) := Lib.hid (hr)
    have d17_0 : w.heap.size < w17.heap.size := by omega
    have e17_0 : w.heap.size ≠ w17.heap.size := by omega
    have d17_1 : w.heap.size + 1 < w17.heap.size := by omega
    have e17_1 : w.heap.size + 1 ≠ w17.heap.size := by omega
    have d17_2 : XRW < w17.heap.size := by omega
    have e17_2 : XRW ≠ w17.heap.size := by omega
    have d17_3 : w6.heap.size < w17.heap.size := by omega
    have e17_3 : w6.heap.size ≠ w17.heap.size := by omega
    have d17_4 : w7.heap.size < w17.heap.size := by omega
    have e17_4 : w7.heap.size ≠ w17.heap.size := by omega
    have d17_5 : w8.heap.size < w17.heap.size := by omega
    have e17_5 : w8.heap.size ≠ w17.heap.size := by omega
    clear d16_0 e16_0 d16_1 e16_1 d16_2 e16_2 d16_3 e16_3 d16_4 e16_4 d16_5 e16_5 c16_0_0 c16_1_0 c16_1_1 c16_1_2 c16_1_3 c16_1_4 c16_2_0 c16_3_0 c16_4_0 c16_4_1 c16_4_2 c16_4_3 c16_4_4 c16_5_0 R16_RW R16_RG R16_x0 R16_x1 B16 hr hb17
    go_wp2_with fail
    go_at_call 32
    refine (heldDb_K KG DR _ _ _ _ HKG.out R17_RG.out (by omega) (by first | omega | (simp; omega))).mono ?_
    rintro e w18 ⟨rfl, hb18⟩
    have sz18 : w17.heap.size <= w18.heap.size := hb18.size
    have st18 : Below w17.heap.size w17 w18 := hb18
    have c18_0_0 : w18.cell? ⟨w.heap.size, 0, none⟩ = some (.slice ad0 D0.length cp0) := by rw [(bcell st18).1 _ _ (by omega)]; exact c17_0_0
    have c18_1_0 : w18.cell? ⟨w.heap.size + 1, 0, none⟩ = some (.int .i64 o1) := by rw [(bcell st18).1 _ _ (by omega)]; exact c17_1_0
    have c18_1_1 : w18.cell? ⟨w.heap.size + 1, 1, none⟩ = some (.int .i64 s1) := by rw [(bcell st18).1 _ _ (by omega)]; exact c17_1_1
    have c18_1_2 : w18.cell? ⟨w.heap.size + 1, 2, none⟩ = some (.int .i64 g1) := by rw [(bcell st18).1 _ _ (by omega)]; exact c17_1_2
    have c18_1_3 : w18.cell? ⟨w.heap.size + 1, 3, none⟩ = some (.slice ad1 n1 cp1) := by rw [(bcell st18).1 _ _ (by omega)]; exact c17_1_3
    have c18_1_4 : w18.cell? ⟨w.heap.size + 1, 4, none⟩ = some (.slice ae1 m1 cq1) := by rw [(bcell st18).1 _ _ (by omega)]; exact c17_1_4
    have c18_2_0 : w18.cell? ⟨XRW, 0, none⟩ = some (.slice RWva DR.length RWvc) := by rw [(bcell st18).1 _ _ (by omega)]; exact c17_2_0
    have c18_3_0 : w18.cell? ⟨w6.heap.size, 0, none⟩ = some ((.slice xx0a D0.length xx0c)) := by rw [(bcell st18).1 _ _ (by omega)]; exact c17_3_0
    have c18_4_0 : w18.cell? ⟨w7.heap.size, 0, none⟩ = some (.int .i64 o1) := by rw [(bcell st18).1 _ _ (by omega)]; exact c17_4_0
    have c18_4_1 : w18.cell? ⟨w7.heap.size, 1, none⟩ = some (.int .i64 s1) := by rw [(bcell st18).1 _ _ (by omega)]; exact c17_4_1
    have c18_4_2 : w18.cell? ⟨w7.heap.size, 2, none⟩ = some (.int .i64 g1) := by rw [(bcell st18).1 _ _ (by omega)]; exact c17_4_2
    have c18_4_3 : w18.cell? ⟨w7.heap.size, 3, none⟩ = some ((.slice xx1a n1 xx1c)) := by rw [(bcell st18).1 _ _ (by omega)]; exact c17_4_3
    have c18_4_4 : w18.cell? ⟨w7.heap.size, 4, none⟩ = some ((.slice yx1a m1 yx1c)) := by rw [(bcell st18).1 _ _ (by omega)]; exact c17_4_4
    have c18_5_0 : w18.cell? ⟨w8.heap.size, 0, none⟩ = some ((.slice RGva DR.length RGvc)) := by rw [(bcell st18).1 _ _ (by omega)]; exact c17_5_0
    have B18 : Hid (Below w.heap.size w w18) := B17.out.trans (st18.mono (by omega))
    have R18_RW : Hid (DRow w18 (w2.heap.size) (w5.heap.size) (.slice RWva DR.length RWvc) DR) := Lib.hid (R17_RW.out.below st18 (by omega))
    have R18_x0 : Hid (DRow w18 (w5.heap.size) (w6.heap.size) (.slice xx0a D0.length xx0c) (dmk D0)) := Lib.hid (R17_x0.out.below st18 (by omega))
    have R18_x1 : Hid (LRow w18 (w6.heap.size + 1) (w7.heap.size) (.slice xx1a n1 xx1c) (.slice yx1a m1 yx1c) n1 m1 (lmYG KX0 n1) (lmZG KX0 n1 m1)) := Lib.hid (R17_x1.out.below st18 (by omega))
    have R18_RG : Hid (DRow w18 (w7.heap.size + 1) (w8.heap.size) (.slice RGva DR.length RGvc) (dmk DR)) := Lib.hid (R17_RG.out.below st18 (by omega))
    have d18_0 : w.heap.size < w18.heap.size := by omega
    have e18_0 : w.heap.size ≠ w18.heap.size := by omega
    have d18_1 : w.heap.size + 1 < w18.heap.size := by omega
    have e18_1 : w.heap.size + 1 ≠ w18.heap.size := by omega
    have d18_2 : XRW < w18.heap.size := by omega
    have e18_2 : XRW ≠ w18.heap.size := by omega
    have d18_3 : w6.heap.size < w18.heap.size := by omega
    have e18_3 : w6.heap.size ≠ w18.heap.size := by omega
    have d18_4 : w7.heap.size < w18.heap.size := by omega
    have e18_4 : w7.heap.size ≠ w18.heap.size := by omega
    have d18_5 : w8.heap.size < w18.heap.size := by omega
    have e18_5 : w8.heap.size ≠ w18.heap.size := by omega
    clear d17_0 e17_0 d17_1 e17_1 d17_2 e17_2 d17_3 e17_3 d17_4 e17_4 d17_5 e17_5 c17_0_0 c17_1_0 c17_1_1 c17_1_2 c17_1_3 c17_1_4 c17_2_0 c17_3_0 c17_4_0 c17_4_1 c17_4_2 c17_4_3 c17_4_4 c17_5_0 R17_RW R17_x0 R17_x1 R17_RG B17 st18 hb18
    have HS0 : w18.cell? ⟨w.heap.size, 0, none⟩ = some (.slice ad0 D0.length cp0) /\ w18.cell? ⟨w.heap.size + 1, 0, none⟩ = some (.int .i64 o1) /\ w18.cell? ⟨w.heap.size + 1, 1, none⟩ = some (.int .i64 s1) /\ w18.cell? ⟨w.heap.size + 1, 2, none⟩ = some (.int .i64 g1) /\ w18.cell? ⟨w.heap.size + 1, 3, none⟩ = some (.slice ad1 n1 cp1) /\ w18.cell? ⟨w.heap.size + 1, 4, none⟩ = some (.slice ae1 m1 cq1) /\ w18.cell? ⟨XRW, 0, none⟩ = some (.slice RWva DR.length RWvc) /\ w18.cell? ⟨w6.heap.size, 0, none⟩ = some ((.slice xx0a D0.length xx0c)) /\ w18.cell? ⟨w7.heap.size, 0, none⟩ = some (.int .i64 o1) /\ w18.cell? ⟨w7.heap.size, 1, none⟩ = some (.int .i64 s1) /\ w18.cell? ⟨w7.heap.size, 2, none⟩ = some (.int .i64 g1) /\ w18.cell? ⟨w7.heap.size, 3, none⟩ = some ((.slice xx1a n1 xx1c)) /\ w18.cell? ⟨w7.heap.size, 4, none⟩ = some ((.slice yx1a m1 yx1c)) /\ w18.cell? ⟨w8.heap.size, 0, none⟩ = some ((.slice RGva DR.length RGvc)) /\ w18.heap.size <= w18.heap.size /\ Below w18.heap.size w18 w18 := ⟨c18_0_0, c18_1_0, c18_1_1, c18_1_2, c18_1_3, c18_1_4, c18_2_0, c18_3_0, c18_4_0, c18_4_1, c18_4_2, c18_4_3, c18_4_4, c18_5_0, Nat.le_refl _, Below.refl _ _⟩
    go_upto_region 32 with (fail)
    go_cut [15, 16] (fun sp sc wx => ∃ X : Nat, sp = .pointer (some ⟨X, 0, none⟩) /\ sc = .int .i64 r1 /\ Hid (DrawnDb w18 wx DR X) /\ Hid (wx.cell? ⟨w.heap.size, 0, none⟩ = some (.slice ad0 D0.length cp0) /\ wx.cell? ⟨w.heap.size + 1, 0, none⟩ = some (.int .i64 o1) /\ wx.cell? ⟨w.heap.size + 1, 1, none⟩ = some (.int .i64 s1) /\ wx.cell? ⟨w.heap.size + 1, 2, none⟩ = some (.int .i64 g1) /\ wx.cell? ⟨w.heap.size + 1, 3, none⟩ = some (.slice ad1 n1 cp1) /\ wx.cell? ⟨w.heap.size + 1, 4, none⟩ = some (.slice ae1 m1 cq1) /\ wx.cell? ⟨XRW, 0, none⟩ = some (.slice RWva DR.length RWvc) /\ wx.cell? ⟨w6.heap.size, 0, none⟩ = some ((.slice xx0a D0.length xx0c)) /\ wx.cell? ⟨w7.heap.size, 0, none⟩ = some (.int .i64 o1) /\ wx.cell? ⟨w7.heap.size, 1, none⟩ = some (.int .i64 s1) /\ wx.cell? ⟨w7.heap.size, 2, none⟩ = some (.int .i64 g1) /\ wx.cell? ⟨w7.heap.size, 3, none⟩ = some ((.slice xx1a n1 xx1c)) /\ wx.cell? ⟨w7.heap.size, 4, none⟩ = some ((.slice yx1a m1 yx1c)) /\ wx.cell? ⟨w8.heap.size, 0, none⟩ = some ((.slice RGva DR.length RGvc)) /\ w18.heap.size <= wx.heap.size /\ Below w18.heap.size w18 wx))
    case first =>
      go_wp2_with fail
      have tk0 : True := trivial
      have tk1 : True := trivial
      go_region_held3 (fun w' => w'.cell? ⟨w.heap.size, 0, none⟩ = some (.slice ad0 D0.length cp0) /\ w'.cell? ⟨w.heap.size + 1, 0, none⟩ = some (.int .i64 o1) /\ w'.cell? ⟨w.heap.size + 1, 1, none⟩ = some (.int .i64 s1) /\ w'.cell? ⟨w.heap.size + 1, 2, none⟩ = some (.int .i64 g1) /\ w'.cell? ⟨w.heap.size + 1, 3, none⟩ = some (.slice ad1 n1 cp1) /\ w'.cell? ⟨w.heap.size + 1, 4, none⟩ = some (.slice ae1 m1 cq1) /\ w'.cell? ⟨XRW, 0, none⟩ = some (.slice RWva DR.length RWvc) /\ w'.cell? ⟨w6.heap.size, 0, none⟩ = some ((.slice xx0a D0.length xx0c)) /\ w'.cell? ⟨w7.heap.size, 0, none⟩ = some (.int .i64 o1) /\ w'.cell? ⟨w7.heap.size, 1, none⟩ = some (.int .i64 s1) /\ w'.cell? ⟨w7.heap.size, 2, none⟩ = some (.int .i64 g1) /\ w'.cell? ⟨w7.heap.size, 3, none⟩ = some ((.slice xx1a n1 xx1c)) /\ w'.cell? ⟨w7.heap.size, 4, none⟩ = some ((.slice yx1a m1 yx1c)) /\ w'.cell? ⟨w8.heap.size, 0, none⟩ = some ((.slice RGva DR.length RGvc)) /\ w18.heap.size <= w'.heap.size /\ Below w18.heap.size w18 w') (first | assumption | exact rr14_start c18_0_0 c18_1_0 c18_1_1 c18_1_2 c18_1_3 c18_1_4 c18_2_0 c18_3_0 c18_4_0 c18_4_1 c18_4_2 c18_4_3 c18_4_4 c18_5_0 | exact rr14_drew (by assumption) | exact rr14_drew (rr14_box (by omega) (by omega) (by omega) (by omega) (by omega) (by omega) (by omega) (by omega) (by omega) (by omega) (by omega) (by omega) (by omega) (by omega) HS0) | exact rr14_set (by assumption) (by omega) (by omega) (by omega) (by omega) (by omega) (by omega) (by omega) (by omega) (by omega) (by omega) (by omega) (by omega) (by omega) (by omega) (by assumption) | exact rr14_swap (by assumption) (by omega) (by omega) (by omega) (by omega) (by omega) (by omega) (by omega) (by omega) (by omega) (by omega) (by omega) (by omega) (by omega) (by omega) (by assumption) | exact rr14_keep (by omega) (by omega) (by omega) (by omega) (by omega) (by omega) (by omega) (by omega) (by omega) (by omega) (by omega) (by omega) (by omega) (by omega) (by assumption) (by assumption) | exact rr14_box (by omega) (by omega) (by omega) (by omega) (by omega) (by omega) (by omega) (by omega) (by omega) (by omega) (by omega) (by omega) (by omega) (by omega) (by assumption) | fail)
        (first | (go_at_call 19; clear tk0; refine (toDb_any _ D0 _ (HA0.out.below (B18.out.trans ((rr14_out (by assumption)).2.mono (by omega)))) (by omega)).mono ?_; rintro e w19 ⟨xz0, rfl, ry0, hb⟩; have hz19 : w18.heap.size <= w19.heap.size := (by have hh := hb.size; first | omega | (simp at hh; omega)); have ql : w18.heap.size <= w18.heap.size := (by omega); have qc : w19.cell? ⟨w18.heap.size, 0, none⟩ = some (.slice none 0 0) := (((bcell hb).1 _ 0 (by simp)).trans (by first | (rw [new_at rfl]; rfl) | simp [go_sem])); have qf : w19.frozen? ⟨w18.heap.size, 0, none⟩ = false := (((bcell hb).2 _ 0 (by simp)).trans (by first | (rw [new_frz rfl]) | simp [go_sem])); have qz : w18.heap.size < w19.heap.size := (by have hh := hb.size; first | omega | (simp at hh; omega))) | (go_at_call 19; clear tk0; refine (toDb_any _ D0 _ (HA0.out.below (B18.out.trans ((rr14_out (by assumption)).2.mono (by omega)))) (by omega)).mono ?_; rintro e w19 ⟨xz0, rfl, ry0, hb⟩; have hz19 : w18.heap.size <= w19.heap.size := (by have hh := hb.size; first | omega | (simp at hh; omega))) | (go_at_call 30; clear tk1; refine (toLsa_any o1 s1 g1 _ _ n1 m1 Y1 Z1 _ (HA1.out.below (B18.out.trans ((rr14_out (by assumption)).2.mono (by omega)))) (by omega) (by omega)).mono ?_; rintro e w20 ⟨xz1, yz1, rfl, ry1, hb⟩; have hz20 : w18.heap.size <= w20.heap.size := (by have hh := hb.size; first | omega | (simp at hh; omega)); have hy20 : w19.heap.size <= w20.heap.size := (by have hh := hb.size; first | omega | (simp at hh; omega)); have ql := ql; have qc := ((bcell hb).1 _ 0 qz).trans qc; have qf := ((bcell hb).2 _ 0 qz).trans qf; have qz := Nat.lt_of_lt_of_le qz hb.size; have ry0 := ry0.below hb (by first | exact Nat.le_refl _ | omega)) | (go_at_call 30; clear tk1; refine (toLsa_any o1 s1 g1 _ _ n1 m1 Y1 Z1 _ (HA1.out.below (B18.out.trans ((rr14_out (by assumption)).2.mono (by omega)))) (by omega) (by omega)).mono ?_; rintro e w20 ⟨xz1, yz1, rfl, ry1, hb⟩; have hz20 : w18.heap.size <= w20.heap.size := (by have hh := hb.size; first | omega | (simp at hh; omega)); have hy20 : w19.heap.size <= w20.heap.size := (by have hh := hb.size; first | omega | (simp at hh; omega)); have ql : w18.heap.size <= w19.heap.size := (by omega); have qc : w20.cell? ⟨w19.heap.size, 0, none⟩ = some (.slice none 0 0) := (((bcell hb).1 _ 0 (by simp)).trans (by first | (rw [new_at rfl]; rfl) | simp [go_sem])); have qf : w20.frozen? ⟨w19.heap.size, 0, none⟩ = false := (((bcell hb).2 _ 0 (by simp)).trans (by first | (rw [new_frz rfl]) | simp [go_sem])); have qz : w19.heap.size < w20.heap.size := (by have hh := hb.size; first | omega | (simp at hh; omega)); have ry0 := ry0.below (Below.trans ((Below.refl _ _).alloc (Nat.le_refl _) _) (hb.mono (by simp))) (by first | exact Nat.le_refl _ | omega)) | (go_at_call 30; clear tk1; refine (toLsa_any o1 s1 g1 _ _ n1 m1 Y1 Z1 _ (HA1.out.below (B18.out.trans ((rr14_out (by assumption)).2.mono (by omega)))) (by omega) (by omega)).mono ?_; rintro e w20 ⟨xz1, yz1, rfl, ry1, hb⟩; have hz20 : w18.heap.size <= w20.heap.size := (by have hh := hb.size; first | omega | (simp at hh; omega)); have hy20 : w19.heap.size <= w20.heap.size := (by have hh := hb.size; first | omega | (simp at hh; omega)); have ry0 := ry0.below hb (by first | exact Nat.le_refl _ | omega)) | (go_at_call 31; have q0 := qz; refine (Hi.out _ _ _ _ _ _ _ _ ry0 (by first | exact Nat.le_refl _ | omega) ry1 (by first | exact Nat.le_refl _ | omega)).mono ?_; rintro e w21 ⟨RHv, rfl, ryW0, hb⟩; have ryW := ryW0.wide (Nat.succ_le_of_lt q0) (Nat.le_refl _); clear ryW0; have ql := ql; have qc := ((bcell hb).1 _ 0 qz).trans qc; have qf := ((bcell hb).2 _ 0 qz).trans qf; have qz := Nat.lt_of_lt_of_le qz hb.size; obtain ⟨RHva, RHvc, rfl⟩ := ryW.slice) | (go_at_call 31; refine (Hi.out _ _ _ _ _ _ _ _ (ry0.below ((Below.refl _ _).alloc (Nat.le_refl _) _) (by first | exact Nat.le_refl _ | omega)) (by simp <;> omega) (ry1.below ((Below.refl _ _).alloc (Nat.le_refl _) _) (by first | exact Nat.le_refl _ | omega)) (by simp <;> omega)).mono ?_; rintro e w21 ⟨RHv, rfl, ryW0, hb⟩; have ql : w18.heap.size <= w20.heap.size := (by omega); have qc : w21.cell? ⟨w20.heap.size, 0, none⟩ = some (.slice none 0 0) := (((bcell hb).1 _ 0 (by simp)).trans (by first | (rw [new_at rfl]; rfl) | simp [go_sem])); have qf : w21.frozen? ⟨w20.heap.size, 0, none⟩ = false := (((bcell hb).2 _ 0 (by simp)).trans (by first | (rw [new_frz rfl]) | simp [go_sem])); have qz : w20.heap.size < w21.heap.size := (by have hh := hb.size; first | omega | (simp at hh; omega)); have ryW : DRow w21 (w20.heap.size + 1) w21.heap.size RHv DR := ryW0.wide (by simp) (Nat.le_refl _); clear ryW0; obtain ⟨RHva, RHvc, rfl⟩ := ryW.slice) | (go_at_call 31; refine (Hi.out _ _ _ _ _ _ _ _ ry0 (by first | exact Nat.le_refl _ | omega) ry1 (by first | exact Nat.le_refl _ | omega)).mono ?_; rintro e w21 ⟨RHv, rfl, ryW0, hb⟩; have ryW := ryW0.wide (lo' := w18.heap.size) (by have hq := rr14_out (by assumption); omega) (Nat.le_refl _); clear ryW0; have hz21 : w18.heap.size <= w21.heap.size := Nat.le_trans hz20 hb.size; obtain ⟨RHva, RHvc, rfl⟩ := ryW.slice) | fail)
      all_goals go_wp2_with fail
      all_goals go_meet
      all_goals first
        | exact ⟨_, rfl, rfl, Lib.hid (drawnA hz21 ryW), Lib.hid (by assumption)⟩
        | exact ⟨_, rfl, rfl, Lib.hid (drawnB ql qz qc ryW), Lib.hid (by assumption)⟩
    case rest =>
      clear HS0
      obtain ⟨XRH, rfl, rfl, hD, hS⟩ := hcut
      obtain ⟨w21, rfl⟩ : ∃ x, x = wc := ⟨_, rfl⟩
      obtain ⟨RHva, RHvc, xcRH, xbRH, xlRH, ryW⟩ := hD.out
      have hb21 : Below w18.heap.size w18 w21 := (rr14_out hS.out).2
      clear hD hS
      have sz21 : w18.heap.size <= w21.heap.size := hb21.size
      have st21 : Below w18.heap.size w18 w21 := hb21
      have c21_0_0 : w21.cell? ⟨w.heap.size, 0, none⟩ = some (.slice ad0 D0.length cp0) := by rw [(bcell st21).1 _ _ (by omega)]; exact c18_0_0
      have c21_1_0 : w21.cell? ⟨w.heap.size + 1, 0, none⟩ = some (.int .i64 o1) := by rw [(bcell st21).1 _ _ (by omega)]; exact c18_1_0
      have c21_1_1 : w21.cell? ⟨w.heap.size + 1, 1, none⟩ = some (.int .i64 s1) := by rw [(bcell st21).1 _ _ (by omega)]; exact c18_1_1
      have c21_1_2 : w21.cell? ⟨w.heap.size + 1, 2, none⟩ = some (.int .i64 g1) := by rw [(bcell st21).1 _ _ (by omega)]; exact c18_1_2
      have c21_1_3 : w21.cell? ⟨w.heap.size + 1, 3, none⟩ = some (.slice ad1 n1 cp1) := by rw [(bcell st21).1 _ _ (by omega)]; exact c18_1_3
      have c21_1_4 : w21.cell? ⟨w.heap.size + 1, 4, none⟩ = some (.slice ae1 m1 cq1) := by rw [(bcell st21).1 _ _ (by omega)]; exact c18_1_4
      have c21_2_0 : w21.cell? ⟨XRW, 0, none⟩ = some (.slice RWva DR.length RWvc) := by rw [(bcell st21).1 _ _ (by omega)]; exact c18_2_0
      have c21_3_0 : w21.cell? ⟨w6.heap.size, 0, none⟩ = some ((.slice xx0a D0.length xx0c)) := by rw [(bcell st21).1 _ _ (by omega)]; exact c18_3_0
      have c21_4_0 : w21.cell? ⟨w7.heap.size, 0, none⟩ = some (.int .i64 o1) := by rw [(bcell st21).1 _ _ (by omega)]; exact c18_4_0
      have c21_4_1 : w21.cell? ⟨w7.heap.size, 1, none⟩ = some (.int .i64 s1) := by rw [(bcell st21).1 _ _ (by omega)]; exact c18_4_1
      have c21_4_2 : w21.cell? ⟨w7.heap.size, 2, none⟩ = some (.int .i64 g1) := by rw [(bcell st21).1 _ _ (by omega)]; exact c18_4_2
      have c21_4_3 : w21.cell? ⟨w7.heap.size, 3, none⟩ = some ((.slice xx1a n1 xx1c)) := by rw [(bcell st21).1 _ _ (by omega)]; exact c18_4_3
      have c21_4_4 : w21.cell? ⟨w7.heap.size, 4, none⟩ = some ((.slice yx1a m1 yx1c)) := by rw [(bcell st21).1 _ _ (by omega)]; exact c18_4_4
      have c21_5_0 : w21.cell? ⟨w8.heap.size, 0, none⟩ = some ((.slice RGva DR.length RGvc)) := by rw [(bcell st21).1 _ _ (by omega)]; exact c18_5_0
      have B21 : Hid (Below w.heap.size w w21) := B18.out.trans (st21.mono (by omega))
      have R21_RW : Hid (DRow w21 (w2.heap.size) (w5.heap.size) (.slice RWva DR.length RWvc) DR) := Lib.hid (R18_RW.out.below st21 (by omega))
      have R21_x0 : Hid (DRow w21 (w5.heap.size) (w6.heap.size) (.slice xx0a D0.length xx0c) (dmk D0)) := Lib.hid (R18_x0.out.below st21 (by omega))
      have R21_x1 : Hid (LRow w21 (w6.heap.size + 1) (w7.heap.size) (.slice xx1a n1 xx1c) (.slice yx1a m1 yx1c) n1 m1 (lmYG KX0 n1) (lmZG KX0 n1 m1)) := Lib.hid (R18_x1.out.below st21 (by omega))
      have R21_RG : Hid (DRow w21 (w7.heap.size + 1) (w8.heap.size) (.slice RGva DR.length RGvc) (dmk DR)) := Lib.hid (R18_RG.out.below st21 (by omega))
      have R21_RH : Hid (DRow w21 (w18.heap.size) (w21.heap.size) (.slice RHva DR.length RHvc) DR) := Lib.hid (ryW)
      have d21_0 : w.heap.size < w21.heap.size := by omega
      have e21_0 : w.heap.size ≠ w21.heap.size := by omega
      have d21_1 : w.heap.size + 1 < w21.heap.size := by omega
      have e21_1 : w.heap.size + 1 ≠ w21.heap.size := by omega
      have d21_2 : XRW < w21.heap.size := by omega
      have e21_2 : XRW ≠ w21.heap.size := by omega
      have d21_3 : w6.heap.size < w21.heap.size := by omega
      have e21_3 : w6.heap.size ≠ w21.heap.size := by omega
      have d21_4 : w7.heap.size < w21.heap.size := by omega
      have e21_4 : w7.heap.size ≠ w21.heap.size := by omega
      have d21_5 : w8.heap.size < w21.heap.size := by omega
      have e21_5 : w8.heap.size ≠ w21.heap.size := by omega
      clear d18_0 e18_0 d18_1 e18_1 d18_2 e18_2 d18_3 e18_3 d18_4 e18_4 d18_5 e18_5 c18_0_0 c18_1_0 c18_1_1 c18_1_2 c18_1_3 c18_1_4 c18_2_0 c18_3_0 c18_4_0 c18_4_1 c18_4_2 c18_4_3 c18_4_4 c18_5_0 R18_RW R18_x0 R18_x1 R18_RG B18 st21 ryW hb21
      have c21_6_0 := xcRH
      have d21_6 := xlRH
      have e21_6 : XRH ≠ w21.heap.size := by omega
      clear xcRH
      go_wp2_with fail
      go_at_call 21
      refine (eqDb_same DR _ _ _ _ _ _ _ R21_RH.out R21_RW.out (by first | omega | (simp; omega) | simp) (by first | omega | (simp; omega) | simp)).mono ?_
      rintro e w22 ⟨rfl, hb22⟩
      have sz22 : w21.heap.size <= w22.heap.size := hb22.size
      have st22 : Below w21.heap.size w21 w22 := hb22
      have c22_0_0 : w22.cell? ⟨w.heap.size, 0, none⟩ = some (.slice ad0 D0.length cp0) := by rw [(bcell st22).1 _ _ (by omega)]; exact c21_0_0
      have c22_1_0 : w22.cell? ⟨w.heap.size + 1, 0, none⟩ = some (.int .i64 o1) := by rw [(bcell st22).1 _ _ (by omega)]; exact c21_1_0
      have c22_1_1 : w22.cell? ⟨w.heap.size + 1, 1, none⟩ = some (.int .i64 s1) := by rw [(bcell st22).1 _ _ (by omega)]; exact c21_1_1
      have c22_1_2 : w22.cell? ⟨w.heap.size + 1, 2, none⟩ = some (.int .i64 g1) := by rw [(bcell st22).1 _ _ (by omega)]; exact c21_1_2
      have c22_1_3 : w22.cell? ⟨w.heap.size + 1, 3, none⟩ = some (.slice ad1 n1 cp1) := by rw [(bcell st22).1 _ _ (by omega)]; exact c21_1_3
      have c22_1_4 : w22.cell? ⟨w.heap.size + 1, 4, none⟩ = some (.slice ae1 m1 cq1) := by rw [(bcell st22).1 _ _ (by omega)]; exact c21_1_4
      have c22_2_0 : w22.cell? ⟨XRW, 0, none⟩ = some (.slice RWva DR.length RWvc) := by rw [(bcell st22).1 _ _ (by omega)]; exact c21_2_0
      have c22_3_0 : w22.cell? ⟨w6.heap.size, 0, none⟩ = some ((.slice xx0a D0.length xx0c)) := by rw [(bcell st22).1 _ _ (by omega)]; exact c21_3_0
      have c22_4_0 : w22.cell? ⟨w7.heap.size, 0, none⟩ = some (.int .i64 o1) := by rw [(bcell st22).1 _ _ (by omega)]; exact c21_4_0
      have c22_4_1 : w22.cell? ⟨w7.heap.size, 1, none⟩ = some (.int .i64 s1) := by rw [(bcell st22).1 _ _ (by omega)]; exact c21_4_1
      have c22_4_2 : w22.cell? ⟨w7.heap.size, 2, none⟩ = some (.int .i64 g1) := by rw [(bcell st22).1 _ _ (by omega)]; exact c21_4_2
      have c22_4_3 : w22.cell? ⟨w7.heap.size, 3, none⟩ = some ((.slice xx1a n1 xx1c)) := by rw [(bcell st22).1 _ _ (by omega)]; exact c21_4_3
      have c22_4_4 : w22.cell? ⟨w7.heap.size, 4, none⟩ = some ((.slice yx1a m1 yx1c)) := by rw [(bcell st22).1 _ _ (by omega)]; exact c21_4_4
      have c22_5_0 : w22.cell? ⟨w8.heap.size, 0, none⟩ = some ((.slice RGva DR.length RGvc)) := by rw [(bcell st22).1 _ _ (by omega)]; exact c21_5_0
      have c22_6_0 : w22.cell? ⟨XRH, 0, none⟩ = some (.slice RHva DR.length RHvc) := by rw [(bcell st22).1 _ _ (by omega)]; exact c21_6_0
      have B22 : Hid (Below w.heap.size w w22) := B21.out.trans (st22.mono (by omega))
      have R22_RW : Hid (DRow w22 (w2.heap.size) (w5.heap.size) (.slice RWva DR.length RWvc) DR) := Lib.hid (R21_RW.out.below st22 (by omega))
      have R22_x0 : Hid (DRow w22 (w5.heap.size) (w6.heap.size) (.slice xx0a D0.length xx0c) (dmk D0)) := Lib.hid (R21_x0.out.below st22 (by omega))
      have R22_x1 : Hid (LRow w22 (w6.heap.size + 1) (w7.heap.size) (.slice xx1a n1 xx1c) (.slice yx1a m1 yx1c) n1 m1 (lmYG KX0 n1) (lmZG KX0 n1 m1)) := Lib.hid (R21_x1.out.below st22 (by omega))
      have R22_RG : Hid (DRow w22 (w7.heap.size + 1) (w8.heap.size) (.slice RGva DR.length RGvc) (dmk DR)) := Lib.hid (R21_RG.out.below st22 (by omega))
      have R22_RH : Hid (DRow w22 (w18.heap.size) (w21.heap.size) (.slice RHva DR.length RHvc) DR) := Lib.hid (R21_RH.out.below st22 (by omega))
      have d22_0 : w.heap.size < w22.heap.size := by omega
      have e22_0 : w.heap.size ≠ w22.heap.size := by omega
      have d22_1 : w.heap.size + 1 < w22.heap.size := by omega
      have e22_1 : w.heap.size + 1 ≠ w22.heap.size := by omega
      have d22_2 : XRW < w22.heap.size := by omega
      have e22_2 : XRW ≠ w22.heap.size := by omega
      have d22_3 : w6.heap.size < w22.heap.size := by omega
      have e22_3 : w6.heap.size ≠ w22.heap.size := by omega
      have d22_4 : w7.heap.size < w22.heap.size := by omega
      have e22_4 : w7.heap.size ≠ w22.heap.size := by omega
      have d22_5 : w8.heap.size < w22.heap.size := by omega
      have e22_5 : w8.heap.size ≠ w22.heap.size := by omega
      have d22_6 : XRH < w22.heap.size := by omega
      have e22_6 : XRH ≠ w22.heap.size := by omega
      clear d21_0 e21_0 d21_1 e21_1 d21_2 e21_2 d21_3 e21_3 d21_4 e21_4 d21_5 e21_5 d21_6 e21_6 c21_0_0 c21_1_0 c21_1_1 c21_1_2 c21_1_3 c21_1_4 c21_2_0 c21_3_0 c21_4_0 c21_4_1 c21_4_2 c21_4_3 c21_4_4 c21_5_0 c21_6_0 R21_RW R21_x0 R21_x1 R21_RG R21_RH B21 st22 hb22
      go_wp2_with fail
      go_at_call 32
      refine (heldDb_K KG DR _ _ _ _ HKG.out R22_RG.out (by omega) (by first | omega | (simp; omega))).mono ?_
      rintro e w23 ⟨rfl, hb23⟩
      have sz23 : w22.heap.size <= w23.heap.size := hb23.size
      have st23 : Below w22.heap.size w22 w23 := hb23
      have c23_0_0 : w23.cell? ⟨w.heap.size, 0, none⟩ = some (.slice ad0 D0.length cp0) := by rw [(bcell st23).1 _ _ (by omega)]; exact c22_0_0
      have c23_1_0 : w23.cell? ⟨w.heap.size + 1, 0, none⟩ = some (.int .i64 o1) := by rw [(bcell st23).1 _ _ (by omega)]; exact c22_1_0
      have c23_1_1 : w23.cell? ⟨w.heap.size + 1, 1, none⟩ = some (.int .i64 s1) := by rw [(bcell st23).1 _ _ (by omega)]; exact c22_1_1
      have c23_1_2 : w23.cell? ⟨w.heap.size + 1, 2, none⟩ = some (.int .i64 g1) := by rw [(bcell st23).1 _ _ (by omega)]; exact c22_1_2
      have c23_1_3 : w23.cell? ⟨w.heap.size + 1, 3, none⟩ = some (.slice ad1 n1 cp1) := by rw [(bcell st23).1 _ _ (by omega)]; exact c22_1_3
      have c23_1_4 : w23.cell? ⟨w.heap.size + 1, 4, none⟩ = some (.slice ae1 m1 cq1) := by rw [(bcell st23).1 _ _ (by omega)]; exact c22_1_4
      have c23_2_0 : w23.cell? ⟨XRW, 0, none⟩ = some (.slice RWva DR.length RWvc) := by rw [(bcell st23).1 _ _ (by omega)]; exact c22_2_0
      have c23_3_0 : w23.cell? ⟨w6.heap.size, 0, none⟩ = some ((.slice xx0a D0.length xx0c)) := by rw [(bcell st23).1 _ _ (by omega)]; exact c22_3_0
      have c23_4_0 : w23.cell? ⟨w7.heap.size, 0, none⟩ = some (.int .i64 o1) := by rw [(bcell st23).1 _ _ (by omega)]; exact c22_4_0
      have c23_4_1 : w23.cell? ⟨w7.heap.size, 1, none⟩ = some (.int .i64 s1) := by rw [(bcell st23).1 _ _ (by omega)]; exact c22_4_1
      have c23_4_2 : w23.cell? ⟨w7.heap.size, 2, none⟩ = some (.int .i64 g1) := by rw [(bcell st23).1 _ _ (by omega)]; exact c22_4_2
      have c23_4_3 : w23.cell? ⟨w7.heap.size, 3, none⟩ = some ((.slice xx1a n1 xx1c)) := by rw [(bcell st23).1 _ _ (by omega)]; exact c22_4_3
      have c23_4_4 : w23.cell? ⟨w7.heap.size, 4, none⟩ = some ((.slice yx1a m1 yx1c)) := by rw [(bcell st23).1 _ _ (by omega)]; exact c22_4_4
      have c23_5_0 : w23.cell? ⟨w8.heap.size, 0, none⟩ = some ((.slice RGva DR.length RGvc)) := by rw [(bcell st23).1 _ _ (by omega)]; exact c22_5_0
      have c23_6_0 : w23.cell? ⟨XRH, 0, none⟩ = some (.slice RHva DR.length RHvc) := by rw [(bcell st23).1 _ _ (by omega)]; exact c22_6_0
      have B23 : Hid (Below w.heap.size w w23) := B22.out.trans (st23.mono (by omega))
      have R23_RW : Hid (DRow w23 (w2.heap.size) (w5.heap.size) (.slice RWva DR.length RWvc) DR) := Lib.hid (R22_RW.out.below st23 (by omega))
      have R23_x0 : Hid (DRow w23 (w5.heap.size) (w6.heap.size) (.slice xx0a D0.length xx0c) (dmk D0)) := Lib.hid (R22_x0.out.below st23 (by omega))
      have R23_x1 : Hid (LRow w23 (w6.heap.size + 1) (w7.heap.size) (.slice xx1a n1 xx1c) (.slice yx1a m1 yx1c) n1 m1 (lmYG KX0 n1) (lmZG KX0 n1 m1)) := Lib.hid (R22_x1.out.below st23 (by omega))
      have R23_RG : Hid (DRow w23 (w7.heap.size + 1) (w8.heap.size) (.slice RGva DR.length RGvc) (dmk DR)) := Lib.hid (R22_RG.out.below st23 (by omega))
      have R23_RH : Hid (DRow w23 (w18.heap.size) (w21.heap.size) (.slice RHva DR.length RHvc) DR) := Lib.hid (R22_RH.out.below st23 (by omega))
      have d23_0 : w.heap.size < w23.heap.size := by omega
      have e23_0 : w.heap.size ≠ w23.heap.size := by omega
      have d23_1 : w.heap.size + 1 < w23.heap.size := by omega
      have e23_1 : w.heap.size + 1 ≠ w23.heap.size := by omega
      have d23_2 : XRW < w23.heap.size := by omega
      have e23_2 : XRW ≠ w23.heap.size := by omega
      have d23_3 : w6.heap.size < w23.heap.size := by omega
      have e23_3 : w6.heap.size ≠ w23.heap.size := by omega
      have d23_4 : w7.heap.size < w23.heap.size := by omega
      have e23_4 : w7.heap.size ≠ w23.heap.size := by omega
      have d23_5 : w8.heap.size < w23.heap.size := by omega
      have e23_5 : w8.heap.size ≠ w23.heap.size := by omega
      have d23_6 : XRH < w23.heap.size := by omega
      have e23_6 : XRH ≠ w23.heap.size := by omega
      clear d22_0 e22_0 d22_1 e22_1 d22_2 e22_2 d22_3 e22_3 d22_4 e22_4 d22_5 e22_5 d22_6 e22_6 c22_0_0 c22_1_0 c22_1_1 c22_1_2 c22_1_3 c22_1_4 c22_2_0 c22_3_0 c22_4_0 c22_4_1 c22_4_2 c22_4_3 c22_4_4 c22_5_0 c22_6_0 R22_RW R22_x0 R22_x1 R22_RG R22_RH B22 st23 hb23
      go_wp2_with fail
      go_ret
      exact ⟨rfl, B23.out⟩
set_option linter.unusedVariables false in
set_option maxHeartbeats 2000000 in
theorem lawExactInstall_big0 (v0 : Value) (D0 : List Ls) (o1 s1 g1 : Int) (u1 v1 : Value) (n1 m1 : Nat) (Y1 Z1 : Nat -> Int) (w : World) (hA0 : DArg w v0 D0) (hA1 : LArg w u1 v1 n1 m1 Y1 Z1) (hn : 1048576 < dtot D0) :
    Calls Try.prog 6 #[.agg #[v0], .agg #[.int .i64 o1, .int .i64 s1, .int .i64 g1, u1, v1]] w fun e w' => e = .returned (.bool true) /\ Below w.heap.size w w' := by
  have HA0 := Lib.hid hA0
  obtain ⟨ad0, cp0, rfl⟩ := hA0.slice
  clear hA0
  have hx1 := hA1.1.2.1
  have hy1 := hA1.2.2.1
  have HA1 := Lib.hid hA1
  obtain ⟨ad1, cp1, rfl⟩ := hA1.1.slice
  obtain ⟨ae1, cq1, rfl⟩ := hA1.2.slice
  clear hA1
  have hneg0 : ((1048576 : Int) - (dtot D0 : Int) < 0) := by omega
  go_enter Try.func6, Try.ntmps6
  go_wp2_with fail
  go_at_call 18
  refine (szDb_big _ D0 (1048576) _ (HA0.out.below (Below.trans (Below.refl _ _) (by go_grown))) (by omega) (by omega) (by omega)).mono ?_
  rintro e w1 ⟨rfl, hb1⟩
  have sz1 : w.heap.size + 2 <= w1.heap.size := by have hh := hb1.size; simp at hh; omega
  have st1 : Below w.heap.size w w1 := Below.trans (by go_grown) (hb1.mono (by simp; omega))
  have c1_0_0 : w1.cell? ⟨w.heap.size, 0, none⟩ = some (.slice ad0 D0.length cp0) := by rw [(bcell hb1).1 _ _ (by simp <;> omega), old_box (by simp), new_at (by simp)]; rfl
  have c1_1_0 : w1.cell? ⟨w.heap.size + 1, 0, none⟩ = some (.int .i64 o1) := by rw [(bcell hb1).1 _ _ (by simp), new_at (by simp)]; rfl
  have c1_1_1 : w1.cell? ⟨w.heap.size + 1, 1, none⟩ = some (.int .i64 s1) := by rw [(bcell hb1).1 _ _ (by simp), new_at (by simp)]; rfl
  have c1_1_2 : w1.cell? ⟨w.heap.size + 1, 2, none⟩ = some (.int .i64 g1) := by rw [(bcell hb1).1 _ _ (by simp), new_at (by simp)]; rfl
  have c1_1_3 : w1.cell? ⟨w.heap.size + 1, 3, none⟩ = some (.slice ad1 n1 cp1) := by rw [(bcell hb1).1 _ _ (by simp), new_at (by simp)]; rfl
  have c1_1_4 : w1.cell? ⟨w.heap.size + 1, 4, none⟩ = some (.slice ae1 m1 cq1) := by rw [(bcell hb1).1 _ _ (by simp), new_at (by simp)]; rfl
  have B1 : Hid (Below w.heap.size w w1) := st1
  have d1_0 : w.heap.size < w1.heap.size := by omega
  have e1_0 : w.heap.size ≠ w1.heap.size := by omega
  have d1_1 : w.heap.size + 1 < w1.heap.size := by omega
  have e1_1 : w.heap.size + 1 ≠ w1.heap.size := by omega
  clear st1 hb1
  go_wp2_with fail
  go_ret
  exact ⟨rfl, B1.out⟩
set_option linter.unusedVariables false in
set_option maxHeartbeats 2000000 in
theorem lawExactInstall_big1 (v0 : Value) (D0 : List Ls) (o1 s1 g1 : Int) (u1 v1 : Value) (n1 m1 : Nat) (Y1 Z1 : Nat -> Int) (w : World) (hA0 : DArg w v0 D0) (hA1 : LArg w u1 v1 n1 m1 Y1 Z1) (hf : dtot D0 <= 1048576) (hn : 1048576 < dtot D0 + n1 + m1) :
    Calls Try.prog 6 #[.agg #[v0], .agg #[.int .i64 o1, .int .i64 s1, .int .i64 g1, u1, v1]] w fun e w' => e = .returned (.bool true) /\ Below w.heap.size w w' := by
  have HA0 := Lib.hid hA0
  obtain ⟨ad0, cp0, rfl⟩ := hA0.slice
  clear hA0
  have hx1 := hA1.1.2.1
  have hy1 := hA1.2.2.1
  have HA1 := Lib.hid hA1
  obtain ⟨ad1, cp1, rfl⟩ := hA1.1.slice
  obtain ⟨ae1, cq1, rfl⟩ := hA1.2.slice
  clear hA1
  have hneg0 : ¬ ((1048576 : Int) - (dtot D0 : Int) < 0) := by omega
  have H1 := fun w => szLsa_any o1 s1 g1 ad1 ae1 n1 cp1 m1 cq1 (1048576 - (dtot D0 : Int)) w hx1 hy1 (by omega) (by omega)
  have hneg1 : ((1048576 - (dtot D0 : Int) : Int) - (n1 : Int) - (m1 : Int) < 0) := by omega
  simp only [if_pos hneg1] at H1
  clear hneg1
  go_enter Try.func6, Try.ntmps6
  go_wp2_with fail
  go_at_call 18
  refine (szDb_fit _ D0 (1048576) _ (HA0.out.below (Below.trans (Below.refl _ _) (by go_grown))) (by omega) (by omega)).mono ?_
  rintro e w1 ⟨rfl, hb1⟩
  have sz1 : w.heap.size + 2 <= w1.heap.size := by have hh := hb1.size; simp at hh; omega
  have st1 : Below w.heap.size w w1 := Below.trans (by go_grown) (hb1.mono (by simp; omega))
  have c1_0_0 : w1.cell? ⟨w.heap.size, 0, none⟩ = some (.slice ad0 D0.length cp0) := by rw [(bcell hb1).1 _ _ (by simp <;> omega), old_box (by simp), new_at (by simp)]; rfl
  have c1_1_0 : w1.cell? ⟨w.heap.size + 1, 0, none⟩ = some (.int .i64 o1) := by rw [(bcell hb1).1 _ _ (by simp), new_at (by simp)]; rfl
  have c1_1_1 : w1.cell? ⟨w.heap.size + 1, 1, none⟩ = some (.int .i64 s1) := by rw [(bcell hb1).1 _ _ (by simp), new_at (by simp)]; rfl
  have c1_1_2 : w1.cell? ⟨w.heap.size + 1, 2, none⟩ = some (.int .i64 g1) := by rw [(bcell hb1).1 _ _ (by simp), new_at (by simp)]; rfl
  have c1_1_3 : w1.cell? ⟨w.heap.size + 1, 3, none⟩ = some (.slice ad1 n1 cp1) := by rw [(bcell hb1).1 _ _ (by simp), new_at (by simp)]; rfl
  have c1_1_4 : w1.cell? ⟨w.heap.size + 1, 4, none⟩ = some (.slice ae1 m1 cq1) := by rw [(bcell hb1).1 _ _ (by simp), new_at (by simp)]; rfl
  have B1 : Hid (Below w.heap.size w w1) := st1
  have d1_0 : w.heap.size < w1.heap.size := by omega
  have e1_0 : w.heap.size ≠ w1.heap.size := by omega
  have d1_1 : w.heap.size + 1 < w1.heap.size := by omega
  have e1_1 : w.heap.size + 1 ≠ w1.heap.size := by omega
  clear st1 hb1
  go_wp2_with fail
  go_at_call 28
  refine (H1 _).mono ?_
  rintro e w2 ⟨rfl, hb2⟩
  have sz2 : w1.heap.size <= w2.heap.size := hb2.size
  have st2 : Below w1.heap.size w1 w2 := hb2
  have c2_0_0 : w2.cell? ⟨w.heap.size, 0, none⟩ = some (.slice ad0 D0.length cp0) := by rw [(bcell st2).1 _ _ (by omega)]; exact c1_0_0
  have c2_1_0 : w2.cell? ⟨w.heap.size + 1, 0, none⟩ = some (.int .i64 o1) := by rw [(bcell st2).1 _ _ (by omega)]; exact c1_1_0
  have c2_1_1 : w2.cell? ⟨w.heap.size + 1, 1, none⟩ = some (.int .i64 s1) := by rw [(bcell st2).1 _ _ (by omega)]; exact c1_1_1
  have c2_1_2 : w2.cell? ⟨w.heap.size + 1, 2, none⟩ = some (.int .i64 g1) := by rw [(bcell st2).1 _ _ (by omega)]; exact c1_1_2
  have c2_1_3 : w2.cell? ⟨w.heap.size + 1, 3, none⟩ = some (.slice ad1 n1 cp1) := by rw [(bcell st2).1 _ _ (by omega)]; exact c1_1_3
  have c2_1_4 : w2.cell? ⟨w.heap.size + 1, 4, none⟩ = some (.slice ae1 m1 cq1) := by rw [(bcell st2).1 _ _ (by omega)]; exact c1_1_4
  have B2 : Hid (Below w.heap.size w w2) := B1.out.trans (st2.mono (by omega))
  have d2_0 : w.heap.size < w2.heap.size := by omega
  have e2_0 : w.heap.size ≠ w2.heap.size := by omega
  have d2_1 : w.heap.size + 1 < w2.heap.size := by omega
  have e2_1 : w.heap.size + 1 ≠ w2.heap.size := by omega
  clear d1_0 e1_0 d1_1 e1_1 c1_0_0 c1_1_0 c1_1_1 c1_1_2 c1_1_3 c1_1_4 B1 st2 hb2
  go_wp2_with fail
  go_ret
  exact ⟨rfl, B2.out⟩
end Go.Proofs.Ytfpafjdakipccaa
