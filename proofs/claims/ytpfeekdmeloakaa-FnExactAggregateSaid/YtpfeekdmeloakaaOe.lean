/- The closure that collects, by induction on the depth. -/
import Derived.Test.YtpfeekdmeloakaaOd
namespace Go.Proofs.Ytpfeekdmeloakaa.Old
open Go.RowKit

/-- What the closure does to a block, from any world in which it stands bound. -/
def Coll (B : Nat) (fr to net n : Int) (L : List (Int × Int)) : Prop :=
  ∀ (F : List (Int × Int)) (v : Value) (w : World), (F.length : Int) + psz n ≤ 140000 → CInv B fr to w F v →
    Calls Try.prog 115 #[.agg #[.int .i64 net, .int .i64 n], .pointer (some ⟨B, 0, none⟩), .pointer (some ⟨B + 1, 0, none⟩), .pointer (some ⟨B + 2, 0, none⟩)] w (CPost B fr to w F v L)

/-- A box of two cells that the frame keeps. -/
theorem CFrame.box {B b : Nat} {w w' : World} {v v' : Value} (h : CFrame B w v w' v') (hb : b < w.heap.size) (h1 : b ≠ B + 1) (h2 : v.ownBlock ≠ some b) (o : Nat) : w'.cell? ⟨b, o, none⟩ = w.cell? ⟨b, o, none⟩ :=
  World.cell?_of_block (a := ⟨b, o, none⟩) (h.2.2.2.2.1 b hb h1 h2)

set_option maxHeartbeats 4000000 in
theorem collect_some (B : Nat) (fr to net n : Int) (h0 : 0 ≤ n) (h16 : n < 16) (h2 : 0 ≤ net) (h3 : net + psz n ≤ 65536) (hp : partI fr to net n = 1) (L0 L1 : List (Int × Int)) (hL0 : (L0.length : Int) ≤ psz (n + 1))
    (ihl : Coll B fr to net (n + 1) L0) (ihh : Coll B fr to (net + psz (n + 1)) (n + 1) L1) : Coll B fr to net n (L0 ++ L1) := by
  intro F v w hF hI
  obtain ⟨k1, k2, k3, k4, k5, k6, k7⟩ := hI
  have hI : CInv B fr to w F v := ⟨k1, k2, k3, k4, k5, k6, k7⟩
  have HI := Lib.hid hI
  have Hp := Lib.hid hp
  have Hl := Lib.hid ihl
  have Hh := Lib.hid ihh
  have hhalf := psz_half n h0 h16
  have hpp := psz_pos (n + 1) (by omega) (by omega)
  have h3' : net ≤ 65535 := by omega
  have Hhalf := Lib.hid hhalf
  clear hI k3 k4 k5 k7 hp ihl ihh hhalf
  have d0 : B < w.heap.size := by omega
  have d1 : B ≠ w.heap.size := by omega
  go_enter Try.func115, Try.ntmps115
  go_wp2_with (go_at_call 116; refine (part_any _ _ _ _ _ h0 (by omega) h2 h3').mono ?_; rintro e w2 ⟨rfl, hb⟩; rw [Hp.out]; have I2 := HI.out.keep (unbox hb); obtain ⟨b0, b1, b2⟩ := box_later hb; have HI2 := Lib.hid I2; have HB2 := Lib.hid (unbox hb); clear I2)
  go_at_call 117
  refine (ihalves_any _ _ _ h0 h16 h2 h3').mono ?_
  rintro e w3 ⟨rfl, hb3⟩
  have I3 := HI2.out.keep hb3
  have q5 : w3.cell? ⟨B + 2, 0, none⟩ = some (.func (.func 115) #[] #[.pointer (some ⟨B, 0, none⟩), .pointer (some ⟨B + 1, 0, none⟩), .pointer (some ⟨B + 2, 0, none⟩)]) := I3.2.2.2.2.1
  have q6 := I3.2.2.2.2.2.1
  have HI3 := Lib.hid I3
  have HB3 := Lib.hid hb3
  have m1 : B + 2 ≠ w3.heap.size := by omega
  have m2 : B + 2 ≠ w3.heap.size + 1 := by omega
  have m3 : B + 2 < w3.heap.size + 1 := by omega
  clear I3 hb3
  go_wp2_with fail
  go_at_call 115
  refine (Hl.out F v _ (by have := Hhalf.out; omega) (HI3.out.keep (by go_grown))).mono ?_
  rintro e w4 ⟨rfl, v1, I4, F4⟩
  have hv3 := HI3.out.2.2.2.2.2.2.lt
  have nb : v.ownBlock ≠ some (w3.heap.size + 1) := fun e => by have := (hv3 _ e).2; omega
  have s0 := F4.box (b := w3.heap.size + 1) (by simp) (by omega) nb 0
  simp [go_sem] at s0
  have s1 := F4.box (b := w3.heap.size + 1) (by simp) (by omega) nb 1
  simp [go_sem] at s1
  have q7 : w4.cell? ⟨B + 2, 0, none⟩ = some (.func (.func 115) #[] #[.pointer (some ⟨B, 0, none⟩), .pointer (some ⟨B + 1, 0, none⟩), .pointer (some ⟨B + 2, 0, none⟩)]) := I4.2.2.2.2.1
  have H4 := Lib.hid (And.intro I4 F4)
  clear I4 F4 hv3 nb
  go_wp2_with fail
  go_at_call 115
  refine (Hh.out (F ++ L0) v1 w4 (by rw [List.length_append]; have := Hhalf.out; omega) H4.out.1).mono ?_
  rintro e w5 ⟨rfl, v2, I5, F5⟩
  have H5 := Lib.hid (And.intro I5 F5)
  clear I5 F5
  go_wp2
  go_end0
  have hw : Below w.heap.size w w3 := HB2.out.trans (HB3.out.mono HB2.out.size)
  exact ⟨rfl, v2, by rw [← List.append_assoc]; exact H5.out.1, ((CFrame.of_below v ((hw.alloc hw.size _).alloc (by have := hw.size; simp; omega) _)).trans H4.out.2).trans H5.out.2⟩

theorem collect (B : Nat) (fr to : Int) : ∀ (d : Nat) (net n : Int), (d : Int) = 17 - n → 0 ≤ n → n ≤ 16 → 0 ≤ net → net + psz n ≤ 65536 → Coll B fr to net n (tree fr to d net n)
  | 0, net, n, hd, h0, h1, _, _ => by omega
  | d + 1, net, n, hd, h0, h1, h2, h3 => by
    have hp := psz_pos n h0 h1
    unfold tree
    by_cases c1 : net + psz n - 1 < fr ∨ to < net
    · rw [if_pos c1]
      exact fun F v w hF hI => collect_none B fr to net n F v w h0 h1 h2 (by omega) hI (by unfold partI; rw [if_pos c1])
    · rw [if_neg c1]
      by_cases c2 : fr ≤ net ∧ net + psz n - 1 ≤ to
      · rw [if_pos c2]
        exact fun F v w hF hI => collect_all B fr to net n F v w h0 h1 h2 (by omega) (by omega) hI (by unfold partI; rw [if_neg c1, if_pos c2])
      · rw [if_neg c2]
        have h16 : n < 16 := by
          rcases Int.lt_or_eq_of_le h1 with h | h
          · exact h
          · exfalso
            subst h
            have : psz 16 = 1 := by decide
            omega
        have hh := psz_half n h0 h16
        have hpp := psz_pos (n + 1) (by omega) (by omega)
        exact collect_some B fr to net n h0 h16 h2 h3 (by unfold partI; rw [if_neg c1, if_neg c2]) _ _ (tree_len fr to d net (n + 1) (by omega) (by omega) (by omega))
          (collect B fr to d net (n + 1) (by omega) (by omega) (by omega) h2 (by omega)) (collect B fr to d (net + psz (n + 1)) (n + 1) (by omega) (by omega) (by omega) (by omega) (by omega))


end Go.Proofs.Ytpfeekdmeloakaa.Old
