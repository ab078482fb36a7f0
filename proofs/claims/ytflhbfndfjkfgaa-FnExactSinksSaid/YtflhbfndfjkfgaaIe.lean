/- Whether tables can be asked for an address: the program; a walk ended. -/
import Derived.Test.YtflhbfndfjkfgaaSf
import Derived.WalkSpells
import Derived.WalkLawsBesides
namespace Go.Proofs.Ytflhbfndfjkfgaa
open Go.RowKit


set_option maxHeartbeats 1000000 in
theorem icar_no0 (ad : Option Addr) (n cp : Nat) (a : Int) (w : World) (hn : n = 0) :
    Calls Try.prog 33 #[.slice ad n cp, .int .i64 a] w fun e w' => e = .returned (.bool false) ∧ Below w.heap.size w w' := by
  subst hn
  go_enter Try.func33, Try.ntmps33
  go_wp2_with fail
  go_ret
  exact ⟨rfl, Below.refl _ _⟩

set_option maxHeartbeats 1000000 in
theorem icar_no1 (ad : Option Addr) (n cp : Nat) (a : Int) (w : World) (hn : 10 < n) :
    Calls Try.prog 33 #[.slice ad n cp, .int .i64 a] w fun e w' => e = .returned (.bool false) ∧ Below w.heap.size w w' := by
  have h0 : (((n : Nat) : Int) == 0) = false := by simp; omega
  have h1 : (10 : Int) < (n : Int) := by omega
  go_enter Try.func33, Try.ntmps33
  go_wp2_with fail
  go_ret
  exact ⟨rfl, Below.refl _ _⟩

set_option maxHeartbeats 1000000 in
theorem icar_no2 (ad : Option Addr) (n cp : Nat) (a : Int) (w : World) (hn0 : 0 < n) (hn : n ≤ 10) (ha : inB a 0 65535 = false) :
    Calls Try.prog 33 #[.slice ad n cp, .int .i64 a] w fun e w' => e = .returned (.bool false) ∧ Below w.heap.size w w' := by
  have h0 : (((n : Nat) : Int) == 0) = false := by simp; omega
  have h1 : ¬ (10 : Int) < (n : Int) := by omega
  go_enter Try.func33, Try.ntmps33
  go_wp2_with fail
  go_at_call 50
  refine (iaddr_any a _).mono ?_
  rw [ha]
  rintro e w1 ⟨rfl, rfl⟩
  go_wp2_with fail
  go_ret
  exact ⟨rfl, Below.refl _ _⟩

set_option maxHeartbeats 2000000 in
theorem icar_yes (D : List (List Rt)) (lo hi : Nat) (v : Value) (a : Int) (w : World) (hr : TRow w lo hi v D) (hh : hi ≤ w.heap.size) (hn0 : 0 < D.length) (hn10 : D.length ≤ 10) (ha : inB a 0 65535 = true) :
    Calls Try.prog 33 #[v, .int .i64 a] w fun e w' => e = .returned (.bool (fine D a)) ∧ Below w.heap.size w w' := by
  obtain ⟨ad, cp, us, bs, rfl, X⟩ := hr
  have HX := Lib.hid X
  have F1 : Hid (inB (D.length : Int) 1 10 = true) := Lib.hid (inB_true (by omega) (by omega))
  have F3 := Lib.hid ha
  obtain ⟨n, hn⟩ : ∃ n, n = D.length := ⟨_, rfl⟩
  have HN := Lib.hid hn
  rw [← hn] at hn0 hn10 ⊢
  have h0 : (((n : Nat) : Int) == 0) = false := by simp; omega
  have h1 : ¬ (10 : Int) < (n : Int) := by omega
  clear X hn
  go_enter Try.func33, Try.ntmps33
  go_wp2_with fail
  go_at_call 50
  refine (iaddr_any a _).mono ?_
  rw [ha]
  rintro e w1 ⟨rfl, rfl⟩
  clear ha
  go_wp2_with fail
  go_loopw [22] (fun i wr => ∃ k : Nat, k ≤ n ∧ i = .int .i64 (k : Int) ∧ Hid (∀ j, j < k → ∀ l, D[j]? = some l → tok l = true) ∧ Hid (Below w.heap.size w wr)) (fun i _ => n - (intOf i).toNat)
  case atStart => exact ⟨0, Nat.zero_le _, rfl, Lib.hid (fun j h => absurd h (Nat.not_lt_zero _)), Below.refl _ _⟩
  case round =>
    obtain ⟨k, hk, rfl, HJ, hB⟩ := hrel
    by_cases hlt : k < n
    · obtain ⟨p, hp⟩ : ∃ p, D[k]? = some p := ⟨_, List.getElem?_eq_getElem (by have := HN.out; omega)⟩
      obtain ⟨G, rfl, g1, g2, _, g4, _⟩ := HX.out.outer (by have := HN.out; omega)
      have hsz := hB.out.size
      have d0 : wr.cell? ⟨G, k, none⟩ = some (us k) := by rw [hB.out.cell (p := ⟨G, k, none⟩) (show G < w.heap.size by omega)]; exact g4 k p hp
      obtain ⟨i1, i2, i3⟩ := HX.out.inner k p hp
      have R1 := Lib.hid (i1.below hB.out (by omega))
      obtain ⟨x1, y1, e1⟩ := i1.slice
      rw [e1] at d0 R1
      have hk0 : (0 : Int) ≤ (k : Int) := by omega
      have hk1 : (k : Int) < (n : Int) := by omega
      have hGw : G < wr.heap.size := by omega
      obtain ⟨H1, hH1⟩ : ∃ q, q = (bs k).2 := ⟨_, rfl⟩
      have z1 : H1 ≤ wr.heap.size := by omega
      rw [← hH1] at R1
      have HP := Lib.hid hp
      clear g4 i1 i2 i3 e1 hH1 hp
      go_wp2_with fail
      go_at_call 51
      refine (itok_any _ _ p.length _ p _ rfl (R1.out.below (B := wr.heap.size) (by go_grown) z1) (by simp; omega)).mono ?_
      rintro e w9 ⟨rfl, hb9⟩
      have HB9 : Hid (Below w.heap.size w w9) := hB.out.trans ((unbox hb9).mono (by omega))
      clear hb9
      cases ht : tok p with
      | false =>
        have HF : Hid (fine D a = false) := Lib.hid (fine_no HP.out ht)
        clear ht
        go_wp2_with fail
        go_ret
        exact ⟨by rw [HF.out]; rfl, HB9.out⟩
      | true =>
        have HJ2 : Hid (∀ j, j < k + 1 → ∀ l, D[j]? = some l → tok l = true) := Lib.hid (fun j hj l hl => by
          by_cases e : j = k
          · subst e; rw [HP.out] at hl; cases hl; exact ht
          · exact HJ.out j (by omega) l hl)
        clear ht HJ
        go_wp2_with fail
        go_roundw
        case rel => exact ⟨k + 1, by omega, by go_num, HJ2, HB9⟩
        case measure => simp [intOf]; omega
    · have hge : ¬ ((k : Int) < (n : Int)) := by omega
      have HF : Hid (fine D a = true) := Lib.hid (fine_of F1.out F3.out (fun i hi l hl => HJ.out i (by have := HN.out; omega) l hl))
      clear HJ
      go_wp2_with fail
      go_ret
      exact ⟨by rw [HF.out]; rfl, hB.out⟩

theorem icar_any (D : List (List Rt)) (lo hi : Nat) (v : Value) (a : Int) (w : World) (hr : TRow w lo hi v D) (hh : hi ≤ w.heap.size) :
    Calls Try.prog 33 #[v, .int .i64 a] w fun e w' => e = .returned (.bool (fine D a)) ∧ Below w.heap.size w w' := by
  have hl := hr.len
  by_cases h0 : D.length = 0
  · obtain ⟨ad, cp, rfl⟩ := hr.slice
    rw [fine_len0 (by omega)]
    exact icar_no0 ad _ cp a w h0
  · by_cases h1 : 10 < D.length
    · obtain ⟨ad, cp, rfl⟩ := hr.slice
      rw [fine_len1 h1]
      exact icar_no1 ad _ cp a w h1
    · by_cases ha : inB a 0 65535 = true
      · exact icar_yes D lo hi v a w hr hh (by omega) (by omega) ha
      · rw [Bool.not_eq_true] at ha
        obtain ⟨ad, cp, rfl⟩ := hr.slice
        rw [fine_addr ha]
        exact icar_no2 ad _ cp a w (by omega) (by omega) ha

set_option maxHeartbeats 1000000 in
theorem iend_any (X : Nat) (ua : Option Addr) (un uc : Nat) (c : Int) (w : World) (h3 : w.cell? ⟨X, 3, none⟩ = some (.slice ua un uc)) :
    Calls Try.prog 70 #[.pointer (some ⟨X, 0, none⟩), .int .i64 c] w fun e w' => e = .panicked [{ v := .iface 62 (.agg #[.slice ua un uc, .int .i64 c]), recovered := false }] ∧ w' = w := by
  go_enter Try.func70, Try.ntmps70
  go_wp2
  exact ⟨rfl, rfl, rfl⟩

end Go.Proofs.Ytflhbfndfjkfgaa
