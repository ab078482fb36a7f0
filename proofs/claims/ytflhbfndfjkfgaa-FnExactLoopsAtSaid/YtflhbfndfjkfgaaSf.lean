/- Whether tables can be asked for an address: the model. -/
import Derived.Test.YtflhbfndfjkfgaaMw
import Derived.Test.YtflhbfndfjkfgaaTu
import Derived.WalkSpells
namespace Go.Proofs.Ytflhbfndfjkfgaa
open Go.RowKit


/-- Whether a walk is asked for that there is. -/
def fineW (D : List (List Rt)) (x a t : Int) : Bool := fine D a && (inB x 0 ((D.length : Int) - 1) && inB t 0 16)
theorem fine_bool {D : List (List Rt)} {a : Int} (h : fine D a = true) : inB (D.length : Int) 1 10 = true ∧ inB a 0 65535 = true := by
  obtain ⟨h1, h2, h3, _⟩ := fine_all h
  exact ⟨inB_true (by omega) (by omega), h3⟩
theorem fine_in {D : List (List Rt)} {a : Int} (h : inB (D.length : Int) 1 10 = false) : fine D a = false := by
  cases e : fine D a with
  | false => rfl
  | true => rw [(fine_bool e).1] at h; cases h
theorem fine_of {D : List (List Rt)} {a : Int} (h : inB (D.length : Int) 1 10 = true) (h3 : inB a 0 65535 = true) (h4 : ∀ i, i < D.length → ∀ l, D[i]? = some l → tok l = true) : fine D a = true := by
  rw [inB_iff] at h
  exact fine_yes (by omega) (by omega) h3 h4

set_option maxHeartbeats 1000000 in
theorem sfine_no1 (ad : Option Addr) (n cp : Nat) (x a t : Int) (w : World) (h1 : inB (n : Int) 1 10 = false) :
    Calls Try.prog 30 #[.slice ad n cp, .int .i64 x, .int .i64 a, .int .i64 t] w fun e w' => e = .returned (.bool false) ∧ Below w.heap.size w w' := by
  go_enter Try.func30, Try.ntmps30
  go_wp2_with fail
  go_at_call 45
  refine (in_any (n : Int) 1 10 _).mono ?_
  rw [h1]
  rintro e w1 ⟨rfl, rfl⟩
  go_wp2_with fail
  go_ret
  exact ⟨rfl, Below.refl _ _⟩

set_option maxHeartbeats 1000000 in
theorem sfine_no2 (ad : Option Addr) (n cp : Nat) (x a t : Int) (w : World) (e1 : IntKind.i64.wrap ((n : Int) - 1) = (n : Int) - 1) (h1 : inB (n : Int) 1 10 = true) (h2 : inB x 0 ((n : Int) - 1) = false) :
    Calls Try.prog 30 #[.slice ad n cp, .int .i64 x, .int .i64 a, .int .i64 t] w fun e w' => e = .returned (.bool false) ∧ Below w.heap.size w w' := by
  go_enter Try.func30, Try.ntmps30
  go_wp2_with fail
  go_at_call 45
  refine (in_any (n : Int) 1 10 _).mono ?_
  rw [h1]
  rintro e w1 ⟨rfl, rfl⟩
  go_wp2_with fail
  go_at_call 45
  refine (in_any x 0 ((n : Int) - 1) _).mono ?_
  rw [h2]
  rintro e w1 ⟨rfl, rfl⟩
  go_wp2_with fail
  go_ret
  exact ⟨rfl, Below.refl _ _⟩

set_option maxHeartbeats 1000000 in
theorem sfine_no3 (ad : Option Addr) (n cp : Nat) (x a t : Int) (w : World) (e1 : IntKind.i64.wrap ((n : Int) - 1) = (n : Int) - 1) (h1 : inB (n : Int) 1 10 = true) (h2 : inB x 0 ((n : Int) - 1) = true) (h3 : inB a 0 65535 = false) :
    Calls Try.prog 30 #[.slice ad n cp, .int .i64 x, .int .i64 a, .int .i64 t] w fun e w' => e = .returned (.bool false) ∧ Below w.heap.size w w' := by
  go_enter Try.func30, Try.ntmps30
  go_wp2_with fail
  go_at_call 45
  refine (in_any (n : Int) 1 10 _).mono ?_
  rw [h1]
  rintro e w1 ⟨rfl, rfl⟩
  go_wp2_with fail
  go_at_call 45
  refine (in_any x 0 ((n : Int) - 1) _).mono ?_
  rw [h2]
  rintro e w1 ⟨rfl, rfl⟩
  go_wp2_with fail
  go_at_call 46
  refine (addr_any a _).mono ?_
  rw [h3]
  rintro e w1 ⟨rfl, rfl⟩
  go_wp2_with fail
  go_ret
  exact ⟨rfl, Below.refl _ _⟩

set_option maxHeartbeats 1000000 in
theorem sfine_no4 (ad : Option Addr) (n cp : Nat) (x a t : Int) (w : World) (e1 : IntKind.i64.wrap ((n : Int) - 1) = (n : Int) - 1) (h1 : inB (n : Int) 1 10 = true) (h2 : inB x 0 ((n : Int) - 1) = true) (h3 : inB a 0 65535 = true) (h4 : inB t 0 16 = false) :
    Calls Try.prog 30 #[.slice ad n cp, .int .i64 x, .int .i64 a, .int .i64 t] w fun e w' => e = .returned (.bool false) ∧ Below w.heap.size w w' := by
  go_enter Try.func30, Try.ntmps30
  go_wp2_with fail
  go_at_call 45
  refine (in_any (n : Int) 1 10 _).mono ?_
  rw [h1]
  rintro e w1 ⟨rfl, rfl⟩
  go_wp2_with fail
  go_at_call 45
  refine (in_any x 0 ((n : Int) - 1) _).mono ?_
  rw [h2]
  rintro e w1 ⟨rfl, rfl⟩
  go_wp2_with fail
  go_at_call 46
  refine (addr_any a _).mono ?_
  rw [h3]
  rintro e w1 ⟨rfl, rfl⟩
  go_wp2_with fail
  go_at_call 45
  refine (in_any t 0 16 _).mono ?_
  rw [h4]
  rintro e w1 ⟨rfl, rfl⟩
  go_wp2_with fail
  go_ret
  exact ⟨rfl, Below.refl _ _⟩

set_option maxHeartbeats 2000000 in
theorem sfine_yes (D : List (List Rt)) (lo hi : Nat) (v : Value) (x a t : Int) (w : World) (hr : TRow w lo hi v D) (hh : hi ≤ w.heap.size) (h1 : inB (D.length : Int) 1 10 = true) (h2 : inB x 0 ((D.length : Int) - 1) = true) (h3 : inB a 0 65535 = true) (h4 : inB t 0 16 = true) :
    Calls Try.prog 30 #[v, .int .i64 x, .int .i64 a, .int .i64 t] w fun e w' => e = .returned (.bool (fine D a)) ∧ Below w.heap.size w w' := by
  obtain ⟨ad, cp, us, bs, rfl, X⟩ := hr
  have HX := Lib.hid X
  have F1 := Lib.hid h1
  have F3 := Lib.hid h3
  obtain ⟨n, hn⟩ : ∃ n, n = D.length := ⟨_, rfl⟩
  have HN := Lib.hid hn
  rw [← hn] at h1 h2 ⊢
  have hb := inB_iff.1 h1
  have e1 : IntKind.i64.wrap ((n : Int) - 1) = (n : Int) - 1 := IntWalk.i64_in _ (by omega)
  have hn9 : n ≤ 10 := by omega
  clear X hn hb
  go_enter Try.func30, Try.ntmps30
  go_wp2_with fail
  go_at_call 45
  refine (in_any (n : Int) 1 10 _).mono ?_
  rw [h1]
  rintro e w1 ⟨rfl, rfl⟩
  go_wp2_with fail
  go_at_call 45
  refine (in_any x 0 ((n : Int) - 1) _).mono ?_
  rw [h2]
  rintro e w1 ⟨rfl, rfl⟩
  go_wp2_with fail
  go_at_call 46
  refine (addr_any a _).mono ?_
  rw [h3]
  rintro e w1 ⟨rfl, rfl⟩
  go_wp2_with fail
  go_at_call 45
  refine (in_any t 0 16 _).mono ?_
  rw [h4]
  rintro e w1 ⟨rfl, rfl⟩
  clear h1 h2 h3 h4 e1
  go_wp2_with fail
  go_loopw [9] (fun i wr => ∃ k : Nat, k ≤ n ∧ i = .int .i64 (k : Int) ∧ Hid (∀ j, j < k → ∀ l, D[j]? = some l → tok l = true) ∧ Hid (Below w.heap.size w wr)) (fun i _ => n - (intOf i).toNat)
  case atStart => exact ⟨0, Nat.zero_le _, rfl, Lib.hid (fun j h => absurd h (Nat.not_lt_zero _)), Below.refl _ _⟩
  case round =>
    obtain ⟨k, hk, rfl, HJ, hB⟩ := hrel
    by_cases hlt : k < n
    · obtain ⟨p, hp⟩ : ∃ p, D[k]? = some p := ⟨_, List.getElem?_eq_getElem (by have := HN.out; omega)⟩
      obtain ⟨G, rfl, g1, g2, _, g4, _⟩ := HX.out.outer (by have := HN.out; omega)
      have hsz := hB.out.size
      have d0 : wr.cell? ⟨G, k, none⟩ = some (us k) := by rw [hB.out.cell (p := ⟨G, k, none⟩) (show G < w.heap.size by omega)]; exact g4 k p hp
      obtain ⟨i1, i2, i3⟩ := HX.out.inner k p hp
      have R1 := Lib.hid (i1.below hB.out (by omega))
      obtain ⟨x1, y1, e1⟩ := i1.slice
      rw [e1] at d0 R1
      have hk0 : (0 : Int) ≤ (k : Int) := by omega
      have hk1 : (k : Int) < (n : Int) := by omega
      have hGw : G < wr.heap.size := by omega
      obtain ⟨H1, hH1⟩ : ∃ q, q = (bs k).2 := ⟨_, rfl⟩
      have z1 : H1 ≤ wr.heap.size := by omega
      rw [← hH1] at R1
      have HP := Lib.hid hp
      clear g4 i1 i2 i3 e1 hH1 hp
      go_wp2_with fail
      go_at_call 47
      refine (stok_any _ _ p.length _ p wr rfl R1.out z1).mono ?_
      rintro e w9 ⟨rfl, hb9⟩
      have HB9 : Hid (Below w.heap.size w w9) := hB.out.trans (hb9.mono (by omega))
      clear hb9
      cases ht : tok p with
      | false =>
        have HF : Hid (fine D a = false) := Lib.hid (fine_no HP.out ht)
        clear ht
        go_wp2_with fail
        go_ret
        exact ⟨by rw [HF.out]; rfl, HB9.out⟩
      | true =>
        have HJ2 : Hid (∀ j, j < k + 1 → ∀ l, D[j]? = some l → tok l = true) := Lib.hid (fun j hj l hl => by
          by_cases e : j = k
          · subst e; rw [HP.out] at hl; cases hl; exact ht
          · exact HJ.out j (by omega) l hl)
        clear ht HJ
        go_wp2_with fail
        go_roundw
        case rel => exact ⟨k + 1, by omega, by go_num, HJ2, HB9⟩
        case measure => simp [intOf]; omega
    · have hge : ¬ ((k : Int) < (n : Int)) := by omega
      have HF : Hid (fine D a = true) := Lib.hid (fine_of F1.out F3.out (fun i hi l hl => HJ.out i (by have := HN.out; omega) l hl))
      clear HJ
      go_wp2_with fail
      go_ret
      exact ⟨by rw [HF.out]; rfl, hB.out⟩

theorem sfine_any (D : List (List Rt)) (lo hi : Nat) (v : Value) (x a t : Int) (w : World) (hr : TRow w lo hi v D) (hh : hi ≤ w.heap.size) :
    Calls Try.prog 30 #[v, .int .i64 x, .int .i64 a, .int .i64 t] w fun e w' => e = .returned (.bool (fineW D x a t)) ∧ Below w.heap.size w w' := by
  have hl := hr.len
  by_cases h1 : inB (D.length : Int) 1 10 = true
  · have hb := inB_iff.1 h1
    have e1 : IntKind.i64.wrap ((D.length : Int) - 1) = (D.length : Int) - 1 := IntWalk.i64_in _ (by omega)
    by_cases h2 : inB x 0 ((D.length : Int) - 1) = true
    · by_cases h3 : inB a 0 65535 = true
      · by_cases h4 : inB t 0 16 = true
        · unfold fineW
          rw [h2, h4, Bool.and_self, Bool.and_true]
          exact sfine_yes D lo hi v x a t w hr hh h1 h2 h3 h4
        · rw [Bool.not_eq_true] at h4
          obtain ⟨ad, cp, rfl⟩ := hr.slice
          unfold fineW
          rw [h4, Bool.and_false, Bool.and_false]
          exact sfine_no4 ad _ cp x a t w e1 h1 h2 h3 h4
      · rw [Bool.not_eq_true] at h3
        obtain ⟨ad, cp, rfl⟩ := hr.slice
        unfold fineW
        rw [fine_addr h3, Bool.false_and]
        exact sfine_no3 ad _ cp x a t w e1 h1 h2 h3
    · rw [Bool.not_eq_true] at h2
      obtain ⟨ad, cp, rfl⟩ := hr.slice
      unfold fineW
      rw [h2, Bool.false_and, Bool.and_false]
      exact sfine_no2 ad _ cp x a t w e1 h1 h2
  · rw [Bool.not_eq_true] at h1
    obtain ⟨ad, cp, rfl⟩ := hr.slice
    unfold fineW
    rw [fine_in h1, Bool.false_and]
    exact sfine_no1 ad _ cp x a t w h1

end Go.Proofs.Ytflhbfndfjkfgaa
