/- CommonPrefix of the program as contracts. -/
import Derived.Test.YtegffibamkaeiaaWg
import Derived.Test.YtegffibamkaeiaaShelf
import Derived.Laws.BitsAllLaws
import Derived.Laws.BitsLemmas
namespace Go.Proofs.Ytegffibamkaeiaa
open Go.RowKit

theorem xor_i64 (a b : Int) (ha : 0 ≤ a) (ha' : a ≤ 65535) (hb : 0 ≤ b) (hb' : b ≤ 65535) : bits .xor .i64 a b = ((a.toNat ^^^ b.toNat : Nat) : Int) := by
  obtain ⟨x, rfl⟩ := Int.eq_ofNat_of_zero_le ha
  obtain ⟨y, rfl⟩ := Int.eq_ofNat_of_zero_le hb
  have hlt := xor_lt (x : Int) (y : Int) ha ha' hb hb'
  rw [Int.toNat_natCast, Int.toNat_natCast] at *
  have e : ∀ z : Nat, z ≤ 65535 → (BitVec.ofInt 64 (z : Int)).toNat = z := fun z hz => by
    rw [BitVec.ofInt_natCast, BitVec.toNat_ofNat]; exact Nat.mod_eq_of_lt (by omega)
  show IntKind.i64.wrap ((BitVec.ofInt 64 (x : Int) ^^^ BitVec.ofInt 64 (y : Int)).toNat : Int) = _
  rw [BitVec.toNat_xor, e x (by omega), e y (by omega)]
  exact IntWalk.i64_in _ (by omega)

theorem len_any (x : Nat) (w : World) (h : x < 65536) :
    Calls Try.prog 30 #[.int .u64 (x : Int)] w fun e w' => e = .returned (.int .i64 (Lib.bitLen x)) ∧ w = w' :=
  (Try.bits_Len (x : Int) w (by omega) (by omega)).mono fun _ _ ⟨h1, h2⟩ => ⟨by rw [h1, Int.toNat_natCast], h2.symm⟩

set_option maxHeartbeats 1000000 in
theorem com_no (a b : Int) (w : World) (h : inB a 0 65535 = false ∨ inB b 0 65535 = false) :
    Calls Try.prog 22 #[.int .i64 a, .int .i64 b] w fun e w' => e = .returned (.tuple #[.agg #[.int .i64 0, .int .i64 0], .bool false]) ∧ Below w.heap.size w w' := by
  by_cases ha : inB a 0 65535 = true
  · have hb : inB b 0 65535 = false := by rcases h with h | h; (rw [ha] at h; cases h); exact h
    clear h
    go_enter Try.func22, Try.ntmps22
    go_wp2_with (go_at_call 26; refine (iaddr_any _ _).mono ?_; rintro e w' ⟨rfl, rfl⟩)
    go_returns
    exact ⟨rfl, by go_grown⟩
  · rw [Bool.not_eq_true] at ha
    clear h
    go_enter Try.func22, Try.ntmps22
    go_wp2_with (go_at_call 26; refine (iaddr_any _ _).mono ?_; rintro e w' ⟨rfl, rfl⟩)
    go_returns
    exact ⟨rfl, by go_grown⟩

set_option maxHeartbeats 1000000 in
theorem com_yes (a b : Int) (w : World) (ha : 0 ≤ a) (ha' : a ≤ 65535) (hb : 0 ≤ b) (hb' : b ≤ 65535) :
    Calls Try.prog 22 #[.int .i64 a, .int .i64 b] w fun e w' => e = .returned (.tuple #[.agg #[.int .i64 (a - a % psz (cplN a b)), .int .i64 (cplN a b)], .bool true]) ∧ Below w.heap.size w w' := by
  have ia := inB_true ha ha'
  have ib := inB_true hb hb'
  obtain ⟨h0, h1⟩ := cplN_range a b ha ha' hb hb'
  have hx := xor_i64 a b ha ha' hb hb'
  have hxl := xor_lt a b ha ha' hb hb'
  have hl : (16 : Int) - (Lib.bitLen (a.toNat ^^^ b.toNat) : Int) = cplN a b := rfl
  have hl0 : (Lib.bitLen (a.toNat ^^^ b.toNat) : Int) ≤ 16 := by omega
  have hp := psz_pos _ h0 h1
  have hq := psz_le _ h0 h1
  have hz : ¬ (psz (cplN a b) = 0) := by omega
  have ma : 0 ≤ a % psz (cplN a b) := Int.emod_nonneg _ hz
  have mb : a % psz (cplN a b) < psz (cplN a b) := Int.emod_lt_of_pos _ (by omega)
  generalize a.toNat ^^^ b.toNat = x at *
  generalize hce : cplN a b = c at *
  clear hce
  go_enter Try.func22, Try.ntmps22
  go_wp2_with (first | (go_at_call 26; refine (iaddr_any _ _).mono ?_; rintro e w' ⟨rfl, rfl⟩) | (go_at_call 30; refine (len_any _ _ hxl).mono ?_; rintro e w' ⟨rfl, rfl⟩))
  go_at_call 27
  refine (size_any _ _ _ h0 h1).mono ?_
  rintro e w3 ⟨rfl, hb3⟩
  obtain ⟨hc3, hf3⟩ := bcell hb3
  have hB : Below w.heap.size w w3 := Below.trans (by go_grown) (hb3.mono (by first | omega | (simp <;> omega)))
  have k00 := hc3 (w.heap.size) 0 (by first | omega | (simp <;> omega))
  simp [go_sem] at k00
  have f00 := hf3 (w.heap.size) 0 (by first | omega | (simp <;> omega))
  simp [go_sem] at f00
  have k01 := hc3 (w.heap.size) 1 (by first | omega | (simp <;> omega))
  simp [go_sem] at k01
  have f01 := hf3 (w.heap.size) 1 (by first | omega | (simp <;> omega))
  simp [go_sem] at f01
  have k10 := hc3 (w.heap.size + 1) 0 (by first | omega | (simp <;> omega))
  simp [go_sem] at k10
  have f10 := hf3 (w.heap.size + 1) 0 (by first | omega | (simp <;> omega))
  simp [go_sem] at f10
  have k11 := hc3 (w.heap.size + 1) 1 (by first | omega | (simp <;> omega))
  simp [go_sem] at k11
  have f11 := hf3 (w.heap.size + 1) 1 (by first | omega | (simp <;> omega))
  simp [go_sem] at f11
  clear hc3 hf3 hb3
  go_wp2_with fail
  refine bodyPost_ret (v := .tuple #[.agg #[.int .i64 (a - a % psz c), .int .i64 c], .bool true]) (by simp [results, Try.results22, go_sem, *]) rfl ⟨rfl, ?_⟩
  exact (((hB.setCell (by simp) _).setCell (by simp) _).setCell (by simp) _)

end Go.Proofs.Ytegffibamkaeiaa
