/- Whether an advertisement links to a node: the specification. -/
import Derived.Test.YtfpafjdakipccaaLt
import Derived.Test.YtfpafjdakipccaaSi
namespace Go.Proofs.Ytfpafjdakipccaa
open Go.RowKit


set_option maxRecDepth 100000 in
set_option maxHeartbeats 4000000 in
theorem ssays_any (D : List Ls) (x y : Int) (lo hi : Nat) (v : Value) (w : World) (hr : DRow w lo hi v D) (hh : hi ≤ w.heap.size) (hv : dokB D = true) :
    Calls Try.prog 80 #[.agg #[v], .int .i64 x, .int .i64 y] w fun e w' => e = .returned (.bool (says D x y)) ∧ Below w.heap.size w w' := by
  have R0 := Lib.hid hr
  obtain ⟨a, c, ev⟩ := hr.slice
  subst ev
  obtain ⟨nd, hnd⟩ : ∃ n, n = D.length := ⟨_, rfl⟩
  rw [← hnd] at R0 ⊢
  clear hr hnd
  cases hf : dfind D x with
  | none =>
    have HQ := Lib.hid (flv_none hv hf).1
    have HB0 := Lib.hid (flv_none hv hf).2
    have HS : Hid (says D x y = false) := Lib.hid (by rw [says_find, hf]; rfl)
    rw [HS.out]
    clear hf hv
    go_enter Try.func80, Try.ntmps80
    go_wp2_with fail
    go_at_call 22
    refine (sfind_is D x lo hi _ _ (R0.out.below (B := w.heap.size) (by go_grown) hh) (by simp; omega) (q := l0) (b := false) HQ.out HB0.out).mono ?_
    rintro e w1 ⟨ru, rv, rfl, hr3, hb⟩
    obtain ⟨ra, rc, sa, sc, rfl, rfl⟩ := hr3.slice
    have hB : Below w.heap.size w w1 := Below.trans (by go_grown) (hb.mono (by simp))
    clear hr3 hb
    go_wp2_with fail
    go_ret
    exact ⟨rfl, hB.trans (((Below.refl _ _).alloc (Nat.le_refl _) _).mono hB.size)⟩
  | some l =>
    have HQ := Lib.hid (flv_some hv hf).1
    have HB0 := Lib.hid (flv_some hv hf).2
    have HS : Hid (says D x y = anyTo l.K y) := Lib.hid (by rw [says_find, hf]; rfl)
    have hk10 : l.K.length ≤ 10 := by
      obtain ⟨_, i, hi⟩ := dfind_some hf
      exact (Ls.ok_bd (dokB_get hv hi).1).2.2.2.2.2.2.1
    rw [HS.out]
    clear hf hv
    go_enter Try.func80, Try.ntmps80
    go_wp2_with fail
    go_at_call 22
    refine (sfind_is D x lo hi _ _ (R0.out.below (B := w.heap.size) (by go_grown) hh) (by simp; omega) (q := l) (b := true) HQ.out HB0.out).mono ?_
    rintro e w1 ⟨ru, rv, rfl, hr3, hb⟩
    obtain ⟨ra, rc, sa, sc, rfl, rfl⟩ := hr3.slice
    obtain ⟨a', c', ev, -, hcell⟩ := hr3.fst.opened
    obtain ⟨rfl, rfl⟩ : a' = ra ∧ c' = rc := by simpa using ev.symm
    have hB : Below w.heap.size w w1 := Below.trans (by go_grown) (hb.mono (by simp))
    obtain ⟨n, hnl⟩ : ∃ n, n = l.K.length := ⟨_, rfl⟩
    rw [← hnl] at hcell hk10 ⊢
    have HN := Lib.hid hnl
    have HB1 := Lib.hid hB
    obtain ⟨wl, hwl⟩ : ∃ q, q = w1.alloc (.cells #[.int .i64 l.o, .int .i64 l.s, .int .i64 l.g, .slice a' n c', .slice sa l.T.length sc] 33) := ⟨_, rfl⟩
    have c3 : wl.cell? ⟨w1.heap.size, 3, none⟩ = some (.slice a' n c') := by rw [hwl, new_at rfl]; rfl
    have HC : Hid (0 < n → ∃ g, a' = some ⟨g, 0, none⟩ ∧ ∀ q z, (flat2 l.K)[q]? = some z → wl.cell? ⟨g, q, none⟩ = some (.int .i64 z)) := Lib.hid fun h => by
      obtain ⟨g, h1, h2, h3⟩ := hcell h
      exact ⟨g, h1, fun q z hz => by rw [hwl, old_box h2]; exact h3 q z hz⟩
    have HBL : Hid (Below w.heap.size w wl) := Lib.hid (by rw [hwl]; exact hB.trans (((Below.refl _ _).alloc (Nat.le_refl _) _).mono hB.size))
    clear hr3 hb hB ev hnl hcell
    go_upto_region 2 with (fail)
    rw [← hwl]
    clear hwl
    go_wp2
    go_loop [9] (fun i => ∃ k : Nat, k ≤ n ∧ i = .int .i64 (k : Int) ∧ Hid (∀ (j : Nat) (e : Lk), j < k → l.K[j]? = some e → (e.1 == y) = false)) (fun i => n - (intOf i).toNat)
    case atStart => exact ⟨0, Nat.zero_le _, rfl, fun j e hj => absurd hj (Nat.not_lt_zero _)⟩
    case round =>
      obtain ⟨k, hk, rfl, hF⟩ := hrel
      by_cases hlt : k < n
      · obtain ⟨g, rfl, hcell⟩ := HC.out (by omega)
        obtain ⟨r, hrk⟩ : ∃ r, l.K[k]? = some r := ⟨l.K[k]'(by have := HN.out; omega), List.getElem?_eq_getElem _⟩
        obtain ⟨p, b⟩ := r
        obtain ⟨r0, r1⟩ := flat2_at l.K k _ hrk
        have z0 : wl.cell? ⟨g, k * 2, none⟩ = some (.int .i64 p) := hcell _ _ r0
        have HK := Lib.hid hrk
        have q0 : (0 : Int) ≤ (k : Int) := by omega
        have q1 : (k : Int) < (n : Int) := by omega
        clear r0 r1 hrk hcell
        by_cases hP : (p == y) = true
        · have HI := Lib.hid (anyTo_yes HK.out hP)
          go_wp2
          go_ret
          exact ⟨by rw [HI.out]; rfl, HBL.out⟩
        · rw [Bool.not_eq_true] at hP
          have HF : Hid (∀ (j : Nat) (e : Lk), j < k + 1 → l.K[j]? = some e → (e.1 == y) = false) := fun j e hj he => by
            by_cases ej : j = k
            · subst ej; rw [HK.out] at he; obtain rfl := Option.some.inj he; exact hP
            · exact hF.out j e (by omega) he
          clear hF
          go_wp2
          go_round
          case rel => exact ⟨k + 1, by omega, by go_num, HF⟩
          case measure => simp [intOf]; omega
      · have hge : ¬ ((k : Int) < (n : Int)) := by omega
        have HI : Hid (anyTo l.K y = false) := Lib.hid (anyTo_no fun j r hj hr => hF.out j r (by have := HN.out; omega) hr)
        clear hF
        go_wp2
        go_ret
        exact ⟨by rw [HI.out]; rfl, HBL.out⟩

end Go.Proofs.Ytfpafjdakipccaa
