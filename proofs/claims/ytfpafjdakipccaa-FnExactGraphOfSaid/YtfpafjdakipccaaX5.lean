/- Which advertisements are valid, by the model. -/
import Derived.Test.YtfpafjdakipccaaX4
namespace Go.Proofs.Ytfpafjdakipccaa
open Go.RowKit
theorem lok_no {o s ag : Int} {K : List Lk} {T : List Ed} (h : lksB o K = false ∨ stsB T = false) : lokB o s ag K T = false := by
  unfold lokB
  rcases h with h | h <;> rw [h] <;> simp
set_option linter.unusedVariables false in
set_option maxRecDepth 100000 in
set_option maxHeartbeats 2000000 in
theorem slok_0 (o s ag : Int) (lo hi lo' hi' n m : Nat) (u v : Value) (K : List Lk) (T : List Ed) (w : World) (hK : K.length = n) (hT : T.length = m) (hr : Row 2 w lo hi u n (flat2 K)) (hr' : Row 3 w lo' hi' v m (flat T)) (hh : hi <= w.heap.size) (hh' : hi' <= w.heap.size) (ho : inB o 0 9 = false) (hv : lokB o s ag K T = false) :
    Calls Try.prog 48 #[.agg #[.int .i64 o, .int .i64 s, .int .i64 ag, u, v]] w fun e w' => e = .returned (.bool (lokB o s ag K T)) /\ Below w.heap.size w w' := by
  have Hv := Lib.hid hv
  obtain ⟨ad, cp, rfl⟩ := hr.slice
  obtain ⟨ae, cq, rfl⟩ := hr'.slice
  clear hr hr' hK hT hv
  go_enter Try.func48, Try.ntmps48
  go_wp2_with fail
  go_at_call 74
  refine (in_any _ _ _ _).mono ?_
  rw [ho]
  rintro e w' ⟨rfl, rfl⟩
  go_wp2_with fail
  go_ret
  exact ⟨by rw [Hv.out]; rfl, by go_grown⟩
set_option linter.unusedVariables false in
set_option maxRecDepth 100000 in
set_option maxHeartbeats 2000000 in
theorem slok_1 (o s ag : Int) (lo hi lo' hi' n m : Nat) (u v : Value) (K : List Lk) (T : List Ed) (w : World) (hK : K.length = n) (hT : T.length = m) (hr : Row 2 w lo hi u n (flat2 K)) (hr' : Row 3 w lo' hi' v m (flat T)) (hh : hi <= w.heap.size) (hh' : hi' <= w.heap.size) (ho : inB o 0 9 = true) (h1 : inB s 1 1000000 = false) (hv : lokB o s ag K T = false) :
    Calls Try.prog 48 #[.agg #[.int .i64 o, .int .i64 s, .int .i64 ag, u, v]] w fun e w' => e = .returned (.bool (lokB o s ag K T)) /\ Below w.heap.size w w' := by
  have Hv := Lib.hid hv
  obtain ⟨ad, cp, rfl⟩ := hr.slice
  obtain ⟨ae, cq, rfl⟩ := hr'.slice
  clear hr hr' hK hT hv
  go_enter Try.func48, Try.ntmps48
  go_wp2_with fail
  go_at_call 74
  refine (in_any _ _ _ _).mono ?_
  rw [ho]
  rintro e w' ⟨rfl, rfl⟩
  go_wp2_with fail
  go_at_call 74
  refine (in_any _ _ _ _).mono ?_
  rw [h1]
  rintro e w' ⟨rfl, rfl⟩
  go_wp2_with fail
  go_ret
  exact ⟨by rw [Hv.out]; rfl, by go_grown⟩
set_option linter.unusedVariables false in
set_option maxRecDepth 100000 in
set_option maxHeartbeats 2000000 in
theorem slok_2 (o s ag : Int) (lo hi lo' hi' n m : Nat) (u v : Value) (K : List Lk) (T : List Ed) (w : World) (hK : K.length = n) (hT : T.length = m) (hr : Row 2 w lo hi u n (flat2 K)) (hr' : Row 3 w lo' hi' v m (flat T)) (hh : hi <= w.heap.size) (hh' : hi' <= w.heap.size) (ho : inB o 0 9 = true) (h1 : inB s 1 1000000 = true) (h3 : inB ag 0 60 = false) (hv : lokB o s ag K T = false) :
    Calls Try.prog 48 #[.agg #[.int .i64 o, .int .i64 s, .int .i64 ag, u, v]] w fun e w' => e = .returned (.bool (lokB o s ag K T)) /\ Below w.heap.size w w' := by
  have Hv := Lib.hid hv
  obtain ⟨ad, cp, rfl⟩ := hr.slice
  obtain ⟨ae, cq, rfl⟩ := hr'.slice
  clear hr hr' hK hT hv
  go_enter Try.func48, Try.ntmps48
  go_wp2_with fail
  go_at_call 74
  refine (in_any _ _ _ _).mono ?_
  rw [ho]
  rintro e w' ⟨rfl, rfl⟩
  go_wp2_with fail
  go_at_call 74
  refine (in_any _ _ _ _).mono ?_
  rw [h1]
  rintro e w' ⟨rfl, rfl⟩
  go_wp2_with fail
  go_at_call 74
  refine (in_any _ _ _ _).mono ?_
  rw [h3]
  rintro e w' ⟨rfl, rfl⟩
  go_wp2_with fail
  go_ret
  exact ⟨by rw [Hv.out]; rfl, by go_grown⟩
set_option linter.unusedVariables false in
set_option maxRecDepth 100000 in
set_option maxHeartbeats 2000000 in
theorem slok_3 (o s ag : Int) (lo hi lo' hi' n m : Nat) (u v : Value) (K : List Lk) (T : List Ed) (w : World) (hK : K.length = n) (hT : T.length = m) (hr : Row 2 w lo hi u n (flat2 K)) (hr' : Row 3 w lo' hi' v m (flat T)) (hh : hi <= w.heap.size) (hh' : hi' <= w.heap.size) (ho : inB o 0 9 = true) (h1 : inB s 1 1000000 = true) (h3 : inB ag 0 60 = true) (h4 : 10 < n) (hv : lokB o s ag K T = false) :
    Calls Try.prog 48 #[.agg #[.int .i64 o, .int .i64 s, .int .i64 ag, u, v]] w fun e w' => e = .returned (.bool (lokB o s ag K T)) /\ Below w.heap.size w w' := by
  have Hv := Lib.hid hv
  obtain ⟨ad, cp, rfl⟩ := hr.slice
  obtain ⟨ae, cq, rfl⟩ := hr'.slice
  clear hr hr' hK hT hv
  have d4 : (10 : Int) < (n : Int) := by omega
  go_enter Try.func48, Try.ntmps48
  go_wp2_with fail
  go_at_call 74
  refine (in_any _ _ _ _).mono ?_
  rw [ho]
  rintro e w' ⟨rfl, rfl⟩
  go_wp2_with fail
  go_at_call 74
  refine (in_any _ _ _ _).mono ?_
  rw [h1]
  rintro e w' ⟨rfl, rfl⟩
  go_wp2_with fail
  go_at_call 74
  refine (in_any _ _ _ _).mono ?_
  rw [h3]
  rintro e w' ⟨rfl, rfl⟩
  go_wp2_with fail
  go_ret
  exact ⟨by rw [Hv.out]; rfl, by go_grown⟩
set_option linter.unusedVariables false in
set_option maxRecDepth 100000 in
set_option maxHeartbeats 2000000 in
theorem slok_4 (o s ag : Int) (lo hi lo' hi' n m : Nat) (u v : Value) (K : List Lk) (T : List Ed) (w : World) (hK : K.length = n) (hT : T.length = m) (hr : Row 2 w lo hi u n (flat2 K)) (hr' : Row 3 w lo' hi' v m (flat T)) (hh : hi <= w.heap.size) (hh' : hi' <= w.heap.size) (ho : inB o 0 9 = true) (h1 : inB s 1 1000000 = true) (h3 : inB ag 0 60 = true) (h4 : ¬ 10 < n) (h5 : 6 < m) (hv : lokB o s ag K T = false) :
    Calls Try.prog 48 #[.agg #[.int .i64 o, .int .i64 s, .int .i64 ag, u, v]] w fun e w' => e = .returned (.bool (lokB o s ag K T)) /\ Below w.heap.size w w' := by
  have Hv := Lib.hid hv
  obtain ⟨ad, cp, rfl⟩ := hr.slice
  obtain ⟨ae, cq, rfl⟩ := hr'.slice
  clear hr hr' hK hT hv
  have d4 : ¬ (10 : Int) < (n : Int) := by omega
  have d5 : (6 : Int) < (m : Int) := by omega
  go_enter Try.func48, Try.ntmps48
  go_wp2_with fail
  go_at_call 74
  refine (in_any _ _ _ _).mono ?_
  rw [ho]
  rintro e w' ⟨rfl, rfl⟩
  go_wp2_with fail
  go_at_call 74
  refine (in_any _ _ _ _).mono ?_
  rw [h1]
  rintro e w' ⟨rfl, rfl⟩
  go_wp2_with fail
  go_at_call 74
  refine (in_any _ _ _ _).mono ?_
  rw [h3]
  rintro e w' ⟨rfl, rfl⟩
  go_wp2_with fail
  go_ret
  exact ⟨by rw [Hv.out]; rfl, by go_grown⟩
set_option maxRecDepth 100000 in
set_option maxHeartbeats 8000000 in
theorem slok_5 (o s ag : Int) (lo hi lo' hi' n m : Nat) (u v : Value) (K : List Lk) (T : List Ed) (w : World) (hK : K.length = n) (hT : T.length = m) (hr : Row 2 w lo hi u n (flat2 K)) (hr' : Row 3 w lo' hi' v m (flat T)) (hh : hi <= w.heap.size) (hh' : hi' <= w.heap.size) (ho : inB o 0 9 = true) (h1 : inB s 1 1000000 = true) (h3 : inB ag 0 60 = true) (h4 : ¬ 10 < n) (h5 : ¬ 6 < m) :
    Calls Try.prog 48 #[.agg #[.int .i64 o, .int .i64 s, .int .i64 ag, u, v]] w fun e w' => e = .returned (.bool (lokB o s ag K T)) /\ Below w.heap.size w w' := by
  obtain ⟨ad, cp, rfl, hl, hu⟩ := hr.opened
  obtain ⟨ae, cq, rfl, hl', hv⟩ := hr'.opened
  have HU := Lib.hid hu
  have HV := Lib.hid hv
  have HK := Lib.hid hK
  have HT := Lib.hid hT
  have d4 : ¬ (10 : Int) < (n : Int) := by omega
  have d5 : ¬ (6 : Int) < (m : Int) := by omega
  clear hr hr' hu hv hK hT
  go_enter Try.func48, Try.ntmps48
  go_wp2_with fail
  go_at_call 74
  refine (in_any _ _ _ _).mono ?_
  rw [ho]
  rintro e w' ⟨rfl, rfl⟩
  go_wp2_with fail
  go_at_call 74
  refine (in_any _ _ _ _).mono ?_
  rw [h1]
  rintro e w' ⟨rfl, rfl⟩
  go_wp2_with fail
  go_at_call 74
  refine (in_any _ _ _ _).mono ?_
  rw [h3]
  rintro e w' ⟨rfl, rfl⟩
  go_wp2
  have Hs := Lib.hid (And.intro ho (And.intro h1 h3))
  clear ho h1 h3
  go_loopw [3] (fun i wr => ∃ k : Nat, k <= n /\ i = .int .i64 (k : Int) /\ Hid (∀ j, j < k -> lchk o K j = true) /\ Hid (HdB w wr o s ag (.slice ad n cp) (.slice ae m cq))) (fun i _ => n - (intOf i).toNat)
  case atStart => exact ⟨0, Nat.zero_le _, rfl, Lib.hid (fun j hj => absurd hj (Nat.not_lt_zero _)), Lib.hid (HdB.start _ _ _ _ _ _ _)⟩
  case round =>
    obtain ⟨k, hk, rfl, HP, HD⟩ := hrel
    obtain ⟨k0, k1, k2, k3, k4, hsz, HB⟩ := HD.out
    clear HD
    by_cases hlt : k < n
    · obtain ⟨r, hr⟩ : ∃ r, K[k]? = some r := ⟨K[k]'(by rw [HK.out]; exact hlt), List.getElem?_eq_getElem _⟩
      obtain ⟨a, c⟩ := r
      obtain ⟨r0, r1⟩ := flat2_at K k _ hr
      obtain ⟨q, rfl, hq, H⟩ := HU.out (by omega)
      have HL : Hid (K[k]? = some (a, c)) := Lib.hid hr
      have hqs : q < w.heap.size := by omega
      have hqw : q < wr.heap.size := by omega
      have z0 : wr.cell? ⟨q, k * 2, none⟩ = some (.int .i64 a) := by rw [HB.out.cell (p := ⟨q, k * 2, none⟩) hqs]; exact H _ _ r0
      have z1 : wr.cell? ⟨q, k * 2 + 1, none⟩ = some (.int .i64 c) := by rw [HB.out.cell (p := ⟨q, k * 2 + 1, none⟩) hqs]; exact H _ _ r1
      have HH := Lib.hid H
      have q0 : (0 : Int) <= (k : Int) := by omega
      have q1 : (k : Int) < (n : Int) := by omega
      clear r0 r1 hr H
      by_cases h1 : inB a 0 9 = true
      · by_cases h2 : a = o
        · have Hno : Hid (lksB o K = false) := Lib.hid (lksB_no (i := k) (by rw [HK.out]; exact hlt) (by rw [lchk_at HL.out]; unfold lkB; simp [h2]))
          have h3 : (a == o) = true := by simp [h2]
          have Hx2 := Lib.hid h2
          clear h2
          have hkk :  (wr.alloc (.cells #[.int .i64 a, .int .i64 c] 75)).cell? ⟨w.heap.size, 0, none⟩ = some (.int .i64 o) /\ (wr.alloc (.cells #[.int .i64 a, .int .i64 c] 75)).cell? ⟨w.heap.size, 1, none⟩ = some (.int .i64 s) /\ (wr.alloc (.cells #[.int .i64 a, .int .i64 c] 75)).cell? ⟨w.heap.size, 2, none⟩ = some (.int .i64 ag) /\ (wr.alloc (.cells #[.int .i64 a, .int .i64 c] 75)).cell? ⟨w.heap.size, 3, none⟩ = some (.slice (some ⟨q, 0, none⟩) n cp) /\ (wr.alloc (.cells #[.int .i64 a, .int .i64 c] 75)).cell? ⟨w.heap.size, 4, none⟩ = some (.slice ae m cq) /\ (wr.alloc (.cells #[.int .i64 a, .int .i64 c] 75)).cell? ⟨wr.heap.size, 0, none⟩ = some (.int .i64 a) /\ (wr.alloc (.cells #[.int .i64 a, .int .i64 c] 75)).cell? ⟨wr.heap.size, 1, none⟩ = some (.int .i64 c) /\ wr.heap.size < (wr.alloc (.cells #[.int .i64 a, .int .i64 c] 75)).heap.size /\ Below w.heap.size w (wr.alloc (.cells #[.int .i64 a, .int .i64 c] 75)) := ⟨by rw [old_box (by omega)]; exact k0, by rw [old_box (by omega)]; exact k1, by rw [old_box (by omega)]; exact k2, by rw [old_box (by omega)]; exact k3, by rw [old_box (by omega)]; exact k4, by simp, by simp, by simp, HB.out.alloc (by omega) _⟩
          go_wp2_with fail
          refine wp_region_held_drew (S := (fun w' => w'.cell? ⟨w.heap.size, 0, none⟩ = some (.int .i64 o) /\ w'.cell? ⟨w.heap.size, 1, none⟩ = some (.int .i64 s) /\ w'.cell? ⟨w.heap.size, 2, none⟩ = some (.int .i64 ag) /\ w'.cell? ⟨w.heap.size, 3, none⟩ = some (.slice (some ⟨q, 0, none⟩) n cp) /\ w'.cell? ⟨w.heap.size, 4, none⟩ = some (.slice ae m cq) /\ w'.cell? ⟨wr.heap.size, 0, none⟩ = some (.int .i64 a) /\ w'.cell? ⟨wr.heap.size, 1, none⟩ = some (.int .i64 c) /\ wr.heap.size < w'.heap.size /\ Below w.heap.size w w')) (by kernel_rfl) ?_ (fun hHeld => ?_)
          · (first | assumption | exact rk7_drew hkk | exact rk7_drew (by assumption) | exact rk7_keep (by omega) (by omega) (by omega) (by omega) (by omega) (by omega) (by omega) (by omega) (by assumption) (by assumption))
          refine step_read 0 47 rfl rfl (by kernel_rfl) (by kernel_rfl) (by kernel_rfl) (fun _ _ _ h => h) (by rfl) (v := ?_) (fun w hSw => ?_) (by assumption) ?_; rotate_left; (focus ((try dsimp only at hSw); go_simp; first | done | exact rfl)); simp only [List.set]
          refine step_read 1 48 rfl rfl (by kernel_rfl) (by kernel_rfl) (by kernel_rfl) (fun _ _ _ h => h) (by rfl) (v := ?_) (fun w hSw => ?_) (by assumption) ?_; rotate_left; (focus ((try dsimp only at hSw); go_simp; first | done | exact rfl)); simp only [List.set]
          (refine wpAnyH_ready (rs := [2]) (by kernel_rfl) (by simp) ?_; refine AllReadyH.cons rfl (fun K hK => ?_) AllReadyH.nil; go_simp; (go_at_call 74; refine (in_any _ _ _ _).mono ?_; rw [h1]; rintro e w2 ⟨rfl, rfl⟩); refine hK.out _ _ ?_ (fun hHeld => ?_); (focus ((first | assumption | exact rk7_drew hkk | exact rk7_drew (by assumption) | exact rk7_keep (by omega) (by omega) (by omega) (by omega) (by omega) (by omega) (by omega) (by omega) (by assumption) (by assumption)))); clear hK K)
          refine step_read 3 50 rfl rfl (by kernel_rfl) (by kernel_rfl) (by kernel_rfl) (fun _ _ _ h => h) (by rfl) (v := ?_) (fun w hSw => ?_) (by assumption) ?_; rotate_left; (focus ((try dsimp only at hSw); go_simp; first | done | exact rfl)); simp only [List.set]
          refine step_read 4 51 rfl rfl (by kernel_rfl) (by kernel_rfl) (by kernel_rfl) (fun _ _ _ h => h) (by rfl) (v := ?_) (fun w hSw => ?_) (by assumption) ?_; rotate_left; (focus ((try dsimp only at hSw); go_simp; first | done | exact rfl)); simp only [List.set]
          refine step_read 5 52 rfl rfl (by kernel_rfl) (by kernel_rfl) (by kernel_rfl) (fun _ _ _ h => h) (by rfl) (v := ?_) (fun w hSw => ?_) (by assumption) ?_; rotate_left; (focus ((try dsimp only at hSw); go_simp; first | done | exact rfl)); simp only [List.set]
          refine step_read 6 53 rfl rfl (by kernel_rfl) (by kernel_rfl) (by kernel_rfl) (fun _ _ _ h => h) (by rfl) (v := ?_) (fun w hSw => ?_) (by assumption) ?_; rotate_left; (focus ((try dsimp only at hSw); go_simp; first | done | exact rfl)); simp only [List.set]
          refine step_read 7 54 rfl rfl (by kernel_rfl) (by kernel_rfl) (by kernel_rfl) (fun _ _ _ h => h) (by rfl) (v := ?_) (fun w hSw => ?_) (by assumption) ?_; rotate_left; (focus ((try dsimp only at hSw); go_simp; first | done | exact rfl)); simp only [List.set]
          refine step_read 8 55 rfl rfl (by kernel_rfl) (by kernel_rfl) (by kernel_rfl) (fun _ _ _ h => h) (by rfl) (v := ?_) (fun w hSw => ?_) (by assumption) ?_; rotate_left; (focus ((try dsimp only at hSw); go_simp; first | done | exact rfl)); simp only [List.set]
          refine step_read 9 56 rfl rfl (by kernel_rfl) (by kernel_rfl) (by kernel_rfl) (fun _ _ _ h => h) (by rfl) (v := ?_) (fun w hSw => ?_) (by assumption) ?_; rotate_left; (focus ((try dsimp only at hSw); go_simp; first | done | exact rfl)); simp only [List.set]
          refine step_read 10 57 rfl rfl (by kernel_rfl) (by kernel_rfl) (by kernel_rfl) (fun _ _ _ h => h) (by rfl) (v := ?_) (fun w hSw => ?_) (by assumption) ?_; rotate_left; (focus ((try dsimp only at hSw); go_simp; first | done | exact rfl)); simp only [List.set]
          refine step_read 11 58 rfl rfl (by kernel_rfl) (by kernel_rfl) (by kernel_rfl) (fun _ _ _ h => h) (by rfl) (v := ?_) (fun w hSw => ?_) (by assumption) ?_; rotate_left; (focus ((try dsimp only at hSw); go_simp; first | done | exact rfl)); simp only [List.set]
          refine step_skip 12 59 rfl rfl (by kernel_rfl) (by kernel_rfl) (by kernel_rfl) (fun _ _ _ h => h) (by rfl) (by assumption) ?_; simp only [List.set]
          refine step_skip 13 60 rfl rfl (by kernel_rfl) (by kernel_rfl) (by kernel_rfl) (fun _ _ _ h => h) (by rfl) (by assumption) ?_; simp only [List.set]
          refine step_skip 14 61 rfl rfl (by kernel_rfl) (by kernel_rfl) (by kernel_rfl) (fun _ _ _ h => h) (by rfl) (by assumption) ?_; simp only [List.set]
          refine step_skip 15 62 rfl rfl (by kernel_rfl) (by kernel_rfl) (by kernel_rfl) (fun _ _ _ h => h) (by rfl) (by assumption) ?_; simp only [List.set]
          refine step_read 16 63 rfl rfl (by kernel_rfl) (by kernel_rfl) (by kernel_rfl) (fun _ _ _ h => h) (by rfl) (v := ?_) (fun w hSw => ?_) (by assumption) ?_; rotate_left; (focus ((try dsimp only at hSw); go_simp; first | done | exact rfl)); simp only [List.set]
          refine step_read 17 64 rfl rfl (by kernel_rfl) (by kernel_rfl) (by kernel_rfl) (fun _ _ _ h => h) (by rfl) (v := ?_) (fun w hSw => ?_) (by assumption) ?_; rotate_left; (focus ((try dsimp only at hSw); go_simp; first | done | exact rfl)); simp only [List.set]
          refine step_skip 18 65 rfl rfl (by kernel_rfl) (by kernel_rfl) (by kernel_rfl) (fun _ _ _ h => h) (by rfl) (by assumption) ?_; simp only [List.set]
          refine step_skip 19 66 rfl rfl (by kernel_rfl) (by kernel_rfl) (by kernel_rfl) (fun _ _ _ h => h) (by rfl) (by assumption) ?_; simp only [List.set]
          refine step_skip 20 67 rfl rfl (by kernel_rfl) (by kernel_rfl) (by kernel_rfl) (fun _ _ _ h => h) (by rfl) (by assumption) ?_; simp only [List.set]
          refine step_skip 21 68 rfl rfl (by kernel_rfl) (by kernel_rfl) (by kernel_rfl) (fun _ _ _ h => h) (by rfl) (by assumption) ?_; simp only [List.set]
          refine step_skip 22 69 rfl rfl (by kernel_rfl) (by kernel_rfl) (by kernel_rfl) (fun _ _ _ h => h) (by rfl) (by assumption) ?_; simp only [List.set]
          refine step_skip 23 70 rfl rfl (by kernel_rfl) (by kernel_rfl) (by kernel_rfl) (fun _ _ _ h => h) (by rfl) (by assumption) ?_; simp only [List.set]
          refine step_skip 24 71 rfl rfl (by kernel_rfl) (by kernel_rfl) (by kernel_rfl) (fun _ _ _ h => h) (by rfl) (by assumption) ?_; simp only [List.set]
          refine step_skip 25 72 rfl rfl (by kernel_rfl) (by kernel_rfl) (by kernel_rfl) (fun _ _ _ h => h) (by rfl) (by assumption) ?_; simp only [List.set]
          refine step_skip 26 73 rfl rfl (by kernel_rfl) (by kernel_rfl) (by kernel_rfl) (fun _ _ _ h => h) (by rfl) (by assumption) ?_; simp only [List.set]
          refine step_skip 27 74 rfl rfl (by kernel_rfl) (by kernel_rfl) (by kernel_rfl) (fun _ _ _ h => h) (by rfl) (by assumption) ?_; simp only [List.set]
          refine step_skip 28 75 rfl rfl (by kernel_rfl) (by kernel_rfl) (by kernel_rfl) (fun _ _ _ h => h) (by rfl) (by assumption) ?_; simp only [List.set]
          refine step_skip 29 76 rfl rfl (by kernel_rfl) (by kernel_rfl) (by kernel_rfl) (fun _ _ _ h => h) (by rfl) (by assumption) ?_; simp only [List.set]
          refine step_skip 30 77 rfl rfl (by kernel_rfl) (by kernel_rfl) (by kernel_rfl) (fun _ _ _ h => h) (by rfl) (by assumption) ?_; simp only [List.set]
          refine step_skip 31 78 rfl rfl (by kernel_rfl) (by kernel_rfl) (by kernel_rfl) (fun _ _ _ h => h) (by rfl) (by assumption) ?_; simp only [List.set]
          refine step_read 32 79 rfl rfl (by kernel_rfl) (by kernel_rfl) (by kernel_rfl) (fun _ _ _ h => h) (by rfl) (v := ?_) (fun w hSw => ?_) (by assumption) ?_; rotate_left; (focus ((try dsimp only at hSw); go_simp; first | done | exact rfl)); simp only [List.set]
          refine wpAnyH_done (by kernel_rfl) ?_ _
          go_wp2_with fail
          go_ret
          exact ⟨by rw [lok_no (.inl Hno.out)]; rfl, (rk7_out (by assumption)).2⟩
        · have h3 : (a == o) = false := by simp [h2]
          have Hx2 := Lib.hid h2
          clear h2
          by_cases h4 : inB c 1 1000 = true
          · have He : Hid (lkB o a c = true) := by show lkB o a c = true; unfold lkB; rw [h1, h3, h4]; rfl
            by_cases hk0 : k = 0
            · have Hc : Hid (lchk o K k = true) := by show lchk o K k = true; rw [lchk_at HL.out, He.out, hk0]; rfl
              have d0 : decide (0 < k) = false := by rw [hk0]; decide
              have Hk0 := Lib.hid hk0
              clear hk0
              have hkk :  (wr.alloc (.cells #[.int .i64 a, .int .i64 c] 75)).cell? ⟨w.heap.size, 0, none⟩ = some (.int .i64 o) /\ (wr.alloc (.cells #[.int .i64 a, .int .i64 c] 75)).cell? ⟨w.heap.size, 1, none⟩ = some (.int .i64 s) /\ (wr.alloc (.cells #[.int .i64 a, .int .i64 c] 75)).cell? ⟨w.heap.size, 2, none⟩ = some (.int .i64 ag) /\ (wr.alloc (.cells #[.int .i64 a, .int .i64 c] 75)).cell? ⟨w.heap.size, 3, none⟩ = some (.slice (some ⟨q, 0, none⟩) n cp) /\ (wr.alloc (.cells #[.int .i64 a, .int .i64 c] 75)).cell? ⟨w.heap.size, 4, none⟩ = some (.slice ae m cq) /\ (wr.alloc (.cells #[.int .i64 a, .int .i64 c] 75)).cell? ⟨wr.heap.size, 0, none⟩ = some (.int .i64 a) /\ (wr.alloc (.cells #[.int .i64 a, .int .i64 c] 75)).cell? ⟨wr.heap.size, 1, none⟩ = some (.int .i64 c) /\ wr.heap.size < (wr.alloc (.cells #[.int .i64 a, .int .i64 c] 75)).heap.size /\ Below w.heap.size w (wr.alloc (.cells #[.int .i64 a, .int .i64 c] 75)) := ⟨by rw [old_box (by omega)]; exact k0, by rw [old_box (by omega)]; exact k1, by rw [old_box (by omega)]; exact k2, by rw [old_box (by omega)]; exact k3, by rw [old_box (by omega)]; exact k4, by simp, by simp, by simp, HB.out.alloc (by omega) _⟩
              go_wp2_with fail
              refine wp_region_held_drew (S := (fun w' => w'.cell? ⟨w.heap.size, 0, none⟩ = some (.int .i64 o) /\ w'.cell? ⟨w.heap.size, 1, none⟩ = some (.int .i64 s) /\ w'.cell? ⟨w.heap.size, 2, none⟩ = some (.int .i64 ag) /\ w'.cell? ⟨w.heap.size, 3, none⟩ = some (.slice (some ⟨q, 0, none⟩) n cp) /\ w'.cell? ⟨w.heap.size, 4, none⟩ = some (.slice ae m cq) /\ w'.cell? ⟨wr.heap.size, 0, none⟩ = some (.int .i64 a) /\ w'.cell? ⟨wr.heap.size, 1, none⟩ = some (.int .i64 c) /\ wr.heap.size < w'.heap.size /\ Below w.heap.size w w')) (by kernel_rfl) ?_ (fun hHeld => ?_)
              · (first | assumption | exact rk7_drew hkk | exact rk7_drew (by assumption) | exact rk7_keep (by omega) (by omega) (by omega) (by omega) (by omega) (by omega) (by omega) (by omega) (by assumption) (by assumption))
              refine step_read 0 47 rfl rfl (by kernel_rfl) (by kernel_rfl) (by kernel_rfl) (fun _ _ _ h => h) (by rfl) (v := ?_) (fun w hSw => ?_) (by assumption) ?_; rotate_left; (focus ((try dsimp only at hSw); go_simp; first | done | exact rfl)); simp only [List.set]
              refine step_read 1 48 rfl rfl (by kernel_rfl) (by kernel_rfl) (by kernel_rfl) (fun _ _ _ h => h) (by rfl) (v := ?_) (fun w hSw => ?_) (by assumption) ?_; rotate_left; (focus ((try dsimp only at hSw); go_simp; first | done | exact rfl)); simp only [List.set]
              (refine wpAnyH_ready (rs := [2]) (by kernel_rfl) (by simp) ?_; refine AllReadyH.cons rfl (fun K hK => ?_) AllReadyH.nil; go_simp; (go_at_call 74; refine (in_any _ _ _ _).mono ?_; rw [h1]; rintro e w2 ⟨rfl, rfl⟩); refine hK.out _ _ ?_ (fun hHeld => ?_); (focus ((first | assumption | exact rk7_drew hkk | exact rk7_drew (by assumption) | exact rk7_keep (by omega) (by omega) (by omega) (by omega) (by omega) (by omega) (by omega) (by omega) (by assumption) (by assumption)))); clear hK K)
              refine step_read 3 50 rfl rfl (by kernel_rfl) (by kernel_rfl) (by kernel_rfl) (fun _ _ _ h => h) (by rfl) (v := ?_) (fun w hSw => ?_) (by assumption) ?_; rotate_left; (focus ((try dsimp only at hSw); go_simp; first | done | exact rfl)); simp only [List.set]
              refine step_read 4 51 rfl rfl (by kernel_rfl) (by kernel_rfl) (by kernel_rfl) (fun _ _ _ h => h) (by rfl) (v := ?_) (fun w hSw => ?_) (by assumption) ?_; rotate_left; (focus ((try dsimp only at hSw); go_simp; first | done | exact rfl)); simp only [List.set]
              refine step_read 5 52 rfl rfl (by kernel_rfl) (by kernel_rfl) (by kernel_rfl) (fun _ _ _ h => h) (by rfl) (v := ?_) (fun w hSw => ?_) (by assumption) ?_; rotate_left; (focus ((try dsimp only at hSw); go_simp; first | done | exact rfl)); simp only [List.set]
              refine step_read 6 53 rfl rfl (by kernel_rfl) (by kernel_rfl) (by kernel_rfl) (fun _ _ _ h => h) (by rfl) (v := ?_) (fun w hSw => ?_) (by assumption) ?_; rotate_left; (focus ((try dsimp only at hSw); go_simp; first | done | exact rfl)); simp only [List.set]
              refine step_read 7 54 rfl rfl (by kernel_rfl) (by kernel_rfl) (by kernel_rfl) (fun _ _ _ h => h) (by rfl) (v := ?_) (fun w hSw => ?_) (by assumption) ?_; rotate_left; (focus ((try dsimp only at hSw); go_simp; first | done | exact rfl)); simp only [List.set]
              refine step_read 8 55 rfl rfl (by kernel_rfl) (by kernel_rfl) (by kernel_rfl) (fun _ _ _ h => h) (by rfl) (v := ?_) (fun w hSw => ?_) (by assumption) ?_; rotate_left; (focus ((try dsimp only at hSw); go_simp; first | done | exact rfl)); simp only [List.set]
              refine step_read 9 56 rfl rfl (by kernel_rfl) (by kernel_rfl) (by kernel_rfl) (fun _ _ _ h => h) (by rfl) (v := ?_) (fun w hSw => ?_) (by assumption) ?_; rotate_left; (focus ((try dsimp only at hSw); go_simp; first | done | exact rfl)); simp only [List.set]
              refine step_read 10 57 rfl rfl (by kernel_rfl) (by kernel_rfl) (by kernel_rfl) (fun _ _ _ h => h) (by rfl) (v := ?_) (fun w hSw => ?_) (by assumption) ?_; rotate_left; (focus ((try dsimp only at hSw); go_simp; first | done | exact rfl)); simp only [List.set]
              refine step_read 11 58 rfl rfl (by kernel_rfl) (by kernel_rfl) (by kernel_rfl) (fun _ _ _ h => h) (by rfl) (v := ?_) (fun w hSw => ?_) (by assumption) ?_; rotate_left; (focus ((try dsimp only at hSw); go_simp; first | done | exact rfl)); simp only [List.set]
              refine step_read 12 59 rfl rfl (by kernel_rfl) (by kernel_rfl) (by kernel_rfl) (fun _ _ _ h => h) (by rfl) (v := ?_) (fun w hSw => ?_) (by assumption) ?_; rotate_left; (focus ((try dsimp only at hSw); go_simp; first | done | exact rfl)); simp only [List.set]
              refine step_read 13 60 rfl rfl (by kernel_rfl) (by kernel_rfl) (by kernel_rfl) (fun _ _ _ h => h) (by rfl) (v := ?_) (fun w hSw => ?_) (by assumption) ?_; rotate_left; (focus ((try dsimp only at hSw); go_simp; first | done | exact rfl)); simp only [List.set]
              (refine wpAnyH_ready (rs := [14]) (by kernel_rfl) (by simp) ?_; refine AllReadyH.cons rfl (fun K hK => ?_) AllReadyH.nil; go_simp; (go_at_call 74; refine (in_any _ _ _ _).mono ?_; rw [h4]; rintro e w2 ⟨rfl, rfl⟩); refine hK.out _ _ ?_ (fun hHeld => ?_); (focus ((first | assumption | exact rk7_drew hkk | exact rk7_drew (by assumption) | exact rk7_keep (by omega) (by omega) (by omega) (by omega) (by omega) (by omega) (by omega) (by omega) (by assumption) (by assumption)))); clear hK K)
              refine step_read 15 62 rfl rfl (by kernel_rfl) (by kernel_rfl) (by kernel_rfl) (fun _ _ _ h => h) (by rfl) (v := ?_) (fun w hSw => ?_) (by assumption) ?_; rotate_left; (focus ((try dsimp only at hSw); go_simp; first | done | exact rfl)); simp only [List.set]
              refine step_read 16 63 rfl rfl (by kernel_rfl) (by kernel_rfl) (by kernel_rfl) (fun _ _ _ h => h) (by rfl) (v := ?_) (fun w hSw => ?_) (by assumption) ?_; rotate_left; (focus ((try dsimp only at hSw); go_simp; first | done | exact rfl)); simp only [List.set]
              refine step_read 17 64 rfl rfl (by kernel_rfl) (by kernel_rfl) (by kernel_rfl) (fun _ _ _ h => h) (by rfl) (v := ?_) (fun w hSw => ?_) (by assumption) ?_; rotate_left; (focus ((try dsimp only at hSw); go_simp; first | done | exact rfl)); simp only [List.set]
              refine step_read 18 65 rfl rfl (by kernel_rfl) (by kernel_rfl) (by kernel_rfl) (fun _ _ _ h => h) (by rfl) (v := ?_) (fun w hSw => ?_) (by assumption) ?_; rotate_left; (focus ((try dsimp only at hSw); go_simp; first | done | exact rfl)); simp only [List.set]
              refine step_read 19 66 rfl rfl (by kernel_rfl) (by kernel_rfl) (by kernel_rfl) (fun _ _ _ h => h) (by rfl) (v := ?_) (fun w hSw => ?_) (by assumption) ?_; rotate_left; (focus ((try dsimp only at hSw); go_simp; first | done | exact rfl)); simp only [List.set]
              refine step_read 20 67 rfl rfl (by kernel_rfl) (by kernel_rfl) (by kernel_rfl) (fun _ _ _ h => h) (by rfl) (v := ?_) (fun w hSw => ?_) (by assumption) ?_; rotate_left; (focus ((try dsimp only at hSw); go_simp; first | done | exact rfl)); simp only [List.set]
              refine step_skip 21 68 rfl rfl (by kernel_rfl) (by kernel_rfl) (by kernel_rfl) (fun _ _ _ h => h) (by rfl) (by assumption) ?_; simp only [List.set]
              refine step_skip 22 69 rfl rfl (by kernel_rfl) (by kernel_rfl) (by kernel_rfl) (fun _ _ _ h => h) (by rfl) (by assumption) ?_; simp only [List.set]
              refine step_skip 23 70 rfl rfl (by kernel_rfl) (by kernel_rfl) (by kernel_rfl) (fun _ _ _ h => h) (by rfl) (by assumption) ?_; simp only [List.set]
              refine step_skip 24 71 rfl rfl (by kernel_rfl) (by kernel_rfl) (by kernel_rfl) (fun _ _ _ h => h) (by rfl) (by assumption) ?_; simp only [List.set]
              refine step_skip 25 72 rfl rfl (by kernel_rfl) (by kernel_rfl) (by kernel_rfl) (fun _ _ _ h => h) (by rfl) (by assumption) ?_; simp only [List.set]
              refine step_skip 26 73 rfl rfl (by kernel_rfl) (by kernel_rfl) (by kernel_rfl) (fun _ _ _ h => h) (by rfl) (by assumption) ?_; simp only [List.set]
              refine step_skip 27 74 rfl rfl (by kernel_rfl) (by kernel_rfl) (by kernel_rfl) (fun _ _ _ h => h) (by rfl) (by assumption) ?_; simp only [List.set]
              refine step_skip 28 75 rfl rfl (by kernel_rfl) (by kernel_rfl) (by kernel_rfl) (fun _ _ _ h => h) (by rfl) (by assumption) ?_; simp only [List.set]
              refine step_skip 29 76 rfl rfl (by kernel_rfl) (by kernel_rfl) (by kernel_rfl) (fun _ _ _ h => h) (by rfl) (by assumption) ?_; simp only [List.set]
              refine step_skip 30 77 rfl rfl (by kernel_rfl) (by kernel_rfl) (by kernel_rfl) (fun _ _ _ h => h) (by rfl) (by assumption) ?_; simp only [List.set]
              refine step_read 31 78 rfl rfl (by kernel_rfl) (by kernel_rfl) (by kernel_rfl) (fun _ _ _ h => h) (by rfl) (v := ?_) (fun w hSw => ?_) (by assumption) ?_; rotate_left; (focus ((try dsimp only at hSw); go_simp; first | done | exact rfl)); simp only [List.set]
              refine step_read 32 79 rfl rfl (by kernel_rfl) (by kernel_rfl) (by kernel_rfl) (fun _ _ _ h => h) (by rfl) (v := ?_) (fun w hSw => ?_) (by assumption) ?_; rotate_left; (focus ((try dsimp only at hSw); go_simp; first | done | exact rfl)); simp only [List.set]
              refine wpAnyH_done (by kernel_rfl) ?_ _
              go_wp2_with fail
              have hE := HdB.of (by assumption) (rk7_out (by assumption)) (Nat.le_of_lt hsz)
              go_roundw
              case rel => exact ⟨k + 1, by omega, by go_num, Lib.hid (all_next HP.out Hc.out), Lib.hid hE⟩
              case measure => simp [intOf]; omega
            · obtain ⟨p, hp⟩ : ∃ p, k = p + 1 := ⟨k - 1, by omega⟩
              obtain ⟨r', hr'⟩ : ∃ r, K[p]? = some r := ⟨K[p]'(by rw [HK.out]; omega), List.getElem?_eq_getElem _⟩
              obtain ⟨a0, d0⟩ := r'
              obtain ⟨r0, r1⟩ := flat2_at K p _ hr'
              have HL' : Hid (K[p]? = some (a0, d0)) := Lib.hid hr'
              have y0 : wr.cell? ⟨q, p * 2, none⟩ = some (.int .i64 a0) := by rw [HB.out.cell (p := ⟨q, p * 2, none⟩) hqs]; exact HH.out _ _ r0
              clear r0 r1 hr'
              have dk : decide (0 < k) = true := decide_eq_true (by omega)
              have dk1 : 0 < k := by omega
              have e1 : IntKind.i64.wrap ((k : Int) - 1) = (p : Int) := by rw [IntWalk.i64_in _ (by omega)]; omega
              have q2 : (0 : Int) <= (p : Int) := by omega
              have q3 : (p : Int) < (n : Int) := by omega
              have Hp := Lib.hid hp
              clear hp hk0
              have Hch : Hid (lchk o K k = decide (a0 < a)) := by show lchk o K k = _; rw [Hp.out, lchk_prev (by rw [<- Hp.out]; exact HL.out) HL'.out, He.out]; rfl
              by_cases l1 : a0 < a
              · have Hc : Hid (lchk o K k = true) := by show lchk o K k = true; rw [Hch.out]; exact decide_eq_true l1
                have l2 : decide (a <= a0) = false := decide_eq_false (by omega)
                have hkk :  (wr.alloc (.cells #[.int .i64 a, .int .i64 c] 75)).cell? ⟨w.heap.size, 0, none⟩ = some (.int .i64 o) /\ (wr.alloc (.cells #[.int .i64 a, .int .i64 c] 75)).cell? ⟨w.heap.size, 1, none⟩ = some (.int .i64 s) /\ (wr.alloc (.cells #[.int .i64 a, .int .i64 c] 75)).cell? ⟨w.heap.size, 2, none⟩ = some (.int .i64 ag) /\ (wr.alloc (.cells #[.int .i64 a, .int .i64 c] 75)).cell? ⟨w.heap.size, 3, none⟩ = some (.slice (some ⟨q, 0, none⟩) n cp) /\ (wr.alloc (.cells #[.int .i64 a, .int .i64 c] 75)).cell? ⟨w.heap.size, 4, none⟩ = some (.slice ae m cq) /\ (wr.alloc (.cells #[.int .i64 a, .int .i64 c] 75)).cell? ⟨wr.heap.size, 0, none⟩ = some (.int .i64 a) /\ (wr.alloc (.cells #[.int .i64 a, .int .i64 c] 75)).cell? ⟨wr.heap.size, 1, none⟩ = some (.int .i64 c) /\ (wr.alloc (.cells #[.int .i64 a, .int .i64 c] 75)).cell? ⟨q, p * 2, none⟩ = some (.int .i64 a0) /\ wr.heap.size < (wr.alloc (.cells #[.int .i64 a, .int .i64 c] 75)).heap.size /\ Below w.heap.size w (wr.alloc (.cells #[.int .i64 a, .int .i64 c] 75)) := ⟨by rw [old_box (by omega)]; exact k0, by rw [old_box (by omega)]; exact k1, by rw [old_box (by omega)]; exact k2, by rw [old_box (by omega)]; exact k3, by rw [old_box (by omega)]; exact k4, by simp, by simp, by rw [old_box (by omega)]; exact y0, by simp, HB.out.alloc (by omega) _⟩
                go_wp2_with fail
                refine wp_region_held_drew (S := (fun w' => w'.cell? ⟨w.heap.size, 0, none⟩ = some (.int .i64 o) /\ w'.cell? ⟨w.heap.size, 1, none⟩ = some (.int .i64 s) /\ w'.cell? ⟨w.heap.size, 2, none⟩ = some (.int .i64 ag) /\ w'.cell? ⟨w.heap.size, 3, none⟩ = some (.slice (some ⟨q, 0, none⟩) n cp) /\ w'.cell? ⟨w.heap.size, 4, none⟩ = some (.slice ae m cq) /\ w'.cell? ⟨wr.heap.size, 0, none⟩ = some (.int .i64 a) /\ w'.cell? ⟨wr.heap.size, 1, none⟩ = some (.int .i64 c) /\ w'.cell? ⟨q, p * 2, none⟩ = some (.int .i64 a0) /\ wr.heap.size < w'.heap.size /\ Below w.heap.size w w')) (by kernel_rfl) ?_ (fun hHeld => ?_)
                · (first | assumption | exact rk8_drew hkk | exact rk8_drew (by assumption) | exact rk8_keep (by omega) (by omega) (by omega) (by omega) (by omega) (by omega) (by omega) (by omega) (by omega) (by assumption) (by assumption))
                refine step_read 0 47 rfl rfl (by kernel_rfl) (by kernel_rfl) (by kernel_rfl) (fun _ _ _ h => h) (by rfl) (v := ?_) (fun w hSw => ?_) (by assumption) ?_; rotate_left; (focus ((try dsimp only at hSw); go_simp; first | done | exact rfl)); simp only [List.set]
                refine step_read 1 48 rfl rfl (by kernel_rfl) (by kernel_rfl) (by kernel_rfl) (fun _ _ _ h => h) (by rfl) (v := ?_) (fun w hSw => ?_) (by assumption) ?_; rotate_left; (focus ((try dsimp only at hSw); go_simp; first | done | exact rfl)); simp only [List.set]
                (refine wpAnyH_ready (rs := [2]) (by kernel_rfl) (by simp) ?_; refine AllReadyH.cons rfl (fun K hK => ?_) AllReadyH.nil; go_simp; (go_at_call 74; refine (in_any _ _ _ _).mono ?_; rw [h1]; rintro e w2 ⟨rfl, rfl⟩); refine hK.out _ _ ?_ (fun hHeld => ?_); (focus ((first | assumption | exact rk8_drew hkk | exact rk8_drew (by assumption) | exact rk8_keep (by omega) (by omega) (by omega) (by omega) (by omega) (by omega) (by omega) (by omega) (by omega) (by assumption) (by assumption)))); clear hK K)
                refine step_read 3 50 rfl rfl (by kernel_rfl) (by kernel_rfl) (by kernel_rfl) (fun _ _ _ h => h) (by rfl) (v := ?_) (fun w hSw => ?_) (by assumption) ?_; rotate_left; (focus ((try dsimp only at hSw); go_simp; first | done | exact rfl)); simp only [List.set]
                refine step_read 4 51 rfl rfl (by kernel_rfl) (by kernel_rfl) (by kernel_rfl) (fun _ _ _ h => h) (by rfl) (v := ?_) (fun w hSw => ?_) (by assumption) ?_; rotate_left; (focus ((try dsimp only at hSw); go_simp; first | done | exact rfl)); simp only [List.set]
                refine step_read 5 52 rfl rfl (by kernel_rfl) (by kernel_rfl) (by kernel_rfl) (fun _ _ _ h => h) (by rfl) (v := ?_) (fun w hSw => ?_) (by assumption) ?_; rotate_left; (focus ((try dsimp only at hSw); go_simp; first | done | exact rfl)); simp only [List.set]
                refine step_read 6 53 rfl rfl (by kernel_rfl) (by kernel_rfl) (by kernel_rfl) (fun _ _ _ h => h) (by rfl) (v := ?_) (fun w hSw => ?_) (by assumption) ?_; rotate_left; (focus ((try dsimp only at hSw); go_simp; first | done | exact rfl)); simp only [List.set]
                refine step_read 7 54 rfl rfl (by kernel_rfl) (by kernel_rfl) (by kernel_rfl) (fun _ _ _ h => h) (by rfl) (v := ?_) (fun w hSw => ?_) (by assumption) ?_; rotate_left; (focus ((try dsimp only at hSw); go_simp; first | done | exact rfl)); simp only [List.set]
                refine step_read 8 55 rfl rfl (by kernel_rfl) (by kernel_rfl) (by kernel_rfl) (fun _ _ _ h => h) (by rfl) (v := ?_) (fun w hSw => ?_) (by assumption) ?_; rotate_left; (focus ((try dsimp only at hSw); go_simp; first | done | exact rfl)); simp only [List.set]
                refine step_read 9 56 rfl rfl (by kernel_rfl) (by kernel_rfl) (by kernel_rfl) (fun _ _ _ h => h) (by rfl) (v := ?_) (fun w hSw => ?_) (by assumption) ?_; rotate_left; (focus ((try dsimp only at hSw); go_simp; first | done | exact rfl)); simp only [List.set]
                refine step_read 10 57 rfl rfl (by kernel_rfl) (by kernel_rfl) (by kernel_rfl) (fun _ _ _ h => h) (by rfl) (v := ?_) (fun w hSw => ?_) (by assumption) ?_; rotate_left; (focus ((try dsimp only at hSw); go_simp; first | done | exact rfl)); simp only [List.set]
                refine step_read 11 58 rfl rfl (by kernel_rfl) (by kernel_rfl) (by kernel_rfl) (fun _ _ _ h => h) (by rfl) (v := ?_) (fun w hSw => ?_) (by assumption) ?_; rotate_left; (focus ((try dsimp only at hSw); go_simp; first | done | exact rfl)); simp only [List.set]
                refine step_read 12 59 rfl rfl (by kernel_rfl) (by kernel_rfl) (by kernel_rfl) (fun _ _ _ h => h) (by rfl) (v := ?_) (fun w hSw => ?_) (by assumption) ?_; rotate_left; (focus ((try dsimp only at hSw); go_simp; first | done | exact rfl)); simp only [List.set]
                refine step_read 13 60 rfl rfl (by kernel_rfl) (by kernel_rfl) (by kernel_rfl) (fun _ _ _ h => h) (by rfl) (v := ?_) (fun w hSw => ?_) (by assumption) ?_; rotate_left; (focus ((try dsimp only at hSw); go_simp; first | done | exact rfl)); simp only [List.set]
                (refine wpAnyH_ready (rs := [14]) (by kernel_rfl) (by simp) ?_; refine AllReadyH.cons rfl (fun K hK => ?_) AllReadyH.nil; go_simp; (go_at_call 74; refine (in_any _ _ _ _).mono ?_; rw [h4]; rintro e w2 ⟨rfl, rfl⟩); refine hK.out _ _ ?_ (fun hHeld => ?_); (focus ((first | assumption | exact rk8_drew hkk | exact rk8_drew (by assumption) | exact rk8_keep (by omega) (by omega) (by omega) (by omega) (by omega) (by omega) (by omega) (by omega) (by omega) (by assumption) (by assumption)))); clear hK K)
                refine step_read 15 62 rfl rfl (by kernel_rfl) (by kernel_rfl) (by kernel_rfl) (fun _ _ _ h => h) (by rfl) (v := ?_) (fun w hSw => ?_) (by assumption) ?_; rotate_left; (focus ((try dsimp only at hSw); go_simp; first | done | exact rfl)); simp only [List.set]
                refine step_read 16 63 rfl rfl (by kernel_rfl) (by kernel_rfl) (by kernel_rfl) (fun _ _ _ h => h) (by rfl) (v := ?_) (fun w hSw => ?_) (by assumption) ?_; rotate_left; (focus ((try dsimp only at hSw); go_simp; first | done | exact rfl)); simp only [List.set]
                refine step_read 17 64 rfl rfl (by kernel_rfl) (by kernel_rfl) (by kernel_rfl) (fun _ _ _ h => h) (by rfl) (v := ?_) (fun w hSw => ?_) (by assumption) ?_; rotate_left; (focus ((try dsimp only at hSw); go_simp; first | done | exact rfl)); simp only [List.set]
                refine step_read 18 65 rfl rfl (by kernel_rfl) (by kernel_rfl) (by kernel_rfl) (fun _ _ _ h => h) (by rfl) (v := ?_) (fun w hSw => ?_) (by assumption) ?_; rotate_left; (focus ((try dsimp only at hSw); go_simp; first | done | exact rfl)); simp only [List.set]
                refine step_read 19 66 rfl rfl (by kernel_rfl) (by kernel_rfl) (by kernel_rfl) (fun _ _ _ h => h) (by rfl) (v := ?_) (fun w hSw => ?_) (by assumption) ?_; rotate_left; (focus ((try dsimp only at hSw); go_simp; first | done | exact rfl)); simp only [List.set]
                refine step_read 20 67 rfl rfl (by kernel_rfl) (by kernel_rfl) (by kernel_rfl) (fun _ _ _ h => h) (by rfl) (v := ?_) (fun w hSw => ?_) (by assumption) ?_; rotate_left; (focus ((try dsimp only at hSw); go_simp; first | done | exact rfl)); simp only [List.set]
                refine step_read 21 68 rfl rfl (by kernel_rfl) (by kernel_rfl) (by kernel_rfl) (fun _ _ _ h => h) (by rfl) (v := ?_) (fun w hSw => ?_) (by assumption) ?_; rotate_left; (focus ((try dsimp only at hSw); go_simp; first | done | exact rfl)); simp only [List.set]
                refine step_read 22 69 rfl rfl (by kernel_rfl) (by kernel_rfl) (by kernel_rfl) (fun _ _ _ h => h) (by rfl) (v := ?_) (fun w hSw => ?_) (by assumption) ?_; rotate_left; (focus ((try dsimp only at hSw); go_simp; first | done | exact rfl)); simp only [List.set]
                refine step_read 23 70 rfl rfl (by kernel_rfl) (by kernel_rfl) (by kernel_rfl) (fun _ _ _ h => h) (by rfl) (v := ?_) (fun w hSw => ?_) (by assumption) ?_; rotate_left; (focus ((try dsimp only at hSw); go_simp; first | done | exact rfl)); simp only [List.set]
                refine step_read 24 71 rfl rfl (by kernel_rfl) (by kernel_rfl) (by kernel_rfl) (fun _ _ _ h => h) (by rfl) (v := ?_) (fun w hSw => ?_) (by assumption) ?_; rotate_left; (focus ((try dsimp only at hSw); go_simp; first | done | exact rfl)); simp only [List.set]
                refine step_read 25 72 rfl rfl (by kernel_rfl) (by kernel_rfl) (by kernel_rfl) (fun _ _ _ h => h) (by rfl) (v := ?_) (fun w hSw => ?_) (by assumption) ?_; rotate_left; (focus ((try dsimp only at hSw); go_simp; first | done | exact rfl)); simp only [List.set]
                refine step_read 26 73 rfl rfl (by kernel_rfl) (by kernel_rfl) (by kernel_rfl) (fun _ _ _ h => h) (by rfl) (v := ?_) (fun w hSw => ?_) (by assumption) ?_; rotate_left; (focus ((try dsimp only at hSw); go_simp; first | done | exact rfl)); simp only [List.set]
                refine step_read 27 74 rfl rfl (by kernel_rfl) (by kernel_rfl) (by kernel_rfl) (fun _ _ _ h => h) (by rfl) (v := ?_) (fun w hSw => ?_) (by assumption) ?_; rotate_left; (focus ((try dsimp only at hSw); go_simp; first | done | exact rfl)); simp only [List.set]
                refine step_read 28 75 rfl rfl (by kernel_rfl) (by kernel_rfl) (by kernel_rfl) (fun _ _ _ h => h) (by rfl) (v := ?_) (fun w hSw => ?_) (by assumption) ?_; rotate_left; (focus ((try dsimp only at hSw); go_simp; first | done | exact rfl)); simp only [List.set]
                refine step_read 29 76 rfl rfl (by kernel_rfl) (by kernel_rfl) (by kernel_rfl) (fun _ _ _ h => h) (by rfl) (v := ?_) (fun w hSw => ?_) (by assumption) ?_; rotate_left; (focus ((try dsimp only at hSw); go_simp; first | done | exact rfl)); simp only [List.set]
                refine step_read 30 77 rfl rfl (by kernel_rfl) (by kernel_rfl) (by kernel_rfl) (fun _ _ _ h => h) (by rfl) (v := ?_) (fun w hSw => ?_) (by assumption) ?_; rotate_left; (focus ((try dsimp only at hSw); go_simp; first | done | exact rfl)); simp only [List.set]
                refine step_read 31 78 rfl rfl (by kernel_rfl) (by kernel_rfl) (by kernel_rfl) (fun _ _ _ h => h) (by rfl) (v := ?_) (fun w hSw => ?_) (by assumption) ?_; rotate_left; (focus ((try dsimp only at hSw); go_simp; first | done | exact rfl)); simp only [List.set]
                refine step_read 32 79 rfl rfl (by kernel_rfl) (by kernel_rfl) (by kernel_rfl) (fun _ _ _ h => h) (by rfl) (v := ?_) (fun w hSw => ?_) (by assumption) ?_; rotate_left; (focus ((try dsimp only at hSw); go_simp; first | done | exact rfl)); simp only [List.set]
                refine wpAnyH_done (by kernel_rfl) ?_ _
                go_wp2_with fail
                have hE := HdB.of (by assumption) (rk8_out (by assumption)) (Nat.le_of_lt hsz)
                go_roundw
                case rel => exact ⟨k + 1, by omega, by go_num, Lib.hid (all_next HP.out Hc.out), Lib.hid hE⟩
                case measure => simp [intOf]; omega
              · have Hno : Hid (lksB o K = false) := Lib.hid (lksB_no (i := k) (by rw [HK.out]; exact hlt) (by rw [Hch.out]; exact decide_eq_false l1))
                have l2 : decide (a <= a0) = true := decide_eq_true (by omega)
                have hkk :  (wr.alloc (.cells #[.int .i64 a, .int .i64 c] 75)).cell? ⟨w.heap.size, 0, none⟩ = some (.int .i64 o) /\ (wr.alloc (.cells #[.int .i64 a, .int .i64 c] 75)).cell? ⟨w.heap.size, 1, none⟩ = some (.int .i64 s) /\ (wr.alloc (.cells #[.int .i64 a, .int .i64 c] 75)).cell? ⟨w.heap.size, 2, none⟩ = some (.int .i64 ag) /\ (wr.alloc (.cells #[.int .i64 a, .int .i64 c] 75)).cell? ⟨w.heap.size, 3, none⟩ = some (.slice (some ⟨q, 0, none⟩) n cp) /\ (wr.alloc (.cells #[.int .i64 a, .int .i64 c] 75)).cell? ⟨w.heap.size, 4, none⟩ = some (.slice ae m cq) /\ (wr.alloc (.cells #[.int .i64 a, .int .i64 c] 75)).cell? ⟨wr.heap.size, 0, none⟩ = some (.int .i64 a) /\ (wr.alloc (.cells #[.int .i64 a, .int .i64 c] 75)).cell? ⟨wr.heap.size, 1, none⟩ = some (.int .i64 c) /\ (wr.alloc (.cells #[.int .i64 a, .int .i64 c] 75)).cell? ⟨q, p * 2, none⟩ = some (.int .i64 a0) /\ wr.heap.size < (wr.alloc (.cells #[.int .i64 a, .int .i64 c] 75)).heap.size /\ Below w.heap.size w (wr.alloc (.cells #[.int .i64 a, .int .i64 c] 75)) := ⟨by rw [old_box (by omega)]; exact k0, by rw [old_box (by omega)]; exact k1, by rw [old_box (by omega)]; exact k2, by rw [old_box (by omega)]; exact k3, by rw [old_box (by omega)]; exact k4, by simp, by simp, by rw [old_box (by omega)]; exact y0, by simp, HB.out.alloc (by omega) _⟩
                go_wp2_with fail
                refine wp_region_held_drew (S := (fun w' => w'.cell? ⟨w.heap.size, 0, none⟩ = some (.int .i64 o) /\ w'.cell? ⟨w.heap.size, 1, none⟩ = some (.int .i64 s) /\ w'.cell? ⟨w.heap.size, 2, none⟩ = some (.int .i64 ag) /\ w'.cell? ⟨w.heap.size, 3, none⟩ = some (.slice (some ⟨q, 0, none⟩) n cp) /\ w'.cell? ⟨w.heap.size, 4, none⟩ = some (.slice ae m cq) /\ w'.cell? ⟨wr.heap.size, 0, none⟩ = some (.int .i64 a) /\ w'.cell? ⟨wr.heap.size, 1, none⟩ = some (.int .i64 c) /\ w'.cell? ⟨q, p * 2, none⟩ = some (.int .i64 a0) /\ wr.heap.size < w'.heap.size /\ Below w.heap.size w w')) (by kernel_rfl) ?_ (fun hHeld => ?_)
                · (first | assumption | exact rk8_drew hkk | exact rk8_drew (by assumption) | exact rk8_keep (by omega) (by omega) (by omega) (by omega) (by omega) (by omega) (by omega) (by omega) (by omega) (by assumption) (by assumption))
                refine step_read 0 47 rfl rfl (by kernel_rfl) (by kernel_rfl) (by kernel_rfl) (fun _ _ _ h => h) (by rfl) (v := ?_) (fun w hSw => ?_) (by assumption) ?_; rotate_left; (focus ((try dsimp only at hSw); go_simp; first | done | exact rfl)); simp only [List.set]
                refine step_read 1 48 rfl rfl (by kernel_rfl) (by kernel_rfl) (by kernel_rfl) (fun _ _ _ h => h) (by rfl) (v := ?_) (fun w hSw => ?_) (by assumption) ?_; rotate_left; (focus ((try dsimp only at hSw); go_simp; first | done | exact rfl)); simp only [List.set]
                (refine wpAnyH_ready (rs := [2]) (by kernel_rfl) (by simp) ?_; refine AllReadyH.cons rfl (fun K hK => ?_) AllReadyH.nil; go_simp; (go_at_call 74; refine (in_any _ _ _ _).mono ?_; rw [h1]; rintro e w2 ⟨rfl, rfl⟩); refine hK.out _ _ ?_ (fun hHeld => ?_); (focus ((first | assumption | exact rk8_drew hkk | exact rk8_drew (by assumption) | exact rk8_keep (by omega) (by omega) (by omega) (by omega) (by omega) (by omega) (by omega) (by omega) (by omega) (by assumption) (by assumption)))); clear hK K)
                refine step_read 3 50 rfl rfl (by kernel_rfl) (by kernel_rfl) (by kernel_rfl) (fun _ _ _ h => h) (by rfl) (v := ?_) (fun w hSw => ?_) (by assumption) ?_; rotate_left; (focus ((try dsimp only at hSw); go_simp; first | done | exact rfl)); simp only [List.set]
                refine step_read 4 51 rfl rfl (by kernel_rfl) (by kernel_rfl) (by kernel_rfl) (fun _ _ _ h => h) (by rfl) (v := ?_) (fun w hSw => ?_) (by assumption) ?_; rotate_left; (focus ((try dsimp only at hSw); go_simp; first | done | exact rfl)); simp only [List.set]
                refine step_read 5 52 rfl rfl (by kernel_rfl) (by kernel_rfl) (by kernel_rfl) (fun _ _ _ h => h) (by rfl) (v := ?_) (fun w hSw => ?_) (by assumption) ?_; rotate_left; (focus ((try dsimp only at hSw); go_simp; first | done | exact rfl)); simp only [List.set]
                refine step_read 6 53 rfl rfl (by kernel_rfl) (by kernel_rfl) (by kernel_rfl) (fun _ _ _ h => h) (by rfl) (v := ?_) (fun w hSw => ?_) (by assumption) ?_; rotate_left; (focus ((try dsimp only at hSw); go_simp; first | done | exact rfl)); simp only [List.set]
                refine step_read 7 54 rfl rfl (by kernel_rfl) (by kernel_rfl) (by kernel_rfl) (fun _ _ _ h => h) (by rfl) (v := ?_) (fun w hSw => ?_) (by assumption) ?_; rotate_left; (focus ((try dsimp only at hSw); go_simp; first | done | exact rfl)); simp only [List.set]
                refine step_read 8 55 rfl rfl (by kernel_rfl) (by kernel_rfl) (by kernel_rfl) (fun _ _ _ h => h) (by rfl) (v := ?_) (fun w hSw => ?_) (by assumption) ?_; rotate_left; (focus ((try dsimp only at hSw); go_simp; first | done | exact rfl)); simp only [List.set]
                refine step_read 9 56 rfl rfl (by kernel_rfl) (by kernel_rfl) (by kernel_rfl) (fun _ _ _ h => h) (by rfl) (v := ?_) (fun w hSw => ?_) (by assumption) ?_; rotate_left; (focus ((try dsimp only at hSw); go_simp; first | done | exact rfl)); simp only [List.set]
                refine step_read 10 57 rfl rfl (by kernel_rfl) (by kernel_rfl) (by kernel_rfl) (fun _ _ _ h => h) (by rfl) (v := ?_) (fun w hSw => ?_) (by assumption) ?_; rotate_left; (focus ((try dsimp only at hSw); go_simp; first | done | exact rfl)); simp only [List.set]
                refine step_read 11 58 rfl rfl (by kernel_rfl) (by kernel_rfl) (by kernel_rfl) (fun _ _ _ h => h) (by rfl) (v := ?_) (fun w hSw => ?_) (by assumption) ?_; rotate_left; (focus ((try dsimp only at hSw); go_simp; first | done | exact rfl)); simp only [List.set]
                refine step_read 12 59 rfl rfl (by kernel_rfl) (by kernel_rfl) (by kernel_rfl) (fun _ _ _ h => h) (by rfl) (v := ?_) (fun w hSw => ?_) (by assumption) ?_; rotate_left; (focus ((try dsimp only at hSw); go_simp; first | done | exact rfl)); simp only [List.set]
                refine step_read 13 60 rfl rfl (by kernel_rfl) (by kernel_rfl) (by kernel_rfl) (fun _ _ _ h => h) (by rfl) (v := ?_) (fun w hSw => ?_) (by assumption) ?_; rotate_left; (focus ((try dsimp only at hSw); go_simp; first | done | exact rfl)); simp only [List.set]
                (refine wpAnyH_ready (rs := [14]) (by kernel_rfl) (by simp) ?_; refine AllReadyH.cons rfl (fun K hK => ?_) AllReadyH.nil; go_simp; (go_at_call 74; refine (in_any _ _ _ _).mono ?_; rw [h4]; rintro e w2 ⟨rfl, rfl⟩); refine hK.out _ _ ?_ (fun hHeld => ?_); (focus ((first | assumption | exact rk8_drew hkk | exact rk8_drew (by assumption) | exact rk8_keep (by omega) (by omega) (by omega) (by omega) (by omega) (by omega) (by omega) (by omega) (by omega) (by assumption) (by assumption)))); clear hK K)
                refine step_read 15 62 rfl rfl (by kernel_rfl) (by kernel_rfl) (by kernel_rfl) (fun _ _ _ h => h) (by rfl) (v := ?_) (fun w hSw => ?_) (by assumption) ?_; rotate_left; (focus ((try dsimp only at hSw); go_simp; first | done | exact rfl)); simp only [List.set]
                refine step_read 16 63 rfl rfl (by kernel_rfl) (by kernel_rfl) (by kernel_rfl) (fun _ _ _ h => h) (by rfl) (v := ?_) (fun w hSw => ?_) (by assumption) ?_; rotate_left; (focus ((try dsimp only at hSw); go_simp; first | done | exact rfl)); simp only [List.set]
                refine step_read 17 64 rfl rfl (by kernel_rfl) (by kernel_rfl) (by kernel_rfl) (fun _ _ _ h => h) (by rfl) (v := ?_) (fun w hSw => ?_) (by assumption) ?_; rotate_left; (focus ((try dsimp only at hSw); go_simp; first | done | exact rfl)); simp only [List.set]
                refine step_read 18 65 rfl rfl (by kernel_rfl) (by kernel_rfl) (by kernel_rfl) (fun _ _ _ h => h) (by rfl) (v := ?_) (fun w hSw => ?_) (by assumption) ?_; rotate_left; (focus ((try dsimp only at hSw); go_simp; first | done | exact rfl)); simp only [List.set]
                refine step_read 19 66 rfl rfl (by kernel_rfl) (by kernel_rfl) (by kernel_rfl) (fun _ _ _ h => h) (by rfl) (v := ?_) (fun w hSw => ?_) (by assumption) ?_; rotate_left; (focus ((try dsimp only at hSw); go_simp; first | done | exact rfl)); simp only [List.set]
                refine step_read 20 67 rfl rfl (by kernel_rfl) (by kernel_rfl) (by kernel_rfl) (fun _ _ _ h => h) (by rfl) (v := ?_) (fun w hSw => ?_) (by assumption) ?_; rotate_left; (focus ((try dsimp only at hSw); go_simp; first | done | exact rfl)); simp only [List.set]
                refine step_read 21 68 rfl rfl (by kernel_rfl) (by kernel_rfl) (by kernel_rfl) (fun _ _ _ h => h) (by rfl) (v := ?_) (fun w hSw => ?_) (by assumption) ?_; rotate_left; (focus ((try dsimp only at hSw); go_simp; first | done | exact rfl)); simp only [List.set]
                refine step_read 22 69 rfl rfl (by kernel_rfl) (by kernel_rfl) (by kernel_rfl) (fun _ _ _ h => h) (by rfl) (v := ?_) (fun w hSw => ?_) (by assumption) ?_; rotate_left; (focus ((try dsimp only at hSw); go_simp; first | done | exact rfl)); simp only [List.set]
                refine step_read 23 70 rfl rfl (by kernel_rfl) (by kernel_rfl) (by kernel_rfl) (fun _ _ _ h => h) (by rfl) (v := ?_) (fun w hSw => ?_) (by assumption) ?_; rotate_left; (focus ((try dsimp only at hSw); go_simp; first | done | exact rfl)); simp only [List.set]
                refine step_read 24 71 rfl rfl (by kernel_rfl) (by kernel_rfl) (by kernel_rfl) (fun _ _ _ h => h) (by rfl) (v := ?_) (fun w hSw => ?_) (by assumption) ?_; rotate_left; (focus ((try dsimp only at hSw); go_simp; first | done | exact rfl)); simp only [List.set]
                refine step_read 25 72 rfl rfl (by kernel_rfl) (by kernel_rfl) (by kernel_rfl) (fun _ _ _ h => h) (by rfl) (v := ?_) (fun w hSw => ?_) (by assumption) ?_; rotate_left; (focus ((try dsimp only at hSw); go_simp; first | done | exact rfl)); simp only [List.set]
                refine step_read 26 73 rfl rfl (by kernel_rfl) (by kernel_rfl) (by kernel_rfl) (fun _ _ _ h => h) (by rfl) (v := ?_) (fun w hSw => ?_) (by assumption) ?_; rotate_left; (focus ((try dsimp only at hSw); go_simp; first | done | exact rfl)); simp only [List.set]
                refine step_read 27 74 rfl rfl (by kernel_rfl) (by kernel_rfl) (by kernel_rfl) (fun _ _ _ h => h) (by rfl) (v := ?_) (fun w hSw => ?_) (by assumption) ?_; rotate_left; (focus ((try dsimp only at hSw); go_simp; first | done | exact rfl)); simp only [List.set]
                refine step_read 28 75 rfl rfl (by kernel_rfl) (by kernel_rfl) (by kernel_rfl) (fun _ _ _ h => h) (by rfl) (v := ?_) (fun w hSw => ?_) (by assumption) ?_; rotate_left; (focus ((try dsimp only at hSw); go_simp; first | done | exact rfl)); simp only [List.set]
                refine step_read 29 76 rfl rfl (by kernel_rfl) (by kernel_rfl) (by kernel_rfl) (fun _ _ _ h => h) (by rfl) (v := ?_) (fun w hSw => ?_) (by assumption) ?_; rotate_left; (focus ((try dsimp only at hSw); go_simp; first | done | exact rfl)); simp only [List.set]
                refine step_read 30 77 rfl rfl (by kernel_rfl) (by kernel_rfl) (by kernel_rfl) (fun _ _ _ h => h) (by rfl) (v := ?_) (fun w hSw => ?_) (by assumption) ?_; rotate_left; (focus ((try dsimp only at hSw); go_simp; first | done | exact rfl)); simp only [List.set]
                refine step_read 31 78 rfl rfl (by kernel_rfl) (by kernel_rfl) (by kernel_rfl) (fun _ _ _ h => h) (by rfl) (v := ?_) (fun w hSw => ?_) (by assumption) ?_; rotate_left; (focus ((try dsimp only at hSw); go_simp; first | done | exact rfl)); simp only [List.set]
                refine step_read 32 79 rfl rfl (by kernel_rfl) (by kernel_rfl) (by kernel_rfl) (fun _ _ _ h => h) (by rfl) (v := ?_) (fun w hSw => ?_) (by assumption) ?_; rotate_left; (focus ((try dsimp only at hSw); go_simp; first | done | exact rfl)); simp only [List.set]
                refine wpAnyH_done (by kernel_rfl) ?_ _
                go_wp2_with fail
                go_ret
                exact ⟨by rw [lok_no (.inl Hno.out)]; rfl, (rk8_out (by assumption)).2⟩
          · have h5 := inB_no h4
            have Hno : Hid (lksB o K = false) := Lib.hid (lksB_no (i := k) (by rw [HK.out]; exact hlt) (by rw [lchk_at HL.out]; unfold lkB; rw [h5]; simp))
            clear h4
            have hkk :  (wr.alloc (.cells #[.int .i64 a, .int .i64 c] 75)).cell? ⟨w.heap.size, 0, none⟩ = some (.int .i64 o) /\ (wr.alloc (.cells #[.int .i64 a, .int .i64 c] 75)).cell? ⟨w.heap.size, 1, none⟩ = some (.int .i64 s) /\ (wr.alloc (.cells #[.int .i64 a, .int .i64 c] 75)).cell? ⟨w.heap.size, 2, none⟩ = some (.int .i64 ag) /\ (wr.alloc (.cells #[.int .i64 a, .int .i64 c] 75)).cell? ⟨w.heap.size, 3, none⟩ = some (.slice (some ⟨q, 0, none⟩) n cp) /\ (wr.alloc (.cells #[.int .i64 a, .int .i64 c] 75)).cell? ⟨w.heap.size, 4, none⟩ = some (.slice ae m cq) /\ (wr.alloc (.cells #[.int .i64 a, .int .i64 c] 75)).cell? ⟨wr.heap.size, 0, none⟩ = some (.int .i64 a) /\ (wr.alloc (.cells #[.int .i64 a, .int .i64 c] 75)).cell? ⟨wr.heap.size, 1, none⟩ = some (.int .i64 c) /\ wr.heap.size < (wr.alloc (.cells #[.int .i64 a, .int .i64 c] 75)).heap.size /\ Below w.heap.size w (wr.alloc (.cells #[.int .i64 a, .int .i64 c] 75)) := ⟨by rw [old_box (by omega)]; exact k0, by rw [old_box (by omega)]; exact k1, by rw [old_box (by omega)]; exact k2, by rw [old_box (by omega)]; exact k3, by rw [old_box (by omega)]; exact k4, by simp, by simp, by simp, HB.out.alloc (by omega) _⟩
            go_wp2_with fail
            refine wp_region_held_drew (S := (fun w' => w'.cell? ⟨w.heap.size, 0, none⟩ = some (.int .i64 o) /\ w'.cell? ⟨w.heap.size, 1, none⟩ = some (.int .i64 s) /\ w'.cell? ⟨w.heap.size, 2, none⟩ = some (.int .i64 ag) /\ w'.cell? ⟨w.heap.size, 3, none⟩ = some (.slice (some ⟨q, 0, none⟩) n cp) /\ w'.cell? ⟨w.heap.size, 4, none⟩ = some (.slice ae m cq) /\ w'.cell? ⟨wr.heap.size, 0, none⟩ = some (.int .i64 a) /\ w'.cell? ⟨wr.heap.size, 1, none⟩ = some (.int .i64 c) /\ wr.heap.size < w'.heap.size /\ Below w.heap.size w w')) (by kernel_rfl) ?_ (fun hHeld => ?_)
            · (first | assumption | exact rk7_drew hkk | exact rk7_drew (by assumption) | exact rk7_keep (by omega) (by omega) (by omega) (by omega) (by omega) (by omega) (by omega) (by omega) (by assumption) (by assumption))
            refine step_read 0 47 rfl rfl (by kernel_rfl) (by kernel_rfl) (by kernel_rfl) (fun _ _ _ h => h) (by rfl) (v := ?_) (fun w hSw => ?_) (by assumption) ?_; rotate_left; (focus ((try dsimp only at hSw); go_simp; first | done | exact rfl)); simp only [List.set]
            refine step_read 1 48 rfl rfl (by kernel_rfl) (by kernel_rfl) (by kernel_rfl) (fun _ _ _ h => h) (by rfl) (v := ?_) (fun w hSw => ?_) (by assumption) ?_; rotate_left; (focus ((try dsimp only at hSw); go_simp; first | done | exact rfl)); simp only [List.set]
            (refine wpAnyH_ready (rs := [2]) (by kernel_rfl) (by simp) ?_; refine AllReadyH.cons rfl (fun K hK => ?_) AllReadyH.nil; go_simp; (go_at_call 74; refine (in_any _ _ _ _).mono ?_; rw [h1]; rintro e w2 ⟨rfl, rfl⟩); refine hK.out _ _ ?_ (fun hHeld => ?_); (focus ((first | assumption | exact rk7_drew hkk | exact rk7_drew (by assumption) | exact rk7_keep (by omega) (by omega) (by omega) (by omega) (by omega) (by omega) (by omega) (by omega) (by assumption) (by assumption)))); clear hK K)
            refine step_read 3 50 rfl rfl (by kernel_rfl) (by kernel_rfl) (by kernel_rfl) (fun _ _ _ h => h) (by rfl) (v := ?_) (fun w hSw => ?_) (by assumption) ?_; rotate_left; (focus ((try dsimp only at hSw); go_simp; first | done | exact rfl)); simp only [List.set]
            refine step_read 4 51 rfl rfl (by kernel_rfl) (by kernel_rfl) (by kernel_rfl) (fun _ _ _ h => h) (by rfl) (v := ?_) (fun w hSw => ?_) (by assumption) ?_; rotate_left; (focus ((try dsimp only at hSw); go_simp; first | done | exact rfl)); simp only [List.set]
            refine step_read 5 52 rfl rfl (by kernel_rfl) (by kernel_rfl) (by kernel_rfl) (fun _ _ _ h => h) (by rfl) (v := ?_) (fun w hSw => ?_) (by assumption) ?_; rotate_left; (focus ((try dsimp only at hSw); go_simp; first | done | exact rfl)); simp only [List.set]
            refine step_read 6 53 rfl rfl (by kernel_rfl) (by kernel_rfl) (by kernel_rfl) (fun _ _ _ h => h) (by rfl) (v := ?_) (fun w hSw => ?_) (by assumption) ?_; rotate_left; (focus ((try dsimp only at hSw); go_simp; first | done | exact rfl)); simp only [List.set]
            refine step_read 7 54 rfl rfl (by kernel_rfl) (by kernel_rfl) (by kernel_rfl) (fun _ _ _ h => h) (by rfl) (v := ?_) (fun w hSw => ?_) (by assumption) ?_; rotate_left; (focus ((try dsimp only at hSw); go_simp; first | done | exact rfl)); simp only [List.set]
            refine step_read 8 55 rfl rfl (by kernel_rfl) (by kernel_rfl) (by kernel_rfl) (fun _ _ _ h => h) (by rfl) (v := ?_) (fun w hSw => ?_) (by assumption) ?_; rotate_left; (focus ((try dsimp only at hSw); go_simp; first | done | exact rfl)); simp only [List.set]
            refine step_read 9 56 rfl rfl (by kernel_rfl) (by kernel_rfl) (by kernel_rfl) (fun _ _ _ h => h) (by rfl) (v := ?_) (fun w hSw => ?_) (by assumption) ?_; rotate_left; (focus ((try dsimp only at hSw); go_simp; first | done | exact rfl)); simp only [List.set]
            refine step_read 10 57 rfl rfl (by kernel_rfl) (by kernel_rfl) (by kernel_rfl) (fun _ _ _ h => h) (by rfl) (v := ?_) (fun w hSw => ?_) (by assumption) ?_; rotate_left; (focus ((try dsimp only at hSw); go_simp; first | done | exact rfl)); simp only [List.set]
            refine step_read 11 58 rfl rfl (by kernel_rfl) (by kernel_rfl) (by kernel_rfl) (fun _ _ _ h => h) (by rfl) (v := ?_) (fun w hSw => ?_) (by assumption) ?_; rotate_left; (focus ((try dsimp only at hSw); go_simp; first | done | exact rfl)); simp only [List.set]
            refine step_read 12 59 rfl rfl (by kernel_rfl) (by kernel_rfl) (by kernel_rfl) (fun _ _ _ h => h) (by rfl) (v := ?_) (fun w hSw => ?_) (by assumption) ?_; rotate_left; (focus ((try dsimp only at hSw); go_simp; first | done | exact rfl)); simp only [List.set]
            refine step_read 13 60 rfl rfl (by kernel_rfl) (by kernel_rfl) (by kernel_rfl) (fun _ _ _ h => h) (by rfl) (v := ?_) (fun w hSw => ?_) (by assumption) ?_; rotate_left; (focus ((try dsimp only at hSw); go_simp; first | done | exact rfl)); simp only [List.set]
            (refine wpAnyH_ready (rs := [14]) (by kernel_rfl) (by simp) ?_; refine AllReadyH.cons rfl (fun K hK => ?_) AllReadyH.nil; go_simp; (go_at_call 74; refine (in_any _ _ _ _).mono ?_; rw [h5]; rintro e w2 ⟨rfl, rfl⟩); refine hK.out _ _ ?_ (fun hHeld => ?_); (focus ((first | assumption | exact rk7_drew hkk | exact rk7_drew (by assumption) | exact rk7_keep (by omega) (by omega) (by omega) (by omega) (by omega) (by omega) (by omega) (by omega) (by assumption) (by assumption)))); clear hK K)
            refine step_read 15 62 rfl rfl (by kernel_rfl) (by kernel_rfl) (by kernel_rfl) (fun _ _ _ h => h) (by rfl) (v := ?_) (fun w hSw => ?_) (by assumption) ?_; rotate_left; (focus ((try dsimp only at hSw); go_simp; first | done | exact rfl)); simp only [List.set]
            refine step_read 16 63 rfl rfl (by kernel_rfl) (by kernel_rfl) (by kernel_rfl) (fun _ _ _ h => h) (by rfl) (v := ?_) (fun w hSw => ?_) (by assumption) ?_; rotate_left; (focus ((try dsimp only at hSw); go_simp; first | done | exact rfl)); simp only [List.set]
            refine step_read 17 64 rfl rfl (by kernel_rfl) (by kernel_rfl) (by kernel_rfl) (fun _ _ _ h => h) (by rfl) (v := ?_) (fun w hSw => ?_) (by assumption) ?_; rotate_left; (focus ((try dsimp only at hSw); go_simp; first | done | exact rfl)); simp only [List.set]
            refine step_skip 18 65 rfl rfl (by kernel_rfl) (by kernel_rfl) (by kernel_rfl) (fun _ _ _ h => h) (by rfl) (by assumption) ?_; simp only [List.set]
            refine step_skip 19 66 rfl rfl (by kernel_rfl) (by kernel_rfl) (by kernel_rfl) (fun _ _ _ h => h) (by rfl) (by assumption) ?_; simp only [List.set]
            refine step_skip 20 67 rfl rfl (by kernel_rfl) (by kernel_rfl) (by kernel_rfl) (fun _ _ _ h => h) (by rfl) (by assumption) ?_; simp only [List.set]
            refine step_skip 21 68 rfl rfl (by kernel_rfl) (by kernel_rfl) (by kernel_rfl) (fun _ _ _ h => h) (by rfl) (by assumption) ?_; simp only [List.set]
            refine step_skip 22 69 rfl rfl (by kernel_rfl) (by kernel_rfl) (by kernel_rfl) (fun _ _ _ h => h) (by rfl) (by assumption) ?_; simp only [List.set]
            refine step_skip 23 70 rfl rfl (by kernel_rfl) (by kernel_rfl) (by kernel_rfl) (fun _ _ _ h => h) (by rfl) (by assumption) ?_; simp only [List.set]
            refine step_skip 24 71 rfl rfl (by kernel_rfl) (by kernel_rfl) (by kernel_rfl) (fun _ _ _ h => h) (by rfl) (by assumption) ?_; simp only [List.set]
            refine step_skip 25 72 rfl rfl (by kernel_rfl) (by kernel_rfl) (by kernel_rfl) (fun _ _ _ h => h) (by rfl) (by assumption) ?_; simp only [List.set]
            refine step_skip 26 73 rfl rfl (by kernel_rfl) (by kernel_rfl) (by kernel_rfl) (fun _ _ _ h => h) (by rfl) (by assumption) ?_; simp only [List.set]
            refine step_skip 27 74 rfl rfl (by kernel_rfl) (by kernel_rfl) (by kernel_rfl) (fun _ _ _ h => h) (by rfl) (by assumption) ?_; simp only [List.set]
            refine step_skip 28 75 rfl rfl (by kernel_rfl) (by kernel_rfl) (by kernel_rfl) (fun _ _ _ h => h) (by rfl) (by assumption) ?_; simp only [List.set]
            refine step_skip 29 76 rfl rfl (by kernel_rfl) (by kernel_rfl) (by kernel_rfl) (fun _ _ _ h => h) (by rfl) (by assumption) ?_; simp only [List.set]
            refine step_skip 30 77 rfl rfl (by kernel_rfl) (by kernel_rfl) (by kernel_rfl) (fun _ _ _ h => h) (by rfl) (by assumption) ?_; simp only [List.set]
            refine step_skip 31 78 rfl rfl (by kernel_rfl) (by kernel_rfl) (by kernel_rfl) (fun _ _ _ h => h) (by rfl) (by assumption) ?_; simp only [List.set]
            refine step_read 32 79 rfl rfl (by kernel_rfl) (by kernel_rfl) (by kernel_rfl) (fun _ _ _ h => h) (by rfl) (v := ?_) (fun w hSw => ?_) (by assumption) ?_; rotate_left; (focus ((try dsimp only at hSw); go_simp; first | done | exact rfl)); simp only [List.set]
            refine wpAnyH_done (by kernel_rfl) ?_ _
            go_wp2_with fail
            go_ret
            exact ⟨by rw [lok_no (.inl Hno.out)]; rfl, (rk7_out (by assumption)).2⟩
      · have h5 := inB_no h1
        have Hno : Hid (lksB o K = false) := Lib.hid (lksB_no (i := k) (by rw [HK.out]; exact hlt) (by rw [lchk_at HL.out]; unfold lkB; rw [h5]; simp))
        clear h1
        have hkk :  (wr.alloc (.cells #[.int .i64 a, .int .i64 c] 75)).cell? ⟨w.heap.size, 0, none⟩ = some (.int .i64 o) /\ (wr.alloc (.cells #[.int .i64 a, .int .i64 c] 75)).cell? ⟨w.heap.size, 1, none⟩ = some (.int .i64 s) /\ (wr.alloc (.cells #[.int .i64 a, .int .i64 c] 75)).cell? ⟨w.heap.size, 2, none⟩ = some (.int .i64 ag) /\ (wr.alloc (.cells #[.int .i64 a, .int .i64 c] 75)).cell? ⟨w.heap.size, 3, none⟩ = some (.slice (some ⟨q, 0, none⟩) n cp) /\ (wr.alloc (.cells #[.int .i64 a, .int .i64 c] 75)).cell? ⟨w.heap.size, 4, none⟩ = some (.slice ae m cq) /\ (wr.alloc (.cells #[.int .i64 a, .int .i64 c] 75)).cell? ⟨wr.heap.size, 0, none⟩ = some (.int .i64 a) /\ (wr.alloc (.cells #[.int .i64 a, .int .i64 c] 75)).cell? ⟨wr.heap.size, 1, none⟩ = some (.int .i64 c) /\ wr.heap.size < (wr.alloc (.cells #[.int .i64 a, .int .i64 c] 75)).heap.size /\ Below w.heap.size w (wr.alloc (.cells #[.int .i64 a, .int .i64 c] 75)) := ⟨by rw [old_box (by omega)]; exact k0, by rw [old_box (by omega)]; exact k1, by rw [old_box (by omega)]; exact k2, by rw [old_box (by omega)]; exact k3, by rw [old_box (by omega)]; exact k4, by simp, by simp, by simp, HB.out.alloc (by omega) _⟩
        go_wp2_with fail
        refine wp_region_held_drew (S := (fun w' => w'.cell? ⟨w.heap.size, 0, none⟩ = some (.int .i64 o) /\ w'.cell? ⟨w.heap.size, 1, none⟩ = some (.int .i64 s) /\ w'.cell? ⟨w.heap.size, 2, none⟩ = some (.int .i64 ag) /\ w'.cell? ⟨w.heap.size, 3, none⟩ = some (.slice (some ⟨q, 0, none⟩) n cp) /\ w'.cell? ⟨w.heap.size, 4, none⟩ = some (.slice ae m cq) /\ w'.cell? ⟨wr.heap.size, 0, none⟩ = some (.int .i64 a) /\ w'.cell? ⟨wr.heap.size, 1, none⟩ = some (.int .i64 c) /\ wr.heap.size < w'.heap.size /\ Below w.heap.size w w')) (by kernel_rfl) ?_ (fun hHeld => ?_)
        · (first | assumption | exact rk7_drew hkk | exact rk7_drew (by assumption) | exact rk7_keep (by omega) (by omega) (by omega) (by omega) (by omega) (by omega) (by omega) (by omega) (by assumption) (by assumption))
        refine step_read 0 47 rfl rfl (by kernel_rfl) (by kernel_rfl) (by kernel_rfl) (fun _ _ _ h => h) (by rfl) (v := ?_) (fun w hSw => ?_) (by assumption) ?_; rotate_left; (focus ((try dsimp only at hSw); go_simp; first | done | exact rfl)); simp only [List.set]
        refine step_read 1 48 rfl rfl (by kernel_rfl) (by kernel_rfl) (by kernel_rfl) (fun _ _ _ h => h) (by rfl) (v := ?_) (fun w hSw => ?_) (by assumption) ?_; rotate_left; (focus ((try dsimp only at hSw); go_simp; first | done | exact rfl)); simp only [List.set]
        (refine wpAnyH_ready (rs := [2]) (by kernel_rfl) (by simp) ?_; refine AllReadyH.cons rfl (fun K hK => ?_) AllReadyH.nil; go_simp; (go_at_call 74; refine (in_any _ _ _ _).mono ?_; rw [h5]; rintro e w2 ⟨rfl, rfl⟩); refine hK.out _ _ ?_ (fun hHeld => ?_); (focus ((first | assumption | exact rk7_drew hkk | exact rk7_drew (by assumption) | exact rk7_keep (by omega) (by omega) (by omega) (by omega) (by omega) (by omega) (by omega) (by omega) (by assumption) (by assumption)))); clear hK K)
        refine step_read 3 50 rfl rfl (by kernel_rfl) (by kernel_rfl) (by kernel_rfl) (fun _ _ _ h => h) (by rfl) (v := ?_) (fun w hSw => ?_) (by assumption) ?_; rotate_left; (focus ((try dsimp only at hSw); go_simp; first | done | exact rfl)); simp only [List.set]
        refine step_read 4 51 rfl rfl (by kernel_rfl) (by kernel_rfl) (by kernel_rfl) (fun _ _ _ h => h) (by rfl) (v := ?_) (fun w hSw => ?_) (by assumption) ?_; rotate_left; (focus ((try dsimp only at hSw); go_simp; first | done | exact rfl)); simp only [List.set]
        refine step_skip 5 52 rfl rfl (by kernel_rfl) (by kernel_rfl) (by kernel_rfl) (fun _ _ _ h => h) (by rfl) (by assumption) ?_; simp only [List.set]
        refine step_skip 6 53 rfl rfl (by kernel_rfl) (by kernel_rfl) (by kernel_rfl) (fun _ _ _ h => h) (by rfl) (by assumption) ?_; simp only [List.set]
        refine step_skip 7 54 rfl rfl (by kernel_rfl) (by kernel_rfl) (by kernel_rfl) (fun _ _ _ h => h) (by rfl) (by assumption) ?_; simp only [List.set]
        refine step_skip 8 55 rfl rfl (by kernel_rfl) (by kernel_rfl) (by kernel_rfl) (fun _ _ _ h => h) (by rfl) (by assumption) ?_; simp only [List.set]
        refine step_skip 9 56 rfl rfl (by kernel_rfl) (by kernel_rfl) (by kernel_rfl) (fun _ _ _ h => h) (by rfl) (by assumption) ?_; simp only [List.set]
        refine step_read 10 57 rfl rfl (by kernel_rfl) (by kernel_rfl) (by kernel_rfl) (fun _ _ _ h => h) (by rfl) (v := ?_) (fun w hSw => ?_) (by assumption) ?_; rotate_left; (focus ((try dsimp only at hSw); go_simp; first | done | exact rfl)); simp only [List.set]
        refine step_read 11 58 rfl rfl (by kernel_rfl) (by kernel_rfl) (by kernel_rfl) (fun _ _ _ h => h) (by rfl) (v := ?_) (fun w hSw => ?_) (by assumption) ?_; rotate_left; (focus ((try dsimp only at hSw); go_simp; first | done | exact rfl)); simp only [List.set]
        refine step_skip 12 59 rfl rfl (by kernel_rfl) (by kernel_rfl) (by kernel_rfl) (fun _ _ _ h => h) (by rfl) (by assumption) ?_; simp only [List.set]
        refine step_skip 13 60 rfl rfl (by kernel_rfl) (by kernel_rfl) (by kernel_rfl) (fun _ _ _ h => h) (by rfl) (by assumption) ?_; simp only [List.set]
        refine step_skip 14 61 rfl rfl (by kernel_rfl) (by kernel_rfl) (by kernel_rfl) (fun _ _ _ h => h) (by rfl) (by assumption) ?_; simp only [List.set]
        refine step_skip 15 62 rfl rfl (by kernel_rfl) (by kernel_rfl) (by kernel_rfl) (fun _ _ _ h => h) (by rfl) (by assumption) ?_; simp only [List.set]
        refine step_read 16 63 rfl rfl (by kernel_rfl) (by kernel_rfl) (by kernel_rfl) (fun _ _ _ h => h) (by rfl) (v := ?_) (fun w hSw => ?_) (by assumption) ?_; rotate_left; (focus ((try dsimp only at hSw); go_simp; first | done | exact rfl)); simp only [List.set]
        refine step_read 17 64 rfl rfl (by kernel_rfl) (by kernel_rfl) (by kernel_rfl) (fun _ _ _ h => h) (by rfl) (v := ?_) (fun w hSw => ?_) (by assumption) ?_; rotate_left; (focus ((try dsimp only at hSw); go_simp; first | done | exact rfl)); simp only [List.set]
        refine step_skip 18 65 rfl rfl (by kernel_rfl) (by kernel_rfl) (by kernel_rfl) (fun _ _ _ h => h) (by rfl) (by assumption) ?_; simp only [List.set]
        refine step_skip 19 66 rfl rfl (by kernel_rfl) (by kernel_rfl) (by kernel_rfl) (fun _ _ _ h => h) (by rfl) (by assumption) ?_; simp only [List.set]
        refine step_skip 20 67 rfl rfl (by kernel_rfl) (by kernel_rfl) (by kernel_rfl) (fun _ _ _ h => h) (by rfl) (by assumption) ?_; simp only [List.set]
        refine step_skip 21 68 rfl rfl (by kernel_rfl) (by kernel_rfl) (by kernel_rfl) (fun _ _ _ h => h) (by rfl) (by assumption) ?_; simp only [List.set]
        refine step_skip 22 69 rfl rfl (by kernel_rfl) (by kernel_rfl) (by kernel_rfl) (fun _ _ _ h => h) (by rfl) (by assumption) ?_; simp only [List.set]
        refine step_skip 23 70 rfl rfl (by kernel_rfl) (by kernel_rfl) (by kernel_rfl) (fun _ _ _ h => h) (by rfl) (by assumption) ?_; simp only [List.set]
        refine step_skip 24 71 rfl rfl (by kernel_rfl) (by kernel_rfl) (by kernel_rfl) (fun _ _ _ h => h) (by rfl) (by assumption) ?_; simp only [List.set]
        refine step_skip 25 72 rfl rfl (by kernel_rfl) (by kernel_rfl) (by kernel_rfl) (fun _ _ _ h => h) (by rfl) (by assumption) ?_; simp only [List.set]
        refine step_skip 26 73 rfl rfl (by kernel_rfl) (by kernel_rfl) (by kernel_rfl) (fun _ _ _ h => h) (by rfl) (by assumption) ?_; simp only [List.set]
        refine step_skip 27 74 rfl rfl (by kernel_rfl) (by kernel_rfl) (by kernel_rfl) (fun _ _ _ h => h) (by rfl) (by assumption) ?_; simp only [List.set]
        refine step_skip 28 75 rfl rfl (by kernel_rfl) (by kernel_rfl) (by kernel_rfl) (fun _ _ _ h => h) (by rfl) (by assumption) ?_; simp only [List.set]
        refine step_skip 29 76 rfl rfl (by kernel_rfl) (by kernel_rfl) (by kernel_rfl) (fun _ _ _ h => h) (by rfl) (by assumption) ?_; simp only [List.set]
        refine step_skip 30 77 rfl rfl (by kernel_rfl) (by kernel_rfl) (by kernel_rfl) (fun _ _ _ h => h) (by rfl) (by assumption) ?_; simp only [List.set]
        refine step_skip 31 78 rfl rfl (by kernel_rfl) (by kernel_rfl) (by kernel_rfl) (fun _ _ _ h => h) (by rfl) (by assumption) ?_; simp only [List.set]
        refine step_read 32 79 rfl rfl (by kernel_rfl) (by kernel_rfl) (by kernel_rfl) (fun _ _ _ h => h) (by rfl) (v := ?_) (fun w hSw => ?_) (by assumption) ?_; rotate_left; (focus ((try dsimp only at hSw); go_simp; first | done | exact rfl)); simp only [List.set]
        refine wpAnyH_done (by kernel_rfl) ?_ _
        go_wp2_with fail
        go_ret
        exact ⟨by rw [lok_no (.inl Hno.out)]; rfl, (rk7_out (by assumption)).2⟩
    · have hge : ¬ ((k : Int) < (n : Int)) := by omega
      obtain rfl : n = k := by omega
      have Hy : Hid (lksB o K = true) := Lib.hid (lksB_yes (fun i hi => HP.out i (by rw [HK.out] at hi; exact hi)))
      clear HP
      go_wp2
      go_loopw [5] (fun i wr => ∃ k : Nat, k <= m /\ i = .int .i64 (k : Int) /\ Hid (∀ j, j < k -> schk T j = true) /\ Hid (HdB w wr o s ag (.slice ad n cp) (.slice ae m cq))) (fun i _ => m - (intOf i).toNat)
      case atStart => exact ⟨0, Nat.zero_le _, rfl, Lib.hid (fun j hj => absurd hj (Nat.not_lt_zero _)), Lib.hid ⟨k0, k1, k2, k3, k4, hsz, HB⟩⟩
      case round =>
        clear k0 k1 k2 k3 k4 hsz HB
        obtain ⟨k, hk, rfl, HP, HD⟩ := hrel
        obtain ⟨k0, k1, k2, k3, k4, hsz, HB⟩ := HD.out
        clear HD
        by_cases hlt : k < m
        · obtain ⟨r, hr⟩ : ∃ r, T[k]? = some r := ⟨T[k]'(by rw [HT.out]; exact hlt), List.getElem?_eq_getElem _⟩
          obtain ⟨a, b, c⟩ := r
          obtain ⟨r0, r1, r2⟩ := flat_at T k _ hr
          obtain ⟨q, rfl, hq, H⟩ := HV.out (by omega)
          have HL : Hid (T[k]? = some (a, b, c)) := Lib.hid hr
          have hqs : q < w.heap.size := by omega
          have hqw : q < wr.heap.size := by omega
          have z0 : wr.cell? ⟨q, k * 3, none⟩ = some (.int .i64 a) := by rw [HB.out.cell (p := ⟨q, k * 3, none⟩) hqs]; exact H _ _ r0
          have z1 : wr.cell? ⟨q, k * 3 + 1, none⟩ = some (.int .i64 b) := by rw [HB.out.cell (p := ⟨q, k * 3 + 1, none⟩) hqs]; exact H _ _ r1
          have z2 : wr.cell? ⟨q, k * 3 + 2, none⟩ = some (.int .i64 c) := by rw [HB.out.cell (p := ⟨q, k * 3 + 2, none⟩) hqs]; exact H _ _ r2
          have HH := Lib.hid H
          have q0 : (0 : Int) <= (k : Int) := by omega
          have q1 : (k : Int) < (m : Int) := by omega
          clear r0 r1 r2 hr H
          by_cases h1 : pokB a b = true
          · by_cases h4 : inB c 1 1000 = true
            · have He : Hid (stB a b c = true) := by show stB a b c = true; unfold stB; rw [h1, h4]; rfl
              by_cases hk0 : k = 0
              · have Hc : Hid (schk T k = true) := by show schk T k = true; rw [schk_at HL.out, He.out, hk0]; rfl
                have d0 : decide (0 < k) = false := by rw [hk0]; decide
                have Hk0 := Lib.hid hk0
                clear hk0
                have hkk :  (wr.alloc (.cells #[.int .i64 a, .int .i64 b, .int .i64 c] 79)).cell? ⟨w.heap.size, 0, none⟩ = some (.int .i64 o) /\ (wr.alloc (.cells #[.int .i64 a, .int .i64 b, .int .i64 c] 79)).cell? ⟨w.heap.size, 1, none⟩ = some (.int .i64 s) /\ (wr.alloc (.cells #[.int .i64 a, .int .i64 b, .int .i64 c] 79)).cell? ⟨w.heap.size, 2, none⟩ = some (.int .i64 ag) /\ (wr.alloc (.cells #[.int .i64 a, .int .i64 b, .int .i64 c] 79)).cell? ⟨w.heap.size, 3, none⟩ = some (.slice ad n cp) /\ (wr.alloc (.cells #[.int .i64 a, .int .i64 b, .int .i64 c] 79)).cell? ⟨w.heap.size, 4, none⟩ = some (.slice (some ⟨q, 0, none⟩) m cq) /\ (wr.alloc (.cells #[.int .i64 a, .int .i64 b, .int .i64 c] 79)).cell? ⟨wr.heap.size, 0, none⟩ = some (.int .i64 a) /\ (wr.alloc (.cells #[.int .i64 a, .int .i64 b, .int .i64 c] 79)).cell? ⟨wr.heap.size, 1, none⟩ = some (.int .i64 b) /\ (wr.alloc (.cells #[.int .i64 a, .int .i64 b, .int .i64 c] 79)).cell? ⟨wr.heap.size, 2, none⟩ = some (.int .i64 c) /\ wr.heap.size < (wr.alloc (.cells #[.int .i64 a, .int .i64 b, .int .i64 c] 79)).heap.size /\ Below w.heap.size w (wr.alloc (.cells #[.int .i64 a, .int .i64 b, .int .i64 c] 79)) := ⟨by rw [old_box (by omega)]; exact k0, by rw [old_box (by omega)]; exact k1, by rw [old_box (by omega)]; exact k2, by rw [old_box (by omega)]; exact k3, by rw [old_box (by omega)]; exact k4, by simp, by simp, by simp, by simp, HB.out.alloc (by omega) _⟩
                go_wp2_with fail
                refine wp_region_held_drew (S := (fun w' => w'.cell? ⟨w.heap.size, 0, none⟩ = some (.int .i64 o) /\ w'.cell? ⟨w.heap.size, 1, none⟩ = some (.int .i64 s) /\ w'.cell? ⟨w.heap.size, 2, none⟩ = some (.int .i64 ag) /\ w'.cell? ⟨w.heap.size, 3, none⟩ = some (.slice ad n cp) /\ w'.cell? ⟨w.heap.size, 4, none⟩ = some (.slice (some ⟨q, 0, none⟩) m cq) /\ w'.cell? ⟨wr.heap.size, 0, none⟩ = some (.int .i64 a) /\ w'.cell? ⟨wr.heap.size, 1, none⟩ = some (.int .i64 b) /\ w'.cell? ⟨wr.heap.size, 2, none⟩ = some (.int .i64 c) /\ wr.heap.size < w'.heap.size /\ Below w.heap.size w w')) (by kernel_rfl) ?_ (fun hHeld => ?_)
                · (first | assumption | exact rk8_drew hkk | exact rk8_drew (by assumption) | exact rk8_keep (by omega) (by omega) (by omega) (by omega) (by omega) (by omega) (by omega) (by omega) (by omega) (by assumption) (by assumption))
                refine step_read 0 92 rfl rfl (by kernel_rfl) (by kernel_rfl) (by kernel_rfl) (fun _ _ _ h => h) (by rfl) (v := ?_) (fun w hSw => ?_) (by assumption) ?_; rotate_left; (focus ((try dsimp only at hSw); go_simp; first | done | exact rfl)); simp only [List.set]
                refine step_read 1 93 rfl rfl (by kernel_rfl) (by kernel_rfl) (by kernel_rfl) (fun _ _ _ h => h) (by rfl) (v := ?_) (fun w hSw => ?_) (by assumption) ?_; rotate_left; (focus ((try dsimp only at hSw); go_simp; first | done | exact rfl)); simp only [List.set]
                (refine wpAnyH_ready (rs := [2]) (by kernel_rfl) (by simp) ?_; refine AllReadyH.cons rfl (fun K hK => ?_) AllReadyH.nil; go_simp; (go_at_call 89; refine (spok_any a b _).mono ?_; rw [h1]; rintro e w2 ⟨rfl, hb⟩); refine hK.out _ _ ?_ (fun hHeld => ?_); (focus ((first | assumption | exact rk8_drew hkk | exact rk8_drew (by assumption) | exact rk8_keep (by omega) (by omega) (by omega) (by omega) (by omega) (by omega) (by omega) (by omega) (by omega) (by assumption) (by assumption)))); clear hK K)
                refine step_read 3 95 rfl rfl (by kernel_rfl) (by kernel_rfl) (by kernel_rfl) (fun _ _ _ h => h) (by rfl) (v := ?_) (fun w hSw => ?_) (by assumption) ?_; rotate_left; (focus ((try dsimp only at hSw); go_simp; first | done | exact rfl)); simp only [List.set]
                refine step_read 4 96 rfl rfl (by kernel_rfl) (by kernel_rfl) (by kernel_rfl) (fun _ _ _ h => h) (by rfl) (v := ?_) (fun w hSw => ?_) (by assumption) ?_; rotate_left; (focus ((try dsimp only at hSw); go_simp; first | done | exact rfl)); simp only [List.set]
                refine step_read 5 97 rfl rfl (by kernel_rfl) (by kernel_rfl) (by kernel_rfl) (fun _ _ _ h => h) (by rfl) (v := ?_) (fun w hSw => ?_) (by assumption) ?_; rotate_left; (focus ((try dsimp only at hSw); go_simp; first | done | exact rfl)); simp only [List.set]
                refine step_read 6 98 rfl rfl (by kernel_rfl) (by kernel_rfl) (by kernel_rfl) (fun _ _ _ h => h) (by rfl) (v := ?_) (fun w hSw => ?_) (by assumption) ?_; rotate_left; (focus ((try dsimp only at hSw); go_simp; first | done | exact rfl)); simp only [List.set]
                (refine wpAnyH_ready (rs := [7]) (by kernel_rfl) (by simp) ?_; refine AllReadyH.cons rfl (fun K hK => ?_) AllReadyH.nil; go_simp; (go_at_call 74; refine (in_any _ _ _ _).mono ?_; rw [h4]; rintro e w2 ⟨rfl, rfl⟩); refine hK.out _ _ ?_ (fun hHeld => ?_); (focus ((first | assumption | exact rk8_drew hkk | exact rk8_drew (by assumption) | exact rk8_keep (by omega) (by omega) (by omega) (by omega) (by omega) (by omega) (by omega) (by omega) (by omega) (by assumption) (by assumption)))); clear hK K)
                refine step_read 8 100 rfl rfl (by kernel_rfl) (by kernel_rfl) (by kernel_rfl) (fun _ _ _ h => h) (by rfl) (v := ?_) (fun w hSw => ?_) (by assumption) ?_; rotate_left; (focus ((try dsimp only at hSw); go_simp; first | done | exact rfl)); simp only [List.set]
                refine step_read 9 101 rfl rfl (by kernel_rfl) (by kernel_rfl) (by kernel_rfl) (fun _ _ _ h => h) (by rfl) (v := ?_) (fun w hSw => ?_) (by assumption) ?_; rotate_left; (focus ((try dsimp only at hSw); go_simp; first | done | exact rfl)); simp only [List.set]
                refine step_read 10 102 rfl rfl (by kernel_rfl) (by kernel_rfl) (by kernel_rfl) (fun _ _ _ h => h) (by rfl) (v := ?_) (fun w hSw => ?_) (by assumption) ?_; rotate_left; (focus ((try dsimp only at hSw); go_simp; first | done | exact rfl)); simp only [List.set]
                refine step_read 11 103 rfl rfl (by kernel_rfl) (by kernel_rfl) (by kernel_rfl) (fun _ _ _ h => h) (by rfl) (v := ?_) (fun w hSw => ?_) (by assumption) ?_; rotate_left; (focus ((try dsimp only at hSw); go_simp; first | done | exact rfl)); simp only [List.set]
                refine step_read 12 104 rfl rfl (by kernel_rfl) (by kernel_rfl) (by kernel_rfl) (fun _ _ _ h => h) (by rfl) (v := ?_) (fun w hSw => ?_) (by assumption) ?_; rotate_left; (focus ((try dsimp only at hSw); go_simp; first | done | exact rfl)); simp only [List.set]
                refine step_read 13 105 rfl rfl (by kernel_rfl) (by kernel_rfl) (by kernel_rfl) (fun _ _ _ h => h) (by rfl) (v := ?_) (fun w hSw => ?_) (by assumption) ?_; rotate_left; (focus ((try dsimp only at hSw); go_simp; first | done | exact rfl)); simp only [List.set]
                refine step_skip 14 106 rfl rfl (by kernel_rfl) (by kernel_rfl) (by kernel_rfl) (fun _ _ _ h => h) (by rfl) (by assumption) ?_; simp only [List.set]
                refine step_skip 15 107 rfl rfl (by kernel_rfl) (by kernel_rfl) (by kernel_rfl) (fun _ _ _ h => h) (by rfl) (by assumption) ?_; simp only [List.set]
                refine step_skip 16 108 rfl rfl (by kernel_rfl) (by kernel_rfl) (by kernel_rfl) (fun _ _ _ h => h) (by rfl) (by assumption) ?_; simp only [List.set]
                refine step_skip 17 109 rfl rfl (by kernel_rfl) (by kernel_rfl) (by kernel_rfl) (fun _ _ _ h => h) (by rfl) (by assumption) ?_; simp only [List.set]
                refine step_skip 18 110 rfl rfl (by kernel_rfl) (by kernel_rfl) (by kernel_rfl) (fun _ _ _ h => h) (by rfl) (by assumption) ?_; simp only [List.set]
                refine step_skip 19 111 rfl rfl (by kernel_rfl) (by kernel_rfl) (by kernel_rfl) (fun _ _ _ h => h) (by rfl) (by assumption) ?_; simp only [List.set]
                refine step_skip 20 112 rfl rfl (by kernel_rfl) (by kernel_rfl) (by kernel_rfl) (fun _ _ _ h => h) (by rfl) (by assumption) ?_; simp only [List.set]
                refine step_skip 21 113 rfl rfl (by kernel_rfl) (by kernel_rfl) (by kernel_rfl) (fun _ _ _ h => h) (by rfl) (by assumption) ?_; simp only [List.set]
                refine step_skip 22 114 rfl rfl (by kernel_rfl) (by kernel_rfl) (by kernel_rfl) (fun _ _ _ h => h) (by rfl) (by assumption) ?_; simp only [List.set]
                refine step_skip 23 115 rfl rfl (by kernel_rfl) (by kernel_rfl) (by kernel_rfl) (fun _ _ _ h => h) (by rfl) (by assumption) ?_; simp only [List.set]
                refine step_skip 24 116 rfl rfl (by kernel_rfl) (by kernel_rfl) (by kernel_rfl) (fun _ _ _ h => h) (by rfl) (by assumption) ?_; simp only [List.set]
                refine step_read 25 117 rfl rfl (by kernel_rfl) (by kernel_rfl) (by kernel_rfl) (fun _ _ _ h => h) (by rfl) (v := ?_) (fun w hSw => ?_) (by assumption) ?_; rotate_left; (focus ((try dsimp only at hSw); go_simp; first | done | exact rfl)); simp only [List.set]
                refine step_read 26 118 rfl rfl (by kernel_rfl) (by kernel_rfl) (by kernel_rfl) (fun _ _ _ h => h) (by rfl) (v := ?_) (fun w hSw => ?_) (by assumption) ?_; rotate_left; (focus ((try dsimp only at hSw); go_simp; first | done | exact rfl)); simp only [List.set]
                refine wpAnyH_done (by kernel_rfl) ?_ _
                go_wp2_with fail
                have hE := HdB.of (by assumption) (rk8_out (by assumption)) (Nat.le_of_lt hsz)
                go_roundw
                case rel => exact ⟨k + 1, by omega, by go_num, Lib.hid (all_next HP.out Hc.out), Lib.hid hE⟩
                case measure => simp [intOf]; omega
              · obtain ⟨p, hp⟩ : ∃ p, k = p + 1 := ⟨k - 1, by omega⟩
                obtain ⟨r', hr'⟩ : ∃ r, T[p]? = some r := ⟨T[p]'(by rw [HT.out]; omega), List.getElem?_eq_getElem _⟩
                obtain ⟨a0, b0, d0⟩ := r'
                obtain ⟨r0, r1, r2⟩ := flat_at T p _ hr'
                have HL' : Hid (T[p]? = some (a0, b0, d0)) := Lib.hid hr'
                have y0 : wr.cell? ⟨q, p * 3, none⟩ = some (.int .i64 a0) := by rw [HB.out.cell (p := ⟨q, p * 3, none⟩) hqs]; exact HH.out _ _ r0
                have y1 : wr.cell? ⟨q, p * 3 + 1, none⟩ = some (.int .i64 b0) := by rw [HB.out.cell (p := ⟨q, p * 3 + 1, none⟩) hqs]; exact HH.out _ _ r1
                have y2 : wr.cell? ⟨q, p * 3 + 2, none⟩ = some (.int .i64 d0) := by rw [HB.out.cell (p := ⟨q, p * 3 + 2, none⟩) hqs]; exact HH.out _ _ r2
                clear r0 r1 r2 hr'
                have dk : decide (0 < k) = true := decide_eq_true (by omega)
                have dk1 : 0 < k := by omega
                have e1 : IntKind.i64.wrap ((k : Int) - 1) = (p : Int) := by rw [IntWalk.i64_in _ (by omega)]; omega
                have q2 : (0 : Int) <= (p : Int) := by omega
                have q3 : (p : Int) < (m : Int) := by omega
                have Hp := Lib.hid hp
                clear hp hk0
                have Hch : Hid (schk T k = eahB a0 b0 a b) := by show schk T k = _; rw [Hp.out, schk_prev (by rw [<- Hp.out]; exact HL.out) HL'.out, He.out]; rfl
                have hah := cmpP_ah a0 b0 a b
                by_cases ha : eahB a0 b0 a b = true
                · have Hc : Hid (schk T k = true) := by show schk T k = true; rw [Hch.out, ha]
                  rw [ha] at hah
                  simp only [Bool.not_true] at hah
                  have hkk :  (wr.alloc (.cells #[.int .i64 a, .int .i64 b, .int .i64 c] 79)).cell? ⟨w.heap.size, 0, none⟩ = some (.int .i64 o) /\ (wr.alloc (.cells #[.int .i64 a, .int .i64 b, .int .i64 c] 79)).cell? ⟨w.heap.size, 1, none⟩ = some (.int .i64 s) /\ (wr.alloc (.cells #[.int .i64 a, .int .i64 b, .int .i64 c] 79)).cell? ⟨w.heap.size, 2, none⟩ = some (.int .i64 ag) /\ (wr.alloc (.cells #[.int .i64 a, .int .i64 b, .int .i64 c] 79)).cell? ⟨w.heap.size, 3, none⟩ = some (.slice ad n cp) /\ (wr.alloc (.cells #[.int .i64 a, .int .i64 b, .int .i64 c] 79)).cell? ⟨w.heap.size, 4, none⟩ = some (.slice (some ⟨q, 0, none⟩) m cq) /\ (wr.alloc (.cells #[.int .i64 a, .int .i64 b, .int .i64 c] 79)).cell? ⟨wr.heap.size, 0, none⟩ = some (.int .i64 a) /\ (wr.alloc (.cells #[.int .i64 a, .int .i64 b, .int .i64 c] 79)).cell? ⟨wr.heap.size, 1, none⟩ = some (.int .i64 b) /\ (wr.alloc (.cells #[.int .i64 a, .int .i64 b, .int .i64 c] 79)).cell? ⟨wr.heap.size, 2, none⟩ = some (.int .i64 c) /\ (wr.alloc (.cells #[.int .i64 a, .int .i64 b, .int .i64 c] 79)).cell? ⟨q, p * 3, none⟩ = some (.int .i64 a0) /\ (wr.alloc (.cells #[.int .i64 a, .int .i64 b, .int .i64 c] 79)).cell? ⟨q, p * 3 + 1, none⟩ = some (.int .i64 b0) /\ (wr.alloc (.cells #[.int .i64 a, .int .i64 b, .int .i64 c] 79)).cell? ⟨q, p * 3 + 2, none⟩ = some (.int .i64 d0) /\ wr.heap.size < (wr.alloc (.cells #[.int .i64 a, .int .i64 b, .int .i64 c] 79)).heap.size /\ Below w.heap.size w (wr.alloc (.cells #[.int .i64 a, .int .i64 b, .int .i64 c] 79)) := ⟨by rw [old_box (by omega)]; exact k0, by rw [old_box (by omega)]; exact k1, by rw [old_box (by omega)]; exact k2, by rw [old_box (by omega)]; exact k3, by rw [old_box (by omega)]; exact k4, by simp, by simp, by simp, by rw [old_box (by omega)]; exact y0, by rw [old_box (by omega)]; exact y1, by rw [old_box (by omega)]; exact y2, by simp, HB.out.alloc (by omega) _⟩
                  go_wp2_with fail
                  refine wp_region_held_drew (S := (fun w' => w'.cell? ⟨w.heap.size, 0, none⟩ = some (.int .i64 o) /\ w'.cell? ⟨w.heap.size, 1, none⟩ = some (.int .i64 s) /\ w'.cell? ⟨w.heap.size, 2, none⟩ = some (.int .i64 ag) /\ w'.cell? ⟨w.heap.size, 3, none⟩ = some (.slice ad n cp) /\ w'.cell? ⟨w.heap.size, 4, none⟩ = some (.slice (some ⟨q, 0, none⟩) m cq) /\ w'.cell? ⟨wr.heap.size, 0, none⟩ = some (.int .i64 a) /\ w'.cell? ⟨wr.heap.size, 1, none⟩ = some (.int .i64 b) /\ w'.cell? ⟨wr.heap.size, 2, none⟩ = some (.int .i64 c) /\ w'.cell? ⟨q, p * 3, none⟩ = some (.int .i64 a0) /\ w'.cell? ⟨q, p * 3 + 1, none⟩ = some (.int .i64 b0) /\ w'.cell? ⟨q, p * 3 + 2, none⟩ = some (.int .i64 d0) /\ wr.heap.size < w'.heap.size /\ Below w.heap.size w w')) (by kernel_rfl) ?_ (fun hHeld => ?_)
                  · (first | assumption | exact rk11_drew hkk | exact rk11_drew (by assumption) | exact rk11_keep (by omega) (by omega) (by omega) (by omega) (by omega) (by omega) (by omega) (by omega) (by omega) (by omega) (by omega) (by omega) (by assumption) (by assumption))
                  refine step_read 0 92 rfl rfl (by kernel_rfl) (by kernel_rfl) (by kernel_rfl) (fun _ _ _ h => h) (by rfl) (v := ?_) (fun w hSw => ?_) (by assumption) ?_; rotate_left; (focus ((try dsimp only at hSw); go_simp; first | done | exact rfl)); simp only [List.set]
                  refine step_read 1 93 rfl rfl (by kernel_rfl) (by kernel_rfl) (by kernel_rfl) (fun _ _ _ h => h) (by rfl) (v := ?_) (fun w hSw => ?_) (by assumption) ?_; rotate_left; (focus ((try dsimp only at hSw); go_simp; first | done | exact rfl)); simp only [List.set]
                  (refine wpAnyH_ready (rs := [2]) (by kernel_rfl) (by simp) ?_; refine AllReadyH.cons rfl (fun K hK => ?_) AllReadyH.nil; go_simp; (go_at_call 89; refine (spok_any a b _).mono ?_; rw [h1]; rintro e w2 ⟨rfl, hb⟩); refine hK.out _ _ ?_ (fun hHeld => ?_); (focus ((first | assumption | exact rk11_drew hkk | exact rk11_drew (by assumption) | exact rk11_keep (by omega) (by omega) (by omega) (by omega) (by omega) (by omega) (by omega) (by omega) (by omega) (by omega) (by omega) (by omega) (by assumption) (by assumption)))); clear hK K)
                  refine step_read 3 95 rfl rfl (by kernel_rfl) (by kernel_rfl) (by kernel_rfl) (fun _ _ _ h => h) (by rfl) (v := ?_) (fun w hSw => ?_) (by assumption) ?_; rotate_left; (focus ((try dsimp only at hSw); go_simp; first | done | exact rfl)); simp only [List.set]
                  refine step_read 4 96 rfl rfl (by kernel_rfl) (by kernel_rfl) (by kernel_rfl) (fun _ _ _ h => h) (by rfl) (v := ?_) (fun w hSw => ?_) (by assumption) ?_; rotate_left; (focus ((try dsimp only at hSw); go_simp; first | done | exact rfl)); simp only [List.set]
                  refine step_read 5 97 rfl rfl (by kernel_rfl) (by kernel_rfl) (by kernel_rfl) (fun _ _ _ h => h) (by rfl) (v := ?_) (fun w hSw => ?_) (by assumption) ?_; rotate_left; (focus ((try dsimp only at hSw); go_simp; first | done | exact rfl)); simp only [List.set]
                  refine step_read 6 98 rfl rfl (by kernel_rfl) (by kernel_rfl) (by kernel_rfl) (fun _ _ _ h => h) (by rfl) (v := ?_) (fun w hSw => ?_) (by assumption) ?_; rotate_left; (focus ((try dsimp only at hSw); go_simp; first | done | exact rfl)); simp only [List.set]
                  (refine wpAnyH_ready (rs := [7]) (by kernel_rfl) (by simp) ?_; refine AllReadyH.cons rfl (fun K hK => ?_) AllReadyH.nil; go_simp; (go_at_call 74; refine (in_any _ _ _ _).mono ?_; rw [h4]; rintro e w2 ⟨rfl, rfl⟩); refine hK.out _ _ ?_ (fun hHeld => ?_); (focus ((first | assumption | exact rk11_drew hkk | exact rk11_drew (by assumption) | exact rk11_keep (by omega) (by omega) (by omega) (by omega) (by omega) (by omega) (by omega) (by omega) (by omega) (by omega) (by omega) (by omega) (by assumption) (by assumption)))); clear hK K)
                  refine step_read 8 100 rfl rfl (by kernel_rfl) (by kernel_rfl) (by kernel_rfl) (fun _ _ _ h => h) (by rfl) (v := ?_) (fun w hSw => ?_) (by assumption) ?_; rotate_left; (focus ((try dsimp only at hSw); go_simp; first | done | exact rfl)); simp only [List.set]
                  refine step_read 9 101 rfl rfl (by kernel_rfl) (by kernel_rfl) (by kernel_rfl) (fun _ _ _ h => h) (by rfl) (v := ?_) (fun w hSw => ?_) (by assumption) ?_; rotate_left; (focus ((try dsimp only at hSw); go_simp; first | done | exact rfl)); simp only [List.set]
                  refine step_read 10 102 rfl rfl (by kernel_rfl) (by kernel_rfl) (by kernel_rfl) (fun _ _ _ h => h) (by rfl) (v := ?_) (fun w hSw => ?_) (by assumption) ?_; rotate_left; (focus ((try dsimp only at hSw); go_simp; first | done | exact rfl)); simp only [List.set]
                  refine step_read 11 103 rfl rfl (by kernel_rfl) (by kernel_rfl) (by kernel_rfl) (fun _ _ _ h => h) (by rfl) (v := ?_) (fun w hSw => ?_) (by assumption) ?_; rotate_left; (focus ((try dsimp only at hSw); go_simp; first | done | exact rfl)); simp only [List.set]
                  refine step_read 12 104 rfl rfl (by kernel_rfl) (by kernel_rfl) (by kernel_rfl) (fun _ _ _ h => h) (by rfl) (v := ?_) (fun w hSw => ?_) (by assumption) ?_; rotate_left; (focus ((try dsimp only at hSw); go_simp; first | done | exact rfl)); simp only [List.set]
                  refine step_read 13 105 rfl rfl (by kernel_rfl) (by kernel_rfl) (by kernel_rfl) (fun _ _ _ h => h) (by rfl) (v := ?_) (fun w hSw => ?_) (by assumption) ?_; rotate_left; (focus ((try dsimp only at hSw); go_simp; first | done | exact rfl)); simp only [List.set]
                  refine step_read 14 106 rfl rfl (by kernel_rfl) (by kernel_rfl) (by kernel_rfl) (fun _ _ _ h => h) (by rfl) (v := ?_) (fun w hSw => ?_) (by assumption) ?_; rotate_left; (focus ((try dsimp only at hSw); go_simp; first | done | exact rfl)); simp only [List.set]
                  refine step_read 15 107 rfl rfl (by kernel_rfl) (by kernel_rfl) (by kernel_rfl) (fun _ _ _ h => h) (by rfl) (v := ?_) (fun w hSw => ?_) (by assumption) ?_; rotate_left; (focus ((try dsimp only at hSw); go_simp; first | done | exact rfl)); simp only [List.set]
                  refine step_read 16 108 rfl rfl (by kernel_rfl) (by kernel_rfl) (by kernel_rfl) (fun _ _ _ h => h) (by rfl) (v := ?_) (fun w hSw => ?_) (by assumption) ?_; rotate_left; (focus ((try dsimp only at hSw); go_simp; first | done | exact rfl)); simp only [List.set]
                  refine step_read 17 109 rfl rfl (by kernel_rfl) (by kernel_rfl) (by kernel_rfl) (fun _ _ _ h => h) (by rfl) (v := ?_) (fun w hSw => ?_) (by assumption) ?_; rotate_left; (focus ((try dsimp only at hSw); go_simp; first | done | exact rfl)); simp only [List.set]
                  refine step_read 18 110 rfl rfl (by kernel_rfl) (by kernel_rfl) (by kernel_rfl) (fun _ _ _ h => h) (by rfl) (v := ?_) (fun w hSw => ?_) (by assumption) ?_; rotate_left; (focus ((try dsimp only at hSw); go_simp; first | done | exact rfl)); simp only [List.set]
                  refine step_read 19 111 rfl rfl (by kernel_rfl) (by kernel_rfl) (by kernel_rfl) (fun _ _ _ h => h) (by rfl) (v := ?_) (fun w hSw => ?_) (by assumption) ?_; rotate_left; (focus ((try dsimp only at hSw); go_simp; first | done | exact rfl)); simp only [List.set]
                  refine step_read 20 112 rfl rfl (by kernel_rfl) (by kernel_rfl) (by kernel_rfl) (fun _ _ _ h => h) (by rfl) (v := ?_) (fun w hSw => ?_) (by assumption) ?_; rotate_left; (focus ((try dsimp only at hSw); go_simp; first | done | exact rfl)); simp only [List.set]
                  refine step_read 21 113 rfl rfl (by kernel_rfl) (by kernel_rfl) (by kernel_rfl) (fun _ _ _ h => h) (by rfl) (v := ?_) (fun w hSw => ?_) (by assumption) ?_; rotate_left; (focus ((try dsimp only at hSw); go_simp; first | done | exact rfl)); simp only [List.set]
                  refine step_read 22 114 rfl rfl (by kernel_rfl) (by kernel_rfl) (by kernel_rfl) (fun _ _ _ h => h) (by rfl) (v := ?_) (fun w hSw => ?_) (by assumption) ?_; rotate_left; (focus ((try dsimp only at hSw); go_simp; first | done | exact rfl)); simp only [List.set]
                  (refine wpAnyH_ready (rs := [23]) (by kernel_rfl) (by simp) ?_; refine AllReadyH.cons rfl (fun K hK => ?_) AllReadyH.nil; go_simp; (go_at_call 90; refine (ahead_any a0 b0 a b _).mono ?_; rw [ha]; rintro e w2 ⟨rfl, hb⟩); refine hK.out _ _ ?_ (fun hHeld => ?_); (focus ((first | assumption | exact rk11_drew hkk | exact rk11_drew (by assumption) | exact rk11_keep (by omega) (by omega) (by omega) (by omega) (by omega) (by omega) (by omega) (by omega) (by omega) (by omega) (by omega) (by omega) (by assumption) (by assumption)))); clear hK K)
                  refine step_read 24 116 rfl rfl (by kernel_rfl) (by kernel_rfl) (by kernel_rfl) (fun _ _ _ h => h) (by rfl) (v := ?_) (fun w hSw => ?_) (by assumption) ?_; rotate_left; (focus ((try dsimp only at hSw); go_simp; first | done | exact rfl)); simp only [List.set]
                  refine step_read 25 117 rfl rfl (by kernel_rfl) (by kernel_rfl) (by kernel_rfl) (fun _ _ _ h => h) (by rfl) (v := ?_) (fun w hSw => ?_) (by assumption) ?_; rotate_left; (focus ((try dsimp only at hSw); go_simp; first | done | exact rfl)); simp only [List.set]
                  refine step_read 26 118 rfl rfl (by kernel_rfl) (by kernel_rfl) (by kernel_rfl) (fun _ _ _ h => h) (by rfl) (v := ?_) (fun w hSw => ?_) (by assumption) ?_; rotate_left; (focus ((try dsimp only at hSw); go_simp; first | done | exact rfl)); simp only [List.set]
                  refine wpAnyH_done (by kernel_rfl) ?_ _
                  go_wp2_with fail
                  have hE := HdB.of (by assumption) (rk11_out (by assumption)) (Nat.le_of_lt hsz)
                  go_roundw
                  case rel => exact ⟨k + 1, by omega, by go_num, Lib.hid (all_next HP.out Hc.out), Lib.hid hE⟩
                  case measure => simp [intOf]; omega
                · rw [Bool.not_eq_true] at ha
                  have Hno : Hid (stsB T = false) := Lib.hid (stsB_no (i := k) (by rw [HT.out]; exact hlt) (by rw [Hch.out, ha]))
                  rw [ha] at hah
                  simp only [Bool.not_false] at hah
                  have hkk :  (wr.alloc (.cells #[.int .i64 a, .int .i64 b, .int .i64 c] 79)).cell? ⟨w.heap.size, 0, none⟩ = some (.int .i64 o) /\ (wr.alloc (.cells #[.int .i64 a, .int .i64 b, .int .i64 c] 79)).cell? ⟨w.heap.size, 1, none⟩ = some (.int .i64 s) /\ (wr.alloc (.cells #[.int .i64 a, .int .i64 b, .int .i64 c] 79)).cell? ⟨w.heap.size, 2, none⟩ = some (.int .i64 ag) /\ (wr.alloc (.cells #[.int .i64 a, .int .i64 b, .int .i64 c] 79)).cell? ⟨w.heap.size, 3, none⟩ = some (.slice ad n cp) /\ (wr.alloc (.cells #[.int .i64 a, .int .i64 b, .int .i64 c] 79)).cell? ⟨w.heap.size, 4, none⟩ = some (.slice (some ⟨q, 0, none⟩) m cq) /\ (wr.alloc (.cells #[.int .i64 a, .int .i64 b, .int .i64 c] 79)).cell? ⟨wr.heap.size, 0, none⟩ = some (.int .i64 a) /\ (wr.alloc (.cells #[.int .i64 a, .int .i64 b, .int .i64 c] 79)).cell? ⟨wr.heap.size, 1, none⟩ = some (.int .i64 b) /\ (wr.alloc (.cells #[.int .i64 a, .int .i64 b, .int .i64 c] 79)).cell? ⟨wr.heap.size, 2, none⟩ = some (.int .i64 c) /\ (wr.alloc (.cells #[.int .i64 a, .int .i64 b, .int .i64 c] 79)).cell? ⟨q, p * 3, none⟩ = some (.int .i64 a0) /\ (wr.alloc (.cells #[.int .i64 a, .int .i64 b, .int .i64 c] 79)).cell? ⟨q, p * 3 + 1, none⟩ = some (.int .i64 b0) /\ (wr.alloc (.cells #[.int .i64 a, .int .i64 b, .int .i64 c] 79)).cell? ⟨q, p * 3 + 2, none⟩ = some (.int .i64 d0) /\ wr.heap.size < (wr.alloc (.cells #[.int .i64 a, .int .i64 b, .int .i64 c] 79)).heap.size /\ Below w.heap.size w (wr.alloc (.cells #[.int .i64 a, .int .i64 b, .int .i64 c] 79)) := ⟨by rw [old_box (by omega)]; exact k0, by rw [old_box (by omega)]; exact k1, by rw [old_box (by omega)]; exact k2, by rw [old_box (by omega)]; exact k3, by rw [old_box (by omega)]; exact k4, by simp, by simp, by simp, by rw [old_box (by omega)]; exact y0, by rw [old_box (by omega)]; exact y1, by rw [old_box (by omega)]; exact y2, by simp, HB.out.alloc (by omega) _⟩
                  go_wp2_with fail
                  refine wp_region_held_drew (S := (fun w' => w'.cell? ⟨w.heap.size, 0, none⟩ = some (.int .i64 o) /\ w'.cell? ⟨w.heap.size, 1, none⟩ = some (.int .i64 s) /\ w'.cell? ⟨w.heap.size, 2, none⟩ = some (.int .i64 ag) /\ w'.cell? ⟨w.heap.size, 3, none⟩ = some (.slice ad n cp) /\ w'.cell? ⟨w.heap.size, 4, none⟩ = some (.slice (some ⟨q, 0, none⟩) m cq) /\ w'.cell? ⟨wr.heap.size, 0, none⟩ = some (.int .i64 a) /\ w'.cell? ⟨wr.heap.size, 1, none⟩ = some (.int .i64 b) /\ w'.cell? ⟨wr.heap.size, 2, none⟩ = some (.int .i64 c) /\ w'.cell? ⟨q, p * 3, none⟩ = some (.int .i64 a0) /\ w'.cell? ⟨q, p * 3 + 1, none⟩ = some (.int .i64 b0) /\ w'.cell? ⟨q, p * 3 + 2, none⟩ = some (.int .i64 d0) /\ wr.heap.size < w'.heap.size /\ Below w.heap.size w w')) (by kernel_rfl) ?_ (fun hHeld => ?_)
                  · (first | assumption | exact rk11_drew hkk | exact rk11_drew (by assumption) | exact rk11_keep (by omega) (by omega) (by omega) (by omega) (by omega) (by omega) (by omega) (by omega) (by omega) (by omega) (by omega) (by omega) (by assumption) (by assumption))
                  refine step_read 0 92 rfl rfl (by kernel_rfl) (by kernel_rfl) (by kernel_rfl) (fun _ _ _ h => h) (by rfl) (v := ?_) (fun w hSw => ?_) (by assumption) ?_; rotate_left; (focus ((try dsimp only at hSw); go_simp; first | done | exact rfl)); simp only [List.set]
                  refine step_read 1 93 rfl rfl (by kernel_rfl) (by kernel_rfl) (by kernel_rfl) (fun _ _ _ h => h) (by rfl) (v := ?_) (fun w hSw => ?_) (by assumption) ?_; rotate_left; (focus ((try dsimp only at hSw); go_simp; first | done | exact rfl)); simp only [List.set]
                  (refine wpAnyH_ready (rs := [2]) (by kernel_rfl) (by simp) ?_; refine AllReadyH.cons rfl (fun K hK => ?_) AllReadyH.nil; go_simp; (go_at_call 89; refine (spok_any a b _).mono ?_; rw [h1]; rintro e w2 ⟨rfl, hb⟩); refine hK.out _ _ ?_ (fun hHeld => ?_); (focus ((first | assumption | exact rk11_drew hkk | exact rk11_drew (by assumption) | exact rk11_keep (by omega) (by omega) (by omega) (by omega) (by omega) (by omega) (by omega) (by omega) (by omega) (by omega) (by omega) (by omega) (by assumption) (by assumption)))); clear hK K)
                  refine step_read 3 95 rfl rfl (by kernel_rfl) (by kernel_rfl) (by kernel_rfl) (fun _ _ _ h => h) (by rfl) (v := ?_) (fun w hSw => ?_) (by assumption) ?_; rotate_left; (focus ((try dsimp only at hSw); go_simp; first | done | exact rfl)); simp only [List.set]
                  refine step_read 4 96 rfl rfl (by kernel_rfl) (by kernel_rfl) (by kernel_rfl) (fun _ _ _ h => h) (by rfl) (v := ?_) (fun w hSw => ?_) (by assumption) ?_; rotate_left; (focus ((try dsimp only at hSw); go_simp; first | done | exact rfl)); simp only [List.set]
                  refine step_read 5 97 rfl rfl (by kernel_rfl) (by kernel_rfl) (by kernel_rfl) (fun _ _ _ h => h) (by rfl) (v := ?_) (fun w hSw => ?_) (by assumption) ?_; rotate_left; (focus ((try dsimp only at hSw); go_simp; first | done | exact rfl)); simp only [List.set]
                  refine step_read 6 98 rfl rfl (by kernel_rfl) (by kernel_rfl) (by kernel_rfl) (fun _ _ _ h => h) (by rfl) (v := ?_) (fun w hSw => ?_) (by assumption) ?_; rotate_left; (focus ((try dsimp only at hSw); go_simp; first | done | exact rfl)); simp only [List.set]
                  (refine wpAnyH_ready (rs := [7]) (by kernel_rfl) (by simp) ?_; refine AllReadyH.cons rfl (fun K hK => ?_) AllReadyH.nil; go_simp; (go_at_call 74; refine (in_any _ _ _ _).mono ?_; rw [h4]; rintro e w2 ⟨rfl, rfl⟩); refine hK.out _ _ ?_ (fun hHeld => ?_); (focus ((first | assumption | exact rk11_drew hkk | exact rk11_drew (by assumption) | exact rk11_keep (by omega) (by omega) (by omega) (by omega) (by omega) (by omega) (by omega) (by omega) (by omega) (by omega) (by omega) (by omega) (by assumption) (by assumption)))); clear hK K)
                  refine step_read 8 100 rfl rfl (by kernel_rfl) (by kernel_rfl) (by kernel_rfl) (fun _ _ _ h => h) (by rfl) (v := ?_) (fun w hSw => ?_) (by assumption) ?_; rotate_left; (focus ((try dsimp only at hSw); go_simp; first | done | exact rfl)); simp only [List.set]
                  refine step_read 9 101 rfl rfl (by kernel_rfl) (by kernel_rfl) (by kernel_rfl) (fun _ _ _ h => h) (by rfl) (v := ?_) (fun w hSw => ?_) (by assumption) ?_; rotate_left; (focus ((try dsimp only at hSw); go_simp; first | done | exact rfl)); simp only [List.set]
                  refine step_read 10 102 rfl rfl (by kernel_rfl) (by kernel_rfl) (by kernel_rfl) (fun _ _ _ h => h) (by rfl) (v := ?_) (fun w hSw => ?_) (by assumption) ?_; rotate_left; (focus ((try dsimp only at hSw); go_simp; first | done | exact rfl)); simp only [List.set]
                  refine step_read 11 103 rfl rfl (by kernel_rfl) (by kernel_rfl) (by kernel_rfl) (fun _ _ _ h => h) (by rfl) (v := ?_) (fun w hSw => ?_) (by assumption) ?_; rotate_left; (focus ((try dsimp only at hSw); go_simp; first | done | exact rfl)); simp only [List.set]
                  refine step_read 12 104 rfl rfl (by kernel_rfl) (by kernel_rfl) (by kernel_rfl) (fun _ _ _ h => h) (by rfl) (v := ?_) (fun w hSw => ?_) (by assumption) ?_; rotate_left; (focus ((try dsimp only at hSw); go_simp; first | done | exact rfl)); simp only [List.set]
                  refine step_read 13 105 rfl rfl (by kernel_rfl) (by kernel_rfl) (by kernel_rfl) (fun _ _ _ h => h) (by rfl) (v := ?_) (fun w hSw => ?_) (by assumption) ?_; rotate_left; (focus ((try dsimp only at hSw); go_simp; first | done | exact rfl)); simp only [List.set]
                  refine step_read 14 106 rfl rfl (by kernel_rfl) (by kernel_rfl) (by kernel_rfl) (fun _ _ _ h => h) (by rfl) (v := ?_) (fun w hSw => ?_) (by assumption) ?_; rotate_left; (focus ((try dsimp only at hSw); go_simp; first | done | exact rfl)); simp only [List.set]
                  refine step_read 15 107 rfl rfl (by kernel_rfl) (by kernel_rfl) (by kernel_rfl) (fun _ _ _ h => h) (by rfl) (v := ?_) (fun w hSw => ?_) (by assumption) ?_; rotate_left; (focus ((try dsimp only at hSw); go_simp; first | done | exact rfl)); simp only [List.set]
                  refine step_read 16 108 rfl rfl (by kernel_rfl) (by kernel_rfl) (by kernel_rfl) (fun _ _ _ h => h) (by rfl) (v := ?_) (fun w hSw => ?_) (by assumption) ?_; rotate_left; (focus ((try dsimp only at hSw); go_simp; first | done | exact rfl)); simp only [List.set]
                  refine step_read 17 109 rfl rfl (by kernel_rfl) (by kernel_rfl) (by kernel_rfl) (fun _ _ _ h => h) (by rfl) (v := ?_) (fun w hSw => ?_) (by assumption) ?_; rotate_left; (focus ((try dsimp only at hSw); go_simp; first | done | exact rfl)); simp only [List.set]
                  refine step_read 18 110 rfl rfl (by kernel_rfl) (by kernel_rfl) (by kernel_rfl) (fun _ _ _ h => h) (by rfl) (v := ?_) (fun w hSw => ?_) (by assumption) ?_; rotate_left; (focus ((try dsimp only at hSw); go_simp; first | done | exact rfl)); simp only [List.set]
                  refine step_read 19 111 rfl rfl (by kernel_rfl) (by kernel_rfl) (by kernel_rfl) (fun _ _ _ h => h) (by rfl) (v := ?_) (fun w hSw => ?_) (by assumption) ?_; rotate_left; (focus ((try dsimp only at hSw); go_simp; first | done | exact rfl)); simp only [List.set]
                  refine step_read 20 112 rfl rfl (by kernel_rfl) (by kernel_rfl) (by kernel_rfl) (fun _ _ _ h => h) (by rfl) (v := ?_) (fun w hSw => ?_) (by assumption) ?_; rotate_left; (focus ((try dsimp only at hSw); go_simp; first | done | exact rfl)); simp only [List.set]
                  refine step_read 21 113 rfl rfl (by kernel_rfl) (by kernel_rfl) (by kernel_rfl) (fun _ _ _ h => h) (by rfl) (v := ?_) (fun w hSw => ?_) (by assumption) ?_; rotate_left; (focus ((try dsimp only at hSw); go_simp; first | done | exact rfl)); simp only [List.set]
                  refine step_read 22 114 rfl rfl (by kernel_rfl) (by kernel_rfl) (by kernel_rfl) (fun _ _ _ h => h) (by rfl) (v := ?_) (fun w hSw => ?_) (by assumption) ?_; rotate_left; (focus ((try dsimp only at hSw); go_simp; first | done | exact rfl)); simp only [List.set]
                  (refine wpAnyH_ready (rs := [23]) (by kernel_rfl) (by simp) ?_; refine AllReadyH.cons rfl (fun K hK => ?_) AllReadyH.nil; go_simp; (go_at_call 90; refine (ahead_any a0 b0 a b _).mono ?_; rw [ha]; rintro e w2 ⟨rfl, hb⟩); refine hK.out _ _ ?_ (fun hHeld => ?_); (focus ((first | assumption | exact rk11_drew hkk | exact rk11_drew (by assumption) | exact rk11_keep (by omega) (by omega) (by omega) (by omega) (by omega) (by omega) (by omega) (by omega) (by omega) (by omega) (by omega) (by omega) (by assumption) (by assumption)))); clear hK K)
                  refine step_read 24 116 rfl rfl (by kernel_rfl) (by kernel_rfl) (by kernel_rfl) (fun _ _ _ h => h) (by rfl) (v := ?_) (fun w hSw => ?_) (by assumption) ?_; rotate_left; (focus ((try dsimp only at hSw); go_simp; first | done | exact rfl)); simp only [List.set]
                  refine step_read 25 117 rfl rfl (by kernel_rfl) (by kernel_rfl) (by kernel_rfl) (fun _ _ _ h => h) (by rfl) (v := ?_) (fun w hSw => ?_) (by assumption) ?_; rotate_left; (focus ((try dsimp only at hSw); go_simp; first | done | exact rfl)); simp only [List.set]
                  refine step_read 26 118 rfl rfl (by kernel_rfl) (by kernel_rfl) (by kernel_rfl) (fun _ _ _ h => h) (by rfl) (v := ?_) (fun w hSw => ?_) (by assumption) ?_; rotate_left; (focus ((try dsimp only at hSw); go_simp; first | done | exact rfl)); simp only [List.set]
                  refine wpAnyH_done (by kernel_rfl) ?_ _
                  go_wp2_with fail
                  go_ret
                  exact ⟨by rw [lok_no (.inr Hno.out)]; rfl, (rk11_out (by assumption)).2⟩
            · have h5 := inB_no h4
              have Hno : Hid (stsB T = false) := Lib.hid (stsB_no (i := k) (by rw [HT.out]; exact hlt) (by rw [schk_at HL.out]; unfold stB; rw [h5]; simp))
              clear h4
              have hkk :  (wr.alloc (.cells #[.int .i64 a, .int .i64 b, .int .i64 c] 79)).cell? ⟨w.heap.size, 0, none⟩ = some (.int .i64 o) /\ (wr.alloc (.cells #[.int .i64 a, .int .i64 b, .int .i64 c] 79)).cell? ⟨w.heap.size, 1, none⟩ = some (.int .i64 s) /\ (wr.alloc (.cells #[.int .i64 a, .int .i64 b, .int .i64 c] 79)).cell? ⟨w.heap.size, 2, none⟩ = some (.int .i64 ag) /\ (wr.alloc (.cells #[.int .i64 a, .int .i64 b, .int .i64 c] 79)).cell? ⟨w.heap.size, 3, none⟩ = some (.slice ad n cp) /\ (wr.alloc (.cells #[.int .i64 a, .int .i64 b, .int .i64 c] 79)).cell? ⟨w.heap.size, 4, none⟩ = some (.slice (some ⟨q, 0, none⟩) m cq) /\ (wr.alloc (.cells #[.int .i64 a, .int .i64 b, .int .i64 c] 79)).cell? ⟨wr.heap.size, 0, none⟩ = some (.int .i64 a) /\ (wr.alloc (.cells #[.int .i64 a, .int .i64 b, .int .i64 c] 79)).cell? ⟨wr.heap.size, 1, none⟩ = some (.int .i64 b) /\ (wr.alloc (.cells #[.int .i64 a, .int .i64 b, .int .i64 c] 79)).cell? ⟨wr.heap.size, 2, none⟩ = some (.int .i64 c) /\ wr.heap.size < (wr.alloc (.cells #[.int .i64 a, .int .i64 b, .int .i64 c] 79)).heap.size /\ Below w.heap.size w (wr.alloc (.cells #[.int .i64 a, .int .i64 b, .int .i64 c] 79)) := ⟨by rw [old_box (by omega)]; exact k0, by rw [old_box (by omega)]; exact k1, by rw [old_box (by omega)]; exact k2, by rw [old_box (by omega)]; exact k3, by rw [old_box (by omega)]; exact k4, by simp, by simp, by simp, by simp, HB.out.alloc (by omega) _⟩
              go_wp2_with fail
              refine wp_region_held_drew (S := (fun w' => w'.cell? ⟨w.heap.size, 0, none⟩ = some (.int .i64 o) /\ w'.cell? ⟨w.heap.size, 1, none⟩ = some (.int .i64 s) /\ w'.cell? ⟨w.heap.size, 2, none⟩ = some (.int .i64 ag) /\ w'.cell? ⟨w.heap.size, 3, none⟩ = some (.slice ad n cp) /\ w'.cell? ⟨w.heap.size, 4, none⟩ = some (.slice (some ⟨q, 0, none⟩) m cq) /\ w'.cell? ⟨wr.heap.size, 0, none⟩ = some (.int .i64 a) /\ w'.cell? ⟨wr.heap.size, 1, none⟩ = some (.int .i64 b) /\ w'.cell? ⟨wr.heap.size, 2, none⟩ = some (.int .i64 c) /\ wr.heap.size < w'.heap.size /\ Below w.heap.size w w')) (by kernel_rfl) ?_ (fun hHeld => ?_)
              · (first | assumption | exact rk8_drew hkk | exact rk8_drew (by assumption) | exact rk8_keep (by omega) (by omega) (by omega) (by omega) (by omega) (by omega) (by omega) (by omega) (by omega) (by assumption) (by assumption))
              refine step_read 0 92 rfl rfl (by kernel_rfl) (by kernel_rfl) (by kernel_rfl) (fun _ _ _ h => h) (by rfl) (v := ?_) (fun w hSw => ?_) (by assumption) ?_; rotate_left; (focus ((try dsimp only at hSw); go_simp; first | done | exact rfl)); simp only [List.set]
              refine step_read 1 93 rfl rfl (by kernel_rfl) (by kernel_rfl) (by kernel_rfl) (fun _ _ _ h => h) (by rfl) (v := ?_) (fun w hSw => ?_) (by assumption) ?_; rotate_left; (focus ((try dsimp only at hSw); go_simp; first | done | exact rfl)); simp only [List.set]
              (refine wpAnyH_ready (rs := [2]) (by kernel_rfl) (by simp) ?_; refine AllReadyH.cons rfl (fun K hK => ?_) AllReadyH.nil; go_simp; (go_at_call 89; refine (spok_any a b _).mono ?_; rw [h1]; rintro e w2 ⟨rfl, hb⟩); refine hK.out _ _ ?_ (fun hHeld => ?_); (focus ((first | assumption | exact rk8_drew hkk | exact rk8_drew (by assumption) | exact rk8_keep (by omega) (by omega) (by omega) (by omega) (by omega) (by omega) (by omega) (by omega) (by omega) (by assumption) (by assumption)))); clear hK K)
              refine step_read 3 95 rfl rfl (by kernel_rfl) (by kernel_rfl) (by kernel_rfl) (fun _ _ _ h => h) (by rfl) (v := ?_) (fun w hSw => ?_) (by assumption) ?_; rotate_left; (focus ((try dsimp only at hSw); go_simp; first | done | exact rfl)); simp only [List.set]
              refine step_read 4 96 rfl rfl (by kernel_rfl) (by kernel_rfl) (by kernel_rfl) (fun _ _ _ h => h) (by rfl) (v := ?_) (fun w hSw => ?_) (by assumption) ?_; rotate_left; (focus ((try dsimp only at hSw); go_simp; first | done | exact rfl)); simp only [List.set]
              refine step_read 5 97 rfl rfl (by kernel_rfl) (by kernel_rfl) (by kernel_rfl) (fun _ _ _ h => h) (by rfl) (v := ?_) (fun w hSw => ?_) (by assumption) ?_; rotate_left; (focus ((try dsimp only at hSw); go_simp; first | done | exact rfl)); simp only [List.set]
              refine step_read 6 98 rfl rfl (by kernel_rfl) (by kernel_rfl) (by kernel_rfl) (fun _ _ _ h => h) (by rfl) (v := ?_) (fun w hSw => ?_) (by assumption) ?_; rotate_left; (focus ((try dsimp only at hSw); go_simp; first | done | exact rfl)); simp only [List.set]
              (refine wpAnyH_ready (rs := [7]) (by kernel_rfl) (by simp) ?_; refine AllReadyH.cons rfl (fun K hK => ?_) AllReadyH.nil; go_simp; (go_at_call 74; refine (in_any _ _ _ _).mono ?_; rw [h5]; rintro e w2 ⟨rfl, rfl⟩); refine hK.out _ _ ?_ (fun hHeld => ?_); (focus ((first | assumption | exact rk8_drew hkk | exact rk8_drew (by assumption) | exact rk8_keep (by omega) (by omega) (by omega) (by omega) (by omega) (by omega) (by omega) (by omega) (by omega) (by assumption) (by assumption)))); clear hK K)
              refine step_read 8 100 rfl rfl (by kernel_rfl) (by kernel_rfl) (by kernel_rfl) (fun _ _ _ h => h) (by rfl) (v := ?_) (fun w hSw => ?_) (by assumption) ?_; rotate_left; (focus ((try dsimp only at hSw); go_simp; first | done | exact rfl)); simp only [List.set]
              refine step_read 9 101 rfl rfl (by kernel_rfl) (by kernel_rfl) (by kernel_rfl) (fun _ _ _ h => h) (by rfl) (v := ?_) (fun w hSw => ?_) (by assumption) ?_; rotate_left; (focus ((try dsimp only at hSw); go_simp; first | done | exact rfl)); simp only [List.set]
              refine step_read 10 102 rfl rfl (by kernel_rfl) (by kernel_rfl) (by kernel_rfl) (fun _ _ _ h => h) (by rfl) (v := ?_) (fun w hSw => ?_) (by assumption) ?_; rotate_left; (focus ((try dsimp only at hSw); go_simp; first | done | exact rfl)); simp only [List.set]
              refine step_skip 11 103 rfl rfl (by kernel_rfl) (by kernel_rfl) (by kernel_rfl) (fun _ _ _ h => h) (by rfl) (by assumption) ?_; simp only [List.set]
              refine step_skip 12 104 rfl rfl (by kernel_rfl) (by kernel_rfl) (by kernel_rfl) (fun _ _ _ h => h) (by rfl) (by assumption) ?_; simp only [List.set]
              refine step_skip 13 105 rfl rfl (by kernel_rfl) (by kernel_rfl) (by kernel_rfl) (fun _ _ _ h => h) (by rfl) (by assumption) ?_; simp only [List.set]
              refine step_skip 14 106 rfl rfl (by kernel_rfl) (by kernel_rfl) (by kernel_rfl) (fun _ _ _ h => h) (by rfl) (by assumption) ?_; simp only [List.set]
              refine step_skip 15 107 rfl rfl (by kernel_rfl) (by kernel_rfl) (by kernel_rfl) (fun _ _ _ h => h) (by rfl) (by assumption) ?_; simp only [List.set]
              refine step_skip 16 108 rfl rfl (by kernel_rfl) (by kernel_rfl) (by kernel_rfl) (fun _ _ _ h => h) (by rfl) (by assumption) ?_; simp only [List.set]
              refine step_skip 17 109 rfl rfl (by kernel_rfl) (by kernel_rfl) (by kernel_rfl) (fun _ _ _ h => h) (by rfl) (by assumption) ?_; simp only [List.set]
              refine step_skip 18 110 rfl rfl (by kernel_rfl) (by kernel_rfl) (by kernel_rfl) (fun _ _ _ h => h) (by rfl) (by assumption) ?_; simp only [List.set]
              refine step_skip 19 111 rfl rfl (by kernel_rfl) (by kernel_rfl) (by kernel_rfl) (fun _ _ _ h => h) (by rfl) (by assumption) ?_; simp only [List.set]
              refine step_skip 20 112 rfl rfl (by kernel_rfl) (by kernel_rfl) (by kernel_rfl) (fun _ _ _ h => h) (by rfl) (by assumption) ?_; simp only [List.set]
              refine step_skip 21 113 rfl rfl (by kernel_rfl) (by kernel_rfl) (by kernel_rfl) (fun _ _ _ h => h) (by rfl) (by assumption) ?_; simp only [List.set]
              refine step_skip 22 114 rfl rfl (by kernel_rfl) (by kernel_rfl) (by kernel_rfl) (fun _ _ _ h => h) (by rfl) (by assumption) ?_; simp only [List.set]
              refine step_skip 23 115 rfl rfl (by kernel_rfl) (by kernel_rfl) (by kernel_rfl) (fun _ _ _ h => h) (by rfl) (by assumption) ?_; simp only [List.set]
              refine step_skip 24 116 rfl rfl (by kernel_rfl) (by kernel_rfl) (by kernel_rfl) (fun _ _ _ h => h) (by rfl) (by assumption) ?_; simp only [List.set]
              refine step_skip 25 117 rfl rfl (by kernel_rfl) (by kernel_rfl) (by kernel_rfl) (fun _ _ _ h => h) (by rfl) (by assumption) ?_; simp only [List.set]
              refine step_read 26 118 rfl rfl (by kernel_rfl) (by kernel_rfl) (by kernel_rfl) (fun _ _ _ h => h) (by rfl) (v := ?_) (fun w hSw => ?_) (by assumption) ?_; rotate_left; (focus ((try dsimp only at hSw); go_simp; first | done | exact rfl)); simp only [List.set]
              refine wpAnyH_done (by kernel_rfl) ?_ _
              go_wp2_with fail
              go_ret
              exact ⟨by rw [lok_no (.inr Hno.out)]; rfl, (rk8_out (by assumption)).2⟩
          · rw [Bool.not_eq_true] at h1
            have Hno : Hid (stsB T = false) := Lib.hid (stsB_no (i := k) (by rw [HT.out]; exact hlt) (by rw [schk_at HL.out]; unfold stB; rw [h1]; simp))
            have hkk :  (wr.alloc (.cells #[.int .i64 a, .int .i64 b, .int .i64 c] 79)).cell? ⟨w.heap.size, 0, none⟩ = some (.int .i64 o) /\ (wr.alloc (.cells #[.int .i64 a, .int .i64 b, .int .i64 c] 79)).cell? ⟨w.heap.size, 1, none⟩ = some (.int .i64 s) /\ (wr.alloc (.cells #[.int .i64 a, .int .i64 b, .int .i64 c] 79)).cell? ⟨w.heap.size, 2, none⟩ = some (.int .i64 ag) /\ (wr.alloc (.cells #[.int .i64 a, .int .i64 b, .int .i64 c] 79)).cell? ⟨w.heap.size, 3, none⟩ = some (.slice ad n cp) /\ (wr.alloc (.cells #[.int .i64 a, .int .i64 b, .int .i64 c] 79)).cell? ⟨w.heap.size, 4, none⟩ = some (.slice (some ⟨q, 0, none⟩) m cq) /\ (wr.alloc (.cells #[.int .i64 a, .int .i64 b, .int .i64 c] 79)).cell? ⟨wr.heap.size, 0, none⟩ = some (.int .i64 a) /\ (wr.alloc (.cells #[.int .i64 a, .int .i64 b, .int .i64 c] 79)).cell? ⟨wr.heap.size, 1, none⟩ = some (.int .i64 b) /\ (wr.alloc (.cells #[.int .i64 a, .int .i64 b, .int .i64 c] 79)).cell? ⟨wr.heap.size, 2, none⟩ = some (.int .i64 c) /\ wr.heap.size < (wr.alloc (.cells #[.int .i64 a, .int .i64 b, .int .i64 c] 79)).heap.size /\ Below w.heap.size w (wr.alloc (.cells #[.int .i64 a, .int .i64 b, .int .i64 c] 79)) := ⟨by rw [old_box (by omega)]; exact k0, by rw [old_box (by omega)]; exact k1, by rw [old_box (by omega)]; exact k2, by rw [old_box (by omega)]; exact k3, by rw [old_box (by omega)]; exact k4, by simp, by simp, by simp, by simp, HB.out.alloc (by omega) _⟩
            go_wp2_with fail
            refine wp_region_held_drew (S := (fun w' => w'.cell? ⟨w.heap.size, 0, none⟩ = some (.int .i64 o) /\ w'.cell? ⟨w.heap.size, 1, none⟩ = some (.int .i64 s) /\ w'.cell? ⟨w.heap.size, 2, none⟩ = some (.int .i64 ag) /\ w'.cell? ⟨w.heap.size, 3, none⟩ = some (.slice ad n cp) /\ w'.cell? ⟨w.heap.size, 4, none⟩ = some (.slice (some ⟨q, 0, none⟩) m cq) /\ w'.cell? ⟨wr.heap.size, 0, none⟩ = some (.int .i64 a) /\ w'.cell? ⟨wr.heap.size, 1, none⟩ = some (.int .i64 b) /\ w'.cell? ⟨wr.heap.size, 2, none⟩ = some (.int .i64 c) /\ wr.heap.size < w'.heap.size /\ Below w.heap.size w w')) (by kernel_rfl) ?_ (fun hHeld => ?_)
            · (first | assumption | exact rk8_drew hkk | exact rk8_drew (by assumption) | exact rk8_keep (by omega) (by omega) (by omega) (by omega) (by omega) (by omega) (by omega) (by omega) (by omega) (by assumption) (by assumption))
            refine step_read 0 92 rfl rfl (by kernel_rfl) (by kernel_rfl) (by kernel_rfl) (fun _ _ _ h => h) (by rfl) (v := ?_) (fun w hSw => ?_) (by assumption) ?_; rotate_left; (focus ((try dsimp only at hSw); go_simp; first | done | exact rfl)); simp only [List.set]
            refine step_read 1 93 rfl rfl (by kernel_rfl) (by kernel_rfl) (by kernel_rfl) (fun _ _ _ h => h) (by rfl) (v := ?_) (fun w hSw => ?_) (by assumption) ?_; rotate_left; (focus ((try dsimp only at hSw); go_simp; first | done | exact rfl)); simp only [List.set]
            (refine wpAnyH_ready (rs := [2]) (by kernel_rfl) (by simp) ?_; refine AllReadyH.cons rfl (fun K hK => ?_) AllReadyH.nil; go_simp; (go_at_call 89; refine (spok_any a b _).mono ?_; rw [h1]; rintro e w2 ⟨rfl, hb⟩); refine hK.out _ _ ?_ (fun hHeld => ?_); (focus ((first | assumption | exact rk8_drew hkk | exact rk8_drew (by assumption) | exact rk8_keep (by omega) (by omega) (by omega) (by omega) (by omega) (by omega) (by omega) (by omega) (by omega) (by assumption) (by assumption)))); clear hK K)
            refine step_read 3 95 rfl rfl (by kernel_rfl) (by kernel_rfl) (by kernel_rfl) (fun _ _ _ h => h) (by rfl) (v := ?_) (fun w hSw => ?_) (by assumption) ?_; rotate_left; (focus ((try dsimp only at hSw); go_simp; first | done | exact rfl)); simp only [List.set]
            refine step_read 4 96 rfl rfl (by kernel_rfl) (by kernel_rfl) (by kernel_rfl) (fun _ _ _ h => h) (by rfl) (v := ?_) (fun w hSw => ?_) (by assumption) ?_; rotate_left; (focus ((try dsimp only at hSw); go_simp; first | done | exact rfl)); simp only [List.set]
            refine step_skip 5 97 rfl rfl (by kernel_rfl) (by kernel_rfl) (by kernel_rfl) (fun _ _ _ h => h) (by rfl) (by assumption) ?_; simp only [List.set]
            refine step_skip 6 98 rfl rfl (by kernel_rfl) (by kernel_rfl) (by kernel_rfl) (fun _ _ _ h => h) (by rfl) (by assumption) ?_; simp only [List.set]
            refine step_skip 7 99 rfl rfl (by kernel_rfl) (by kernel_rfl) (by kernel_rfl) (fun _ _ _ h => h) (by rfl) (by assumption) ?_; simp only [List.set]
            refine step_skip 8 100 rfl rfl (by kernel_rfl) (by kernel_rfl) (by kernel_rfl) (fun _ _ _ h => h) (by rfl) (by assumption) ?_; simp only [List.set]
            refine step_read 9 101 rfl rfl (by kernel_rfl) (by kernel_rfl) (by kernel_rfl) (fun _ _ _ h => h) (by rfl) (v := ?_) (fun w hSw => ?_) (by assumption) ?_; rotate_left; (focus ((try dsimp only at hSw); go_simp; first | done | exact rfl)); simp only [List.set]
            refine step_read 10 102 rfl rfl (by kernel_rfl) (by kernel_rfl) (by kernel_rfl) (fun _ _ _ h => h) (by rfl) (v := ?_) (fun w hSw => ?_) (by assumption) ?_; rotate_left; (focus ((try dsimp only at hSw); go_simp; first | done | exact rfl)); simp only [List.set]
            refine step_skip 11 103 rfl rfl (by kernel_rfl) (by kernel_rfl) (by kernel_rfl) (fun _ _ _ h => h) (by rfl) (by assumption) ?_; simp only [List.set]
            refine step_skip 12 104 rfl rfl (by kernel_rfl) (by kernel_rfl) (by kernel_rfl) (fun _ _ _ h => h) (by rfl) (by assumption) ?_; simp only [List.set]
            refine step_skip 13 105 rfl rfl (by kernel_rfl) (by kernel_rfl) (by kernel_rfl) (fun _ _ _ h => h) (by rfl) (by assumption) ?_; simp only [List.set]
            refine step_skip 14 106 rfl rfl (by kernel_rfl) (by kernel_rfl) (by kernel_rfl) (fun _ _ _ h => h) (by rfl) (by assumption) ?_; simp only [List.set]
            refine step_skip 15 107 rfl rfl (by kernel_rfl) (by kernel_rfl) (by kernel_rfl) (fun _ _ _ h => h) (by rfl) (by assumption) ?_; simp only [List.set]
            refine step_skip 16 108 rfl rfl (by kernel_rfl) (by kernel_rfl) (by kernel_rfl) (fun _ _ _ h => h) (by rfl) (by assumption) ?_; simp only [List.set]
            refine step_skip 17 109 rfl rfl (by kernel_rfl) (by kernel_rfl) (by kernel_rfl) (fun _ _ _ h => h) (by rfl) (by assumption) ?_; simp only [List.set]
            refine step_skip 18 110 rfl rfl (by kernel_rfl) (by kernel_rfl) (by kernel_rfl) (fun _ _ _ h => h) (by rfl) (by assumption) ?_; simp only [List.set]
            refine step_skip 19 111 rfl rfl (by kernel_rfl) (by kernel_rfl) (by kernel_rfl) (fun _ _ _ h => h) (by rfl) (by assumption) ?_; simp only [List.set]
            refine step_skip 20 112 rfl rfl (by kernel_rfl) (by kernel_rfl) (by kernel_rfl) (fun _ _ _ h => h) (by rfl) (by assumption) ?_; simp only [List.set]
            refine step_skip 21 113 rfl rfl (by kernel_rfl) (by kernel_rfl) (by kernel_rfl) (fun _ _ _ h => h) (by rfl) (by assumption) ?_; simp only [List.set]
            refine step_skip 22 114 rfl rfl (by kernel_rfl) (by kernel_rfl) (by kernel_rfl) (fun _ _ _ h => h) (by rfl) (by assumption) ?_; simp only [List.set]
            refine step_skip 23 115 rfl rfl (by kernel_rfl) (by kernel_rfl) (by kernel_rfl) (fun _ _ _ h => h) (by rfl) (by assumption) ?_; simp only [List.set]
            refine step_skip 24 116 rfl rfl (by kernel_rfl) (by kernel_rfl) (by kernel_rfl) (fun _ _ _ h => h) (by rfl) (by assumption) ?_; simp only [List.set]
            refine step_skip 25 117 rfl rfl (by kernel_rfl) (by kernel_rfl) (by kernel_rfl) (fun _ _ _ h => h) (by rfl) (by assumption) ?_; simp only [List.set]
            refine step_read 26 118 rfl rfl (by kernel_rfl) (by kernel_rfl) (by kernel_rfl) (fun _ _ _ h => h) (by rfl) (v := ?_) (fun w hSw => ?_) (by assumption) ?_; rotate_left; (focus ((try dsimp only at hSw); go_simp; first | done | exact rfl)); simp only [List.set]
            refine wpAnyH_done (by kernel_rfl) ?_ _
            go_wp2_with fail
            go_ret
            exact ⟨by rw [lok_no (.inr Hno.out)]; rfl, (rk8_out (by assumption)).2⟩
        · have hge : ¬ ((k : Int) < (m : Int)) := by omega
          obtain rfl : k = m := by omega
          have Hz : Hid (stsB T = true) := Lib.hid (stsB_yes (by rw [HT.out]; omega) (fun i hi => HP.out i (by rw [HT.out] at hi; exact hi)))
          go_wp2
          go_ret
          exact ⟨by unfold lokB; rw [Hs.out.1, Hs.out.2.1, Hs.out.2.2, Hy.out, Hz.out]; rfl, HB.out⟩
theorem slok_any (o s ag : Int) (lo hi lo' hi' n m : Nat) (u v : Value) (K : List Lk) (T : List Ed) (w : World) (hK : K.length = n) (hT : T.length = m) (hr : Row 2 w lo hi u n (flat2 K)) (hr' : Row 3 w lo' hi' v m (flat T)) (hh : hi <= w.heap.size) (hh' : hi' <= w.heap.size) :
    Calls Try.prog 48 #[.agg #[.int .i64 o, .int .i64 s, .int .i64 ag, u, v]] w fun e w' => e = .returned (.bool (lokB o s ag K T)) /\ Below w.heap.size w w' := by
  cases ho : inB o 0 9
  · exact slok_0 o s ag lo hi lo' hi' n m u v K T w hK hT hr hr' hh hh' ho (by unfold lokB; rw [ho]; simp)
  cases h1 : inB s 1 1000000
  · exact slok_1 o s ag lo hi lo' hi' n m u v K T w hK hT hr hr' hh hh' ho h1 (by unfold lokB; rw [h1]; simp)
  cases h3 : inB ag 0 60
  · exact slok_2 o s ag lo hi lo' hi' n m u v K T w hK hT hr hr' hh hh' ho h1 h3 (by unfold lokB; rw [h3]; simp)
  by_cases h4 : 10 < n
  · refine slok_3 o s ag lo hi lo' hi' n m u v K T w hK hT hr hr' hh hh' ho h1 h3 h4 (lok_no (.inl ?_))
    cases hl : lksB o K
    · rfl
    · have := lksB_len hl; omega
  by_cases h5 : 6 < m
  · exact slok_4 o s ag lo hi lo' hi' n m u v K T w hK hT hr hr' hh hh' ho h1 h3 h4 h5 (lok_no (.inr (stsB_big (by rw [hT]; exact h5))))
  exact slok_5 o s ag lo hi lo' hi' n m u v K T w hK hT hr hr' hh hh' ho h1 h3 h4 h5
end Go.Proofs.Ytfpafjdakipccaa
