/- Which sketches are valid: the model. -/
import Derived.Test.YtophppnllkadoaaK1
namespace Go.Proofs.Ytophppnllkadoaa
open Go.RowKit


set_option maxRecDepth 100000 in
set_option maxHeartbeats 4000000 in
theorem sskok_any (lo hi n : Nat) (v : Value) (t : Int) (D : List (List Int)) (w : World) (hr : KRow w lo hi v n D) (hh : hi ≤ w.heap.size) (ht : I64 t) : Calls Try.prog 31 #[.agg #[v, .int .i64 t]] w fun e w' => e = .returned (.bool (skB t D)) ∧ Below w.heap.size w w' := by
  obtain ⟨ad, cp, rfl⟩ := hr.slice
  have HD := Lib.hid hr.2
  have HR := Lib.hid hr
  obtain ⟨ht1, ht2⟩ := ht
  clear hr
  by_cases h4 : n = 4
  case neg =>
    have hb : ((n : Int) != 4) = true := by have := HR.out.len; simp; omega
    have Hno : Hid (skB t D = false) := skB_len (by rw [HD.out]; exact h4)
    have hm := HR.out.len
    clear h4
    go_enter Try.func31, Try.ntmps31
    go_wp2
    go_ret
    exact ⟨by rw [Hno.out]; rfl, by go_grown⟩
  case pos =>
  subst h4
  cases hin : inB t 0 1000000000000 with
  | false =>
    have Hno : Hid (skB t D = false) := by
      show _ = _
      rcases Int.lt_or_le t 0 with h | h
      · exact skB_neg h
      · rcases Int.lt_or_le 1000000000000 t with h2 | h2
        · exact skB_big h2
        · rw [inB_true h h2] at hin; simp at hin
    go_enter Try.func31, Try.ntmps31
    go_wp2_with (go_at_call 61; refine (in_any t 0 1000000000000 _).mono ?_; rw [hin]; rintro e w2 ⟨rfl, rfl⟩)
    go_ret
    exact ⟨by rw [Hno.out]; rfl, by go_grown⟩
  | true =>
  obtain ⟨hb1, hb2⟩ := inB_iff.1 hin
  go_enter Try.func31, Try.ntmps31
  go_wp2_with (go_at_call 61; refine (in_any t 0 1000000000000 _).mono ?_; rw [hin]; rintro e w2 ⟨rfl, rfl⟩)
  obtain ⟨q11, hq11⟩ : ∃ q, q = (w.alloc (.cells #[.slice ad 4 cp, .int .i64 t] 28)) := ⟨_, rfl⟩
  have hb11 : Below w.heap.size w q11 := by rw [hq11]; go_grown
  have sz11 : w.heap.size + 1 ≤ q11.heap.size := by rw [hq11]; simp
  have c11_0 : q11.cell? ⟨w.heap.size, 0, none⟩ = some (.slice ad 4 cp) := by rw [hq11, new_at (by simp)]; rfl
  have c11_1 : q11.cell? ⟨w.heap.size, 1, none⟩ = some (.int .i64 t) := by rw [hq11, new_at (by simp)]; rfl
  have B11 : Hid (Below w.heap.size w q11) := Lib.hid hb11
  rw [← hq11]
  have d11_0 : w.heap.size < q11.heap.size := by omega
  have e11_0 : w.heap.size ≠ q11.heap.size := by omega
  clear hq11 hb11
  have HC0 := Lib.hid c11_0
  have HC1 := Lib.hid c11_1
  have RQ : Hid (KRow q11 lo hi (.slice ad 4 cp) 4 D) := HR.out.below B11.out hh
  go_loopw [3] (fun i wr => ∃ k : Nat, k ≤ 4 ∧ i = .int .i64 (k : Int) ∧ Hid (∀ (j : Nat) (l : List Int), j < k → D[j]? = some l → l.length = 16 ∧ RowP l t) ∧ Hid (Below q11.heap.size q11 wr)) (fun i _ => 4 - (intOf i).toNat)
  case atStart => exact ⟨0, Nat.zero_le _, rfl, fun j l hj => absurd hj (Nat.not_lt_zero _), Below.refl _ _⟩
  case round =>
    obtain ⟨wo, rfl⟩ : ∃ x, x = wr := ⟨_, rfl⟩
    obtain ⟨k, hk, rfl, hF, hB⟩ := hrel
    have hsz := hB.out.size
    have k0 : wo.cell? ⟨w.heap.size, 0, none⟩ = some (.slice ad 4 cp) := by rw [hB.out.cell (p := ⟨w.heap.size, 0, none⟩) (by show w.heap.size < _; omega)]; exact HC0.out
    have k1 : wo.cell? ⟨w.heap.size, 1, none⟩ = some (.int .i64 t) := by rw [hB.out.cell (p := ⟨w.heap.size, 1, none⟩) (by show w.heap.size < _; omega)]; exact HC1.out
    have RO : Hid (KRow wo lo hi (.slice ad 4 cp) 4 D) := RQ.out.below hB.out (by omega)
    have HBo : Hid (Below w.heap.size w wo) := B11.out.trans (hB.out.mono (by omega))
    by_cases hlt : k < 4
    case neg =>
      obtain rfl : k = 4 := by omega
      have Hy : Hid (skB t D = true) := skB_iff.2 ⟨HD.out, hb2, fun i l hl => hF.out i l (by have := lt_of_at hl; rw [HD.out] at this; exact this) hl⟩
      go_wp2
      go_ret
      exact ⟨by rw [Hy.out]; rfl, HBo.out⟩
    case pos =>
    obtain ⟨l, hl⟩ : ∃ l, D[k]? = some l := ⟨_, List.getElem?_eq_getElem (by rw [HD.out]; exact hlt)⟩
    obtain ⟨G, x, y, rfl, _, hG, d1, hrow⟩ := RO.out.cell hl
    have q0 : (0 : Int) ≤ (k : Int) := by omega
    have q1 : (k : Int) < 4 := by omega
    have HL := Lib.hid hl
    obtain ⟨m, hm9⟩ : ∃ m, m = l.length := ⟨_, rfl⟩
    rw [← hm9] at d1 hrow
    have HM := Lib.hid hm9
    have HRow := Lib.hid hrow
    have hm1 : m ≤ 1100000 := by obtain ⟨_, _, _, h, _⟩ := hrow.opened; exact h
    clear hl hm9 hrow
    by_cases h16 : m = 16
    case neg =>
      have hb : ((m : Int) != 16) = true := by simp; omega
      have Hno : Hid (skB t D = false) := skB_row HL.out (by rw [← HM.out]; exact fun h => h16 h.1)
      clear h16
      go_wp2_with fail
      go_ret
      exact ⟨by rw [Hno.out]; rfl, HBo.out⟩
    case pos =>
    subst h16
    have D1 := Lib.hid d1
    go_wp2_with fail
    go_loopw [4, 5] (fun s i wr => ∃ (u : Nat), u ≤ 16 ∧ i = .int .i64 (u : Int) ∧ s = .int .i64 (sumL (l.take u)) ∧ Hid (∀ x ∈ l.take u, 0 ≤ x ∧ x ≤ t) ∧ Hid (Below wo.heap.size wo wr)) (fun _ i _ => 16 - (intOf i).toNat)
    case atStart => exact ⟨0, Nat.zero_le _, rfl, rfl, fun x hx => by simp at hx, Below.refl _ _⟩
    case round =>
      obtain ⟨wp, rfl⟩ : ∃ x, x = wr := ⟨_, rfl⟩
      obtain ⟨u, hu, rfl, rfl, hA, hB2⟩ := hrel
      have hs2 := hB2.out.size
      have j0 : wp.cell? ⟨w.heap.size, 0, none⟩ = some (.slice (some ⟨G, 0, none⟩) 4 cp) := by rw [hB2.out.cell (p := ⟨w.heap.size, 0, none⟩) (by show w.heap.size < _; omega)]; exact k0
      have j1 : wp.cell? ⟨w.heap.size, 1, none⟩ = some (.int .i64 t) := by rw [hB2.out.cell (p := ⟨w.heap.size, 1, none⟩) (by show w.heap.size < _; omega)]; exact k1
      have j2 : wp.cell? ⟨G, k, none⟩ = some (.slice x 16 y) := by rw [hB2.out.cell (p := ⟨G, k, none⟩) (by show G < _; omega)]; exact D1.out
      have hsb := sumL_lt (l := l.take u) (t := t) hA.out
      have hul : (l.take u).length = u := by rw [List.length_take, ← HM.out]; omega
      rw [hul] at hsb
      have hub : (u : Int) * t ≤ 16 * 1000000000000 := by
        have h1 : (u : Int) * t ≤ 16 * t := Int.mul_le_mul_of_nonneg_right (by omega) hb1
        omega
      have hsb2 : 0 ≤ sumL (l.take u) ∧ sumL (l.take u) ≤ 16000000000000 := by omega
      have HBp : Hid (Below w.heap.size w wp) := HBo.out.trans (hB2.out.mono (by omega))
      clear hsb hub hul d1 k0 k1
      by_cases hlu : u < 16
      case neg =>
        obtain rfl : u = 16 := by omega
        have htk : l.take 16 = l := by rw [HM.out, List.take_length]
        rw [htk] at hsb2 hA ⊢
        clear htk
        obtain ⟨s, hs⟩ : ∃ s, s = sumL l := ⟨_, rfl⟩
        have HS := Lib.hid hs
        rw [← hs] at hsb2 ⊢
        clear hs
        by_cases hst : s = t
        case neg =>
          have hb : (s != t) = true := by simp [hst]
          have Hno : Hid (skB t D = false) := skB_row HL.out (fun h => hst (by rw [HS.out]; exact h.2.2))
          clear hst
          go_wp2_with fail
          go_ret
          exact ⟨by rw [Hno.out]; rfl, HBp.out⟩
        case pos =>
          have hb : (s != t) = false := by simp [hst]
          have HF : Hid (∀ (j : Nat) (l : List Int), j < k + 1 → D[j]? = some l → l.length = 16 ∧ RowP l t) := fun j l' hj hl' => by
            by_cases e : j = k
            · subst e; rw [HL.out] at hl'; obtain rfl := Option.some.inj hl'; exact ⟨HM.out.symm, fun x hx => (hA.out x hx).1, by rw [← HS.out]; exact hst⟩
            · exact hF.out j l' (by omega) hl'
          have HBn : Hid (Below q11.heap.size q11 wp) := hB.out.trans (hB2.out.mono (by omega))
          clear hst hF
          go_wp2_with fail
          go_roundw
          case rel => exact ⟨k + 1, by omega, by go_num, HF, HBn⟩
          case measure => simp [intOf]; omega
      case pos =>
      obtain ⟨z, hz⟩ : ∃ z, l[u]? = some z := ⟨_, List.getElem?_eq_getElem (by rw [← HM.out]; exact hlu)⟩
      obtain ⟨g, rfl, _, hg, e0⟩ := row1_cell HRow.out hz
      have j3 : wp.cell? ⟨g, u, none⟩ = some (.int .i64 z) := by rw [hB2.out.cell (p := ⟨g, u, none⟩) (by show g < _; omega)]; exact e0
      have u0 : (0 : Int) ≤ (u : Int) := by omega
      have u1 : (u : Int) < 16 := by omega
      have hz2 := Lib.hid hz
      have hsn : Hid (sumL (l.take (u + 1)) = sumL (l.take u) + z) := sumL_take hz
      have gw : g < wp.heap.size := by omega
      have Gw : G < wp.heap.size := by omega
      have ww : w.heap.size < wp.heap.size := by omega
      clear hz e0
      cases hzi : inB z 0 t with
      | false =>
        have Hno : Hid (skB t D = false) := skB_row HL.out (fun h => by
          have := h.2.le hz2.out
          rw [inB_true this.1 this.2] at hzi
          simp at hzi)
        go_wp2_with fail
        refine wp_region_held_drew (S := (fun w' => w'.cell? ⟨w.heap.size, 0, none⟩ = some (.slice (some ⟨G, 0, none⟩) 4 cp) ∧ w'.cell? ⟨w.heap.size, 1, none⟩ = some (.int .i64 t) ∧ w'.cell? ⟨G, k, none⟩ = some (.slice (some ⟨g, 0, none⟩) 16 y) ∧ w'.cell? ⟨g, u, none⟩ = some (.int .i64 z) ∧ wp.heap.size ≤ w'.heap.size ∧ Below wp.heap.size wp w')) (by kernel_rfl) ?_ (fun hHeld => ?_)
        · (first | assumption | exact rr4_start j0 j1 j2 j3 | exact rr4_drew (by assumption) | exact rr4_keep (by omega) (by omega) (by omega) (by omega) (by assumption) (by assumption) | fail)
        refine step_read 0 31 rfl rfl (by kernel_rfl) (by kernel_rfl) (by kernel_rfl) (fun _ _ _ h => h) (by rfl) (v := ?_) (fun w hSw => ?_) (by assumption) ?_; rotate_left; (focus ((try dsimp only at hSw); go_simp; first | done | exact rfl)); simp only [List.set]
        refine step_read 1 32 rfl rfl (by kernel_rfl) (by kernel_rfl) (by kernel_rfl) (fun _ _ _ h => h) (by rfl) (v := ?_) (fun w hSw => ?_) (by assumption) ?_; rotate_left; (focus ((try dsimp only at hSw); go_simp; first | done | exact rfl)); simp only [List.set]
        refine step_read 2 33 rfl rfl (by kernel_rfl) (by kernel_rfl) (by kernel_rfl) (fun _ _ _ h => h) (by rfl) (v := ?_) (fun w hSw => ?_) (by assumption) ?_; rotate_left; (focus ((try dsimp only at hSw); go_simp; first | done | exact rfl)); simp only [List.set]
        refine step_read 3 34 rfl rfl (by kernel_rfl) (by kernel_rfl) (by kernel_rfl) (fun _ _ _ h => h) (by rfl) (v := ?_) (fun w hSw => ?_) (by assumption) ?_; rotate_left; (focus ((try dsimp only at hSw); go_simp; first | done | exact rfl)); simp only [List.set]
        refine step_read 4 35 rfl rfl (by kernel_rfl) (by kernel_rfl) (by kernel_rfl) (fun _ _ _ h => h) (by rfl) (v := ?_) (fun w hSw => ?_) (by assumption) ?_; rotate_left; (focus ((try dsimp only at hSw); go_simp; first | done | exact rfl)); simp only [List.set]
        refine step_read 5 36 rfl rfl (by kernel_rfl) (by kernel_rfl) (by kernel_rfl) (fun _ _ _ h => h) (by rfl) (v := ?_) (fun w hSw => ?_) (by assumption) ?_; rotate_left; (focus ((try dsimp only at hSw); go_simp; first | done | exact rfl)); simp only [List.set]
        refine step_read 6 37 rfl rfl (by kernel_rfl) (by kernel_rfl) (by kernel_rfl) (fun _ _ _ h => h) (by rfl) (v := ?_) (fun w hSw => ?_) (by assumption) ?_; rotate_left; (focus ((try dsimp only at hSw); go_simp; first | done | exact rfl)); simp only [List.set]
        refine step_read 7 38 rfl rfl (by kernel_rfl) (by kernel_rfl) (by kernel_rfl) (fun _ _ _ h => h) (by rfl) (v := ?_) (fun w hSw => ?_) (by assumption) ?_; rotate_left; (focus ((try dsimp only at hSw); go_simp; first | done | exact rfl)); simp only [List.set]
        refine step_read 8 39 rfl rfl (by kernel_rfl) (by kernel_rfl) (by kernel_rfl) (fun _ _ _ h => h) (by rfl) (v := ?_) (fun w hSw => ?_) (by assumption) ?_; rotate_left; (focus ((try dsimp only at hSw); go_simp; first | done | exact rfl)); simp only [List.set]
        refine step_read 9 40 rfl rfl (by kernel_rfl) (by kernel_rfl) (by kernel_rfl) (fun _ _ _ h => h) (by rfl) (v := ?_) (fun w hSw => ?_) (by assumption) ?_; rotate_left; (focus ((try dsimp only at hSw); go_simp; first | done | exact rfl)); simp only [List.set]
        (refine wpAnyH_ready (rs := [10]) (by kernel_rfl) (by simp) ?_; refine AllReadyH.cons rfl (fun K hK => ?_) AllReadyH.nil; go_simp; (go_at_call 61; refine (in_any z 0 t _).mono ?_; rw [hzi]; rintro e w2 ⟨rfl, rfl⟩); refine hK.out _ _ ?_ (fun hHeld => ?_); (focus ((first | assumption | exact rr4_start j0 j1 j2 j3 | exact rr4_drew (by assumption) | exact rr4_keep (by omega) (by omega) (by omega) (by omega) (by assumption) (by assumption) | fail))); clear hK K)
        refine step_read 11 42 rfl rfl (by kernel_rfl) (by kernel_rfl) (by kernel_rfl) (fun _ _ _ h => h) (by rfl) (v := ?_) (fun w hSw => ?_) (by assumption) ?_; rotate_left; (focus ((try dsimp only at hSw); go_simp; first | done | exact rfl)); simp only [List.set]
        refine wpAnyH_done (by kernel_rfl) ?_ _
        go_wp2_with fail
        go_ret
        exact ⟨by rw [Hno.out]; rfl, HBp.out.trans ((rr4_out (by assumption)).2.mono (by omega))⟩
      | true =>
        obtain ⟨y1, y2⟩ := inB_iff.1 hzi
        have HAn : Hid (∀ x ∈ l.take (u + 1), 0 ≤ x ∧ x ≤ t) := fun x hx => by
          rw [take_snoc3 hz2.out, List.mem_append, List.mem_singleton] at hx
          rcases hx with hx | rfl
          · exact hA.out x hx
          · exact ⟨y1, y2⟩
        obtain ⟨s, hs⟩ : ∃ s, s = sumL (l.take u) := ⟨_, rfl⟩
        have HS := Lib.hid hs
        rw [← hs] at hsb2 ⊢
        have ws : IntKind.i64.wrap (s + z) = s + z := IntWalk.i64_in _ (by omega)
        clear hs hA
        go_wp2_with fail
        refine wp_region_held_drew (S := (fun w' => w'.cell? ⟨w.heap.size, 0, none⟩ = some (.slice (some ⟨G, 0, none⟩) 4 cp) ∧ w'.cell? ⟨w.heap.size, 1, none⟩ = some (.int .i64 t) ∧ w'.cell? ⟨G, k, none⟩ = some (.slice (some ⟨g, 0, none⟩) 16 y) ∧ w'.cell? ⟨g, u, none⟩ = some (.int .i64 z) ∧ wp.heap.size ≤ w'.heap.size ∧ Below wp.heap.size wp w')) (by kernel_rfl) ?_ (fun hHeld => ?_)
        · (first | assumption | exact rr4_start j0 j1 j2 j3 | exact rr4_drew (by assumption) | exact rr4_keep (by omega) (by omega) (by omega) (by omega) (by assumption) (by assumption) | fail)
        refine step_read 0 31 rfl rfl (by kernel_rfl) (by kernel_rfl) (by kernel_rfl) (fun _ _ _ h => h) (by rfl) (v := ?_) (fun w hSw => ?_) (by assumption) ?_; rotate_left; (focus ((try dsimp only at hSw); go_simp; first | done | exact rfl)); simp only [List.set]
        refine step_read 1 32 rfl rfl (by kernel_rfl) (by kernel_rfl) (by kernel_rfl) (fun _ _ _ h => h) (by rfl) (v := ?_) (fun w hSw => ?_) (by assumption) ?_; rotate_left; (focus ((try dsimp only at hSw); go_simp; first | done | exact rfl)); simp only [List.set]
        refine step_read 2 33 rfl rfl (by kernel_rfl) (by kernel_rfl) (by kernel_rfl) (fun _ _ _ h => h) (by rfl) (v := ?_) (fun w hSw => ?_) (by assumption) ?_; rotate_left; (focus ((try dsimp only at hSw); go_simp; first | done | exact rfl)); simp only [List.set]
        refine step_read 3 34 rfl rfl (by kernel_rfl) (by kernel_rfl) (by kernel_rfl) (fun _ _ _ h => h) (by rfl) (v := ?_) (fun w hSw => ?_) (by assumption) ?_; rotate_left; (focus ((try dsimp only at hSw); go_simp; first | done | exact rfl)); simp only [List.set]
        refine step_read 4 35 rfl rfl (by kernel_rfl) (by kernel_rfl) (by kernel_rfl) (fun _ _ _ h => h) (by rfl) (v := ?_) (fun w hSw => ?_) (by assumption) ?_; rotate_left; (focus ((try dsimp only at hSw); go_simp; first | done | exact rfl)); simp only [List.set]
        refine step_read 5 36 rfl rfl (by kernel_rfl) (by kernel_rfl) (by kernel_rfl) (fun _ _ _ h => h) (by rfl) (v := ?_) (fun w hSw => ?_) (by assumption) ?_; rotate_left; (focus ((try dsimp only at hSw); go_simp; first | done | exact rfl)); simp only [List.set]
        refine step_read 6 37 rfl rfl (by kernel_rfl) (by kernel_rfl) (by kernel_rfl) (fun _ _ _ h => h) (by rfl) (v := ?_) (fun w hSw => ?_) (by assumption) ?_; rotate_left; (focus ((try dsimp only at hSw); go_simp; first | done | exact rfl)); simp only [List.set]
        refine step_read 7 38 rfl rfl (by kernel_rfl) (by kernel_rfl) (by kernel_rfl) (fun _ _ _ h => h) (by rfl) (v := ?_) (fun w hSw => ?_) (by assumption) ?_; rotate_left; (focus ((try dsimp only at hSw); go_simp; first | done | exact rfl)); simp only [List.set]
        refine step_read 8 39 rfl rfl (by kernel_rfl) (by kernel_rfl) (by kernel_rfl) (fun _ _ _ h => h) (by rfl) (v := ?_) (fun w hSw => ?_) (by assumption) ?_; rotate_left; (focus ((try dsimp only at hSw); go_simp; first | done | exact rfl)); simp only [List.set]
        refine step_read 9 40 rfl rfl (by kernel_rfl) (by kernel_rfl) (by kernel_rfl) (fun _ _ _ h => h) (by rfl) (v := ?_) (fun w hSw => ?_) (by assumption) ?_; rotate_left; (focus ((try dsimp only at hSw); go_simp; first | done | exact rfl)); simp only [List.set]
        (refine wpAnyH_ready (rs := [10]) (by kernel_rfl) (by simp) ?_; refine AllReadyH.cons rfl (fun K hK => ?_) AllReadyH.nil; go_simp; (go_at_call 61; refine (in_any z 0 t _).mono ?_; rw [hzi]; rintro e w2 ⟨rfl, rfl⟩); refine hK.out _ _ ?_ (fun hHeld => ?_); (focus ((first | assumption | exact rr4_start j0 j1 j2 j3 | exact rr4_drew (by assumption) | exact rr4_keep (by omega) (by omega) (by omega) (by omega) (by assumption) (by assumption) | fail))); clear hK K)
        refine step_read 11 42 rfl rfl (by kernel_rfl) (by kernel_rfl) (by kernel_rfl) (fun _ _ _ h => h) (by rfl) (v := ?_) (fun w hSw => ?_) (by assumption) ?_; rotate_left; (focus ((try dsimp only at hSw); go_simp; first | done | exact rfl)); simp only [List.set]
        refine wpAnyH_done (by kernel_rfl) ?_ _
        have HBn : Hid (Below wo.heap.size wo _) := hB2.out.trans ((rr4_out (by assumption)).2.mono (by omega))
        go_wp2_with fail
        go_roundw
        case rel => exact ⟨u + 1, by omega, by go_num, by rw [hsn.out, ← HS.out], HAn, HBn⟩
        case measure => simp [intOf]; omega

end Go.Proofs.Ytophppnllkadoaa
