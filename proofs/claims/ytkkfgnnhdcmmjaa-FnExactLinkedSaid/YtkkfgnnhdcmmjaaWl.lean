/- Linked: both sides. -/
import Derived.Test.YtkkfgnnhdcmmjaaWj
import Derived.Test.YtkkfgnnhdcmmjaaReg
namespace Go.Proofs.Ytkkfgnnhdcmmjaa
open Go.RowKit


/-- Whether a list holds a number. -/
def hasB (Z : List Int) (x : Int) : Bool := Z.any fun z => z == x
theorem hasB_yes {Z : List Int} {x : Int} {i : Nat} (h : Z[i]? = some x) : hasB Z x = true := by
  unfold hasB
  exact List.any_eq_true.2 ⟨x, List.mem_of_getElem? h, by simp⟩
theorem hasB_no {Z : List Int} {x : Int} (h : ∀ (i : Nat) z, Z[i]? = some z → z ≠ x) : hasB Z x = false := by
  unfold hasB
  rw [List.any_eq_false]
  intro z hz
  obtain ⟨i, hi⟩ := List.mem_iff_getElem?.1 hz
  simpa using h i z hi
set_option maxRecDepth 100000 in
set_option maxHeartbeats 2400000 in
theorem has_any (Z : List Int) (lo hi n : Nat) (v : Value) (x : Int) (w : World) (hr : Row 1 w lo hi v n Z) :
    Calls Try.prog 63 #[v, .int .i64 x] w fun e w' => e = .returned (.bool (hasB Z x)) ∧ w = w' := by
  have hZl : Z.length = n := by have := hr.1; omega
  obtain ⟨ad, cp, rfl, hn, hc⟩ := hr.opened
  have HC := Lib.hid hc
  have HZ := Lib.hid hZl
  clear hc hr hZl
  go_enter Try.func63, Try.ntmps63
  go_wp2
  go_loop [5] (fun i => ∃ k : Nat, k ≤ n ∧ i = .int .i64 (k : Int) ∧ Hid (∀ (i : Nat) z, i < k → Z[i]? = some z → z ≠ x)) (fun i => n - (intOf i).toNat)
  case atStart => exact ⟨0, Nat.zero_le _, rfl, fun i z hi => absurd hi (Nat.not_lt_zero _)⟩
  case round =>
    obtain ⟨k, hk, rfl, hR⟩ := hrel
    by_cases hlt : k < n
    · obtain ⟨g, rfl, hg, hcell⟩ := HC.out (by omega)
      obtain ⟨z, hz⟩ : ∃ z, Z[k]? = some z := ⟨Z[k]'(by rw [HZ.out]; exact hlt), List.getElem?_eq_getElem _⟩
      have z0 : w.cell? ⟨g, k, none⟩ = some (.int .i64 z) := hcell _ _ hz
      have q0 : (0 : Int) ≤ (k : Int) := by omega
      have q1 : (k : Int) < (n : Int) := by omega
      have Hz := Lib.hid hz
      clear hcell hz
      by_cases h : z = x
      · have e1 : (z == x) = true := by simp [h]
        have e2 : Hid (hasB Z x = true) := by show _ = _; rw [← h]; exact hasB_yes Hz.out
        clear h
        go_wp2
        go_ret
        exact ⟨by rw [e2.out]; rfl, rfl⟩
      · have e1 : (z == x) = false := by simp [h]
        have HE : Hid (∀ (i : Nat) z, i < k + 1 → Z[i]? = some z → z ≠ x) := fun i y hi hy => by
          by_cases e : i = k
          · subst e; rw [Hz.out] at hy; cases hy; exact h
          · exact hR.out i y (by omega) hy
        clear h hR
        go_wp2
        go_round
        case rel => exact ⟨k + 1, by omega, by go_num, HE⟩
        case measure => simp [intOf]; omega
    · obtain rfl : n = k := by omega
      have hge : ¬ ((n : Int) < (n : Int)) := by omega
      have e2 : Hid (hasB Z x = false) := by
        show _ = _
        exact hasB_no fun i z hi => hR.out i z (by obtain ⟨h, _⟩ := List.getElem?_eq_some_iff.1 hi; rw [HZ.out] at h; exact h) hi
      clear hR
      go_wp2
      go_ret
      exact ⟨by rw [e2.out]; rfl, rfl⟩
def linkB (N : Int) (L : List Ed) : Bool := gok N L && !(hasB (distL N L 0) 1000000)
theorem sub_len : ∀ (l m : List Int), l.Pairwise (fun a b => a ≠ b) → (∀ x ∈ l, x ∈ m) → l.length ≤ m.length
  | [], _, _, _ => Nat.zero_le _
  | a :: l, m, hp, hm => by
    rw [List.pairwise_cons] at hp
    have ha := hm a (List.mem_cons_self)
    have := sub_len l (m.erase a) hp.2 (fun x hx => (List.mem_erase_of_ne (fun e => hp.1 x hx e.symm)).2 (hm x (List.mem_cons_of_mem _ hx)))
    rw [List.length_erase_of_mem ha] at this
    have h1 : 0 < m.length := List.length_pos_of_mem ha
    simp only [List.length_cons]; omega
theorem link_found {N : Int} {L : List Ed} {P : List Tr} (hG : gok N L = true) (h : Found L 0 P) : ((P.length : Int) == N) = linkB N L := by
  have hN := gok_parts hG
  have hs : (0 : Int) ≤ 0 ∧ (0 : Int) < N := ⟨Int.le_refl _, by omega⟩
  obtain ⟨M, hM⟩ : ∃ M : Nat, N = (M : Int) := ⟨N.toNat, by omega⟩
  have hcnt := h.count hG hs
  have hdl : distL N L 0 = tabI M (dsT N L 0) := by
    subst hM
    unfold distL
    rw [show distN (M : Int) L 0 = M from distN_yes (s := 0) hG (by omega)]
    rfl
  unfold linkB
  rw [hG, Bool.true_and, hdl]
  by_cases hall : ∀ i : Nat, i < M → ∃ t ∈ P, lastN t = (i : Int)
  · have h1 : M ≤ P.length := by
      have := sub_len ((List.range M).map fun (i : Nat) => (i : Int)) (P.map lastN) (by
        rw [List.pairwise_map]
        exact (List.nodup_range).imp (fun hne e => hne (by omega))) (fun x hx => by
        obtain ⟨i, hi, rfl⟩ := List.mem_map.1 hx
        obtain ⟨t, ht, e⟩ := hall i (List.mem_range.1 hi)
        exact List.mem_map.2 ⟨t, ht, e⟩)
      simpa using this
    have h2 : hasB (tabI M (dsT N L 0)) 1000000 = false := hasB_no fun i z hz => by
      have hi : i < M := by obtain ⟨h, _⟩ := List.getElem?_eq_some_iff.1 hz; rwa [tabI_len] at h
      rw [tabI_at _ hi] at hz
      obtain ⟨t, ht, e⟩ := hall i hi
      have h3 := h.dis hG hs ht
      rw [e] at h3
      have h4 := h.cost hG hs ht
      have := Option.some.inj hz
      omega
    rw [h2]
    simp; omega
  · have hall' : ∃ i : Nat, i < M ∧ ∀ t ∈ P, lastN t ≠ (i : Int) := by
      refine Classical.byContradiction fun hn => hall fun i hi => Classical.byContradiction fun hn2 => hn ⟨i, hi, fun t ht e => hn2 ⟨t, ht, e⟩⟩
    obtain ⟨i, hi, hne⟩ := hall'
    have h2 : hasB (tabI M (dsT N L 0)) 1000000 = true := hasB_yes (i := i) (by rw [tabI_at _ hi, h.far hG hne]; rfl)
    have h1 : P.length + 1 ≤ M := by
      have := nodup_bound M ((i : Int) :: P.map lastN) (List.pairwise_cons.2 ⟨fun x hx => by
        obtain ⟨t, ht, rfl⟩ := List.mem_map.1 hx
        exact fun e => hne t ht e.symm, List.pairwise_map.2 h.dist⟩) (fun x hx => by
        rcases List.mem_cons.1 hx with rfl | hx
        · omega
        · obtain ⟨t, ht, rfl⟩ := List.mem_map.1 hx
          have := ((h.best t ht).1.bounds hG hs).2.2.2.1
          omega)
      simpa using this
    rw [h2]
    simp; omega

set_option maxRecDepth 100000 in
set_option maxHeartbeats 2400000 in
theorem slink_any (N : Int) (lo hi n : Nat) (v : Value) (L : List Ed) (w : World) (hL : L.length = n) (hr : Row 3 w lo hi v n (flat L)) (hh : hi ≤ w.heap.size) :
    Calls Try.prog 33 #[.agg #[.int .i64 N, v]] w fun e w' => e = .returned (.bool (linkB N L)) ∧ Below w.heap.size w w' := by
  have HR := Lib.hid hr
  obtain ⟨ad, cp, rfl⟩ := hr.slice
  clear hr
  by_cases hG : gok N L = true
  · have e0 : Hid (linkB N L = !(hasB (distL N L 0) 1000000)) := by show _ = _; unfold linkB; rw [hG]; rfl
    go_enter Try.func33, Try.ntmps33
    go_wp2_with fail
    go_at_call 50
    refine (sgok_any N lo hi n _ L _ hL (HR.out.below (B := w.heap.size) (by go_grown) (by omega)) (by simp; omega)).mono ?_
    rw [hG]
    rintro e v1 ⟨rfl, hb1⟩
    have sz1 : w.heap.size + 1 ≤ v1.heap.size := by have hh := hb1.size; simp at hh; omega
    have st1 : Below w.heap.size w v1 := Below.trans (by go_grown) (hb1.mono (by simp))
    have c1_0 : v1.cell? ⟨w.heap.size, 0, none⟩ = some (.int .i64 N) := by rw [(bcell hb1).1 _ _ (by simp)]; first | (rw [new_at (by simp)]; rfl) | simp
    have c1_1 : v1.cell? ⟨w.heap.size, 1, none⟩ = some (.slice ad n cp) := by rw [(bcell hb1).1 _ _ (by simp)]; first | (rw [new_at (by simp)]; rfl) | simp
    have B1 : Hid (Below w.heap.size w v1) := st1
    have R1_0 : Hid (Row 3 v1 (lo) (hi) (.slice ad n cp) n (flat L)) := HR.out.below st1 (by omega)
    have d1_0 : w.heap.size < v1.heap.size := by omega
    have e1_0 : w.heap.size ≠ v1.heap.size := by omega
    clear st1 HR hb1
    go_wp2_with fail
    go_at_call 16
    refine (sdist_any N lo hi n _ L 0 _ hL R1_0.out (by omega)).mono ?_
    rintro e v2 ⟨dv, rfl, hrd, hb2⟩
    have sz2 : v1.heap.size ≤ v2.heap.size := hb2.size
    have st2 : Below v1.heap.size v1 v2 := hb2
    have c2_0 : v2.cell? ⟨w.heap.size, 0, none⟩ = some (.int .i64 N) := by rw [(bcell st2).1 _ _ (by omega)]; exact c1_0
    have c2_1 : v2.cell? ⟨w.heap.size, 1, none⟩ = some (.slice ad n cp) := by rw [(bcell st2).1 _ _ (by omega)]; exact c1_1
    have B2 : Hid (Below w.heap.size w v2) := B1.out.trans (st2.mono (by omega))
    have R2_0 : Hid (Row 3 v2 (lo) (hi) (.slice ad n cp) n (flat L)) := R1_0.out.below st2 (by omega)
    have d2_0 : w.heap.size < v2.heap.size := by omega
    have e2_0 : w.heap.size ≠ v2.heap.size := by omega
    clear d1_0 e1_0 c1_0 c1_1 B1 st2 R1_0 hb2
    have HD := Lib.hid hrd
    clear hrd
    go_wp2_with fail
    go_at_call 63
    refine (has_any _ _ _ _ _ _ _ HD.out).mono ?_
    rintro e w' ⟨rfl, rfl⟩
    go_wp2_with fail
    go_ret
    exact ⟨by rw [e0.out]; rfl, B2.out⟩
  · rw [Bool.not_eq_true] at hG
    have e0 : Hid (linkB N L = false) := by show _ = _; unfold linkB; rw [hG]; rfl
    go_enter Try.func33, Try.ntmps33
    go_wp2_with fail
    go_at_call 50
    refine (sgok_any N lo hi n _ L _ hL (HR.out.below (B := w.heap.size) (by go_grown) (by omega)) (by simp; omega)).mono ?_
    rw [hG]
    rintro e v1 ⟨rfl, hb1⟩
    have sz1 : w.heap.size + 1 ≤ v1.heap.size := by have hh := hb1.size; simp at hh; omega
    have st1 : Below w.heap.size w v1 := Below.trans (by go_grown) (hb1.mono (by simp))
    have c1_0 : v1.cell? ⟨w.heap.size, 0, none⟩ = some (.int .i64 N) := by rw [(bcell hb1).1 _ _ (by simp)]; first | (rw [new_at (by simp)]; rfl) | simp
    have c1_1 : v1.cell? ⟨w.heap.size, 1, none⟩ = some (.slice ad n cp) := by rw [(bcell hb1).1 _ _ (by simp)]; first | (rw [new_at (by simp)]; rfl) | simp
    have B1 : Hid (Below w.heap.size w v1) := st1
    have R1_0 : Hid (Row 3 v1 (lo) (hi) (.slice ad n cp) n (flat L)) := HR.out.below st1 (by omega)
    have d1_0 : w.heap.size < v1.heap.size := by omega
    have e1_0 : w.heap.size ≠ v1.heap.size := by omega
    clear st1 HR hb1
    go_wp2_with fail
    go_ret
    exact ⟨by rw [e0.out]; rfl, B1.out⟩

set_option maxRecDepth 100000 in
set_option maxHeartbeats 2400000 in
theorem ilink_any (N : Int) (lo hi n : Nat) (v : Value) (L : List Ed) (w : World) (hL : L.length = n) (hr : Row 3 w lo hi v n (flat L)) (hh : hi ≤ w.heap.size) :
    Calls Try.prog 34 #[.agg #[.int .i64 N, v]] w fun e w' => e = .returned (.bool (linkB N L)) ∧ Below w.heap.size w w' := by
  have HR := Lib.hid hr
  obtain ⟨ad, cp, rfl⟩ := hr.slice
  clear hr
  by_cases hG : gok N L = true
  · have hN1 := (gok_parts hG).1
    have hN2 := (gok_parts hG).2.1
    have hkk :  (w.alloc (.cells #[.int .i64 N, .slice ad n cp] 30)).cell? ⟨w.heap.size, 0, none⟩ = some (.int .i64 N) ∧ (w.alloc (.cells #[.int .i64 N, .slice ad n cp] 30)).cell? ⟨w.heap.size, 1, none⟩ = some (.slice ad n cp) ∧ w.heap.size < (w.alloc (.cells #[.int .i64 N, .slice ad n cp] 30)).heap.size ∧ Below w.heap.size w (w.alloc (.cells #[.int .i64 N, .slice ad n cp] 30)) := ⟨by simp, by simp, by simp, by go_grown⟩
    go_enter Try.func34, Try.ntmps34
    go_wp2_with fail
    refine wp_region_held_drew (S := (fun w' => w'.cell? ⟨w.heap.size, 0, none⟩ = some (.int .i64 N) ∧ w'.cell? ⟨w.heap.size, 1, none⟩ = some (.slice ad n cp) ∧ w.heap.size < w'.heap.size ∧ Below w.heap.size w w')) (by kernel_rfl) ?_ (fun hHeld => ?_)
    · (first | assumption | exact rk2_drew hkk | exact rk2_drew (by assumption) | exact rk2_keep (by omega) (by omega) (by omega) (by assumption) (by assumption))
    refine step_read 0 3 rfl rfl (by kernel_rfl) (by kernel_rfl) (by kernel_rfl) (fun _ _ _ h => h) (by rfl) (v := ?_) (fun w hSw => ?_) (by assumption) ?_; rotate_left; (focus ((try dsimp only at hSw); go_simp; first | done | exact rfl)); simp only [List.set]
    (refine wpAnyH_ready (rs := [1]) (by kernel_rfl) (by simp) ?_; refine AllReadyH.cons rfl (fun K hK => ?_) AllReadyH.nil; go_simp; (go_at_call 53; refine (igok_any N lo hi n _ L _ hL (HR.out.below (rk2_out (by assumption)).2 hh) (by have hq := (rk2_out (by assumption)).1; omega)).mono ?_; rw [hG]; rintro e w2 ⟨rfl, hb⟩); refine hK.out _ _ ?_ (fun hHeld => ?_); (focus ((first | assumption | exact rk2_drew hkk | exact rk2_drew (by assumption) | exact rk2_keep (by omega) (by omega) (by omega) (by assumption) (by assumption)))); clear hK K)
    refine step_read 2 5 rfl rfl (by kernel_rfl) (by kernel_rfl) (by kernel_rfl) (fun _ _ _ h => h) (by rfl) (v := ?_) (fun w hSw => ?_) (by assumption) ?_; rotate_left; (focus ((try dsimp only at hSw); go_simp; first | done | exact rfl)); simp only [List.set]
    refine step_read 3 6 rfl rfl (by kernel_rfl) (by kernel_rfl) (by kernel_rfl) (fun _ _ _ h => h) (by rfl) (v := ?_) (fun w hSw => ?_) (by assumption) ?_; rotate_left; (focus ((try dsimp only at hSw); go_simp; first | done | exact rfl)); simp only [List.set]
    refine step_read 6 9 rfl rfl (by kernel_rfl) (by kernel_rfl) (by kernel_rfl) (fun _ _ _ h => h) (by rfl) (v := ?_) (fun w hSw => ?_) (by assumption) ?_; rotate_left; (focus ((try dsimp only at hSw); go_simp; first | done | exact rfl)); simp only [List.set]
    refine step_read 7 10 rfl rfl (by kernel_rfl) (by kernel_rfl) (by kernel_rfl) (fun _ _ _ h => h) (by rfl) (v := ?_) (fun w hSw => ?_) (by assumption) ?_; rotate_left; (focus ((try dsimp only at hSw); go_simp; first | done | exact rfl)); simp only [List.set]
    (refine wpAnyH_ready (rs := [4]) (by kernel_rfl) (by simp) ?_; refine AllReadyH.cons rfl (fun K hK => ?_) AllReadyH.nil; go_simp; (go_at_call 56; refine (trails_any N 0 lo hi n _ L _ hG hL (HR.out.below (rk2_out (by assumption)).2 hh) (by have hq := (rk2_out (by assumption)).1; omega) ⟨by omega, by omega⟩).mono ?_; rintro e w2 ⟨P, vt, rfl, hF, hPl, hown, hN, hb⟩; have HF := Lib.hid hF; obtain ⟨ta, tc, ht⟩ := own_slice hown; subst ht; clear hF hown hN); refine hK.out _ _ ?_ (fun hHeld => ?_); (focus ((first | assumption | exact rk2_drew hkk | exact rk2_drew (by assumption) | exact rk2_keep (by omega) (by omega) (by omega) (by assumption) (by assumption)))); clear hK K)
    refine step_read 5 8 rfl rfl (by kernel_rfl) (by kernel_rfl) (by kernel_rfl) (fun _ _ _ h => h) (by rfl) (v := ?_) (fun w hSw => ?_) (by assumption) ?_; rotate_left; (focus ((try dsimp only at hSw); go_simp; first | done | exact rfl)); simp only [List.set]
    refine step_read 8 11 rfl rfl (by kernel_rfl) (by kernel_rfl) (by kernel_rfl) (fun _ _ _ h => h) (by rfl) (v := ?_) (fun w hSw => ?_) (by assumption) ?_; rotate_left; (focus ((try dsimp only at hSw); go_simp; first | done | exact rfl)); simp only [List.set]
    refine step_read 9 12 rfl rfl (by kernel_rfl) (by kernel_rfl) (by kernel_rfl) (fun _ _ _ h => h) (by rfl) (v := ?_) (fun w hSw => ?_) (by assumption) ?_; rotate_left; (focus ((try dsimp only at hSw); go_simp; first | done | exact rfl)); simp only [List.set]
    refine step_read 10 2 rfl rfl (by kernel_rfl) (by kernel_rfl) (by kernel_rfl) (fun _ _ _ h => h) (by rfl) (v := ?_) (fun w hSw => ?_) (by assumption) ?_; rotate_left; (focus ((try dsimp only at hSw); go_simp; first | done | exact rfl)); simp only [List.set]
    refine wpAnyH_done (by kernel_rfl) ?_ _
    have e1 : ((P.map TV.key).length : Int) = (P.length : Int) := by simp
    have e0 : Hid (((P.length : Int) == N) = linkB N L) := by show _ = _; rw [← e1]; exact link_found hG HF.out
    go_wp2_with fail
    go_ret
    exact ⟨by rw [← e0.out]; rfl, (rk2_out (by assumption)).2⟩
  · rw [Bool.not_eq_true] at hG
    have e0 : Hid (linkB N L = false) := by show _ = _; unfold linkB; rw [hG]; rfl
    have hkk :  (w.alloc (.cells #[.int .i64 N, .slice ad n cp] 30)).cell? ⟨w.heap.size, 0, none⟩ = some (.int .i64 N) ∧ (w.alloc (.cells #[.int .i64 N, .slice ad n cp] 30)).cell? ⟨w.heap.size, 1, none⟩ = some (.slice ad n cp) ∧ w.heap.size < (w.alloc (.cells #[.int .i64 N, .slice ad n cp] 30)).heap.size ∧ Below w.heap.size w (w.alloc (.cells #[.int .i64 N, .slice ad n cp] 30)) := ⟨by simp, by simp, by simp, by go_grown⟩
    go_enter Try.func34, Try.ntmps34
    go_wp2_with fail
    refine wp_region_held_drew (S := (fun w' => w'.cell? ⟨w.heap.size, 0, none⟩ = some (.int .i64 N) ∧ w'.cell? ⟨w.heap.size, 1, none⟩ = some (.slice ad n cp) ∧ w.heap.size < w'.heap.size ∧ Below w.heap.size w w')) (by kernel_rfl) ?_ (fun hHeld => ?_)
    · (first | assumption | exact rk2_drew hkk | exact rk2_drew (by assumption) | exact rk2_keep (by omega) (by omega) (by omega) (by assumption) (by assumption))
    refine step_read 0 3 rfl rfl (by kernel_rfl) (by kernel_rfl) (by kernel_rfl) (fun _ _ _ h => h) (by rfl) (v := ?_) (fun w hSw => ?_) (by assumption) ?_; rotate_left; (focus ((try dsimp only at hSw); go_simp; first | done | exact rfl)); simp only [List.set]
    (refine wpAnyH_ready (rs := [1]) (by kernel_rfl) (by simp) ?_; refine AllReadyH.cons rfl (fun K hK => ?_) AllReadyH.nil; go_simp; (go_at_call 53; refine (igok_any N lo hi n _ L _ hL (HR.out.below (rk2_out (by assumption)).2 hh) (by have hq := (rk2_out (by assumption)).1; omega)).mono ?_; rw [hG]; rintro e w2 ⟨rfl, hb⟩); refine hK.out _ _ ?_ (fun hHeld => ?_); (focus ((first | assumption | exact rk2_drew hkk | exact rk2_drew (by assumption) | exact rk2_keep (by omega) (by omega) (by omega) (by assumption) (by assumption)))); clear hK K)
    refine step_read 2 5 rfl rfl (by kernel_rfl) (by kernel_rfl) (by kernel_rfl) (fun _ _ _ h => h) (by rfl) (v := ?_) (fun w hSw => ?_) (by assumption) ?_; rotate_left; (focus ((try dsimp only at hSw); go_simp; first | done | exact rfl)); simp only [List.set]
    refine step_skip 3 6 rfl rfl (by kernel_rfl) (by kernel_rfl) (by kernel_rfl) (fun _ _ _ h => h) (by rfl) (by assumption) ?_; simp only [List.set]
    refine step_skip 4 7 rfl rfl (by kernel_rfl) (by kernel_rfl) (by kernel_rfl) (fun _ _ _ h => h) (by rfl) (by assumption) ?_; simp only [List.set]
    refine step_skip 5 8 rfl rfl (by kernel_rfl) (by kernel_rfl) (by kernel_rfl) (fun _ _ _ h => h) (by rfl) (by assumption) ?_; simp only [List.set]
    refine step_skip 6 9 rfl rfl (by kernel_rfl) (by kernel_rfl) (by kernel_rfl) (fun _ _ _ h => h) (by rfl) (by assumption) ?_; simp only [List.set]
    refine step_skip 7 10 rfl rfl (by kernel_rfl) (by kernel_rfl) (by kernel_rfl) (fun _ _ _ h => h) (by rfl) (by assumption) ?_; simp only [List.set]
    refine step_skip 8 11 rfl rfl (by kernel_rfl) (by kernel_rfl) (by kernel_rfl) (fun _ _ _ h => h) (by rfl) (by assumption) ?_; simp only [List.set]
    refine step_read 9 12 rfl rfl (by kernel_rfl) (by kernel_rfl) (by kernel_rfl) (fun _ _ _ h => h) (by rfl) (v := ?_) (fun w hSw => ?_) (by assumption) ?_; rotate_left; (focus ((try dsimp only at hSw); go_simp; first | done | exact rfl)); simp only [List.set]
    refine step_read 10 2 rfl rfl (by kernel_rfl) (by kernel_rfl) (by kernel_rfl) (fun _ _ _ h => h) (by rfl) (v := ?_) (fun w hSw => ?_) (by assumption) ?_; rotate_left; (focus ((try dsimp only at hSw); go_simp; first | done | exact rfl)); simp only [List.set]
    refine wpAnyH_done (by kernel_rfl) ?_ _
    go_wp2_with fail
    go_ret
    exact ⟨by rw [e0.out]; rfl, (rk2_out (by assumption)).2⟩

end Go.Proofs.Ytkkfgnnhdcmmjaa
