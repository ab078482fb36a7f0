/- The place of a route: the search by halves. -/
import Derived.Test.YtgdnfglhlpnooaaQm
import Derived.Test.YtgdnfglhlpnooaaPc
namespace Go.Proofs.Ytgdnfglhlpnooaa
open Go.RowKit


set_option maxRecDepth 100000 in
set_option maxHeartbeats 4000000 in
theorem pcl_any (a b c pn pl : Int) (w : World) :
    Calls Try.prog 102 #[.agg #[.int .i64 a, .int .i64 b, .int .i64 c], .agg #[.int .i64 pn, .int .i64 pl]] w fun e w' => e = .returned (.int .i64 (cmpP a b pn pl)) ∧ Below w.heap.size w w' := by
  go_enter Try.func102, Try.ntmps102
  go_wp2_with fail
  obtain ⟨v0, hv0⟩ : ∃ v0, v0 = ((w.alloc (.cells #[.int .i64 a, .int .i64 b, .int .i64 c] 43)).alloc (.cells #[.int .i64 pn, .int .i64 pl] 34)) := ⟨_, rfl⟩
  have HB : Hid (Below w.heap.size w v0) := by rw [hv0]; exact ((Below.refl _ _).alloc (Nat.le_refl _) _).alloc (by simp) _
  rw [← hv0]
  clear hv0
  go_at_call 83
  refine (compare_any a b pn pl _).mono ?_
  rintro e w1 ⟨rfl, hb1⟩
  go_wp2_with fail
  go_ret
  exact ⟨rfl, HB.out.trans (hb1.mono HB.out.size)⟩

theorem u64_small {s : Nat} (h : s ≤ 3000000) : IntKind.u64.wrap (s : Int) = (s : Int) := IntWalk.u64_in _ (by omega)
theorem half_small {s : Nat} (h : s ≤ 3000000) : wrap64 ((s : Int) / 2) = ((s / 2 : Nat) : Int) := by
  rw [w_in (by omega) (by omega)]
  omega
/-- What BinarySearchFunc answers: the first place at which f is not below 0, and whether it is 0 there. -/
def BsPost (n : Nat) (f : Nat → Int) (w : World) (e : Ending) (w' : World) : Prop := (∃ i : Nat, e = .returned (.tuple #[.int .i64 (i : Int), .bool (decide (i < n) && (f i == 0))]) ∧ i ≤ n ∧ (∀ k, k < i → f k < 0) ∧ (∀ k, i ≤ k → k < n → 0 ≤ f k)) ∧ Below w.heap.size w w'
set_option maxRecDepth 100000 in
set_option maxHeartbeats 4000000 in
theorem bs_any (ad : Option Addr) (n cap : Nat) (L : List Rt) (pn pl : Int) (f : Nat → Int) (w : World) (hL : L.length = n) (hn : n ≤ 1048576) (h : 0 < n → ∃ g, ad = some ⟨g, 0, none⟩ ∧ g < w.heap.size ∧ ∀ q z, (flat L)[q]? = some z → w.cell? ⟨g, q, none⟩ = some (.int .i64 z))
    (hf : ∀ k r, L[k]? = some r → cmpP r.1 r.2.1 pn pl = f k) (hm : ∀ j k, j ≤ k → k < n → f k < 0 → f j < 0) :
    Calls Try.prog 101 #[.slice ad n cap, .agg #[.int .i64 pn, .int .i64 pl], .func (.func 102) #[] #[]] w (BsPost n f w) := by
  have HC := Lib.hid h
  have HL := Lib.hid hL
  have HF := Lib.hid hf
  have HM := Lib.hid hm
  clear h hL hf hm
  go_enter Try.func101, Try.ntmps101
  go_wp2_with fail
  obtain ⟨v0, hv0⟩ : ∃ v0, v0 = w.alloc (.cells #[.int .i64 pn, .int .i64 pl] 34) := ⟨_, rfl⟩
  have HB : Hid (Below w.heap.size w v0) := by rw [hv0]; exact (Below.refl _ _).alloc (Nat.le_refl _) _
  have hv0s : v0.heap.size = w.heap.size + 1 := by rw [hv0]; simp
  have P0 : Hid (v0.cell? ⟨w.heap.size, 0, none⟩ = some (.int .i64 pn)) := by rw [hv0]; show _ = _; simp
  have P1 : Hid (v0.cell? ⟨w.heap.size, 1, none⟩ = some (.int .i64 pl)) := by rw [hv0]; show _ = _; simp
  have hwv : w.heap.size < v0.heap.size := by omega
  rw [← hv0]
  clear hv0 hv0s
  go_loopw [9, 10, 11] (fun i j _ wr => ∃ p q : Nat, i = .int .i64 (p : Int) ∧ j = .int .i64 (q : Int) ∧ p ≤ q ∧ q ≤ n ∧ Hid ((∀ k, k < p → f k < 0) ∧ ∀ k, q ≤ k → k < n → 0 ≤ f k) ∧ Hid (Below v0.heap.size v0 wr)) (fun i j _ _ => ((intOf j).toNat - (intOf i).toNat))
  case atStart => exact ⟨0, n, rfl, rfl, Nat.zero_le _, Nat.le_refl _, ⟨fun k hk => absurd hk (Nat.not_lt_zero _), fun k h1 h2 => by omega⟩, Lib.hid (Below.refl _ _)⟩
  case round =>
    obtain ⟨p, q, rfl, rfl, hpq, hqn, hI, hR⟩ := hrel
    have p0 : wr.cell? ⟨w.heap.size, 0, none⟩ = some (.int .i64 pn) := by rw [hR.out.cell (p := ⟨w.heap.size, 0, none⟩) hwv]; exact P0.out
    have p1 : wr.cell? ⟨w.heap.size, 1, none⟩ = some (.int .i64 pl) := by rw [hR.out.cell (p := ⟨w.heap.size, 1, none⟩) hwv]; exact P1.out
    by_cases hlt : p < q
    case pos =>
      have q0 : (p : Int) < (q : Int) := by omega
      obtain ⟨g, rfl, hg, hcell⟩ := HC.out (by omega)
      clear HC
      have HC0 : Hid (∀ q z, (flat L)[q]? = some z → v0.cell? ⟨g, q, none⟩ = some (.int .i64 z)) := fun q z hz => by rw [HB.out.cell (p := ⟨g, q, none⟩) hg]; exact hcell q z hz
      have hgv : g < v0.heap.size := by omega
      clear hcell
      obtain ⟨s, hs⟩ : ∃ s, s = p + q := ⟨_, rfl⟩
      obtain ⟨h, hh⟩ : ∃ h, h = s / 2 := ⟨_, rfl⟩
      have hph : p ≤ h := by omega
      have hhq : h < q := by omega
      have HHs : Hid (h = s / 2 ∧ s ≤ 3000000 ∧ s = p + q) := ⟨hh, by omega, hs⟩
      clear hh hs
      have h0 : (0 : Int) ≤ (h : Int) := by omega
      have h9 : (h : Int) < (n : Int) := by omega
      obtain ⟨ra, rb, rc, hr⟩ := at_of_lt (L := L) (i := h) (by have := HL.out; omega)
      obtain ⟨r0, r1, r2⟩ := flat_at L h _ hr
      have c0 : wr.cell? ⟨g, h * 3, none⟩ = some (.int .i64 ra) := by rw [hR.out.cell (p := ⟨g, h * 3, none⟩) hgv]; exact HC0.out _ _ r0
      have c1 : wr.cell? ⟨g, h * 3 + 1, none⟩ = some (.int .i64 rb) := by rw [hR.out.cell (p := ⟨g, h * 3 + 1, none⟩) hgv]; exact HC0.out _ _ r1
      have c2 : wr.cell? ⟨g, h * 3 + 2, none⟩ = some (.int .i64 rc) := by rw [hR.out.cell (p := ⟨g, h * 3 + 2, none⟩) hgv]; exact HC0.out _ _ r2
      have hcf : cmpP ra rb pn pl = f h := HF.out h _ hr
      have hgw : g < wr.heap.size := Nat.lt_of_lt_of_le hgv hR.out.size
      have hww : w.heap.size < wr.heap.size := Nat.lt_of_lt_of_le hwv hR.out.size
      clear r0 r1 r2
      have HE1 : Hid (IntKind.i64.wrap ((p : Int) + (q : Int)) = (s : Int)) := by show _ = _; rw [HHs.out.2.2]; exact (IntWalk.i64_in _ (by omega)).trans (by omega)
      have e1 := HE1.out
      have e2 : IntKind.u64.wrap (s : Int) = (s : Int) := u64_small HHs.out.2.1
      have e3 : wrap64 ((s : Int) / 2) = (h : Int) := by rw [HHs.out.1]; exact half_small HHs.out.2.1
      clear HE1
      go_wp2_with fail
      simp only [e3]
      clear e1 e2 e3
      refine wp_region_held_drew (S := (fun w' => w'.cell? ⟨w.heap.size, 0, none⟩ = some (.int .i64 pn) ∧ w'.cell? ⟨w.heap.size, 1, none⟩ = some (.int .i64 pl) ∧ w'.cell? ⟨g, h * 3, none⟩ = some (.int .i64 ra) ∧ w'.cell? ⟨g, h * 3 + 1, none⟩ = some (.int .i64 rb) ∧ w'.cell? ⟨g, h * 3 + 2, none⟩ = some (.int .i64 rc) ∧ wr.heap.size ≤ w'.heap.size ∧ Below wr.heap.size wr w')) (by kernel_rfl) ?_ (fun hHeld => ?_)
      · (first | assumption | exact rr5_start p0 p1 c0 c1 c2 | exact rr5_drew (by assumption) | exact rr5_keep (by omega) (by omega) (by omega) (by omega) (by omega) (by assumption) (by assumption))
      refine step_read 0 24 rfl rfl (by kernel_rfl) (by kernel_rfl) (by kernel_rfl) (fun _ _ _ h => h) (by rfl) (v := ?_) (fun w hSw => ?_) (by assumption) ?_; rotate_left; (focus ((try dsimp only at hSw); go_simp; first | done | exact rfl)); simp only [List.set]
      refine step_read 1 25 rfl rfl (by kernel_rfl) (by kernel_rfl) (by kernel_rfl) (fun _ _ _ h => h) (by rfl) (v := ?_) (fun w hSw => ?_) (by assumption) ?_; rotate_left; (focus ((try dsimp only at hSw); go_simp; first | done | exact rfl)); simp only [List.set]
      refine step_read 2 26 rfl rfl (by kernel_rfl) (by kernel_rfl) (by kernel_rfl) (fun _ _ _ h => h) (by rfl) (v := ?_) (fun w hSw => ?_) (by assumption) ?_; rotate_left; (focus ((try dsimp only at hSw); go_simp; first | done | exact rfl)); simp only [List.set]
      refine step_read 3 27 rfl rfl (by kernel_rfl) (by kernel_rfl) (by kernel_rfl) (fun _ _ _ h => h) (by rfl) (v := ?_) (fun w hSw => ?_) (by assumption) ?_; rotate_left; (focus ((try dsimp only at hSw); go_simp; first | done | exact rfl)); simp only [List.set]
      refine step_read 4 28 rfl rfl (by kernel_rfl) (by kernel_rfl) (by kernel_rfl) (fun _ _ _ h => h) (by rfl) (v := ?_) (fun w hSw => ?_) (by assumption) ?_; rotate_left; (focus ((try dsimp only at hSw); go_simp; first | done | exact rfl)); simp only [List.set]
      refine step_read 5 29 rfl rfl (by kernel_rfl) (by kernel_rfl) (by kernel_rfl) (fun _ _ _ h => h) (by rfl) (v := ?_) (fun w hSw => ?_) (by assumption) ?_; rotate_left; (focus ((try dsimp only at hSw); go_simp; first | done | exact rfl)); simp only [List.set]
      refine wpAnyH_ready (rs := [6]) (by kernel_rfl) (by simp) ?_
      refine AllReadyH.cons rfl (fun Kc hK => ?_) (AllReadyH.nil)
      go_simp; go_at_call 102; refine (pcl_any ra rb rc pn pl _).mono ?_; rintro e w2 ⟨rfl, hb⟩; rw [hcf]
      refine hK.out _ _ ?_ (fun hHeld => ?_)
      · (first | assumption | exact rr5_start p0 p1 c0 c1 c2 | exact rr5_drew (by assumption) | exact rr5_keep (by omega) (by omega) (by omega) (by omega) (by omega) (by assumption) (by assumption))
      clear hK Kc
      refine step_read 7 31 rfl rfl (by kernel_rfl) (by kernel_rfl) (by kernel_rfl) (fun _ _ _ h => h) (by rfl) (v := ?_) (fun w hSw => ?_) (by assumption) ?_; rotate_left; (focus ((try dsimp only at hSw); go_simp; first | done | exact rfl)); simp only [List.set]
      refine wpAnyH_done (by kernel_rfl) ?_ _
      have HV : Hid (Below v0.heap.size v0 _) := hR.out.trans ((rr5_out (by assumption)).2.mono hR.out.size)
      clear p0 p1 c0 c1 c2 hcf hR hr
      by_cases hfh : f h < 0
      case pos =>
        have ew : IntKind.i64.wrap ((h : Int) + 1) = ((h + 1 : Nat) : Int) := (IntWalk.i64_in _ (by omega)).trans (by omega)
        obtain ⟨h1, hh1⟩ : ∃ x, x = h + 1 := ⟨_, rfl⟩
        rw [← hh1] at ew
        have HH1 := Lib.hid hh1
        clear hh1
        go_wp2_with fail
        have hh1 := HH1.out
        go_roundw
        case rel => exact ⟨h1, q, rfl, rfl, by omega, hqn, ⟨fun k hk => HM.out k h (by omega) (by omega) hfh, hI.out.2⟩, HV⟩
        case measure => simp [intOf]; omega
      case neg =>
        go_wp2_with fail
        go_roundw
        case rel => exact ⟨p, h, rfl, rfl, hph, by omega, ⟨hI.out.1, fun k h1 h2 => Int.not_lt.1 fun hk => hfh (HM.out h k h1 h2 hk)⟩, HV⟩
        case measure => simp [intOf]; omega
    case neg =>
      have hge : ¬ ((p : Int) < (q : Int)) := by omega
      have hpq' : p = q := by omega
      have hI' : (∀ k, k < p → f k < 0) ∧ ∀ k, p ≤ k → k < n → 0 ≤ f k := ⟨hI.out.1, fun k h1 h2 => hI.out.2 k (by omega) h2⟩
      have HII := Lib.hid hI'
      have hpn : p ≤ n := by omega
      clear hI hI' hpq'
      by_cases hlast : p < n
      case pos =>
        obtain ⟨g, rfl, hg, hcell⟩ := HC.out (by omega)
        clear HC
        have HC0 : Hid (∀ q z, (flat L)[q]? = some z → v0.cell? ⟨g, q, none⟩ = some (.int .i64 z)) := fun q z hz => by rw [HB.out.cell (p := ⟨g, q, none⟩) hg]; exact hcell q z hz
        have hgv : g < v0.heap.size := by omega
        clear hcell
        have d1 : decide ((p : Int) < (n : Int)) = true := decide_eq_true (by omega)
        have d2 : (p : Int) < (n : Int) := by omega
        have d3 : (0 : Int) ≤ (p : Int) := by omega
        obtain ⟨ra, rb, rc, hr⟩ := at_of_lt (L := L) (i := p) (by have := HL.out; omega)
        obtain ⟨r0, r1, r2⟩ := flat_at L p _ hr
        have c0 : wr.cell? ⟨g, p * 3, none⟩ = some (.int .i64 ra) := by rw [hR.out.cell (p := ⟨g, p * 3, none⟩) hgv]; exact HC0.out _ _ r0
        have c1 : wr.cell? ⟨g, p * 3 + 1, none⟩ = some (.int .i64 rb) := by rw [hR.out.cell (p := ⟨g, p * 3 + 1, none⟩) hgv]; exact HC0.out _ _ r1
        have c2 : wr.cell? ⟨g, p * 3 + 2, none⟩ = some (.int .i64 rc) := by rw [hR.out.cell (p := ⟨g, p * 3 + 2, none⟩) hgv]; exact HC0.out _ _ r2
        have hcf : cmpP ra rb pn pl = f p := HF.out p _ hr
        have hgw : g < wr.heap.size := Nat.lt_of_lt_of_le hgv hR.out.size
        have hww : w.heap.size < wr.heap.size := Nat.lt_of_lt_of_le hwv hR.out.size
        clear r0 r1 r2
        have HE : Hid ((decide (p < n) && (f p == 0)) = (f p == 0)) := by show _ = _; rw [decide_eq_true hlast, Bool.true_and]
        go_wp2_with fail
        refine wp_region_held_drew (S := (fun w' => w'.cell? ⟨w.heap.size, 0, none⟩ = some (.int .i64 pn) ∧ w'.cell? ⟨w.heap.size, 1, none⟩ = some (.int .i64 pl) ∧ w'.cell? ⟨g, p * 3, none⟩ = some (.int .i64 ra) ∧ w'.cell? ⟨g, p * 3 + 1, none⟩ = some (.int .i64 rb) ∧ w'.cell? ⟨g, p * 3 + 2, none⟩ = some (.int .i64 rc) ∧ wr.heap.size ≤ w'.heap.size ∧ Below wr.heap.size wr w')) (by kernel_rfl) ?_ (fun hHeld => ?_)
        · (first | assumption | exact rr5_start p0 p1 c0 c1 c2 | exact rr5_drew (by assumption) | exact rr5_keep (by omega) (by omega) (by omega) (by omega) (by omega) (by assumption) (by assumption))
        refine step_read 0 35 rfl rfl (by kernel_rfl) (by kernel_rfl) (by kernel_rfl) (fun _ _ _ h => h) (by rfl) (v := ?_) (fun w hSw => ?_) (by assumption) ?_; rotate_left; (focus ((try dsimp only at hSw); go_simp; first | done | exact rfl)); simp only [List.set]
        refine step_read 1 36 rfl rfl (by kernel_rfl) (by kernel_rfl) (by kernel_rfl) (fun _ _ _ h => h) (by rfl) (v := ?_) (fun w hSw => ?_) (by assumption) ?_; rotate_left; (focus ((try dsimp only at hSw); go_simp; first | done | exact rfl)); simp only [List.set]
        refine step_read 2 37 rfl rfl (by kernel_rfl) (by kernel_rfl) (by kernel_rfl) (fun _ _ _ h => h) (by rfl) (v := ?_) (fun w hSw => ?_) (by assumption) ?_; rotate_left; (focus ((try dsimp only at hSw); go_simp; first | done | exact rfl)); simp only [List.set]
        refine step_read 3 38 rfl rfl (by kernel_rfl) (by kernel_rfl) (by kernel_rfl) (fun _ _ _ h => h) (by rfl) (v := ?_) (fun w hSw => ?_) (by assumption) ?_; rotate_left; (focus ((try dsimp only at hSw); go_simp; first | done | exact rfl)); simp only [List.set]
        refine step_read 4 39 rfl rfl (by kernel_rfl) (by kernel_rfl) (by kernel_rfl) (fun _ _ _ h => h) (by rfl) (v := ?_) (fun w hSw => ?_) (by assumption) ?_; rotate_left; (focus ((try dsimp only at hSw); go_simp; first | done | exact rfl)); simp only [List.set]
        refine step_read 5 40 rfl rfl (by kernel_rfl) (by kernel_rfl) (by kernel_rfl) (fun _ _ _ h => h) (by rfl) (v := ?_) (fun w hSw => ?_) (by assumption) ?_; rotate_left; (focus ((try dsimp only at hSw); go_simp; first | done | exact rfl)); simp only [List.set]
        refine step_read 6 41 rfl rfl (by kernel_rfl) (by kernel_rfl) (by kernel_rfl) (fun _ _ _ h => h) (by rfl) (v := ?_) (fun w hSw => ?_) (by assumption) ?_; rotate_left; (focus ((try dsimp only at hSw); go_simp; first | done | exact rfl)); simp only [List.set]
        refine step_read 7 42 rfl rfl (by kernel_rfl) (by kernel_rfl) (by kernel_rfl) (fun _ _ _ h => h) (by rfl) (v := ?_) (fun w hSw => ?_) (by assumption) ?_; rotate_left; (focus ((try dsimp only at hSw); go_simp; first | done | exact rfl)); simp only [List.set]
        refine step_read 8 43 rfl rfl (by kernel_rfl) (by kernel_rfl) (by kernel_rfl) (fun _ _ _ h => h) (by rfl) (v := ?_) (fun w hSw => ?_) (by assumption) ?_; rotate_left; (focus ((try dsimp only at hSw); go_simp; first | done | exact rfl)); simp only [List.set]
        refine step_read 9 44 rfl rfl (by kernel_rfl) (by kernel_rfl) (by kernel_rfl) (fun _ _ _ h => h) (by rfl) (v := ?_) (fun w hSw => ?_) (by assumption) ?_; rotate_left; (focus ((try dsimp only at hSw); go_simp; first | done | exact rfl)); simp only [List.set]
        refine step_read 10 45 rfl rfl (by kernel_rfl) (by kernel_rfl) (by kernel_rfl) (fun _ _ _ h => h) (by rfl) (v := ?_) (fun w hSw => ?_) (by assumption) ?_; rotate_left; (focus ((try dsimp only at hSw); go_simp; first | done | exact rfl)); simp only [List.set]
        refine wpAnyH_ready (rs := [11]) (by kernel_rfl) (by simp) ?_
        refine AllReadyH.cons rfl (fun Kc hK => ?_) (AllReadyH.nil)
        go_simp; go_at_call 102; refine (pcl_any ra rb rc pn pl _).mono ?_; rintro e w2 ⟨rfl, hb⟩; rw [hcf]
        refine hK.out _ _ ?_ (fun hHeld => ?_)
        · (first | assumption | exact rr5_start p0 p1 c0 c1 c2 | exact rr5_drew (by assumption) | exact rr5_keep (by omega) (by omega) (by omega) (by omega) (by omega) (by assumption) (by assumption))
        clear hK Kc
        refine step_read 12 47 rfl rfl (by kernel_rfl) (by kernel_rfl) (by kernel_rfl) (fun _ _ _ h => h) (by rfl) (v := ?_) (fun w hSw => ?_) (by assumption) ?_; rotate_left; (focus ((try dsimp only at hSw); go_simp; first | done | exact rfl)); simp only [List.set]
        refine step_read 13 48 rfl rfl (by kernel_rfl) (by kernel_rfl) (by kernel_rfl) (fun _ _ _ h => h) (by rfl) (v := ?_) (fun w hSw => ?_) (by assumption) ?_; rotate_left; (focus ((try dsimp only at hSw); go_simp; first | done | exact rfl)); simp only [List.set]
        refine step_read 14 6 rfl rfl (by kernel_rfl) (by kernel_rfl) (by kernel_rfl) (fun _ _ _ h => h) (by rfl) (v := ?_) (fun w hSw => ?_) (by assumption) ?_; rotate_left; (focus ((try dsimp only at hSw); go_simp; first | done | exact rfl)); simp only [List.set]
        refine step_read 15 7 rfl rfl (by kernel_rfl) (by kernel_rfl) (by kernel_rfl) (fun _ _ _ h => h) (by rfl) (v := ?_) (fun w hSw => ?_) (by assumption) ?_; rotate_left; (focus ((try dsimp only at hSw); go_simp; first | done | exact rfl)); simp only [List.set]
        refine wpAnyH_done (by kernel_rfl) ?_ _
        have HV : Hid (Below v0.heap.size v0 _) := hR.out.trans ((rr5_out (by assumption)).2.mono hR.out.size)
        go_wp2_with fail
        go_ret2
        exact ⟨⟨p, by rw [HE.out]; rfl, hpn, HII.out⟩, HB.out.trans (HV.out.mono HB.out.size)⟩
      case neg =>
        have d1 : decide ((p : Int) < (n : Int)) = false := decide_eq_false (by omega)
        have d2 : ¬ (p : Int) < (n : Int) := by omega
        have HE : Hid ((decide (p < n) && (f p == 0)) = false) := by show _ = _; rw [decide_eq_false hlast, Bool.false_and]
        have HV : ∀ q, Hid (Below v0.heap.size v0 (wr.drewN q)) := fun q => Lib.hid (hR.out.trans ((below_drewN wr q).mono hR.out.size))
        clear hR
        go_wp2_with fail
        go_quiet (fail)
        go_wp2_with fail
        go_ret2
        exact ⟨⟨p, by rw [HE.out]; rfl, hpn, HII.out⟩, HB.out.trans ((HV _).out.mono HB.out.size)⟩

end Go.Proofs.Ytgdnfglhlpnooaa
