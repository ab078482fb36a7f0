/- NodeSafe of the model. -/
import Derived.Test.YtnpdbieadjgghaaSt2
import Derived.Test.YtnpdbieadjgghaaWl
namespace Go.Proofs.Ytnpdbieadjgghaa
open Go.RowKit

set_option maxRecDepth 100000 in
set_option maxHeartbeats 4000000 in
theorem ssafe_any (N : Int) (lo hi n : Nat) (v : Value) (L : List Ed) (s x f d : Int) (w : World) (hL : L.length = n) (hr : Row 3 w lo hi v n (flat L)) (hh : hi ≤ w.heap.size) :
    Calls Try.prog 25 #[.agg #[.int .i64 N, v], .int .i64 s, .int .i64 x, .int .i64 f, .int .i64 d] w fun e w' => e = .returned (.bool (safeB N L s x f d)) ∧ Below w.heap.size w w' := by
  obtain ⟨ad, cp, rfl⟩ := hr.slice
  have HG := Lib.hid (Gx.start (N := N) hr hh)
  clear hr
  by_cases hfd : f = d
  · have z1 : (f == d) = true := by rw [hfd]; simp
    have HV : Hid (safeB N L s x f d = false) := by
      show _ = _
      rw [Bool.eq_false_iff]
      intro h
      exact (safeB_iff.1 h).1 hfd
    clear hfd
    go_enter Try.func25, Try.ntmps25
    go_wp2
    go_ret
    exact ⟨by rw [HV.out]; rfl, HG.out.below⟩
  · have z1 : (f == d) = false := beq_eq_false_iff_ne.2 hfd
    have HFD := Lib.hid hfd
    clear hfd
    go_enter Try.func25, Try.ntmps25
    go_wp2_with fail
    go_at_call 17
    refine (salt_any N lo hi n _ L s f d _ hL HG.out.row HG.out.hi).mono ?_
    rintro e v1 ⟨rv, rfl, hrow, b1⟩
    have H1 := Lib.hid (HG.out.grow b1)
    have HH := Lib.hid (has_any _ _ _ _ _ x _ hrow)
    have c10 := H1.out.c0
    have c11 := H1.out.c1
    clear b1 hrow
    go_wp2_with fail
    go_at_call 65
    refine HH.out.mono ?_
    rintro e v2 ⟨rfl, rfl⟩
    clear HH
    by_cases hb : hasB (altL N L s f d) x = true
    · rw [hb]
      have hmem : x ∈ altL N L s f d := by
        unfold hasB at hb
        obtain ⟨y, hy, e⟩ := List.any_eq_true.1 hb
        have e2 : y = x := by simpa using e
        exact e2 ▸ hy
      have hrep : repB N L s f d = true := by
        unfold altL at hmem
        split at hmem
        · assumption
        · cases hmem
      have hxr : 0 ≤ x ∧ x < N := by
        have hm := hmem
        unfold altL at hm
        rw [if_pos hrep] at hm
        exact (nodesL_mem.1 hm).1
      obtain ⟨hG, hp, hs1, hf1, hd1, hc⟩ := repB_parts hrep
      have HK := Lib.hid hG
      obtain ⟨M, rfl⟩ : ∃ M : Nat, N = (M : Int) := ⟨N.toNat, by omega⟩
      obtain ⟨x', rfl⟩ : ∃ q : Nat, x = (q : Int) := ⟨x.toNat, by omega⟩
      obtain ⟨f', rfl⟩ : ∃ q : Nat, f = (q : Int) := ⟨f.toNat, by omega⟩
      obtain ⟨d', rfl⟩ : ∃ q : Nat, d = (q : Int) := ⟨d.toNat, by omega⟩
      have hxM : x' < M := by omega
      have hfM : f' < M := by omega
      have hdM : d' < M := by omega
      have HV : Hid (safeB (M : Int) L s (x' : Int) (f' : Int) (d' : Int) = decide (dsT (M : Int) L (x' : Int) (d' : Int) < dsT (M : Int) L (x' : Int) (f' : Int) + dsT (M : Int) L (f' : Int) (d' : Int))) := by
        show _ = _
        rw [Bool.eq_iff_iff, safeB_iff, decide_eq_true_iff]
        exact ⟨fun h => h.2.2, fun h => ⟨HFD.out, hmem, h⟩⟩
      have g1 := dsT_in HK.out hxM (d' : Int)
      have g2 := dsT_in HK.out hxM (f' : Int)
      have g3 := dsT_in HK.out hfM (d' : Int)
      have D1 := Lib.hid (fun w lo hi n v hL hr hh => sdst_any M lo hi n v L x' d' w HK.out hL hr hh hxM hdM)
      have D2 := Lib.hid (fun w lo hi n v hL hr hh => sdst_any M lo hi n v L x' f' w HK.out hL hr hh hxM hfM)
      have D3 := Lib.hid (fun w lo hi n v hL hr hh => sdst_any M lo hi n v L f' d' w HK.out hL hr hh hfM hdM)
      generalize dsT (M : Int) L (x' : Int) (d' : Int) = q1 at *
      generalize dsT (M : Int) L (x' : Int) (f' : Int) = q2 at *
      generalize dsT (M : Int) L (f' : Int) (d' : Int) = q3 at *
      have wr2 : IntKind.i64.wrap (q2 + q3) = q2 + q3 := by rw [IntKind.wrap_i64]; omega
      clear hb hmem hrep hxr hG hp hs1 hf1 hd1 hc hxM hfM hdM g1 g2 g3
      go_wp2_with fail
      refine wp_region_held_drew (S := (fun w' => w'.cell? ⟨w.heap.size, 0, none⟩ = some (.int .i64 (M : Int)) ∧ w'.cell? ⟨w.heap.size, 1, none⟩ = some (.slice ad n cp) ∧ Hid (Gx w w' (M : Int) ad n cp lo hi L))) (by kernel_rfl) ?_ (fun hHeld => ?_)
      · exact ⟨c10, c11, Lib.hid H1.out.drew⟩
      refine step_read 0 24 rfl rfl (by kernel_rfl) (by kernel_rfl) (by kernel_rfl) (fun _ _ _ h => h) (by rfl) (v := ?_) (fun w hSw => ?_) (by assumption) ?_; rotate_left; (focus ((try dsimp only at hSw); go_simp; first | done | exact rfl)); simp only [List.set]
      refine step_read 1 25 rfl rfl (by kernel_rfl) (by kernel_rfl) (by kernel_rfl) (fun _ _ _ h => h) (by rfl) (v := ?_) (fun w hSw => ?_) (by assumption) ?_; rotate_left; (focus ((try dsimp only at hSw); go_simp; first | done | exact rfl)); simp only [List.set]
      refine step_read 2 26 rfl rfl (by kernel_rfl) (by kernel_rfl) (by kernel_rfl) (fun _ _ _ h => h) (by rfl) (v := ?_) (fun w hSw => ?_) (by assumption) ?_; rotate_left; (focus ((try dsimp only at hSw); go_simp; first | done | exact rfl)); simp only [List.set]
      refine step_read 4 28 rfl rfl (by kernel_rfl) (by kernel_rfl) (by kernel_rfl) (fun _ _ _ h => h) (by rfl) (v := ?_) (fun w hSw => ?_) (by assumption) ?_; rotate_left; (focus ((try dsimp only at hSw); go_simp; first | done | exact rfl)); simp only [List.set]
      refine step_read 5 29 rfl rfl (by kernel_rfl) (by kernel_rfl) (by kernel_rfl) (fun _ _ _ h => h) (by rfl) (v := ?_) (fun w hSw => ?_) (by assumption) ?_; rotate_left; (focus ((try dsimp only at hSw); go_simp; first | done | exact rfl)); simp only [List.set]
      refine step_read 6 30 rfl rfl (by kernel_rfl) (by kernel_rfl) (by kernel_rfl) (fun _ _ _ h => h) (by rfl) (v := ?_) (fun w hSw => ?_) (by assumption) ?_; rotate_left; (focus ((try dsimp only at hSw); go_simp; first | done | exact rfl)); simp only [List.set]
      refine step_read 8 32 rfl rfl (by kernel_rfl) (by kernel_rfl) (by kernel_rfl) (fun _ _ _ h => h) (by rfl) (v := ?_) (fun w hSw => ?_) (by assumption) ?_; rotate_left; (focus ((try dsimp only at hSw); go_simp; first | done | exact rfl)); simp only [List.set]
      refine step_read 9 33 rfl rfl (by kernel_rfl) (by kernel_rfl) (by kernel_rfl) (fun _ _ _ h => h) (by rfl) (v := ?_) (fun w hSw => ?_) (by assumption) ?_; rotate_left; (focus ((try dsimp only at hSw); go_simp; first | done | exact rfl)); simp only [List.set]
      refine step_read 10 34 rfl rfl (by kernel_rfl) (by kernel_rfl) (by kernel_rfl) (fun _ _ _ h => h) (by rfl) (v := ?_) (fun w hSw => ?_) (by assumption) ?_; rotate_left; (focus ((try dsimp only at hSw); go_simp; first | done | exact rfl)); simp only [List.set]
      refine wpAnyH_ready (rs := [3]) (by kernel_rfl) (by simp) ?_
      refine AllReadyH.cons rfl (fun Kc hK => ?_) (AllReadyH.nil)
      go_simp
      go_at_call 54
      refine (D1.out _ lo hi n _ hL hHeld.2.2.out.row hHeld.2.2.out.hi).mono ?_
      rintro e u3 ⟨rfl, b3⟩
      have B3 := Lib.hid b3
      have Hh3 := Lib.hid hHeld
      have G3 := Lib.hid (hHeld.2.2.out.grow b3)
      clear hHeld b3
      refine hK.out _ _ ?_ (fun hHeld => ?_)
      · exact ⟨G3.out.c0, G3.out.c1, G3⟩
      clear hK Kc
      refine wpAnyH_ready (rs := [7]) (by kernel_rfl) (by simp) ?_
      refine AllReadyH.cons rfl (fun Kc hK => ?_) (AllReadyH.nil)
      go_simp
      go_at_call 54
      refine (D2.out _ lo hi n _ hL hHeld.2.2.out.row hHeld.2.2.out.hi).mono ?_
      rintro e u4 ⟨rfl, b4⟩
      have B4 := Lib.hid b4
      have Hh4 := Lib.hid hHeld
      have G4 := Lib.hid (hHeld.2.2.out.grow b4)
      clear hHeld b4
      refine hK.out _ _ ?_ (fun hHeld => ?_)
      · exact ⟨G4.out.c0, G4.out.c1, G4⟩
      clear hK Kc
      refine wpAnyH_ready (rs := [11]) (by kernel_rfl) (by simp) ?_
      refine AllReadyH.cons rfl (fun Kc hK => ?_) (AllReadyH.nil)
      go_simp
      go_at_call 54
      refine (D3.out _ lo hi n _ hL hHeld.2.2.out.row hHeld.2.2.out.hi).mono ?_
      rintro e u5 ⟨rfl, b5⟩
      have B5 := Lib.hid b5
      have Hh5 := Lib.hid hHeld
      have G5 := Lib.hid (hHeld.2.2.out.grow b5)
      clear hHeld b5
      refine hK.out _ _ ?_ (fun hHeld => ?_)
      · exact ⟨G5.out.c0, G5.out.c1, G5⟩
      clear hK Kc
      refine step_read 12 36 rfl rfl (by kernel_rfl) (by kernel_rfl) (by kernel_rfl) (fun _ _ _ h => h) (by rfl) (v := ?_) (fun w hSw => ?_) (by assumption) ?_; rotate_left; (focus ((try dsimp only at hSw); go_simp; first | done | exact rfl)); simp only [List.set]
      refine step_read 13 37 rfl rfl (by kernel_rfl) (by kernel_rfl) (by kernel_rfl) (fun _ _ _ h => h) (by rfl) (v := ?_) (fun w hSw => ?_) (by assumption) ?_; rotate_left; (focus ((try dsimp only at hSw); go_simp; first | done | exact rfl)); simp only [List.set]
      refine step_read 14 10 rfl rfl (by kernel_rfl) (by kernel_rfl) (by kernel_rfl) (fun _ _ _ h => h) (by rfl) (v := ?_) (fun w hSw => ?_) (by assumption) ?_; rotate_left; (focus ((try dsimp only at hSw); go_simp; first | done | exact rfl)); simp only [List.set]
      refine wpAnyH_done (by kernel_rfl) ?_ _
      have HE := hHeld.2.2
      clear hHeld
      go_wp2
      go_ret
      exact ⟨by rw [HV.out]; simp, HE.out.below⟩
    · rw [Bool.not_eq_true] at hb
      have HV : Hid (safeB N L s x f d = false) := by
        show _ = _
        rw [Bool.eq_false_iff]
        intro h
        have h2 := (safeB_iff.1 h).2.1
        obtain ⟨i, hi⟩ := List.getElem?_of_mem h2
        rw [hasB_yes hi] at hb
        cases hb
      rw [hb]
      clear hb
      go_wp2
      go_ret
      exact ⟨by rw [HV.out]; rfl, H1.out.below⟩

end Go.Proofs.Ytnpdbieadjgghaa
