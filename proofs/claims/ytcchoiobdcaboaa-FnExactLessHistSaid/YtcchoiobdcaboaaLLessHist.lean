/- The law of LessHist over contracts. -/
import Derived.Test.YtcchoiobdcaboaaGh
import Derived.Test.YtcchoiobdcaboaaGk
import Derived.Test.YtcchoiobdcaboaaReg
import Derived.Deep.DeepCutAuto
namespace Go.Proofs.Ytcchoiobdcaboaa
open Go.RowKit


theorem rr4_store {w w1 : World} {b0 b1 b2 b3 o0 o1 o2 o3 : Nat} {v0 v1 v2 v3 : Value} (l0 : b0 < w.heap.size) (l1 : b1 < w.heap.size) (l2 : b2 < w.heap.size) (l3 : b3 < w.heap.size) {b o : Nat} {u : Value} (hb : w.heap.size ≤ b) (h : w1.cell? ⟨b0, o0, none⟩ = some v0 ∧ w1.cell? ⟨b1, o1, none⟩ = some v1 ∧ w1.cell? ⟨b2, o2, none⟩ = some v2 ∧ w1.cell? ⟨b3, o3, none⟩ = some v3 ∧ w.heap.size ≤ w1.heap.size ∧ Below w.heap.size w w1) : (w1.setCell ⟨b, o, none⟩ u).cell? ⟨b0, o0, none⟩ = some v0 ∧ (w1.setCell ⟨b, o, none⟩ u).cell? ⟨b1, o1, none⟩ = some v1 ∧ (w1.setCell ⟨b, o, none⟩ u).cell? ⟨b2, o2, none⟩ = some v2 ∧ (w1.setCell ⟨b, o, none⟩ u).cell? ⟨b3, o3, none⟩ = some v3 ∧ w.heap.size ≤ (w1.setCell ⟨b, o, none⟩ u).heap.size ∧ Below w.heap.size w (w1.setCell ⟨b, o, none⟩ u) := by
  obtain ⟨h0, h1, h2, h3, hs, hB⟩ := h
  exact ⟨by rw [World.cell?_setCell_other _ _ _ _ (by simp <;> omega)]; exact h0, by rw [World.cell?_setCell_other _ _ _ _ (by simp <;> omega)]; exact h1, by rw [World.cell?_setCell_other _ _ _ _ (by simp <;> omega)]; exact h2, by rw [World.cell?_setCell_other _ _ _ _ (by simp <;> omega)]; exact h3, by simp [World.setCell]; omega, hB.setCell (by show _ ≤ b; omega) _⟩

/-- The world of a step gets a name. -/
theorem at_worldK {K : Act → World → Prop} {a : Act} {W : World} (h : ∀ wa, wa = W → K a wa) : K a W := h W rfl
/-- What a region leaves that calls and boxes the histogram that the call answers. -/
def BoxK (base wx : World) (bx lo hi : Nat) (v : Value) (m : Nat) (tr : Int) (DR : List Int) : Prop :=
  Row 1 wx lo hi v m DR ∧ base.heap.size ≤ lo ∧ hi ≤ wx.heap.size ∧ base.heap.size ≤ bx ∧ bx < wx.heap.size ∧ (bx < lo ∨ hi ≤ bx) ∧ wx.cell? ⟨bx, 0, none⟩ = some v ∧ wx.cell? ⟨bx, 1, none⟩ = some (.int .i64 tr) ∧ Below base.heap.size base wx
theorem BoxK.mk' {base w5 wx : World} {bx lo hi m : Nat} {v u u1 : Value} {tr : Int} {DR : List Int} (hw : wx = (w5.setCell ⟨bx, 0, none⟩ v).setCell ⟨bx, 1, none⟩ (.int .i64 tr)) (hr : Row 1 w5 lo hi v m DR) (hlo : base.heap.size ≤ lo) (hhi : hi ≤ w5.heap.size) (h1 : base.heap.size ≤ bx) (h2 : bx < w5.heap.size) (h3 : bx < lo ∨ hi ≤ bx) (hc : w5.cell? ⟨bx, 0, none⟩ = some u) (hc1 : w5.cell? ⟨bx, 1, none⟩ = some u1) (hb : Below base.heap.size base w5) : BoxK base wx bx lo hi v m tr DR := by
  subst hw
  exact ⟨(hr.setCell (p := ⟨bx, 0, none⟩) h3 _).setCell (p := ⟨bx, 1, none⟩) h3 _, hlo, by simp [World.setCell]; omega, h1, by simp [World.setCell]; omega, h3, by rw [World.cell?_setCell_other _ _ _ _ (by simp)]; exact World.cell?_setCell_same' _ _ _ (by rw [hc]; rfl), World.cell?_setCell_same' _ _ _ (by rw [World.cell?_setCell_other _ _ _ _ (by simp), hc1]; rfl), (hb.setCell h1 _).setCell h1 _⟩

set_option maxRecDepth 100000 in
set_option maxHeartbeats 8000000 in
theorem lawExactLessHist_fit (s0 s1 : Value) (ta tb : Int) (na nb : Nat) (DA DB : List Int) (w : World) (hA : TArg w s0 DA) (hB : TArg w s1 DB) (hna : DA.length = na) (hnb : DB.length = nb) (hd : DA.length + DB.length ≤ 1048576) (m : Nat) (tr : Int) (DR : List Int) (b : Bool) (hT : m ≤ 1100000)
    (hs : ∀ (la ha lb hb : Nat) (va vb : Value) (w : World), Row 1 w la ha va na DA → Row 1 w lb hb vb nb DB → ha ≤ w.heap.size → hb ≤ w.heap.size → Calls Try.prog 45 #[.agg #[va, .int .i64 ta], .agg #[vb, .int .i64 tb]] w fun e w' => ∃ rv, e = .returned (.tuple #[.agg #[rv, .int .i64 tr], .bool b]) ∧ Row 1 w' w.heap.size w'.heap.size rv m DR ∧ Below w.heap.size w w')
    (hi : ∀ (la ha lb hb : Nat) (va vb : Value) (w : World), Row 1 w la ha va na DA → Row 1 w lb hb vb nb DB → ha ≤ w.heap.size → hb ≤ w.heap.size → Calls Try.prog 24 #[.agg #[va, .int .i64 ta], .agg #[vb, .int .i64 tb]] w fun e w' => ∃ rv, e = .returned (.tuple #[.agg #[rv, .int .i64 tr], .bool b]) ∧ Row 1 w' w.heap.size w'.heap.size rv m DR ∧ Below w.heap.size w w') :
    Calls Try.prog 13 #[.agg #[s0, .int .i64 ta], .agg #[s1, .int .i64 tb]] w fun e w' => e = .returned (.bool true) ∧ Below w.heap.size w w' := by
  have HA := Lib.hid hA
  have HB := Lib.hid hB
  obtain ⟨aa, ca, e0⟩ := hA.slice
  rw [hna] at e0
  subst e0
  obtain ⟨ab, cb, e0⟩ := hB.slice
  rw [hnb] at e0
  subst e0
  have hma := hA.len
  rw [hna] at hma
  have hmb := hB.len
  rw [hnb] at hmb
  have HNA := Lib.hid hna
  have HNB := Lib.hid hnb
  have HDA : Hid (DA.length ≤ 1048576) := Lib.hid (by omega)
  have HDB : Hid (DB.length ≤ 1048576) := Lib.hid (by omega)
  have Hs := Lib.hid hs
  have Hi := Lib.hid hi
  clear hA hB hs hi
  obtain ⟨z1, hz1⟩ : ∃ z : Int, z = 1048576 - (DA.length : Int) := ⟨_, rfl⟩
  obtain ⟨z2, hz2⟩ : ∃ z : Int, z = z1 - (DB.length : Int) := ⟨_, rfl⟩
  have HZ1 := Lib.hid hz1
  have HZ2 := Lib.hid hz2
  have HZ3 : Hid ((DB.length : Int) ≤ z1 ∧ z1 ≤ 1048576) := Lib.hid (by omega)
  have hz10 : ¬ z1 < 0 := by omega
  have hz20 : ¬ z2 < 0 := by omega
  have hrA : na ≤ 1048576 := by omega
  have hrB : nb ≤ 1048576 := by omega
  clear hz1 hz2 hd hna hnb
  obtain ⟨KG, hKG⟩ : ∃ K : Int, K = 1 + ((m * 1 : Nat) : Int) := ⟨_, rfl⟩
  have hKG1 : ¬ (KG < 0) := by omega
  have hKG0 : 0 ≤ KG := by omega
  have HKG := Lib.hid hKG
  obtain ⟨KX, hKX⟩ : ∃ K : Int, K = 1 + ((na * 1 : Nat) : Int) := ⟨_, rfl⟩
  obtain ⟨KY, hKY⟩ : ∃ K : Int, K = KX + ((nb * 1 : Nat) : Int) := ⟨_, rfl⟩
  have hKX0 : 0 ≤ KX := by omega
  have hKX2 : KX ≤ 1100001 := by omega
  have hKY1 : ¬ (KY < 0) := by omega
  have HKX := Lib.hid hKX
  have HKY := Lib.hid hKY
  clear hKG hKX hKY
  go_enter Try.func13, Try.ntmps13
  go_wp2_with fail
  go_at_call 29
  refine (szHist_at aa na ca 1048576 ta DA _ (HA.out.below (Below.trans (Below.refl _ _) (by go_grown))) (by have := HDA.out; omega) (by omega)).mono ?_
  rw [← HZ1.out]
  rintro e v1 ⟨rfl, hb1⟩
  have sz1 : w.heap.size + 2 ≤ v1.heap.size := by have hh := hb1.size; simp at hh; omega
  have st1 : Below w.heap.size w v1 := Below.trans (by go_grown) (hb1.mono (by simp <;> omega))
  have c1_0 : v1.cell? ⟨w.heap.size, 0, none⟩ = some (.slice aa na ca) := by rw [(bcell hb1).1 _ _ (by simp <;> omega), old_box (by simp <;> omega)]; first | (rw [new_at (by simp)]; rfl) | simp
  have c1_1 : v1.cell? ⟨w.heap.size, 1, none⟩ = some (.int .i64 ta) := by rw [(bcell hb1).1 _ _ (by simp <;> omega), old_box (by simp <;> omega)]; first | (rw [new_at (by simp)]; rfl) | simp
  have c1_2 : v1.cell? ⟨w.heap.size + 1, 0, none⟩ = some (.slice ab nb cb) := by rw [(bcell hb1).1 _ _ (by simp)]; first | (rw [new_at (by simp)]; rfl) | simp
  have c1_3 : v1.cell? ⟨w.heap.size + 1, 1, none⟩ = some (.int .i64 tb) := by rw [(bcell hb1).1 _ _ (by simp)]; first | (rw [new_at (by simp)]; rfl) | simp
  have B1 : Hid (Below w.heap.size w v1) := st1
  have d1_0 : w.heap.size < v1.heap.size := by omega
  have e1_0 : w.heap.size ≠ v1.heap.size := by omega
  have d1_1 : w.heap.size + 1 < v1.heap.size := by omega
  have e1_1 : w.heap.size + 1 ≠ v1.heap.size := by omega
  clear st1 hb1
  go_wp2_with fail
  go_at_call 29
  refine (szHist_at ab nb cb z1 tb DB _ (HB.out.below B1.out) HZ3.out.1 HZ3.out.2).mono ?_
  rw [← HZ2.out]
  rintro e v2 ⟨rfl, hb2⟩
  have sz2 : v1.heap.size ≤ v2.heap.size := hb2.size
  have st2 : Below v1.heap.size v1 v2 := hb2
  have c2_0 : v2.cell? ⟨w.heap.size, 0, none⟩ = some (.slice aa na ca) := by rw [(bcell st2).1 _ _ (by omega)]; exact c1_0
  have c2_1 : v2.cell? ⟨w.heap.size, 1, none⟩ = some (.int .i64 ta) := by rw [(bcell st2).1 _ _ (by omega)]; exact c1_1
  have c2_2 : v2.cell? ⟨w.heap.size + 1, 0, none⟩ = some (.slice ab nb cb) := by rw [(bcell st2).1 _ _ (by omega)]; exact c1_2
  have c2_3 : v2.cell? ⟨w.heap.size + 1, 1, none⟩ = some (.int .i64 tb) := by rw [(bcell st2).1 _ _ (by omega)]; exact c1_3
  have B2 : Hid (Below w.heap.size w v2) := B1.out.trans (st2.mono (by omega))
  have d2_0 : w.heap.size < v2.heap.size := by omega
  have e2_0 : w.heap.size ≠ v2.heap.size := by omega
  have d2_1 : w.heap.size + 1 < v2.heap.size := by omega
  have e2_1 : w.heap.size + 1 ≠ v2.heap.size := by omega
  clear d1_0 e1_0 d1_1 e1_1 c1_0 c1_1 c1_2 c1_3 B1 st2 hb2
  go_upto_region 8 with fail
  go_cut [6, 7] (fun s6 s7 wx => ∃ (bx lo hi : Nat) (va : Option Addr) (vc : Nat), s6 = .pointer (some ⟨bx, 0, none⟩) ∧ s7 = .bool b ∧ Hid (BoxK v2 wx bx lo hi (.slice va m vc) m tr DR))
  case first =>
    go_wp2_with fail
    refine wp_region_held_drew (S := (fun w' => w'.cell? ⟨w.heap.size, 0, none⟩ = some (.slice aa na ca) ∧ w'.cell? ⟨w.heap.size, 1, none⟩ = some (.int .i64 ta) ∧ w'.cell? ⟨w.heap.size + 1, 0, none⟩ = some (.slice ab nb cb) ∧ w'.cell? ⟨w.heap.size + 1, 1, none⟩ = some (.int .i64 tb) ∧ v2.heap.size ≤ w'.heap.size ∧ Below v2.heap.size v2 w')) (by kernel_rfl) ?_ (fun hHeld => ?_)
    · (first | assumption | exact rr4_start c2_0 c2_1 c2_2 c2_3 | exact rr4_drew (by assumption) | exact rr4_keep (by omega) (by omega) (by omega) (by omega) hb (by assumption) | fail)
    refine step_read 0 28 rfl rfl (by kernel_rfl) (by kernel_rfl) (by kernel_rfl) (fun _ _ _ h => h) (by rfl) (v := ?_) (fun w hSw => ?_) (by assumption) ?_; rotate_left; (focus ((try dsimp only at hSw); go_simp; first | done | exact rfl)); simp only [List.set]
    refine step_read 2 30 rfl rfl (by kernel_rfl) (by kernel_rfl) (by kernel_rfl) (fun _ _ _ h => h) (by rfl) (v := ?_) (fun w hSw => ?_) (by assumption) ?_; rotate_left; (focus ((try dsimp only at hSw); go_simp; first | done | exact rfl)); simp only [List.set]
    refine wpAnyH_ready (rs := [1, 8]) (by kernel_rfl) (by simp) ?_
    refine AllReadyH.cons rfl (fun Kc hK => ?_) (AllReadyH.cons rfl (fun Kc hK => ?_) (AllReadyH.nil))
    · go_simp
      go_at_call 31
      refine (toHist_any _ ta na DA _ (HA.out.below (B2.out.trans ((rr4_out (by assumption)).2.mono (by omega)))) HDA.out HNA.out).mono ?_
      rintro e wr1 ⟨yvA, rfl, ry, hb⟩
      have hzz := hb.size
      refine hK.out _ _ ?_ (fun hHeld => ?_)
      · (first | assumption | exact rr4_start c2_0 c2_1 c2_2 c2_3 | exact rr4_drew (by assumption) | exact rr4_keep (by omega) (by omega) (by omega) (by omega) hb (by assumption) | fail)
      clear hK Kc
      refine wpAnyH_ready (rs := [3, 8]) (by kernel_rfl) (by simp) ?_
      refine AllReadyH.cons rfl (fun Kc hK => ?_) (AllReadyH.cons rfl (fun Kc hK => ?_) (AllReadyH.nil))
      · go_simp
        go_at_call 31
        refine (toHist_any _ tb nb DB _ (HB.out.below (B2.out.trans ((rr4_out (by assumption)).2.mono (by omega)))) HDB.out HNB.out).mono ?_
        rintro e wr2 ⟨yvB, rfl, rz, hb⟩
        have hzz := hb.size
        replace ry := ry.below hb (by first | exact Nat.le_refl _ | omega)
        refine hK.out _ _ ?_ (fun hHeld => ?_)
        · (first | assumption | exact rr4_start c2_0 c2_1 c2_2 c2_3 | exact rr4_drew (by assumption) | exact rr4_keep (by omega) (by omega) (by omega) (by omega) hb (by assumption) | fail)
        clear hK Kc
        refine wpAnyH_ready (rs := [4, 8]) (by kernel_rfl) (by simp) ?_
        refine AllReadyH.cons rfl (fun Kc hK => ?_) (AllReadyH.cons rfl (fun Kc hK => ?_) (AllReadyH.nil))
        · go_simp
          go_at_call 45
          refine (Hs.out _ _ _ _ _ _ _ ry rz (by first | exact Nat.le_refl _ | omega) (by first | exact Nat.le_refl _ | omega)).mono ?_
          rintro e wr3 ⟨qv, rfl, rq, hb⟩
          have hzz := hb.size
          obtain ⟨qa, qc, rfl⟩ := rq.slice
          replace ry := ry.below hb (by first | exact Nat.le_refl _ | omega)
          replace rz := rz.below hb (by first | exact Nat.le_refl _ | omega)
          refine hK.out _ _ ?_ (fun hHeld => ?_)
          · (first | assumption | exact rr4_start c2_0 c2_1 c2_2 c2_3 | exact rr4_drew (by assumption) | exact rr4_keep (by omega) (by omega) (by omega) (by omega) hb (by assumption) | fail)
          clear hK Kc
          refine step_read 5 27 rfl rfl (by kernel_rfl) (by kernel_rfl) (by kernel_rfl) (fun _ _ _ h => h) (by rfl) (v := ?_) (fun w hSw => ?_) (by assumption) ?_; rotate_left; (focus ((try dsimp only at hSw); go_simp; first | done | exact rfl)); simp only [List.set]
          refine step_read 6 33 rfl rfl (by kernel_rfl) (by kernel_rfl) (by kernel_rfl) (fun _ _ _ h => h) (by rfl) (v := ?_) (fun w hSw => ?_) (by assumption) ?_; rotate_left; (focus ((try dsimp only at hSw); go_simp; first | done | exact rfl)); simp only [List.set]
          refine step_read 7 34 rfl rfl (by kernel_rfl) (by kernel_rfl) (by kernel_rfl) (fun _ _ _ h => h) (by rfl) (v := ?_) (fun w hSw => ?_) (by assumption) ?_; rotate_left; (focus ((try dsimp only at hSw); go_simp; first | done | exact rfl)); simp only [List.set]
          refine wpAnyH_ready (rs := [8]) (by kernel_rfl) (by simp) ?_
          refine AllReadyH.cons rfl (fun Kc hK => ?_) (AllReadyH.nil)
          go_simp
          refine at_worldK (fun wa4 hwa => ?_)
          have hb : Below wr3.heap.size wr3 wa4 := by rw [hwa]; exact (Below.refl _ _).alloc (Nat.le_refl _) _
          have bc : wa4.cell? ⟨wr3.heap.size, 0, none⟩ = some (.slice none 0 0) := by rw [hwa]; simp
          have bf : wa4.frozen? ⟨wr3.heap.size, 0, none⟩ = false := by rw [hwa]; simp [go_sem]
          have bd : wa4.cell? ⟨wr3.heap.size, 1, none⟩ = some (.int .i64 0) := by rw [hwa]; simp
          have bg : wa4.frozen? ⟨wr3.heap.size, 1, none⟩ = false := by rw [hwa]; simp [go_sem]
          have hbz : wr3.heap.size < wa4.heap.size := by rw [hwa]; simp
          have hzz := hb.size
          replace ry := ry.below hb (by first | exact Nat.le_refl _ | omega)
          replace rz := rz.below hb (by first | exact Nat.le_refl _ | omega)
          replace rq := rq.below hb (by first | exact Nat.le_refl _ | omega)
          have hbb : v2.heap.size ≤ wr3.heap.size := by first | exact Nat.le_refl _ | (have hq := (rr4_out (by assumption)).1; omega)
          have hSn :  wa4.cell? ⟨w.heap.size, 0, none⟩ = some (.slice aa na ca) ∧ wa4.cell? ⟨w.heap.size, 1, none⟩ = some (.int .i64 ta) ∧ wa4.cell? ⟨w.heap.size + 1, 0, none⟩ = some (.slice ab nb cb) ∧ wa4.cell? ⟨w.heap.size + 1, 1, none⟩ = some (.int .i64 tb) ∧ v2.heap.size ≤ wa4.heap.size ∧ Below v2.heap.size v2 wa4 := by rw [hwa]; first | exact rr4_drew (rr4_box (by omega) (by omega) (by omega) (by omega) HSB) | exact rr4_box (by omega) (by omega) (by omega) (by omega) (by assumption)
          clear hwa
          refine hK.out _ _ ?_ (fun hHeld => ?_)
          · (first | assumption | exact rr4_start c2_0 c2_1 c2_2 c2_3 | exact rr4_drew (by assumption) | exact rr4_keep (by omega) (by omega) (by omega) (by omega) hb (by assumption) | fail)
          clear hK Kc
          refine wpAnyH_ready (rs := [9]) (by kernel_rfl) (by simp) ?_
          refine AllReadyH.cons rfl (fun Kc hK => ?_) (AllReadyH.nil)
          go_simp
          refine at_worldK (fun ws5 hwa => ?_)
          have hBR := BoxK.mk' hwa rq (base := v2) (by have hq := (rr4_out (by assumption)).1; omega) (by omega) hbb (by omega) (by omega) bc bd (rr4_out (by assumption)).2
          have hSn :  ws5.cell? ⟨w.heap.size, 0, none⟩ = some (.slice aa na ca) ∧ ws5.cell? ⟨w.heap.size, 1, none⟩ = some (.int .i64 ta) ∧ ws5.cell? ⟨w.heap.size + 1, 0, none⟩ = some (.slice ab nb cb) ∧ ws5.cell? ⟨w.heap.size + 1, 1, none⟩ = some (.int .i64 tb) ∧ v2.heap.size ≤ ws5.heap.size ∧ Below v2.heap.size v2 ws5 := by rw [hwa]; exact rr4_store (by omega) (by omega) (by omega) (by omega) hbb (rr4_store (by omega) (by omega) (by omega) (by omega) hbb (by assumption))
          clear hwa
          refine hK.out _ _ ?_ (fun hHeld => ?_)
          · (first | assumption | exact rr4_start c2_0 c2_1 c2_2 c2_3 | exact rr4_drew (by assumption) | exact rr4_keep (by omega) (by omega) (by omega) (by omega) hb (by assumption) | fail)
          clear hK Kc
          refine step_read 10 7 rfl rfl (by kernel_rfl) (by kernel_rfl) (by kernel_rfl) (fun _ _ _ h => h) (by rfl) (v := ?_) (fun w hSw => ?_) (by assumption) ?_; rotate_left; (focus ((try dsimp only at hSw); go_simp; first | done | exact rfl)); simp only [List.set]
          refine wpAnyH_done (by kernel_rfl) ?_ _
          go_wp2_with fail
          go_meet
          exact ⟨_, _, _, _, _, rfl, rfl, Lib.hid hBR⟩
        · go_simp
          refine at_worldK (fun wa6 hwa => ?_)
          have hb : Below wr2.heap.size wr2 wa6 := by rw [hwa]; exact (Below.refl _ _).alloc (Nat.le_refl _) _
          have bc : wa6.cell? ⟨wr2.heap.size, 0, none⟩ = some (.slice none 0 0) := by rw [hwa]; simp
          have bf : wa6.frozen? ⟨wr2.heap.size, 0, none⟩ = false := by rw [hwa]; simp [go_sem]
          have bd : wa6.cell? ⟨wr2.heap.size, 1, none⟩ = some (.int .i64 0) := by rw [hwa]; simp
          have bg : wa6.frozen? ⟨wr2.heap.size, 1, none⟩ = false := by rw [hwa]; simp [go_sem]
          have hbz : wr2.heap.size < wa6.heap.size := by rw [hwa]; simp
          have hzz := hb.size
          replace ry := ry.below hb (by first | exact Nat.le_refl _ | omega)
          replace rz := rz.below hb (by first | exact Nat.le_refl _ | omega)
          have hbb : v2.heap.size ≤ wr2.heap.size := by first | exact Nat.le_refl _ | (have hq := (rr4_out (by assumption)).1; omega)
          have hSn :  wa6.cell? ⟨w.heap.size, 0, none⟩ = some (.slice aa na ca) ∧ wa6.cell? ⟨w.heap.size, 1, none⟩ = some (.int .i64 ta) ∧ wa6.cell? ⟨w.heap.size + 1, 0, none⟩ = some (.slice ab nb cb) ∧ wa6.cell? ⟨w.heap.size + 1, 1, none⟩ = some (.int .i64 tb) ∧ v2.heap.size ≤ wa6.heap.size ∧ Below v2.heap.size v2 wa6 := by rw [hwa]; first | exact rr4_drew (rr4_box (by omega) (by omega) (by omega) (by omega) HSB) | exact rr4_box (by omega) (by omega) (by omega) (by omega) (by assumption)
          clear hwa
          refine hK.out _ _ ?_ (fun hHeld => ?_)
          · (first | assumption | exact rr4_start c2_0 c2_1 c2_2 c2_3 | exact rr4_drew (by assumption) | exact rr4_keep (by omega) (by omega) (by omega) (by omega) hb (by assumption) | fail)
          clear hK Kc
          refine wpAnyH_ready (rs := [4]) (by kernel_rfl) (by simp) ?_
          refine AllReadyH.cons rfl (fun Kc hK => ?_) (AllReadyH.nil)
          go_simp
          go_at_call 45
          refine (Hs.out _ _ _ _ _ _ _ ry rz (by first | exact Nat.le_refl _ | omega) (by first | exact Nat.le_refl _ | omega)).mono ?_
          rintro e wr7 ⟨qv, rfl, rq, hb⟩
          have hzz := hb.size
          obtain ⟨qa, qc, rfl⟩ := rq.slice
          have hbz0 := hbz
          replace ry := ry.below hb (by first | exact Nat.le_refl _ | omega)
          replace rz := rz.below hb (by first | exact Nat.le_refl _ | omega)
          replace bc : wr7.cell? ⟨wr2.heap.size, 0, none⟩ = some (.slice none 0 0) := by rw [hb.cell (p := ⟨wr2.heap.size, 0, none⟩) hbz]; exact bc
          replace bf : wr7.frozen? ⟨wr2.heap.size, 0, none⟩ = false := by rw [hb.frozen (p := ⟨wr2.heap.size, 0, none⟩) hbz]; exact bf
          replace bd : wr7.cell? ⟨wr2.heap.size, 1, none⟩ = some (.int .i64 0) := by rw [hb.cell (p := ⟨wr2.heap.size, 1, none⟩) hbz]; exact bd
          replace bg : wr7.frozen? ⟨wr2.heap.size, 1, none⟩ = false := by rw [hb.frozen (p := ⟨wr2.heap.size, 1, none⟩) hbz]; exact bg
          replace hbz : wr2.heap.size < wr7.heap.size := Nat.lt_of_lt_of_le hbz hb.size
          refine hK.out _ _ ?_ (fun hHeld => ?_)
          · (first | assumption | exact rr4_start c2_0 c2_1 c2_2 c2_3 | exact rr4_drew (by assumption) | exact rr4_keep (by omega) (by omega) (by omega) (by omega) hb (by assumption) | fail)
          clear hK Kc
          refine step_read 5 27 rfl rfl (by kernel_rfl) (by kernel_rfl) (by kernel_rfl) (fun _ _ _ h => h) (by rfl) (v := ?_) (fun w hSw => ?_) (by assumption) ?_; rotate_left; (focus ((try dsimp only at hSw); go_simp; first | done | exact rfl)); simp only [List.set]
          refine step_read 6 33 rfl rfl (by kernel_rfl) (by kernel_rfl) (by kernel_rfl) (fun _ _ _ h => h) (by rfl) (v := ?_) (fun w hSw => ?_) (by assumption) ?_; rotate_left; (focus ((try dsimp only at hSw); go_simp; first | done | exact rfl)); simp only [List.set]
          refine step_read 7 34 rfl rfl (by kernel_rfl) (by kernel_rfl) (by kernel_rfl) (fun _ _ _ h => h) (by rfl) (v := ?_) (fun w hSw => ?_) (by assumption) ?_; rotate_left; (focus ((try dsimp only at hSw); go_simp; first | done | exact rfl)); simp only [List.set]
          refine wpAnyH_ready (rs := [9]) (by kernel_rfl) (by simp) ?_
          refine AllReadyH.cons rfl (fun Kc hK => ?_) (AllReadyH.nil)
          go_simp
          refine at_worldK (fun ws8 hwa => ?_)
          have hBR := BoxK.mk' hwa rq (base := v2) (by have hq := (rr4_out (by assumption)).1; omega) (by omega) hbb (by omega) (by omega) bc bd (rr4_out (by assumption)).2
          have hSn :  ws8.cell? ⟨w.heap.size, 0, none⟩ = some (.slice aa na ca) ∧ ws8.cell? ⟨w.heap.size, 1, none⟩ = some (.int .i64 ta) ∧ ws8.cell? ⟨w.heap.size + 1, 0, none⟩ = some (.slice ab nb cb) ∧ ws8.cell? ⟨w.heap.size + 1, 1, none⟩ = some (.int .i64 tb) ∧ v2.heap.size ≤ ws8.heap.size ∧ Below v2.heap.size v2 ws8 := by rw [hwa]; exact rr4_store (by omega) (by omega) (by omega) (by omega) hbb (rr4_store (by omega) (by omega) (by omega) (by omega) hbb (by assumption))
          clear hwa
          refine hK.out _ _ ?_ (fun hHeld => ?_)
          · (first | assumption | exact rr4_start c2_0 c2_1 c2_2 c2_3 | exact rr4_drew (by assumption) | exact rr4_keep (by omega) (by omega) (by omega) (by omega) hb (by assumption) | fail)
          clear hK Kc
          refine step_read 10 7 rfl rfl (by kernel_rfl) (by kernel_rfl) (by kernel_rfl) (fun _ _ _ h => h) (by rfl) (v := ?_) (fun w hSw => ?_) (by assumption) ?_; rotate_left; (focus ((try dsimp only at hSw); go_simp; first | done | exact rfl)); simp only [List.set]
          refine wpAnyH_done (by kernel_rfl) ?_ _
          go_wp2_with fail
          go_meet
          exact ⟨_, _, _, _, _, rfl, rfl, Lib.hid hBR⟩
      · go_simp
        refine at_worldK (fun wa9 hwa => ?_)
        have hb : Below wr1.heap.size wr1 wa9 := by rw [hwa]; exact (Below.refl _ _).alloc (Nat.le_refl _) _
        have bc : wa9.cell? ⟨wr1.heap.size, 0, none⟩ = some (.slice none 0 0) := by rw [hwa]; simp
        have bf : wa9.frozen? ⟨wr1.heap.size, 0, none⟩ = false := by rw [hwa]; simp [go_sem]
        have bd : wa9.cell? ⟨wr1.heap.size, 1, none⟩ = some (.int .i64 0) := by rw [hwa]; simp
        have bg : wa9.frozen? ⟨wr1.heap.size, 1, none⟩ = false := by rw [hwa]; simp [go_sem]
        have hbz : wr1.heap.size < wa9.heap.size := by rw [hwa]; simp
        have hzz := hb.size
        replace ry := ry.below hb (by first | exact Nat.le_refl _ | omega)
        have hbb : v2.heap.size ≤ wr1.heap.size := by first | exact Nat.le_refl _ | (have hq := (rr4_out (by assumption)).1; omega)
        have hSn :  wa9.cell? ⟨w.heap.size, 0, none⟩ = some (.slice aa na ca) ∧ wa9.cell? ⟨w.heap.size, 1, none⟩ = some (.int .i64 ta) ∧ wa9.cell? ⟨w.heap.size + 1, 0, none⟩ = some (.slice ab nb cb) ∧ wa9.cell? ⟨w.heap.size + 1, 1, none⟩ = some (.int .i64 tb) ∧ v2.heap.size ≤ wa9.heap.size ∧ Below v2.heap.size v2 wa9 := by rw [hwa]; first | exact rr4_drew (rr4_box (by omega) (by omega) (by omega) (by omega) HSB) | exact rr4_box (by omega) (by omega) (by omega) (by omega) (by assumption)
        clear hwa
        refine hK.out _ _ ?_ (fun hHeld => ?_)
        · (first | assumption | exact rr4_start c2_0 c2_1 c2_2 c2_3 | exact rr4_drew (by assumption) | exact rr4_keep (by omega) (by omega) (by omega) (by omega) hb (by assumption) | fail)
        clear hK Kc
        refine wpAnyH_ready (rs := [3]) (by kernel_rfl) (by simp) ?_
        refine AllReadyH.cons rfl (fun Kc hK => ?_) (AllReadyH.nil)
        go_simp
        go_at_call 31
        refine (toHist_any _ tb nb DB _ (HB.out.below (B2.out.trans ((rr4_out (by assumption)).2.mono (by omega)))) HDB.out HNB.out).mono ?_
        rintro e wr10 ⟨yvB, rfl, rz, hb⟩
        have hzz := hb.size
        replace ry := ry.below hb (by first | exact Nat.le_refl _ | omega)
        replace bc : wr10.cell? ⟨wr1.heap.size, 0, none⟩ = some (.slice none 0 0) := by rw [hb.cell (p := ⟨wr1.heap.size, 0, none⟩) hbz]; exact bc
        replace bf : wr10.frozen? ⟨wr1.heap.size, 0, none⟩ = false := by rw [hb.frozen (p := ⟨wr1.heap.size, 0, none⟩) hbz]; exact bf
        replace bd : wr10.cell? ⟨wr1.heap.size, 1, none⟩ = some (.int .i64 0) := by rw [hb.cell (p := ⟨wr1.heap.size, 1, none⟩) hbz]; exact bd
        replace bg : wr10.frozen? ⟨wr1.heap.size, 1, none⟩ = false := by rw [hb.frozen (p := ⟨wr1.heap.size, 1, none⟩) hbz]; exact bg
        replace hbz : wr1.heap.size < wr10.heap.size := Nat.lt_of_lt_of_le hbz hb.size
        refine hK.out _ _ ?_ (fun hHeld => ?_)
        · (first | assumption | exact rr4_start c2_0 c2_1 c2_2 c2_3 | exact rr4_drew (by assumption) | exact rr4_keep (by omega) (by omega) (by omega) (by omega) hb (by assumption) | fail)
        clear hK Kc
        refine wpAnyH_ready (rs := [4]) (by kernel_rfl) (by simp) ?_
        refine AllReadyH.cons rfl (fun Kc hK => ?_) (AllReadyH.nil)
        go_simp
        go_at_call 45
        refine (Hs.out _ _ _ _ _ _ _ ry rz (by first | exact Nat.le_refl _ | omega) (by first | exact Nat.le_refl _ | omega)).mono ?_
        rintro e wr11 ⟨qv, rfl, rq, hb⟩
        have hzz := hb.size
        obtain ⟨qa, qc, rfl⟩ := rq.slice
        have hbz0 := hbz
        replace ry := ry.below hb (by first | exact Nat.le_refl _ | omega)
        replace rz := rz.below hb (by first | exact Nat.le_refl _ | omega)
        replace bc : wr11.cell? ⟨wr1.heap.size, 0, none⟩ = some (.slice none 0 0) := by rw [hb.cell (p := ⟨wr1.heap.size, 0, none⟩) hbz]; exact bc
        replace bf : wr11.frozen? ⟨wr1.heap.size, 0, none⟩ = false := by rw [hb.frozen (p := ⟨wr1.heap.size, 0, none⟩) hbz]; exact bf
        replace bd : wr11.cell? ⟨wr1.heap.size, 1, none⟩ = some (.int .i64 0) := by rw [hb.cell (p := ⟨wr1.heap.size, 1, none⟩) hbz]; exact bd
        replace bg : wr11.frozen? ⟨wr1.heap.size, 1, none⟩ = false := by rw [hb.frozen (p := ⟨wr1.heap.size, 1, none⟩) hbz]; exact bg
        replace hbz : wr1.heap.size < wr11.heap.size := Nat.lt_of_lt_of_le hbz hb.size
        refine hK.out _ _ ?_ (fun hHeld => ?_)
        · (first | assumption | exact rr4_start c2_0 c2_1 c2_2 c2_3 | exact rr4_drew (by assumption) | exact rr4_keep (by omega) (by omega) (by omega) (by omega) hb (by assumption) | fail)
        clear hK Kc
        refine step_read 5 27 rfl rfl (by kernel_rfl) (by kernel_rfl) (by kernel_rfl) (fun _ _ _ h => h) (by rfl) (v := ?_) (fun w hSw => ?_) (by assumption) ?_; rotate_left; (focus ((try dsimp only at hSw); go_simp; first | done | exact rfl)); simp only [List.set]
        refine step_read 6 33 rfl rfl (by kernel_rfl) (by kernel_rfl) (by kernel_rfl) (fun _ _ _ h => h) (by rfl) (v := ?_) (fun w hSw => ?_) (by assumption) ?_; rotate_left; (focus ((try dsimp only at hSw); go_simp; first | done | exact rfl)); simp only [List.set]
        refine step_read 7 34 rfl rfl (by kernel_rfl) (by kernel_rfl) (by kernel_rfl) (fun _ _ _ h => h) (by rfl) (v := ?_) (fun w hSw => ?_) (by assumption) ?_; rotate_left; (focus ((try dsimp only at hSw); go_simp; first | done | exact rfl)); simp only [List.set]
        refine wpAnyH_ready (rs := [9]) (by kernel_rfl) (by simp) ?_
        refine AllReadyH.cons rfl (fun Kc hK => ?_) (AllReadyH.nil)
        go_simp
        refine at_worldK (fun ws12 hwa => ?_)
        have hBR := BoxK.mk' hwa rq (base := v2) (by have hq := (rr4_out (by assumption)).1; omega) (by omega) hbb (by omega) (by omega) bc bd (rr4_out (by assumption)).2
        have hSn :  ws12.cell? ⟨w.heap.size, 0, none⟩ = some (.slice aa na ca) ∧ ws12.cell? ⟨w.heap.size, 1, none⟩ = some (.int .i64 ta) ∧ ws12.cell? ⟨w.heap.size + 1, 0, none⟩ = some (.slice ab nb cb) ∧ ws12.cell? ⟨w.heap.size + 1, 1, none⟩ = some (.int .i64 tb) ∧ v2.heap.size ≤ ws12.heap.size ∧ Below v2.heap.size v2 ws12 := by rw [hwa]; exact rr4_store (by omega) (by omega) (by omega) (by omega) hbb (rr4_store (by omega) (by omega) (by omega) (by omega) hbb (by assumption))
        clear hwa
        refine hK.out _ _ ?_ (fun hHeld => ?_)
        · (first | assumption | exact rr4_start c2_0 c2_1 c2_2 c2_3 | exact rr4_drew (by assumption) | exact rr4_keep (by omega) (by omega) (by omega) (by omega) hb (by assumption) | fail)
        clear hK Kc
        refine step_read 10 7 rfl rfl (by kernel_rfl) (by kernel_rfl) (by kernel_rfl) (fun _ _ _ h => h) (by rfl) (v := ?_) (fun w hSw => ?_) (by assumption) ?_; rotate_left; (focus ((try dsimp only at hSw); go_simp; first | done | exact rfl)); simp only [List.set]
        refine wpAnyH_done (by kernel_rfl) ?_ _
        go_wp2_with fail
        go_meet
        exact ⟨_, _, _, _, _, rfl, rfl, Lib.hid hBR⟩
    · go_simp
      refine at_worldK (fun wa13 hwa => ?_)
      have hb : Below v2.heap.size v2 wa13 := by rw [hwa]; first | exact ((Below.refl _ _).alloc (Nat.le_refl _) _).drew | exact (Below.refl _ _).drew.alloc (by first | exact Nat.le_refl _ | simp) _
      have HSB := (⟨c2_0, c2_1, c2_2, c2_3, Nat.le_refl _, Below.refl _ _⟩ :  v2.cell? ⟨w.heap.size, 0, none⟩ = some (.slice aa na ca) ∧ v2.cell? ⟨w.heap.size, 1, none⟩ = some (.int .i64 ta) ∧ v2.cell? ⟨w.heap.size + 1, 0, none⟩ = some (.slice ab nb cb) ∧ v2.cell? ⟨w.heap.size + 1, 1, none⟩ = some (.int .i64 tb) ∧ v2.heap.size ≤ v2.heap.size ∧ Below v2.heap.size v2 v2)
      have bc : wa13.cell? ⟨v2.heap.size, 0, none⟩ = some (.slice none 0 0) := by rw [hwa]; simp
      have bf : wa13.frozen? ⟨v2.heap.size, 0, none⟩ = false := by rw [hwa]; simp [go_sem]
      have bd : wa13.cell? ⟨v2.heap.size, 1, none⟩ = some (.int .i64 0) := by rw [hwa]; simp
      have bg : wa13.frozen? ⟨v2.heap.size, 1, none⟩ = false := by rw [hwa]; simp [go_sem]
      have hbz : v2.heap.size < wa13.heap.size := by rw [hwa]; simp
      have hzz := hb.size
      have hbb : v2.heap.size ≤ v2.heap.size := by first | exact Nat.le_refl _ | (have hq := (rr4_out (by assumption)).1; omega)
      have hSn :  wa13.cell? ⟨w.heap.size, 0, none⟩ = some (.slice aa na ca) ∧ wa13.cell? ⟨w.heap.size, 1, none⟩ = some (.int .i64 ta) ∧ wa13.cell? ⟨w.heap.size + 1, 0, none⟩ = some (.slice ab nb cb) ∧ wa13.cell? ⟨w.heap.size + 1, 1, none⟩ = some (.int .i64 tb) ∧ v2.heap.size ≤ wa13.heap.size ∧ Below v2.heap.size v2 wa13 := by rw [hwa]; first | exact rr4_drew (rr4_box (by omega) (by omega) (by omega) (by omega) HSB) | exact rr4_box (by omega) (by omega) (by omega) (by omega) (by assumption)
      clear hwa
      clear HSB
      refine hK.out _ _ ?_ (fun hHeld => ?_)
      · (first | assumption | exact rr4_start c2_0 c2_1 c2_2 c2_3 | exact rr4_drew (by assumption) | exact rr4_keep (by omega) (by omega) (by omega) (by omega) hb (by assumption) | fail)
      clear hK Kc
      refine wpAnyH_ready (rs := [1]) (by kernel_rfl) (by simp) ?_
      refine AllReadyH.cons rfl (fun Kc hK => ?_) (AllReadyH.nil)
      go_simp
      go_at_call 31
      refine (toHist_any _ ta na DA _ (HA.out.below (B2.out.trans ((rr4_out (by assumption)).2.mono (by omega)))) HDA.out HNA.out).mono ?_
      rintro e wr14 ⟨yvA, rfl, ry, hb⟩
      have hzz := hb.size
      replace bc : wr14.cell? ⟨v2.heap.size, 0, none⟩ = some (.slice none 0 0) := by rw [hb.cell (p := ⟨v2.heap.size, 0, none⟩) hbz]; exact bc
      replace bf : wr14.frozen? ⟨v2.heap.size, 0, none⟩ = false := by rw [hb.frozen (p := ⟨v2.heap.size, 0, none⟩) hbz]; exact bf
      replace bd : wr14.cell? ⟨v2.heap.size, 1, none⟩ = some (.int .i64 0) := by rw [hb.cell (p := ⟨v2.heap.size, 1, none⟩) hbz]; exact bd
      replace bg : wr14.frozen? ⟨v2.heap.size, 1, none⟩ = false := by rw [hb.frozen (p := ⟨v2.heap.size, 1, none⟩) hbz]; exact bg
      replace hbz : v2.heap.size < wr14.heap.size := Nat.lt_of_lt_of_le hbz hb.size
      refine hK.out _ _ ?_ (fun hHeld => ?_)
      · (first | assumption | exact rr4_start c2_0 c2_1 c2_2 c2_3 | exact rr4_drew (by assumption) | exact rr4_keep (by omega) (by omega) (by omega) (by omega) hb (by assumption) | fail)
      clear hK Kc
      refine wpAnyH_ready (rs := [3]) (by kernel_rfl) (by simp) ?_
      refine AllReadyH.cons rfl (fun Kc hK => ?_) (AllReadyH.nil)
      go_simp
      go_at_call 31
      refine (toHist_any _ tb nb DB _ (HB.out.below (B2.out.trans ((rr4_out (by assumption)).2.mono (by omega)))) HDB.out HNB.out).mono ?_
      rintro e wr15 ⟨yvB, rfl, rz, hb⟩
      have hzz := hb.size
      replace ry := ry.below hb (by first | exact Nat.le_refl _ | omega)
      replace bc : wr15.cell? ⟨v2.heap.size, 0, none⟩ = some (.slice none 0 0) := by rw [hb.cell (p := ⟨v2.heap.size, 0, none⟩) hbz]; exact bc
      replace bf : wr15.frozen? ⟨v2.heap.size, 0, none⟩ = false := by rw [hb.frozen (p := ⟨v2.heap.size, 0, none⟩) hbz]; exact bf
      replace bd : wr15.cell? ⟨v2.heap.size, 1, none⟩ = some (.int .i64 0) := by rw [hb.cell (p := ⟨v2.heap.size, 1, none⟩) hbz]; exact bd
      replace bg : wr15.frozen? ⟨v2.heap.size, 1, none⟩ = false := by rw [hb.frozen (p := ⟨v2.heap.size, 1, none⟩) hbz]; exact bg
      replace hbz : v2.heap.size < wr15.heap.size := Nat.lt_of_lt_of_le hbz hb.size
      refine hK.out _ _ ?_ (fun hHeld => ?_)
      · (first | assumption | exact rr4_start c2_0 c2_1 c2_2 c2_3 | exact rr4_drew (by assumption) | exact rr4_keep (by omega) (by omega) (by omega) (by omega) hb (by assumption) | fail)
      clear hK Kc
      refine wpAnyH_ready (rs := [4]) (by kernel_rfl) (by simp) ?_
      refine AllReadyH.cons rfl (fun Kc hK => ?_) (AllReadyH.nil)
      go_simp
      go_at_call 45
      refine (Hs.out _ _ _ _ _ _ _ ry rz (by first | exact Nat.le_refl _ | omega) (by first | exact Nat.le_refl _ | omega)).mono ?_
      rintro e wr16 ⟨qv, rfl, rq, hb⟩
      have hzz := hb.size
      obtain ⟨qa, qc, rfl⟩ := rq.slice
      have hbz0 := hbz
      replace ry := ry.below hb (by first | exact Nat.le_refl _ | omega)
      replace rz := rz.below hb (by first | exact Nat.le_refl _ | omega)
      replace bc : wr16.cell? ⟨v2.heap.size, 0, none⟩ = some (.slice none 0 0) := by rw [hb.cell (p := ⟨v2.heap.size, 0, none⟩) hbz]; exact bc
      replace bf : wr16.frozen? ⟨v2.heap.size, 0, none⟩ = false := by rw [hb.frozen (p := ⟨v2.heap.size, 0, none⟩) hbz]; exact bf
      replace bd : wr16.cell? ⟨v2.heap.size, 1, none⟩ = some (.int .i64 0) := by rw [hb.cell (p := ⟨v2.heap.size, 1, none⟩) hbz]; exact bd
      replace bg : wr16.frozen? ⟨v2.heap.size, 1, none⟩ = false := by rw [hb.frozen (p := ⟨v2.heap.size, 1, none⟩) hbz]; exact bg
      replace hbz : v2.heap.size < wr16.heap.size := Nat.lt_of_lt_of_le hbz hb.size
      refine hK.out _ _ ?_ (fun hHeld => ?_)
      · (first | assumption | exact rr4_start c2_0 c2_1 c2_2 c2_3 | exact rr4_drew (by assumption) | exact rr4_keep (by omega) (by omega) (by omega) (by omega) hb (by assumption) | fail)
      clear hK Kc
      refine step_read 5 27 rfl rfl (by kernel_rfl) (by kernel_rfl) (by kernel_rfl) (fun _ _ _ h => h) (by rfl) (v := ?_) (fun w hSw => ?_) (by assumption) ?_; rotate_left; (focus ((try dsimp only at hSw); go_simp; first | done | exact rfl)); simp only [List.set]
      refine step_read 6 33 rfl rfl (by kernel_rfl) (by kernel_rfl) (by kernel_rfl) (fun _ _ _ h => h) (by rfl) (v := ?_) (fun w hSw => ?_) (by assumption) ?_; rotate_left; (focus ((try dsimp only at hSw); go_simp; first | done | exact rfl)); simp only [List.set]
      refine step_read 7 34 rfl rfl (by kernel_rfl) (by kernel_rfl) (by kernel_rfl) (fun _ _ _ h => h) (by rfl) (v := ?_) (fun w hSw => ?_) (by assumption) ?_; rotate_left; (focus ((try dsimp only at hSw); go_simp; first | done | exact rfl)); simp only [List.set]
      refine wpAnyH_ready (rs := [9]) (by kernel_rfl) (by simp) ?_
      refine AllReadyH.cons rfl (fun Kc hK => ?_) (AllReadyH.nil)
      go_simp
      refine at_worldK (fun ws17 hwa => ?_)
      have hBR := BoxK.mk' hwa rq (base := v2) (by have hq := (rr4_out (by assumption)).1; omega) (by omega) hbb (by omega) (by omega) bc bd (rr4_out (by assumption)).2
      have hSn :  ws17.cell? ⟨w.heap.size, 0, none⟩ = some (.slice aa na ca) ∧ ws17.cell? ⟨w.heap.size, 1, none⟩ = some (.int .i64 ta) ∧ ws17.cell? ⟨w.heap.size + 1, 0, none⟩ = some (.slice ab nb cb) ∧ ws17.cell? ⟨w.heap.size + 1, 1, none⟩ = some (.int .i64 tb) ∧ v2.heap.size ≤ ws17.heap.size ∧ Below v2.heap.size v2 ws17 := by rw [hwa]; exact rr4_store (by omega) (by omega) (by omega) (by omega) hbb (rr4_store (by omega) (by omega) (by omega) (by omega) hbb (by assumption))
      clear hwa
      refine hK.out _ _ ?_ (fun hHeld => ?_)
      · (first | assumption | exact rr4_start c2_0 c2_1 c2_2 c2_3 | exact rr4_drew (by assumption) | exact rr4_keep (by omega) (by omega) (by omega) (by omega) hb (by assumption) | fail)
      clear hK Kc
      refine step_read 10 7 rfl rfl (by kernel_rfl) (by kernel_rfl) (by kernel_rfl) (fun _ _ _ h => h) (by rfl) (v := ?_) (fun w hSw => ?_) (by assumption) ?_; rotate_left; (focus ((try dsimp only at hSw); go_simp; first | done | exact rfl)); simp only [List.set]
      refine wpAnyH_done (by kernel_rfl) ?_ _
      go_wp2_with fail
      go_meet
      exact ⟨_, _, _, _, _, rfl, rfl, Lib.hid hBR⟩
  case rest =>
    obtain ⟨xW, loW, hiW, vaW, vcW, rfl, rfl, hBR⟩ := hcut
    obtain ⟨v3, rfl⟩ : ∃ x, x = wc := ⟨_, rfl⟩
    obtain ⟨br, b1, b2, b3, b4, b5, b6, b7, hb3⟩ := hBR.out
    clear hBR
    have sz3 : v2.heap.size ≤ v3.heap.size := hb3.size
    have st3 : Below v2.heap.size v2 v3 := hb3
    have c3_0 : v3.cell? ⟨w.heap.size, 0, none⟩ = some (.slice aa na ca) := by rw [(bcell st3).1 _ _ (by omega)]; exact c2_0
    have c3_1 : v3.cell? ⟨w.heap.size, 1, none⟩ = some (.int .i64 ta) := by rw [(bcell st3).1 _ _ (by omega)]; exact c2_1
    have c3_2 : v3.cell? ⟨w.heap.size + 1, 0, none⟩ = some (.slice ab nb cb) := by rw [(bcell st3).1 _ _ (by omega)]; exact c2_2
    have c3_3 : v3.cell? ⟨w.heap.size + 1, 1, none⟩ = some (.int .i64 tb) := by rw [(bcell st3).1 _ _ (by omega)]; exact c2_3
    have B3 : Hid (Below w.heap.size w v3) := B2.out.trans (st3.mono (by omega))
    have R3_0 : Hid (Row 1 v3 (loW) (hiW) (.slice vaW m vcW) m DR) := br
    have d3_0 : w.heap.size < v3.heap.size := by omega
    have e3_0 : w.heap.size ≠ v3.heap.size := by omega
    have d3_1 : w.heap.size + 1 < v3.heap.size := by omega
    have e3_1 : w.heap.size + 1 ≠ v3.heap.size := by omega
    clear d2_0 e2_0 d2_1 e2_1 c2_0 c2_1 c2_2 c2_3 B2 st3 br hb3
    have cbW : v3.cell? ⟨(xW), 0, none⟩ = some (.slice vaW m vcW) := b6
    have cdW : v3.cell? ⟨(xW), 1, none⟩ = some (.int .i64 tr) := b7
    clear b6 b7
    have ddW : xW < v3.heap.size := b4
    have eeW : xW ≠ v3.heap.size := by omega
    go_wp2_with fail
    go_at_call 31
    refine (toHist_any _ ta na DA _ (HA.out.below B3.out) HDA.out HNA.out).mono ?_
    rintro e v4 ⟨vX, rfl, hr, hb4⟩
    have sz4 : v3.heap.size ≤ v4.heap.size := hb4.size
    have st4 : Below v3.heap.size v3 v4 := hb4
    have c4_0 : v4.cell? ⟨w.heap.size, 0, none⟩ = some (.slice aa na ca) := by rw [(bcell st4).1 _ _ (by omega)]; exact c3_0
    have c4_1 : v4.cell? ⟨w.heap.size, 1, none⟩ = some (.int .i64 ta) := by rw [(bcell st4).1 _ _ (by omega)]; exact c3_1
    have c4_2 : v4.cell? ⟨w.heap.size + 1, 0, none⟩ = some (.slice ab nb cb) := by rw [(bcell st4).1 _ _ (by omega)]; exact c3_2
    have c4_3 : v4.cell? ⟨w.heap.size + 1, 1, none⟩ = some (.int .i64 tb) := by rw [(bcell st4).1 _ _ (by omega)]; exact c3_3
    have c4_4 : v4.cell? ⟨(xW), 0, none⟩ = some (.slice vaW m vcW) := by rw [(bcell st4).1 _ _ (by omega)]; exact cbW
    have c4_5 : v4.cell? ⟨(xW), 1, none⟩ = some (.int .i64 tr) := by rw [(bcell st4).1 _ _ (by omega)]; exact cdW
    have B4 : Hid (Below w.heap.size w v4) := B3.out.trans (st4.mono (by omega))
    have R4_0 : Hid (Row 1 v4 (loW) (hiW) (.slice vaW m vcW) m DR) := R3_0.out.below st4 (by omega)
    have R4_1 : Hid (Row 1 v4 (v3.heap.size) (v4.heap.size) vX na DA) := hr
    have d4_0 : w.heap.size < v4.heap.size := by omega
    have e4_0 : w.heap.size ≠ v4.heap.size := by omega
    have d4_1 : w.heap.size + 1 < v4.heap.size := by omega
    have e4_1 : w.heap.size + 1 ≠ v4.heap.size := by omega
    have d4_2 : (xW) < v4.heap.size := by omega
    have e4_2 : (xW) ≠ v4.heap.size := by omega
    clear d3_0 e3_0 d3_1 e3_1 ddW eeW c3_0 c3_1 c3_2 c3_3 cbW cdW B3 st4 R3_0 hr hb4
    obtain ⟨Xa, Xc, rfl⟩ := R4_1.out.slice
    go_wp2_with fail
    go_at_call 31
    refine (toHist_any _ tb nb DB _ (HB.out.below (Below.trans B4.out (by go_grown))) HDB.out HNB.out).mono ?_
    rintro e v5 ⟨vY, rfl, hr, hb5⟩
    have sz5 : v4.heap.size + 1 ≤ v5.heap.size := by have hh := hb5.size; simp at hh; omega
    have st5 : Below v4.heap.size v4 v5 := Below.trans (by go_grown) (hb5.mono (by simp))
    have c5_0 : v5.cell? ⟨w.heap.size, 0, none⟩ = some (.slice aa na ca) := by rw [(bcell st5).1 _ _ (by omega)]; exact c4_0
    have c5_1 : v5.cell? ⟨w.heap.size, 1, none⟩ = some (.int .i64 ta) := by rw [(bcell st5).1 _ _ (by omega)]; exact c4_1
    have c5_2 : v5.cell? ⟨w.heap.size + 1, 0, none⟩ = some (.slice ab nb cb) := by rw [(bcell st5).1 _ _ (by omega)]; exact c4_2
    have c5_3 : v5.cell? ⟨w.heap.size + 1, 1, none⟩ = some (.int .i64 tb) := by rw [(bcell st5).1 _ _ (by omega)]; exact c4_3
    have c5_4 : v5.cell? ⟨(xW), 0, none⟩ = some (.slice vaW m vcW) := by rw [(bcell st5).1 _ _ (by omega)]; exact c4_4
    have c5_5 : v5.cell? ⟨(xW), 1, none⟩ = some (.int .i64 tr) := by rw [(bcell st5).1 _ _ (by omega)]; exact c4_5
    have c5_6 : v5.cell? ⟨v4.heap.size, 0, none⟩ = some (.slice Xa na Xc) := by rw [(bcell hb5).1 _ _ (by simp)]; first | (rw [new_at (by simp)]; rfl) | simp
    have c5_7 : v5.cell? ⟨v4.heap.size, 1, none⟩ = some (.int .i64 ta) := by rw [(bcell hb5).1 _ _ (by simp)]; first | (rw [new_at (by simp)]; rfl) | simp
    have B5 : Hid (Below w.heap.size w v5) := B4.out.trans (st5.mono (by omega))
    have R5_0 : Hid (Row 1 v5 (loW) (hiW) (.slice vaW m vcW) m DR) := R4_0.out.below st5 (by omega)
    have R5_1 : Hid (Row 1 v5 (v3.heap.size) (v4.heap.size) (.slice Xa na Xc) na DA) := R4_1.out.below st5 (by omega)
    have R5_2 : Hid (Row 1 v5 (v4.heap.size + 1) (v5.heap.size) vY nb DB) := hr.wide (by simp) (Nat.le_refl _)
    have d5_0 : w.heap.size < v5.heap.size := by omega
    have e5_0 : w.heap.size ≠ v5.heap.size := by omega
    have d5_1 : w.heap.size + 1 < v5.heap.size := by omega
    have e5_1 : w.heap.size + 1 ≠ v5.heap.size := by omega
    have d5_2 : (xW) < v5.heap.size := by omega
    have e5_2 : (xW) ≠ v5.heap.size := by omega
    have d5_3 : v4.heap.size < v5.heap.size := by omega
    have e5_3 : v4.heap.size ≠ v5.heap.size := by omega
    clear d4_0 e4_0 d4_1 e4_1 d4_2 e4_2 c4_0 c4_1 c4_2 c4_3 c4_4 c4_5 B4 st5 R4_0 R4_1 hb5
    obtain ⟨Ya, Yc, rfl⟩ := R5_2.out.slice
    go_wp2_with fail
    go_at_call 24
    refine (Hi.out _ _ _ _ _ _ _ (R5_1.out.below (B := v5.heap.size) (by go_grown) (by omega)) (R5_2.out.below (B := v5.heap.size) (by go_grown) (by omega)) (by first | omega | (simp; done) | (simp; omega) | fail) (by first | omega | (simp; done) | (simp; omega) | fail)).mono ?_
    rintro e v6 ⟨vG, rfl, hr, hb6⟩
    have sz6 : v5.heap.size + 1 ≤ v6.heap.size := by have hh := hb6.size; simp at hh; omega
    have st6 : Below v5.heap.size v5 v6 := Below.trans (by go_grown) (hb6.mono (by simp))
    have c6_0 : v6.cell? ⟨w.heap.size, 0, none⟩ = some (.slice aa na ca) := by rw [(bcell st6).1 _ _ (by omega)]; exact c5_0
    have c6_1 : v6.cell? ⟨w.heap.size, 1, none⟩ = some (.int .i64 ta) := by rw [(bcell st6).1 _ _ (by omega)]; exact c5_1
    have c6_2 : v6.cell? ⟨w.heap.size + 1, 0, none⟩ = some (.slice ab nb cb) := by rw [(bcell st6).1 _ _ (by omega)]; exact c5_2
    have c6_3 : v6.cell? ⟨w.heap.size + 1, 1, none⟩ = some (.int .i64 tb) := by rw [(bcell st6).1 _ _ (by omega)]; exact c5_3
    have c6_4 : v6.cell? ⟨(xW), 0, none⟩ = some (.slice vaW m vcW) := by rw [(bcell st6).1 _ _ (by omega)]; exact c5_4
    have c6_5 : v6.cell? ⟨(xW), 1, none⟩ = some (.int .i64 tr) := by rw [(bcell st6).1 _ _ (by omega)]; exact c5_5
    have c6_6 : v6.cell? ⟨v4.heap.size, 0, none⟩ = some (.slice Xa na Xc) := by rw [(bcell st6).1 _ _ (by omega)]; exact c5_6
    have c6_7 : v6.cell? ⟨v4.heap.size, 1, none⟩ = some (.int .i64 ta) := by rw [(bcell st6).1 _ _ (by omega)]; exact c5_7
    have c6_8 : v6.cell? ⟨v5.heap.size, 0, none⟩ = some (.slice Ya nb Yc) := by rw [(bcell hb6).1 _ _ (by simp)]; first | (rw [new_at (by simp)]; rfl) | simp
    have c6_9 : v6.cell? ⟨v5.heap.size, 1, none⟩ = some (.int .i64 tb) := by rw [(bcell hb6).1 _ _ (by simp)]; first | (rw [new_at (by simp)]; rfl) | simp
    have B6 : Hid (Below w.heap.size w v6) := B5.out.trans (st6.mono (by omega))
    have R6_0 : Hid (Row 1 v6 (loW) (hiW) (.slice vaW m vcW) m DR) := R5_0.out.below st6 (by omega)
    have R6_1 : Hid (Row 1 v6 (v3.heap.size) (v4.heap.size) (.slice Xa na Xc) na DA) := R5_1.out.below st6 (by omega)
    have R6_2 : Hid (Row 1 v6 (v4.heap.size + 1) (v5.heap.size) (.slice Ya nb Yc) nb DB) := R5_2.out.below st6 (by omega)
    have R6_3 : Hid (Row 1 v6 (v5.heap.size + 1) (v6.heap.size) vG m DR) := hr.wide (by simp) (Nat.le_refl _)
    have d6_0 : w.heap.size < v6.heap.size := by omega
    have e6_0 : w.heap.size ≠ v6.heap.size := by omega
    have d6_1 : w.heap.size + 1 < v6.heap.size := by omega
    have e6_1 : w.heap.size + 1 ≠ v6.heap.size := by omega
    have d6_2 : (xW) < v6.heap.size := by omega
    have e6_2 : (xW) ≠ v6.heap.size := by omega
    have d6_3 : v4.heap.size < v6.heap.size := by omega
    have e6_3 : v4.heap.size ≠ v6.heap.size := by omega
    have d6_4 : v5.heap.size < v6.heap.size := by omega
    have e6_4 : v5.heap.size ≠ v6.heap.size := by omega
    clear d5_0 e5_0 d5_1 e5_1 d5_2 e5_2 d5_3 e5_3 c5_0 c5_1 c5_2 c5_3 c5_4 c5_5 c5_6 c5_7 B5 st6 R5_0 R5_1 R5_2 hb6
    obtain ⟨Ga, Gc, rfl⟩ := R6_3.out.slice
    go_wp2_with fail
    go_at_call 33
    refine (eqHist_same tr DR m _ _ _ _ _ _ _ (R6_3.out.below (B := v6.heap.size) (by go_grown) (by omega)) (R6_0.out.below (B := v6.heap.size) (by go_grown) (by omega)) (by first | omega | (simp; done) | (simp; omega) | fail) (by first | omega | (simp; done) | (simp; omega) | fail)).mono ?_
    rintro e v7 ⟨rfl, hb7⟩
    have sz7 : v6.heap.size + 1 ≤ v7.heap.size := by have hh := hb7.size; simp at hh; omega
    have st7 : Below v6.heap.size v6 v7 := Below.trans (by go_grown) (hb7.mono (by simp))
    have c7_0 : v7.cell? ⟨w.heap.size, 0, none⟩ = some (.slice aa na ca) := by rw [(bcell st7).1 _ _ (by omega)]; exact c6_0
    have c7_1 : v7.cell? ⟨w.heap.size, 1, none⟩ = some (.int .i64 ta) := by rw [(bcell st7).1 _ _ (by omega)]; exact c6_1
    have c7_2 : v7.cell? ⟨w.heap.size + 1, 0, none⟩ = some (.slice ab nb cb) := by rw [(bcell st7).1 _ _ (by omega)]; exact c6_2
    have c7_3 : v7.cell? ⟨w.heap.size + 1, 1, none⟩ = some (.int .i64 tb) := by rw [(bcell st7).1 _ _ (by omega)]; exact c6_3
    have c7_4 : v7.cell? ⟨(xW), 0, none⟩ = some (.slice vaW m vcW) := by rw [(bcell st7).1 _ _ (by omega)]; exact c6_4
    have c7_5 : v7.cell? ⟨(xW), 1, none⟩ = some (.int .i64 tr) := by rw [(bcell st7).1 _ _ (by omega)]; exact c6_5
    have c7_6 : v7.cell? ⟨v4.heap.size, 0, none⟩ = some (.slice Xa na Xc) := by rw [(bcell st7).1 _ _ (by omega)]; exact c6_6
    have c7_7 : v7.cell? ⟨v4.heap.size, 1, none⟩ = some (.int .i64 ta) := by rw [(bcell st7).1 _ _ (by omega)]; exact c6_7
    have c7_8 : v7.cell? ⟨v5.heap.size, 0, none⟩ = some (.slice Ya nb Yc) := by rw [(bcell st7).1 _ _ (by omega)]; exact c6_8
    have c7_9 : v7.cell? ⟨v5.heap.size, 1, none⟩ = some (.int .i64 tb) := by rw [(bcell st7).1 _ _ (by omega)]; exact c6_9
    have c7_10 : v7.cell? ⟨v6.heap.size, 0, none⟩ = some (.slice Ga m Gc) := by rw [(bcell hb7).1 _ _ (by simp)]; first | (rw [new_at (by simp)]; rfl) | simp
    have c7_11 : v7.cell? ⟨v6.heap.size, 1, none⟩ = some (.int .i64 tr) := by rw [(bcell hb7).1 _ _ (by simp)]; first | (rw [new_at (by simp)]; rfl) | simp
    have B7 : Hid (Below w.heap.size w v7) := B6.out.trans (st7.mono (by omega))
    have R7_0 : Hid (Row 1 v7 (loW) (hiW) (.slice vaW m vcW) m DR) := R6_0.out.below st7 (by omega)
    have R7_1 : Hid (Row 1 v7 (v3.heap.size) (v4.heap.size) (.slice Xa na Xc) na DA) := R6_1.out.below st7 (by omega)
    have R7_2 : Hid (Row 1 v7 (v4.heap.size + 1) (v5.heap.size) (.slice Ya nb Yc) nb DB) := R6_2.out.below st7 (by omega)
    have R7_3 : Hid (Row 1 v7 (v5.heap.size + 1) (v6.heap.size) (.slice Ga m Gc) m DR) := R6_3.out.below st7 (by omega)
    have d7_0 : w.heap.size < v7.heap.size := by omega
    have e7_0 : w.heap.size ≠ v7.heap.size := by omega
    have d7_1 : w.heap.size + 1 < v7.heap.size := by omega
    have e7_1 : w.heap.size + 1 ≠ v7.heap.size := by omega
    have d7_2 : (xW) < v7.heap.size := by omega
    have e7_2 : (xW) ≠ v7.heap.size := by omega
    have d7_3 : v4.heap.size < v7.heap.size := by omega
    have e7_3 : v4.heap.size ≠ v7.heap.size := by omega
    have d7_4 : v5.heap.size < v7.heap.size := by omega
    have e7_4 : v5.heap.size ≠ v7.heap.size := by omega
    have d7_5 : v6.heap.size < v7.heap.size := by omega
    have e7_5 : v6.heap.size ≠ v7.heap.size := by omega
    clear d6_0 e6_0 d6_1 e6_1 d6_2 e6_2 d6_3 e6_3 d6_4 e6_4 c6_0 c6_1 c6_2 c6_3 c6_4 c6_5 c6_6 c6_7 c6_8 c6_9 B6 st7 R6_0 R6_1 R6_2 R6_3 hb7
    go_upto_region 14 with fail
    go_region_held3 ((fun w' => w'.cell? ⟨w.heap.size, 0, none⟩ = some (.slice aa na ca) ∧ w'.cell? ⟨w.heap.size, 1, none⟩ = some (.int .i64 ta) ∧ w'.cell? ⟨v4.heap.size, 0, none⟩ = some (.slice Xa na Xc) ∧ w'.cell? ⟨v4.heap.size, 1, none⟩ = some (.int .i64 ta) ∧ v7.heap.size ≤ w'.heap.size ∧ Below v7.heap.size v7 w')) (first | assumption | exact rr4_start c7_0 c7_1 c7_6 c7_7 | exact rr4_drew (by assumption) | exact rr4_keep (by omega) (by omega) (by omega) (by omega) (by assumption) (by assumption) | fail)
      (first | (go_at_call 31; refine (toHist_any _ ta na DA _ (HA.out.below (B7.out.trans ((rr4_out (by assumption)).2.mono (by omega)))) HDA.out HNA.out).mono ?_; rintro e wy14 ⟨yv, rfl, ry, hb⟩) | (go_at_call 33; refine (eqHist_same ta DA na _ _ _ _ _ _ _ (R7_1.out.below (rr4_out (by assumption)).2 (by omega)) ry (by have hq := (rr4_out (by assumption)).1; omega) (Nat.le_refl _)).mono ?_; rintro e wz14 ⟨rfl, hb⟩) | fail)
    have hbq14 : Below v7.heap.size v7 wz14 := (rr4_out (by assumption)).2
    clear ry
    have sz8 : v7.heap.size ≤ wz14.heap.size := hbq14.size
    have st8 : Below v7.heap.size v7 wz14 := hbq14
    have c8_0 : wz14.cell? ⟨w.heap.size, 0, none⟩ = some (.slice aa na ca) := by rw [(bcell st8).1 _ _ (by omega)]; exact c7_0
    have c8_1 : wz14.cell? ⟨w.heap.size, 1, none⟩ = some (.int .i64 ta) := by rw [(bcell st8).1 _ _ (by omega)]; exact c7_1
    have c8_2 : wz14.cell? ⟨w.heap.size + 1, 0, none⟩ = some (.slice ab nb cb) := by rw [(bcell st8).1 _ _ (by omega)]; exact c7_2
    have c8_3 : wz14.cell? ⟨w.heap.size + 1, 1, none⟩ = some (.int .i64 tb) := by rw [(bcell st8).1 _ _ (by omega)]; exact c7_3
    have c8_4 : wz14.cell? ⟨(xW), 0, none⟩ = some (.slice vaW m vcW) := by rw [(bcell st8).1 _ _ (by omega)]; exact c7_4
    have c8_5 : wz14.cell? ⟨(xW), 1, none⟩ = some (.int .i64 tr) := by rw [(bcell st8).1 _ _ (by omega)]; exact c7_5
    have c8_6 : wz14.cell? ⟨v4.heap.size, 0, none⟩ = some (.slice Xa na Xc) := by rw [(bcell st8).1 _ _ (by omega)]; exact c7_6
    have c8_7 : wz14.cell? ⟨v4.heap.size, 1, none⟩ = some (.int .i64 ta) := by rw [(bcell st8).1 _ _ (by omega)]; exact c7_7
    have c8_8 : wz14.cell? ⟨v5.heap.size, 0, none⟩ = some (.slice Ya nb Yc) := by rw [(bcell st8).1 _ _ (by omega)]; exact c7_8
    have c8_9 : wz14.cell? ⟨v5.heap.size, 1, none⟩ = some (.int .i64 tb) := by rw [(bcell st8).1 _ _ (by omega)]; exact c7_9
    have c8_10 : wz14.cell? ⟨v6.heap.size, 0, none⟩ = some (.slice Ga m Gc) := by rw [(bcell st8).1 _ _ (by omega)]; exact c7_10
    have c8_11 : wz14.cell? ⟨v6.heap.size, 1, none⟩ = some (.int .i64 tr) := by rw [(bcell st8).1 _ _ (by omega)]; exact c7_11
    have B8 : Hid (Below w.heap.size w wz14) := B7.out.trans (st8.mono (by omega))
    have R8_0 : Hid (Row 1 wz14 (loW) (hiW) (.slice vaW m vcW) m DR) := R7_0.out.below st8 (by omega)
    have R8_1 : Hid (Row 1 wz14 (v3.heap.size) (v4.heap.size) (.slice Xa na Xc) na DA) := R7_1.out.below st8 (by omega)
    have R8_2 : Hid (Row 1 wz14 (v4.heap.size + 1) (v5.heap.size) (.slice Ya nb Yc) nb DB) := R7_2.out.below st8 (by omega)
    have R8_3 : Hid (Row 1 wz14 (v5.heap.size + 1) (v6.heap.size) (.slice Ga m Gc) m DR) := R7_3.out.below st8 (by omega)
    have d8_0 : w.heap.size < wz14.heap.size := by omega
    have e8_0 : w.heap.size ≠ wz14.heap.size := by omega
    have d8_1 : w.heap.size + 1 < wz14.heap.size := by omega
    have e8_1 : w.heap.size + 1 ≠ wz14.heap.size := by omega
    have d8_2 : (xW) < wz14.heap.size := by omega
    have e8_2 : (xW) ≠ wz14.heap.size := by omega
    have d8_3 : v4.heap.size < wz14.heap.size := by omega
    have e8_3 : v4.heap.size ≠ wz14.heap.size := by omega
    have d8_4 : v5.heap.size < wz14.heap.size := by omega
    have e8_4 : v5.heap.size ≠ wz14.heap.size := by omega
    have d8_5 : v6.heap.size < wz14.heap.size := by omega
    have e8_5 : v6.heap.size ≠ wz14.heap.size := by omega
    clear d7_0 e7_0 d7_1 e7_1 d7_2 e7_2 d7_3 e7_3 d7_4 e7_4 d7_5 e7_5 c7_0 c7_1 c7_2 c7_3 c7_4 c7_5 c7_6 c7_7 c7_8 c7_9 c7_10 c7_11 B7 st8 R7_0 R7_1 R7_2 R7_3 hbq14
    go_upto_region 16 with fail
    go_region_held3 ((fun w' => w'.cell? ⟨w.heap.size + 1, 0, none⟩ = some (.slice ab nb cb) ∧ w'.cell? ⟨w.heap.size + 1, 1, none⟩ = some (.int .i64 tb) ∧ w'.cell? ⟨v5.heap.size, 0, none⟩ = some (.slice Ya nb Yc) ∧ w'.cell? ⟨v5.heap.size, 1, none⟩ = some (.int .i64 tb) ∧ wz14.heap.size ≤ w'.heap.size ∧ Below wz14.heap.size wz14 w')) (first | assumption | exact rr4_start c8_2 c8_3 c8_8 c8_9 | exact rr4_drew (by assumption) | exact rr4_keep (by omega) (by omega) (by omega) (by omega) (by assumption) (by assumption) | fail)
      (first | (go_at_call 31; refine (toHist_any _ tb nb DB _ (HB.out.below (B8.out.trans ((rr4_out (by assumption)).2.mono (by omega)))) HDB.out HNB.out).mono ?_; rintro e wy16 ⟨yv, rfl, ry, hb⟩) | (go_at_call 33; refine (eqHist_same tb DB nb _ _ _ _ _ _ _ (R8_2.out.below (rr4_out (by assumption)).2 (by omega)) ry (by have hq := (rr4_out (by assumption)).1; omega) (Nat.le_refl _)).mono ?_; rintro e wz16 ⟨rfl, hb⟩) | fail)
    have hbq16 : Below wz14.heap.size wz14 wz16 := (rr4_out (by assumption)).2
    clear ry
    have sz9 : wz14.heap.size ≤ wz16.heap.size := hbq16.size
    have st9 : Below wz14.heap.size wz14 wz16 := hbq16
    have c9_0 : wz16.cell? ⟨w.heap.size, 0, none⟩ = some (.slice aa na ca) := by rw [(bcell st9).1 _ _ (by omega)]; exact c8_0
    have c9_1 : wz16.cell? ⟨w.heap.size, 1, none⟩ = some (.int .i64 ta) := by rw [(bcell st9).1 _ _ (by omega)]; exact c8_1
    have c9_2 : wz16.cell? ⟨w.heap.size + 1, 0, none⟩ = some (.slice ab nb cb) := by rw [(bcell st9).1 _ _ (by omega)]; exact c8_2
    have c9_3 : wz16.cell? ⟨w.heap.size + 1, 1, none⟩ = some (.int .i64 tb) := by rw [(bcell st9).1 _ _ (by omega)]; exact c8_3
    have c9_4 : wz16.cell? ⟨(xW), 0, none⟩ = some (.slice vaW m vcW) := by rw [(bcell st9).1 _ _ (by omega)]; exact c8_4
    have c9_5 : wz16.cell? ⟨(xW), 1, none⟩ = some (.int .i64 tr) := by rw [(bcell st9).1 _ _ (by omega)]; exact c8_5
    have c9_6 : wz16.cell? ⟨v4.heap.size, 0, none⟩ = some (.slice Xa na Xc) := by rw [(bcell st9).1 _ _ (by omega)]; exact c8_6
    have c9_7 : wz16.cell? ⟨v4.heap.size, 1, none⟩ = some (.int .i64 ta) := by rw [(bcell st9).1 _ _ (by omega)]; exact c8_7
    have c9_8 : wz16.cell? ⟨v5.heap.size, 0, none⟩ = some (.slice Ya nb Yc) := by rw [(bcell st9).1 _ _ (by omega)]; exact c8_8
    have c9_9 : wz16.cell? ⟨v5.heap.size, 1, none⟩ = some (.int .i64 tb) := by rw [(bcell st9).1 _ _ (by omega)]; exact c8_9
    have c9_10 : wz16.cell? ⟨v6.heap.size, 0, none⟩ = some (.slice Ga m Gc) := by rw [(bcell st9).1 _ _ (by omega)]; exact c8_10
    have c9_11 : wz16.cell? ⟨v6.heap.size, 1, none⟩ = some (.int .i64 tr) := by rw [(bcell st9).1 _ _ (by omega)]; exact c8_11
    have B9 : Hid (Below w.heap.size w wz16) := B8.out.trans (st9.mono (by omega))
    have R9_0 : Hid (Row 1 wz16 (loW) (hiW) (.slice vaW m vcW) m DR) := R8_0.out.below st9 (by omega)
    have R9_1 : Hid (Row 1 wz16 (v3.heap.size) (v4.heap.size) (.slice Xa na Xc) na DA) := R8_1.out.below st9 (by omega)
    have R9_2 : Hid (Row 1 wz16 (v4.heap.size + 1) (v5.heap.size) (.slice Ya nb Yc) nb DB) := R8_2.out.below st9 (by omega)
    have R9_3 : Hid (Row 1 wz16 (v5.heap.size + 1) (v6.heap.size) (.slice Ga m Gc) m DR) := R8_3.out.below st9 (by omega)
    have d9_0 : w.heap.size < wz16.heap.size := by omega
    have e9_0 : w.heap.size ≠ wz16.heap.size := by omega
    have d9_1 : w.heap.size + 1 < wz16.heap.size := by omega
    have e9_1 : w.heap.size + 1 ≠ wz16.heap.size := by omega
    have d9_2 : (xW) < wz16.heap.size := by omega
    have e9_2 : (xW) ≠ wz16.heap.size := by omega
    have d9_3 : v4.heap.size < wz16.heap.size := by omega
    have e9_3 : v4.heap.size ≠ wz16.heap.size := by omega
    have d9_4 : v5.heap.size < wz16.heap.size := by omega
    have e9_4 : v5.heap.size ≠ wz16.heap.size := by omega
    have d9_5 : v6.heap.size < wz16.heap.size := by omega
    have e9_5 : v6.heap.size ≠ wz16.heap.size := by omega
    clear d8_0 e8_0 d8_1 e8_1 d8_2 e8_2 d8_3 e8_3 d8_4 e8_4 d8_5 e8_5 c8_0 c8_1 c8_2 c8_3 c8_4 c8_5 c8_6 c8_7 c8_8 c8_9 c8_10 c8_11 B8 st9 R8_0 R8_1 R8_2 R8_3 hbq16
    go_wp2_with fail
    go_at_call 36
    refine (markHist_S 1 KX _ (by omega) (by omega) DA na _ _ _ _ HKX.out R9_1.out (by omega) (by omega)).mono ?_
    rintro e v10 ⟨rfl, hrm, hbm⟩
    clear hrm
    have sz10 : wz16.heap.size ≤ v10.heap.size := hbm.size
    have c10_0 : v10.cell? ⟨w.heap.size, 0, none⟩ = some (.slice aa na ca) := by rw [hbm.cell (by omega) (by omega)]; exact c9_0
    have c10_1 : v10.cell? ⟨w.heap.size, 1, none⟩ = some (.int .i64 ta) := by rw [hbm.cell (by omega) (by omega)]; exact c9_1
    have c10_2 : v10.cell? ⟨w.heap.size + 1, 0, none⟩ = some (.slice ab nb cb) := by rw [hbm.cell (by omega) (by omega)]; exact c9_2
    have c10_3 : v10.cell? ⟨w.heap.size + 1, 1, none⟩ = some (.int .i64 tb) := by rw [hbm.cell (by omega) (by omega)]; exact c9_3
    have c10_4 : v10.cell? ⟨(xW), 0, none⟩ = some (.slice vaW m vcW) := by rw [hbm.cell (by omega) (by omega)]; exact c9_4
    have c10_5 : v10.cell? ⟨(xW), 1, none⟩ = some (.int .i64 tr) := by rw [hbm.cell (by omega) (by omega)]; exact c9_5
    have c10_6 : v10.cell? ⟨v4.heap.size, 0, none⟩ = some (.slice Xa na Xc) := by rw [hbm.cell (by omega) (by omega)]; exact c9_6
    have c10_7 : v10.cell? ⟨v4.heap.size, 1, none⟩ = some (.int .i64 ta) := by rw [hbm.cell (by omega) (by omega)]; exact c9_7
    have c10_8 : v10.cell? ⟨v5.heap.size, 0, none⟩ = some (.slice Ya nb Yc) := by rw [hbm.cell (by omega) (by omega)]; exact c9_8
    have c10_9 : v10.cell? ⟨v5.heap.size, 1, none⟩ = some (.int .i64 tb) := by rw [hbm.cell (by omega) (by omega)]; exact c9_9
    have c10_10 : v10.cell? ⟨v6.heap.size, 0, none⟩ = some (.slice Ga m Gc) := by rw [hbm.cell (by omega) (by omega)]; exact c9_10
    have c10_11 : v10.cell? ⟨v6.heap.size, 1, none⟩ = some (.int .i64 tr) := by rw [hbm.cell (by omega) (by omega)]; exact c9_11
    have B10 : Hid (Below w.heap.size w v10) := B9.out.trans (hbm.below (by omega) (by omega))
    have R10_0 : Hid (Row 1 v10 (loW) (hiW) (.slice vaW m vcW) m DR) := hbm.row R9_0.out (by omega) (by omega)
    have R10_2 : Hid (Row 1 v10 (v4.heap.size + 1) (v5.heap.size) (.slice Ya nb Yc) nb DB) := hbm.row R9_2.out (by omega) (by omega)
    have R10_3 : Hid (Row 1 v10 (v5.heap.size + 1) (v6.heap.size) (.slice Ga m Gc) m DR) := hbm.row R9_3.out (by omega) (by omega)
    have d10_0 : w.heap.size < v10.heap.size := by omega
    have e10_0 : w.heap.size ≠ v10.heap.size := by omega
    have d10_1 : w.heap.size + 1 < v10.heap.size := by omega
    have e10_1 : w.heap.size + 1 ≠ v10.heap.size := by omega
    have d10_2 : (xW) < v10.heap.size := by omega
    have e10_2 : (xW) ≠ v10.heap.size := by omega
    have d10_3 : v4.heap.size < v10.heap.size := by omega
    have e10_3 : v4.heap.size ≠ v10.heap.size := by omega
    have d10_4 : v5.heap.size < v10.heap.size := by omega
    have e10_4 : v5.heap.size ≠ v10.heap.size := by omega
    have d10_5 : v6.heap.size < v10.heap.size := by omega
    have e10_5 : v6.heap.size ≠ v10.heap.size := by omega
    clear d9_0 e9_0 d9_1 e9_1 d9_2 e9_2 d9_3 e9_3 d9_4 e9_4 d9_5 e9_5 c9_0 c9_1 c9_2 c9_3 c9_4 c9_5 c9_6 c9_7 c9_8 c9_9 c9_10 c9_11 B9 R9_0 R9_1 R9_2 R9_3 hbm
    go_wp2_with fail
    go_at_call 36
    refine (markHist_S KX KY _ (by omega) (by omega) DB nb _ _ _ _ HKY.out R10_2.out (by omega) (by omega)).mono ?_
    rintro e v11 ⟨rfl, hrm, hbm⟩
    clear hrm
    have sz11 : v10.heap.size ≤ v11.heap.size := hbm.size
    have c11_0 : v11.cell? ⟨w.heap.size, 0, none⟩ = some (.slice aa na ca) := by rw [hbm.cell (by omega) (by omega)]; exact c10_0
    have c11_1 : v11.cell? ⟨w.heap.size, 1, none⟩ = some (.int .i64 ta) := by rw [hbm.cell (by omega) (by omega)]; exact c10_1
    have c11_2 : v11.cell? ⟨w.heap.size + 1, 0, none⟩ = some (.slice ab nb cb) := by rw [hbm.cell (by omega) (by omega)]; exact c10_2
    have c11_3 : v11.cell? ⟨w.heap.size + 1, 1, none⟩ = some (.int .i64 tb) := by rw [hbm.cell (by omega) (by omega)]; exact c10_3
    have c11_4 : v11.cell? ⟨(xW), 0, none⟩ = some (.slice vaW m vcW) := by rw [hbm.cell (by omega) (by omega)]; exact c10_4
    have c11_5 : v11.cell? ⟨(xW), 1, none⟩ = some (.int .i64 tr) := by rw [hbm.cell (by omega) (by omega)]; exact c10_5
    have c11_6 : v11.cell? ⟨v4.heap.size, 0, none⟩ = some (.slice Xa na Xc) := by rw [hbm.cell (by omega) (by omega)]; exact c10_6
    have c11_7 : v11.cell? ⟨v4.heap.size, 1, none⟩ = some (.int .i64 ta) := by rw [hbm.cell (by omega) (by omega)]; exact c10_7
    have c11_8 : v11.cell? ⟨v5.heap.size, 0, none⟩ = some (.slice Ya nb Yc) := by rw [hbm.cell (by omega) (by omega)]; exact c10_8
    have c11_9 : v11.cell? ⟨v5.heap.size, 1, none⟩ = some (.int .i64 tb) := by rw [hbm.cell (by omega) (by omega)]; exact c10_9
    have c11_10 : v11.cell? ⟨v6.heap.size, 0, none⟩ = some (.slice Ga m Gc) := by rw [hbm.cell (by omega) (by omega)]; exact c10_10
    have c11_11 : v11.cell? ⟨v6.heap.size, 1, none⟩ = some (.int .i64 tr) := by rw [hbm.cell (by omega) (by omega)]; exact c10_11
    have B11 : Hid (Below w.heap.size w v11) := B10.out.trans (hbm.below (by omega) (by omega))
    have R11_0 : Hid (Row 1 v11 (loW) (hiW) (.slice vaW m vcW) m DR) := hbm.row R10_0.out (by omega) (by omega)
    have R11_2 : Hid (Row 1 v11 (v5.heap.size + 1) (v6.heap.size) (.slice Ga m Gc) m DR) := hbm.row R10_3.out (by omega) (by omega)
    have d11_0 : w.heap.size < v11.heap.size := by omega
    have e11_0 : w.heap.size ≠ v11.heap.size := by omega
    have d11_1 : w.heap.size + 1 < v11.heap.size := by omega
    have e11_1 : w.heap.size + 1 ≠ v11.heap.size := by omega
    have d11_2 : (xW) < v11.heap.size := by omega
    have e11_2 : (xW) ≠ v11.heap.size := by omega
    have d11_3 : v4.heap.size < v11.heap.size := by omega
    have e11_3 : v4.heap.size ≠ v11.heap.size := by omega
    have d11_4 : v5.heap.size < v11.heap.size := by omega
    have e11_4 : v5.heap.size ≠ v11.heap.size := by omega
    have d11_5 : v6.heap.size < v11.heap.size := by omega
    have e11_5 : v6.heap.size ≠ v11.heap.size := by omega
    clear d10_0 e10_0 d10_1 e10_1 d10_2 e10_2 d10_3 e10_3 d10_4 e10_4 d10_5 e10_5 c10_0 c10_1 c10_2 c10_3 c10_4 c10_5 c10_6 c10_7 c10_8 c10_9 c10_10 c10_11 B10 R10_0 R10_2 R10_3 hbm
    go_wp2_with fail
    go_at_call 33
    refine (eqHist_same tr DR m _ _ _ _ _ _ _ R11_2.out R11_0.out (by first | omega | (simp; done) | (simp; omega) | fail) (by first | omega | (simp; done) | (simp; omega) | fail)).mono ?_
    rintro e v12 ⟨rfl, hb12⟩
    have sz12 : v11.heap.size ≤ v12.heap.size := hb12.size
    have st12 : Below v11.heap.size v11 v12 := hb12
    have c12_0 : v12.cell? ⟨w.heap.size, 0, none⟩ = some (.slice aa na ca) := by rw [(bcell st12).1 _ _ (by omega)]; exact c11_0
    have c12_1 : v12.cell? ⟨w.heap.size, 1, none⟩ = some (.int .i64 ta) := by rw [(bcell st12).1 _ _ (by omega)]; exact c11_1
    have c12_2 : v12.cell? ⟨w.heap.size + 1, 0, none⟩ = some (.slice ab nb cb) := by rw [(bcell st12).1 _ _ (by omega)]; exact c11_2
    have c12_3 : v12.cell? ⟨w.heap.size + 1, 1, none⟩ = some (.int .i64 tb) := by rw [(bcell st12).1 _ _ (by omega)]; exact c11_3
    have c12_4 : v12.cell? ⟨(xW), 0, none⟩ = some (.slice vaW m vcW) := by rw [(bcell st12).1 _ _ (by omega)]; exact c11_4
    have c12_5 : v12.cell? ⟨(xW), 1, none⟩ = some (.int .i64 tr) := by rw [(bcell st12).1 _ _ (by omega)]; exact c11_5
    have c12_6 : v12.cell? ⟨v4.heap.size, 0, none⟩ = some (.slice Xa na Xc) := by rw [(bcell st12).1 _ _ (by omega)]; exact c11_6
    have c12_7 : v12.cell? ⟨v4.heap.size, 1, none⟩ = some (.int .i64 ta) := by rw [(bcell st12).1 _ _ (by omega)]; exact c11_7
    have c12_8 : v12.cell? ⟨v5.heap.size, 0, none⟩ = some (.slice Ya nb Yc) := by rw [(bcell st12).1 _ _ (by omega)]; exact c11_8
    have c12_9 : v12.cell? ⟨v5.heap.size, 1, none⟩ = some (.int .i64 tb) := by rw [(bcell st12).1 _ _ (by omega)]; exact c11_9
    have c12_10 : v12.cell? ⟨v6.heap.size, 0, none⟩ = some (.slice Ga m Gc) := by rw [(bcell st12).1 _ _ (by omega)]; exact c11_10
    have c12_11 : v12.cell? ⟨v6.heap.size, 1, none⟩ = some (.int .i64 tr) := by rw [(bcell st12).1 _ _ (by omega)]; exact c11_11
    have B12 : Hid (Below w.heap.size w v12) := B11.out.trans (st12.mono (by omega))
    have R12_0 : Hid (Row 1 v12 (loW) (hiW) (.slice vaW m vcW) m DR) := R11_0.out.below st12 (by omega)
    have R12_1 : Hid (Row 1 v12 (v5.heap.size + 1) (v6.heap.size) (.slice Ga m Gc) m DR) := R11_2.out.below st12 (by omega)
    have d12_0 : w.heap.size < v12.heap.size := by omega
    have e12_0 : w.heap.size ≠ v12.heap.size := by omega
    have d12_1 : w.heap.size + 1 < v12.heap.size := by omega
    have e12_1 : w.heap.size + 1 ≠ v12.heap.size := by omega
    have d12_2 : (xW) < v12.heap.size := by omega
    have e12_2 : (xW) ≠ v12.heap.size := by omega
    have d12_3 : v4.heap.size < v12.heap.size := by omega
    have e12_3 : v4.heap.size ≠ v12.heap.size := by omega
    have d12_4 : v5.heap.size < v12.heap.size := by omega
    have e12_4 : v5.heap.size ≠ v12.heap.size := by omega
    have d12_5 : v6.heap.size < v12.heap.size := by omega
    have e12_5 : v6.heap.size ≠ v12.heap.size := by omega
    clear d11_0 e11_0 d11_1 e11_1 d11_2 e11_2 d11_3 e11_3 d11_4 e11_4 d11_5 e11_5 c11_0 c11_1 c11_2 c11_3 c11_4 c11_5 c11_6 c11_7 c11_8 c11_9 c11_10 c11_11 B11 st12 R11_0 R11_2 hb12
    go_wp2_with fail
    go_at_call 36
    refine (markHist_S 1 KG _ (by omega) (by omega) DR m _ _ _ _ HKG.out R12_1.out (by omega) (by omega)).mono ?_
    rintro e v13 ⟨rfl, hrm, hbm⟩
    have sz13 : v12.heap.size ≤ v13.heap.size := hbm.size
    have c13_0 : v13.cell? ⟨w.heap.size, 0, none⟩ = some (.slice aa na ca) := by rw [hbm.cell (by omega) (by omega)]; exact c12_0
    have c13_1 : v13.cell? ⟨w.heap.size, 1, none⟩ = some (.int .i64 ta) := by rw [hbm.cell (by omega) (by omega)]; exact c12_1
    have c13_2 : v13.cell? ⟨w.heap.size + 1, 0, none⟩ = some (.slice ab nb cb) := by rw [hbm.cell (by omega) (by omega)]; exact c12_2
    have c13_3 : v13.cell? ⟨w.heap.size + 1, 1, none⟩ = some (.int .i64 tb) := by rw [hbm.cell (by omega) (by omega)]; exact c12_3
    have c13_4 : v13.cell? ⟨(xW), 0, none⟩ = some (.slice vaW m vcW) := by rw [hbm.cell (by omega) (by omega)]; exact c12_4
    have c13_5 : v13.cell? ⟨(xW), 1, none⟩ = some (.int .i64 tr) := by rw [hbm.cell (by omega) (by omega)]; exact c12_5
    have c13_6 : v13.cell? ⟨v4.heap.size, 0, none⟩ = some (.slice Xa na Xc) := by rw [hbm.cell (by omega) (by omega)]; exact c12_6
    have c13_7 : v13.cell? ⟨v4.heap.size, 1, none⟩ = some (.int .i64 ta) := by rw [hbm.cell (by omega) (by omega)]; exact c12_7
    have c13_8 : v13.cell? ⟨v5.heap.size, 0, none⟩ = some (.slice Ya nb Yc) := by rw [hbm.cell (by omega) (by omega)]; exact c12_8
    have c13_9 : v13.cell? ⟨v5.heap.size, 1, none⟩ = some (.int .i64 tb) := by rw [hbm.cell (by omega) (by omega)]; exact c12_9
    have c13_10 : v13.cell? ⟨v6.heap.size, 0, none⟩ = some (.slice Ga m Gc) := by rw [hbm.cell (by omega) (by omega)]; exact c12_10
    have c13_11 : v13.cell? ⟨v6.heap.size, 1, none⟩ = some (.int .i64 tr) := by rw [hbm.cell (by omega) (by omega)]; exact c12_11
    have B13 : Hid (Below w.heap.size w v13) := B12.out.trans (hbm.below (by omega) (by omega))
    have R13_0 : Hid (Row 1 v13 (loW) (hiW) (.slice vaW m vcW) m DR) := hbm.row R12_0.out (by omega) (by omega)
    have R13_1 : Hid (Row 1 v13 (v5.heap.size + 1) (v6.heap.size) (.slice Ga m Gc) m (marks 1 (m * 1))) := hrm
    have d13_0 : w.heap.size < v13.heap.size := by omega
    have e13_0 : w.heap.size ≠ v13.heap.size := by omega
    have d13_1 : w.heap.size + 1 < v13.heap.size := by omega
    have e13_1 : w.heap.size + 1 ≠ v13.heap.size := by omega
    have d13_2 : (xW) < v13.heap.size := by omega
    have e13_2 : (xW) ≠ v13.heap.size := by omega
    have d13_3 : v4.heap.size < v13.heap.size := by omega
    have e13_3 : v4.heap.size ≠ v13.heap.size := by omega
    have d13_4 : v5.heap.size < v13.heap.size := by omega
    have e13_4 : v5.heap.size ≠ v13.heap.size := by omega
    have d13_5 : v6.heap.size < v13.heap.size := by omega
    have e13_5 : v6.heap.size ≠ v13.heap.size := by omega
    clear d12_0 e12_0 d12_1 e12_1 d12_2 e12_2 d12_3 e12_3 d12_4 e12_4 d12_5 e12_5 c12_0 c12_1 c12_2 c12_3 c12_4 c12_5 c12_6 c12_7 c12_8 c12_9 c12_10 c12_11 B12 R12_0 R12_1 hrm hbm
    go_wp2_with fail
    go_at_call 37
    refine (heldHist_K KG _ m _ _ _ _ HKG.out R13_1.out (by first | omega | (simp; done) | (simp; omega) | fail) (by omega)).mono ?_
    rintro e v14 ⟨rfl, hb14⟩
    have sz14 : v13.heap.size ≤ v14.heap.size := hb14.size
    have st14 : Below v13.heap.size v13 v14 := hb14
    have c14_0 : v14.cell? ⟨w.heap.size, 0, none⟩ = some (.slice aa na ca) := by rw [(bcell st14).1 _ _ (by omega)]; exact c13_0
    have c14_1 : v14.cell? ⟨w.heap.size, 1, none⟩ = some (.int .i64 ta) := by rw [(bcell st14).1 _ _ (by omega)]; exact c13_1
    have c14_2 : v14.cell? ⟨w.heap.size + 1, 0, none⟩ = some (.slice ab nb cb) := by rw [(bcell st14).1 _ _ (by omega)]; exact c13_2
    have c14_3 : v14.cell? ⟨w.heap.size + 1, 1, none⟩ = some (.int .i64 tb) := by rw [(bcell st14).1 _ _ (by omega)]; exact c13_3
    have c14_4 : v14.cell? ⟨(xW), 0, none⟩ = some (.slice vaW m vcW) := by rw [(bcell st14).1 _ _ (by omega)]; exact c13_4
    have c14_5 : v14.cell? ⟨(xW), 1, none⟩ = some (.int .i64 tr) := by rw [(bcell st14).1 _ _ (by omega)]; exact c13_5
    have c14_6 : v14.cell? ⟨v4.heap.size, 0, none⟩ = some (.slice Xa na Xc) := by rw [(bcell st14).1 _ _ (by omega)]; exact c13_6
    have c14_7 : v14.cell? ⟨v4.heap.size, 1, none⟩ = some (.int .i64 ta) := by rw [(bcell st14).1 _ _ (by omega)]; exact c13_7
    have c14_8 : v14.cell? ⟨v5.heap.size, 0, none⟩ = some (.slice Ya nb Yc) := by rw [(bcell st14).1 _ _ (by omega)]; exact c13_8
    have c14_9 : v14.cell? ⟨v5.heap.size, 1, none⟩ = some (.int .i64 tb) := by rw [(bcell st14).1 _ _ (by omega)]; exact c13_9
    have c14_10 : v14.cell? ⟨v6.heap.size, 0, none⟩ = some (.slice Ga m Gc) := by rw [(bcell st14).1 _ _ (by omega)]; exact c13_10
    have c14_11 : v14.cell? ⟨v6.heap.size, 1, none⟩ = some (.int .i64 tr) := by rw [(bcell st14).1 _ _ (by omega)]; exact c13_11
    have B14 : Hid (Below w.heap.size w v14) := B13.out.trans (st14.mono (by omega))
    have R14_0 : Hid (Row 1 v14 (loW) (hiW) (.slice vaW m vcW) m DR) := R13_0.out.below st14 (by omega)
    have R14_1 : Hid (Row 1 v14 (v5.heap.size + 1) (v6.heap.size) (.slice Ga m Gc) m (marks 1 (m * 1))) := R13_1.out.below st14 (by omega)
    have d14_0 : w.heap.size < v14.heap.size := by omega
    have e14_0 : w.heap.size ≠ v14.heap.size := by omega
    have d14_1 : w.heap.size + 1 < v14.heap.size := by omega
    have e14_1 : w.heap.size + 1 ≠ v14.heap.size := by omega
    have d14_2 : (xW) < v14.heap.size := by omega
    have e14_2 : (xW) ≠ v14.heap.size := by omega
    have d14_3 : v4.heap.size < v14.heap.size := by omega
    have e14_3 : v4.heap.size ≠ v14.heap.size := by omega
    have d14_4 : v5.heap.size < v14.heap.size := by omega
    have e14_4 : v5.heap.size ≠ v14.heap.size := by omega
    have d14_5 : v6.heap.size < v14.heap.size := by omega
    have e14_5 : v6.heap.size ≠ v14.heap.size := by omega
    clear d13_0 e13_0 d13_1 e13_1 d13_2 e13_2 d13_3 e13_3 d13_4 e13_4 d13_5 e13_5 c13_0 c13_1 c13_2 c13_3 c13_4 c13_5 c13_6 c13_7 c13_8 c13_9 c13_10 c13_11 B13 st14 R13_0 R13_1 hb14
    go_upto_region 31 with fail
    go_cut [15, 16] (fun s15 s16 wx => ∃ (bx lo hi : Nat) (va : Option Addr) (vc : Nat), s15 = .pointer (some ⟨bx, 0, none⟩) ∧ s16 = .bool b ∧ Hid (BoxK v14 wx bx lo hi (.slice va m vc) m tr DR))
    case first =>
      go_wp2_with fail
      refine wp_region_held_drew (S := (fun w' => w'.cell? ⟨w.heap.size, 0, none⟩ = some (.slice aa na ca) ∧ w'.cell? ⟨w.heap.size, 1, none⟩ = some (.int .i64 ta) ∧ w'.cell? ⟨w.heap.size + 1, 0, none⟩ = some (.slice ab nb cb) ∧ w'.cell? ⟨w.heap.size + 1, 1, none⟩ = some (.int .i64 tb) ∧ v14.heap.size ≤ w'.heap.size ∧ Below v14.heap.size v14 w')) (by kernel_rfl) ?_ (fun hHeld => ?_)
      · (first | assumption | exact rr4_start c14_0 c14_1 c14_2 c14_3 | exact rr4_drew (by assumption) | exact rr4_keep (by omega) (by omega) (by omega) (by omega) hb (by assumption) | fail)
      refine step_read 0 95 rfl rfl (by kernel_rfl) (by kernel_rfl) (by kernel_rfl) (fun _ _ _ h => h) (by rfl) (v := ?_) (fun w hSw => ?_) (by assumption) ?_; rotate_left; (focus ((try dsimp only at hSw); go_simp; first | done | exact rfl)); simp only [List.set]
      refine step_read 2 97 rfl rfl (by kernel_rfl) (by kernel_rfl) (by kernel_rfl) (fun _ _ _ h => h) (by rfl) (v := ?_) (fun w hSw => ?_) (by assumption) ?_; rotate_left; (focus ((try dsimp only at hSw); go_simp; first | done | exact rfl)); simp only [List.set]
      refine wpAnyH_ready (rs := [1, 8]) (by kernel_rfl) (by simp) ?_
      refine AllReadyH.cons rfl (fun Kc hK => ?_) (AllReadyH.cons rfl (fun Kc hK => ?_) (AllReadyH.nil))
      · go_simp
        go_at_call 31
        refine (toHist_any _ ta na DA _ (HA.out.below (B14.out.trans ((rr4_out (by assumption)).2.mono (by omega)))) HDA.out HNA.out).mono ?_
        rintro e wr1 ⟨yvA, rfl, ry, hb⟩
        have hzz := hb.size
        refine hK.out _ _ ?_ (fun hHeld => ?_)
        · (first | assumption | exact rr4_start c14_0 c14_1 c14_2 c14_3 | exact rr4_drew (by assumption) | exact rr4_keep (by omega) (by omega) (by omega) (by omega) hb (by assumption) | fail)
        clear hK Kc
        refine wpAnyH_ready (rs := [3, 8]) (by kernel_rfl) (by simp) ?_
        refine AllReadyH.cons rfl (fun Kc hK => ?_) (AllReadyH.cons rfl (fun Kc hK => ?_) (AllReadyH.nil))
        · go_simp
          go_at_call 31
          refine (toHist_any _ tb nb DB _ (HB.out.below (B14.out.trans ((rr4_out (by assumption)).2.mono (by omega)))) HDB.out HNB.out).mono ?_
          rintro e wr2 ⟨yvB, rfl, rz, hb⟩
          have hzz := hb.size
          replace ry := ry.below hb (by first | exact Nat.le_refl _ | omega)
          refine hK.out _ _ ?_ (fun hHeld => ?_)
          · (first | assumption | exact rr4_start c14_0 c14_1 c14_2 c14_3 | exact rr4_drew (by assumption) | exact rr4_keep (by omega) (by omega) (by omega) (by omega) hb (by assumption) | fail)
          clear hK Kc
          refine wpAnyH_ready (rs := [4, 8]) (by kernel_rfl) (by simp) ?_
          refine AllReadyH.cons rfl (fun Kc hK => ?_) (AllReadyH.cons rfl (fun Kc hK => ?_) (AllReadyH.nil))
          · go_simp
            go_at_call 24
            refine (Hi.out _ _ _ _ _ _ _ ry rz (by first | exact Nat.le_refl _ | omega) (by first | exact Nat.le_refl _ | omega)).mono ?_
            rintro e wr3 ⟨qv, rfl, rq, hb⟩
            have hzz := hb.size
            obtain ⟨qa, qc, rfl⟩ := rq.slice
            replace ry := ry.below hb (by first | exact Nat.le_refl _ | omega)
            replace rz := rz.below hb (by first | exact Nat.le_refl _ | omega)
            refine hK.out _ _ ?_ (fun hHeld => ?_)
            · (first | assumption | exact rr4_start c14_0 c14_1 c14_2 c14_3 | exact rr4_drew (by assumption) | exact rr4_keep (by omega) (by omega) (by omega) (by omega) hb (by assumption) | fail)
            clear hK Kc
            refine step_read 5 94 rfl rfl (by kernel_rfl) (by kernel_rfl) (by kernel_rfl) (fun _ _ _ h => h) (by rfl) (v := ?_) (fun w hSw => ?_) (by assumption) ?_; rotate_left; (focus ((try dsimp only at hSw); go_simp; first | done | exact rfl)); simp only [List.set]
            refine step_read 6 100 rfl rfl (by kernel_rfl) (by kernel_rfl) (by kernel_rfl) (fun _ _ _ h => h) (by rfl) (v := ?_) (fun w hSw => ?_) (by assumption) ?_; rotate_left; (focus ((try dsimp only at hSw); go_simp; first | done | exact rfl)); simp only [List.set]
            refine step_read 7 101 rfl rfl (by kernel_rfl) (by kernel_rfl) (by kernel_rfl) (fun _ _ _ h => h) (by rfl) (v := ?_) (fun w hSw => ?_) (by assumption) ?_; rotate_left; (focus ((try dsimp only at hSw); go_simp; first | done | exact rfl)); simp only [List.set]
            refine wpAnyH_ready (rs := [8]) (by kernel_rfl) (by simp) ?_
            refine AllReadyH.cons rfl (fun Kc hK => ?_) (AllReadyH.nil)
            go_simp
            refine at_worldK (fun wa4 hwa => ?_)
            have hb : Below wr3.heap.size wr3 wa4 := by rw [hwa]; exact (Below.refl _ _).alloc (Nat.le_refl _) _
            have bc : wa4.cell? ⟨wr3.heap.size, 0, none⟩ = some (.slice none 0 0) := by rw [hwa]; simp
            have bf : wa4.frozen? ⟨wr3.heap.size, 0, none⟩ = false := by rw [hwa]; simp [go_sem]
            have bd : wa4.cell? ⟨wr3.heap.size, 1, none⟩ = some (.int .i64 0) := by rw [hwa]; simp
            have bg : wa4.frozen? ⟨wr3.heap.size, 1, none⟩ = false := by rw [hwa]; simp [go_sem]
            have hbz : wr3.heap.size < wa4.heap.size := by rw [hwa]; simp
            have hzz := hb.size
            replace ry := ry.below hb (by first | exact Nat.le_refl _ | omega)
            replace rz := rz.below hb (by first | exact Nat.le_refl _ | omega)
            replace rq := rq.below hb (by first | exact Nat.le_refl _ | omega)
            have hbb : v14.heap.size ≤ wr3.heap.size := by first | exact Nat.le_refl _ | (have hq := (rr4_out (by assumption)).1; omega)
            have hSn :  wa4.cell? ⟨w.heap.size, 0, none⟩ = some (.slice aa na ca) ∧ wa4.cell? ⟨w.heap.size, 1, none⟩ = some (.int .i64 ta) ∧ wa4.cell? ⟨w.heap.size + 1, 0, none⟩ = some (.slice ab nb cb) ∧ wa4.cell? ⟨w.heap.size + 1, 1, none⟩ = some (.int .i64 tb) ∧ v14.heap.size ≤ wa4.heap.size ∧ Below v14.heap.size v14 wa4 := by rw [hwa]; first | exact rr4_drew (rr4_box (by omega) (by omega) (by omega) (by omega) HSB) | exact rr4_box (by omega) (by omega) (by omega) (by omega) (by assumption)
            clear hwa
            refine hK.out _ _ ?_ (fun hHeld => ?_)
            · (first | assumption | exact rr4_start c14_0 c14_1 c14_2 c14_3 | exact rr4_drew (by assumption) | exact rr4_keep (by omega) (by omega) (by omega) (by omega) hb (by assumption) | fail)
            clear hK Kc
            refine wpAnyH_ready (rs := [9]) (by kernel_rfl) (by simp) ?_
            refine AllReadyH.cons rfl (fun Kc hK => ?_) (AllReadyH.nil)
            go_simp
            refine at_worldK (fun ws5 hwa => ?_)
            have hBR := BoxK.mk' hwa rq (base := v14) (by have hq := (rr4_out (by assumption)).1; omega) (by omega) hbb (by omega) (by omega) bc bd (rr4_out (by assumption)).2
            have hSn :  ws5.cell? ⟨w.heap.size, 0, none⟩ = some (.slice aa na ca) ∧ ws5.cell? ⟨w.heap.size, 1, none⟩ = some (.int .i64 ta) ∧ ws5.cell? ⟨w.heap.size + 1, 0, none⟩ = some (.slice ab nb cb) ∧ ws5.cell? ⟨w.heap.size + 1, 1, none⟩ = some (.int .i64 tb) ∧ v14.heap.size ≤ ws5.heap.size ∧ Below v14.heap.size v14 ws5 := by rw [hwa]; exact rr4_store (by omega) (by omega) (by omega) (by omega) hbb (rr4_store (by omega) (by omega) (by omega) (by omega) hbb (by assumption))
            clear hwa
            refine hK.out _ _ ?_ (fun hHeld => ?_)
            · (first | assumption | exact rr4_start c14_0 c14_1 c14_2 c14_3 | exact rr4_drew (by assumption) | exact rr4_keep (by omega) (by omega) (by omega) (by omega) hb (by assumption) | fail)
            clear hK Kc
            refine step_read 10 16 rfl rfl (by kernel_rfl) (by kernel_rfl) (by kernel_rfl) (fun _ _ _ h => h) (by rfl) (v := ?_) (fun w hSw => ?_) (by assumption) ?_; rotate_left; (focus ((try dsimp only at hSw); go_simp; first | done | exact rfl)); simp only [List.set]
            refine wpAnyH_done (by kernel_rfl) ?_ _
            go_wp2_with fail
            go_meet
            exact ⟨_, _, _, _, _, rfl, rfl, Lib.hid hBR⟩
          · go_simp
            refine at_worldK (fun wa6 hwa => ?_)
            have hb : Below wr2.heap.size wr2 wa6 := by rw [hwa]; exact (Below.refl _ _).alloc (Nat.le_refl _) _
            have bc : wa6.cell? ⟨wr2.heap.size, 0, none⟩ = some (.slice none 0 0) := by rw [hwa]; simp
            have bf : wa6.frozen? ⟨wr2.heap.size, 0, none⟩ = false := by rw [hwa]; simp [go_sem]
            have bd : wa6.cell? ⟨wr2.heap.size, 1, none⟩ = some (.int .i64 0) := by rw [hwa]; simp
            have bg : wa6.frozen? ⟨wr2.heap.size, 1, none⟩ = false := by rw [hwa]; simp [go_sem]
            have hbz : wr2.heap.size < wa6.heap.size := by rw [hwa]; simp
            have hzz := hb.size
            replace ry := ry.below hb (by first | exact Nat.le_refl _ | omega)
            replace rz := rz.below hb (by first | exact Nat.le_refl _ | omega)
            have hbb : v14.heap.size ≤ wr2.heap.size := by first | exact Nat.le_refl _ | (have hq := (rr4_out (by assumption)).1; omega)
            have hSn :  wa6.cell? ⟨w.heap.size, 0, none⟩ = some (.slice aa na ca) ∧ wa6.cell? ⟨w.heap.size, 1, none⟩ = some (.int .i64 ta) ∧ wa6.cell? ⟨w.heap.size + 1, 0, none⟩ = some (.slice ab nb cb) ∧ wa6.cell? ⟨w.heap.size + 1, 1, none⟩ = some (.int .i64 tb) ∧ v14.heap.size ≤ wa6.heap.size ∧ Below v14.heap.size v14 wa6 := by rw [hwa]; first | exact rr4_drew (rr4_box (by omega) (by omega) (by omega) (by omega) HSB) | exact rr4_box (by omega) (by omega) (by omega) (by omega) (by assumption)
            clear hwa
            refine hK.out _ _ ?_ (fun hHeld => ?_)
            · (first | assumption | exact rr4_start c14_0 c14_1 c14_2 c14_3 | exact rr4_drew (by assumption) | exact rr4_keep (by omega) (by omega) (by omega) (by omega) hb (by assumption) | fail)
            clear hK Kc
            refine wpAnyH_ready (rs := [4]) (by kernel_rfl) (by simp) ?_
            refine AllReadyH.cons rfl (fun Kc hK => ?_) (AllReadyH.nil)
            go_simp
            go_at_call 24
            refine (Hi.out _ _ _ _ _ _ _ ry rz (by first | exact Nat.le_refl _ | omega) (by first | exact Nat.le_refl _ | omega)).mono ?_
            rintro e wr7 ⟨qv, rfl, rq, hb⟩
            have hzz := hb.size
            obtain ⟨qa, qc, rfl⟩ := rq.slice
            have hbz0 := hbz
            replace ry := ry.below hb (by first | exact Nat.le_refl _ | omega)
            replace rz := rz.below hb (by first | exact Nat.le_refl _ | omega)
            replace bc : wr7.cell? ⟨wr2.heap.size, 0, none⟩ = some (.slice none 0 0) := by rw [hb.cell (p := ⟨wr2.heap.size, 0, none⟩) hbz]; exact bc
            replace bf : wr7.frozen? ⟨wr2.heap.size, 0, none⟩ = false := by rw [hb.frozen (p := ⟨wr2.heap.size, 0, none⟩) hbz]; exact bf
            replace bd : wr7.cell? ⟨wr2.heap.size, 1, none⟩ = some (.int .i64 0) := by rw [hb.cell (p := ⟨wr2.heap.size, 1, none⟩) hbz]; exact bd
            replace bg : wr7.frozen? ⟨wr2.heap.size, 1, none⟩ = false := by rw [hb.frozen (p := ⟨wr2.heap.size, 1, none⟩) hbz]; exact bg
            replace hbz : wr2.heap.size < wr7.heap.size := Nat.lt_of_lt_of_le hbz hb.size
            refine hK.out _ _ ?_ (fun hHeld => ?_)
            · (first | assumption | exact rr4_start c14_0 c14_1 c14_2 c14_3 | exact rr4_drew (by assumption) | exact rr4_keep (by omega) (by omega) (by omega) (by omega) hb (by assumption) | fail)
            clear hK Kc
            refine step_read 5 94 rfl rfl (by kernel_rfl) (by kernel_rfl) (by kernel_rfl) (fun _ _ _ h => h) (by rfl) (v := ?_) (fun w hSw => ?_) (by assumption) ?_; rotate_left; (focus ((try dsimp only at hSw); go_simp; first | done | exact rfl)); simp only [List.set]
            refine step_read 6 100 rfl rfl (by kernel_rfl) (by kernel_rfl) (by kernel_rfl) (fun _ _ _ h => h) (by rfl) (v := ?_) (fun w hSw => ?_) (by assumption) ?_; rotate_left; (focus ((try dsimp only at hSw); go_simp; first | done | exact rfl)); simp only [List.set]
            refine step_read 7 101 rfl rfl (by kernel_rfl) (by kernel_rfl) (by kernel_rfl) (fun _ _ _ h => h) (by rfl) (v := ?_) (fun w hSw => ?_) (by assumption) ?_; rotate_left; (focus ((try dsimp only at hSw); go_simp; first | done | exact rfl)); simp only [List.set]
            refine wpAnyH_ready (rs := [9]) (by kernel_rfl) (by simp) ?_
            refine AllReadyH.cons rfl (fun Kc hK => ?_) (AllReadyH.nil)
            go_simp
            refine at_worldK (fun ws8 hwa => ?_)
            have hBR := BoxK.mk' hwa rq (base := v14) (by have hq := (rr4_out (by assumption)).1; omega) (by omega) hbb (by omega) (by omega) bc bd (rr4_out (by assumption)).2
            have hSn :  ws8.cell? ⟨w.heap.size, 0, none⟩ = some (.slice aa na ca) ∧ ws8.cell? ⟨w.heap.size, 1, none⟩ = some (.int .i64 ta) ∧ ws8.cell? ⟨w.heap.size + 1, 0, none⟩ = some (.slice ab nb cb) ∧ ws8.cell? ⟨w.heap.size + 1, 1, none⟩ = some (.int .i64 tb) ∧ v14.heap.size ≤ ws8.heap.size ∧ Below v14.heap.size v14 ws8 := by rw [hwa]; exact rr4_store (by omega) (by omega) (by omega) (by omega) hbb (rr4_store (by omega) (by omega) (by omega) (by omega) hbb (by assumption))
            clear hwa
            refine hK.out _ _ ?_ (fun hHeld => ?_)
            · (first | assumption | exact rr4_start c14_0 c14_1 c14_2 c14_3 | exact rr4_drew (by assumption) | exact rr4_keep (by omega) (by omega) (by omega) (by omega) hb (by assumption) | fail)
            clear hK Kc
            refine step_read 10 16 rfl rfl (by kernel_rfl) (by kernel_rfl) (by kernel_rfl) (fun _ _ _ h => h) (by rfl) (v := ?_) (fun w hSw => ?_) (by assumption) ?_; rotate_left; (focus ((try dsimp only at hSw); go_simp; first | done | exact rfl)); simp only [List.set]
            refine wpAnyH_done (by kernel_rfl) ?_ _
            go_wp2_with fail
            go_meet
            exact ⟨_, _, _, _, _, rfl, rfl, Lib.hid hBR⟩
        · go_simp
          refine at_worldK (fun wa9 hwa => ?_)
          have hb : Below wr1.heap.size wr1 wa9 := by rw [hwa]; exact (Below.refl _ _).alloc (Nat.le_refl _) _
          have bc : wa9.cell? ⟨wr1.heap.size, 0, none⟩ = some (.slice none 0 0) := by rw [hwa]; simp
          have bf : wa9.frozen? ⟨wr1.heap.size, 0, none⟩ = false := by rw [hwa]; simp [go_sem]
          have bd : wa9.cell? ⟨wr1.heap.size, 1, none⟩ = some (.int .i64 0) := by rw [hwa]; simp
          have bg : wa9.frozen? ⟨wr1.heap.size, 1, none⟩ = false := by rw [hwa]; simp [go_sem]
          have hbz : wr1.heap.size < wa9.heap.size := by rw [hwa]; simp
          have hzz := hb.size
          replace ry := ry.below hb (by first | exact Nat.le_refl _ | omega)
          have hbb : v14.heap.size ≤ wr1.heap.size := by first | exact Nat.le_refl _ | (have hq := (rr4_out (by assumption)).1; omega)
          have hSn :  wa9.cell? ⟨w.heap.size, 0, none⟩ = some (.slice aa na ca) ∧ wa9.cell? ⟨w.heap.size, 1, none⟩ = some (.int .i64 ta) ∧ wa9.cell? ⟨w.heap.size + 1, 0, none⟩ = some (.slice ab nb cb) ∧ wa9.cell? ⟨w.heap.size + 1, 1, none⟩ = some (.int .i64 tb) ∧ v14.heap.size ≤ wa9.heap.size ∧ Below v14.heap.size v14 wa9 := by rw [hwa]; first | exact rr4_drew (rr4_box (by omega) (by omega) (by omega) (by omega) HSB) | exact rr4_box (by omega) (by omega) (by omega) (by omega) (by assumption)
          clear hwa
          refine hK.out _ _ ?_ (fun hHeld => ?_)
          · (first | assumption | exact rr4_start c14_0 c14_1 c14_2 c14_3 | exact rr4_drew (by assumption) | exact rr4_keep (by omega) (by omega) (by omega) (by omega) hb (by assumption) | fail)
          clear hK Kc
          refine wpAnyH_ready (rs := [3]) (by kernel_rfl) (by simp) ?_
          refine AllReadyH.cons rfl (fun Kc hK => ?_) (AllReadyH.nil)
          go_simp
          go_at_call 31
          refine (toHist_any _ tb nb DB _ (HB.out.below (B14.out.trans ((rr4_out (by assumption)).2.mono (by omega)))) HDB.out HNB.out).mono ?_
          rintro e wr10 ⟨yvB, rfl, rz, hb⟩
          have hzz := hb.size
          replace ry := ry.below hb (by first | exact Nat.le_refl _ | omega)
          replace bc : wr10.cell? ⟨wr1.heap.size, 0, none⟩ = some (.slice none 0 0) := by rw [hb.cell (p := ⟨wr1.heap.size, 0, none⟩) hbz]; exact bc
          replace bf : wr10.frozen? ⟨wr1.heap.size, 0, none⟩ = false := by rw [hb.frozen (p := ⟨wr1.heap.size, 0, none⟩) hbz]; exact bf
          replace bd : wr10.cell? ⟨wr1.heap.size, 1, none⟩ = some (.int .i64 0) := by rw [hb.cell (p := ⟨wr1.heap.size, 1, none⟩) hbz]; exact bd
          replace bg : wr10.frozen? ⟨wr1.heap.size, 1, none⟩ = false := by rw [hb.frozen (p := ⟨wr1.heap.size, 1, none⟩) hbz]; exact bg
          replace hbz : wr1.heap.size < wr10.heap.size := Nat.lt_of_lt_of_le hbz hb.size
          refine hK.out _ _ ?_ (fun hHeld => ?_)
          · (first | assumption | exact rr4_start c14_0 c14_1 c14_2 c14_3 | exact rr4_drew (by assumption) | exact rr4_keep (by omega) (by omega) (by omega) (by omega) hb (by assumption) | fail)
          clear hK Kc
          refine wpAnyH_ready (rs := [4]) (by kernel_rfl) (by simp) ?_
          refine AllReadyH.cons rfl (fun Kc hK => ?_) (AllReadyH.nil)
          go_simp
          go_at_call 24
          refine (Hi.out _ _ _ _ _ _ _ ry rz (by first | exact Nat.le_refl _ | omega) (by first | exact Nat.le_refl _ | omega)).mono ?_
          rintro e wr11 ⟨qv, rfl, rq, hb⟩
          have hzz := hb.size
          obtain ⟨qa, qc, rfl⟩ := rq.slice
          have hbz0 := hbz
          replace ry := ry.below hb (by first | exact Nat.le_refl _ | omega)
          replace rz := rz.below hb (by first | exact Nat.le_refl _ | omega)
          replace bc : wr11.cell? ⟨wr1.heap.size, 0, none⟩ = some (.slice none 0 0) := by rw [hb.cell (p := ⟨wr1.heap.size, 0, none⟩) hbz]; exact bc
          replace bf : wr11.frozen? ⟨wr1.heap.size, 0, none⟩ = false := by rw [hb.frozen (p := ⟨wr1.heap.size, 0, none⟩) hbz]; exact bf
          replace bd : wr11.cell? ⟨wr1.heap.size, 1, none⟩ = some (.int .i64 0) := by rw [hb.cell (p := ⟨wr1.heap.size, 1, none⟩) hbz]; exact bd
          replace bg : wr11.frozen? ⟨wr1.heap.size, 1, none⟩ = false := by rw [hb.frozen (p := ⟨wr1.heap.size, 1, none⟩) hbz]; exact bg
          replace hbz : wr1.heap.size < wr11.heap.size := Nat.lt_of_lt_of_le hbz hb.size
          refine hK.out _ _ ?_ (fun hHeld => ?_)
          · (first | assumption | exact rr4_start c14_0 c14_1 c14_2 c14_3 | exact rr4_drew (by assumption) | exact rr4_keep (by omega) (by omega) (by omega) (by omega) hb (by assumption) | fail)
          clear hK Kc
          refine step_read 5 94 rfl rfl (by kernel_rfl) (by kernel_rfl) (by kernel_rfl) (fun _ _ _ h => h) (by rfl) (v := ?_) (fun w hSw => ?_) (by assumption) ?_; rotate_left; (focus ((try dsimp only at hSw); go_simp; first | done | exact rfl)); simp only [List.set]
          refine step_read 6 100 rfl rfl (by kernel_rfl) (by kernel_rfl) (by kernel_rfl) (fun _ _ _ h => h) (by rfl) (v := ?_) (fun w hSw => ?_) (by assumption) ?_; rotate_left; (focus ((try dsimp only at hSw); go_simp; first | done | exact rfl)); simp only [List.set]
          refine step_read 7 101 rfl rfl (by kernel_rfl) (by kernel_rfl) (by kernel_rfl) (fun _ _ _ h => h) (by rfl) (v := ?_) (fun w hSw => ?_) (by assumption) ?_; rotate_left; (focus ((try dsimp only at hSw); go_simp; first | done | exact rfl)); simp only [List.set]
          refine wpAnyH_ready (rs := [9]) (by kernel_rfl) (by simp) ?_
          refine AllReadyH.cons rfl (fun Kc hK => ?_) (AllReadyH.nil)
          go_simp
          refine at_worldK (fun ws12 hwa => ?_)
          have hBR := BoxK.mk' hwa rq (base := v14) (by have hq := (rr4_out (by assumption)).1; omega) (by omega) hbb (by omega) (by omega) bc bd (rr4_out (by assumption)).2
          have hSn :  ws12.cell? ⟨w.heap.size, 0, none⟩ = some (.slice aa na ca) ∧ ws12.cell? ⟨w.heap.size, 1, none⟩ = some (.int .i64 ta) ∧ ws12.cell? ⟨w.heap.size + 1, 0, none⟩ = some (.slice ab nb cb) ∧ ws12.cell? ⟨w.heap.size + 1, 1, none⟩ = some (.int .i64 tb) ∧ v14.heap.size ≤ ws12.heap.size ∧ Below v14.heap.size v14 ws12 := by rw [hwa]; exact rr4_store (by omega) (by omega) (by omega) (by omega) hbb (rr4_store (by omega) (by omega) (by omega) (by omega) hbb (by assumption))
          clear hwa
          refine hK.out _ _ ?_ (fun hHeld => ?_)
          · (first | assumption | exact rr4_start c14_0 c14_1 c14_2 c14_3 | exact rr4_drew (by assumption) | exact rr4_keep (by omega) (by omega) (by omega) (by omega) hb (by assumption) | fail)
          clear hK Kc
          refine step_read 10 16 rfl rfl (by kernel_rfl) (by kernel_rfl) (by kernel_rfl) (fun _ _ _ h => h) (by rfl) (v := ?_) (fun w hSw => ?_) (by assumption) ?_; rotate_left; (focus ((try dsimp only at hSw); go_simp; first | done | exact rfl)); simp only [List.set]
          refine wpAnyH_done (by kernel_rfl) ?_ _
          go_wp2_with fail
          go_meet
          exact ⟨_, _, _, _, _, rfl, rfl, Lib.hid hBR⟩
      · go_simp
        refine at_worldK (fun wa13 hwa => ?_)
        have hb : Below v14.heap.size v14 wa13 := by rw [hwa]; first | exact ((Below.refl _ _).alloc (Nat.le_refl _) _).drew | exact (Below.refl _ _).drew.alloc (by first | exact Nat.le_refl _ | simp) _
        have HSB := (⟨c14_0, c14_1, c14_2, c14_3, Nat.le_refl _, Below.refl _ _⟩ :  v14.cell? ⟨w.heap.size, 0, none⟩ = some (.slice aa na ca) ∧ v14.cell? ⟨w.heap.size, 1, none⟩ = some (.int .i64 ta) ∧ v14.cell? ⟨w.heap.size + 1, 0, none⟩ = some (.slice ab nb cb) ∧ v14.cell? ⟨w.heap.size + 1, 1, none⟩ = some (.int .i64 tb) ∧ v14.heap.size ≤ v14.heap.size ∧ Below v14.heap.size v14 v14)
        have bc : wa13.cell? ⟨v14.heap.size, 0, none⟩ = some (.slice none 0 0) := by rw [hwa]; simp
        have bf : wa13.frozen? ⟨v14.heap.size, 0, none⟩ = false := by rw [hwa]; simp [go_sem]
        have bd : wa13.cell? ⟨v14.heap.size, 1, none⟩ = some (.int .i64 0) := by rw [hwa]; simp
        have bg : wa13.frozen? ⟨v14.heap.size, 1, none⟩ = false := by rw [hwa]; simp [go_sem]
        have hbz : v14.heap.size < wa13.heap.size := by rw [hwa]; simp
        have hzz := hb.size
        have hbb : v14.heap.size ≤ v14.heap.size := by first | exact Nat.le_refl _ | (have hq := (rr4_out (by assumption)).1; omega)
        have hSn :  wa13.cell? ⟨w.heap.size, 0, none⟩ = some (.slice aa na ca) ∧ wa13.cell? ⟨w.heap.size, 1, none⟩ = some (.int .i64 ta) ∧ wa13.cell? ⟨w.heap.size + 1, 0, none⟩ = some (.slice ab nb cb) ∧ wa13.cell? ⟨w.heap.size + 1, 1, none⟩ = some (.int .i64 tb) ∧ v14.heap.size ≤ wa13.heap.size ∧ Below v14.heap.size v14 wa13 := by rw [hwa]; first | exact rr4_drew (rr4_box (by omega) (by omega) (by omega) (by omega) HSB) | exact rr4_box (by omega) (by omega) (by omega) (by omega) (by assumption)
        clear hwa
        clear HSB
        refine hK.out _ _ ?_ (fun hHeld => ?_)
        · (first | assumption | exact rr4_start c14_0 c14_1 c14_2 c14_3 | exact rr4_drew (by assumption) | exact rr4_keep (by omega) (by omega) (by omega) (by omega) hb (by assumption) | fail)
        clear hK Kc
        refine wpAnyH_ready (rs := [1]) (by kernel_rfl) (by simp) ?_
        refine AllReadyH.cons rfl (fun Kc hK => ?_) (AllReadyH.nil)
        go_simp
        go_at_call 31
        refine (toHist_any _ ta na DA _ (HA.out.below (B14.out.trans ((rr4_out (by assumption)).2.mono (by omega)))) HDA.out HNA.out).mono ?_
        rintro e wr14 ⟨yvA, rfl, ry, hb⟩
        have hzz := hb.size
        replace bc : wr14.cell? ⟨v14.heap.size, 0, none⟩ = some (.slice none 0 0) := by rw [hb.cell (p := ⟨v14.heap.size, 0, none⟩) hbz]; exact bc
        replace bf : wr14.frozen? ⟨v14.heap.size, 0, none⟩ = false := by rw [hb.frozen (p := ⟨v14.heap.size, 0, none⟩) hbz]; exact bf
        replace bd : wr14.cell? ⟨v14.heap.size, 1, none⟩ = some (.int .i64 0) := by rw [hb.cell (p := ⟨v14.heap.size, 1, none⟩) hbz]; exact bd
        replace bg : wr14.frozen? ⟨v14.heap.size, 1, none⟩ = false := by rw [hb.frozen (p := ⟨v14.heap.size, 1, none⟩) hbz]; exact bg
        replace hbz : v14.heap.size < wr14.heap.size := Nat.lt_of_lt_of_le hbz hb.size
        refine hK.out _ _ ?_ (fun hHeld => ?_)
        · (first | assumption | exact rr4_start c14_0 c14_1 c14_2 c14_3 | exact rr4_drew (by assumption) | exact rr4_keep (by omega) (by omega) (by omega) (by omega) hb (by assumption) | fail)
        clear hK Kc
        refine wpAnyH_ready (rs := [3]) (by kernel_rfl) (by simp) ?_
        refine AllReadyH.cons rfl (fun Kc hK => ?_) (AllReadyH.nil)
        go_simp
        go_at_call 31
        refine (toHist_any _ tb nb DB _ (HB.out.below (B14.out.trans ((rr4_out (by assumption)).2.mono (by omega)))) HDB.out HNB.out).mono ?_
        rintro e wr15 ⟨yvB, rfl, rz, hb⟩
        have hzz := hb.size
        replace ry := ry.below hb (by first | exact Nat.le_refl _ | omega)
        replace bc : wr15.cell? ⟨v14.heap.size, 0, none⟩ = some (.slice none 0 0) := by rw [hb.cell (p := ⟨v14.heap.size, 0, none⟩) hbz]; exact bc
        replace bf : wr15.frozen? ⟨v14.heap.size, 0, none⟩ = false := by rw [hb.frozen (p := ⟨v14.heap.size, 0, none⟩) hbz]; exact bf
        replace bd : wr15.cell? ⟨v14.heap.size, 1, none⟩ = some (.int .i64 0) := by rw [hb.cell (p := ⟨v14.heap.size, 1, none⟩) hbz]; exact bd
        replace bg : wr15.frozen? ⟨v14.heap.size, 1, none⟩ = false := by rw [hb.frozen (p := ⟨v14.heap.size, 1, none⟩) hbz]; exact bg
        replace hbz : v14.heap.size < wr15.heap.size := Nat.lt_of_lt_of_le hbz hb.size
        refine hK.out _ _ ?_ (fun hHeld => ?_)
        · (first | assumption | exact rr4_start c14_0 c14_1 c14_2 c14_3 | exact rr4_drew (by assumption) | exact rr4_keep (by omega) (by omega) (by omega) (by omega) hb (by assumption) | fail)
        clear hK Kc
        refine wpAnyH_ready (rs := [4]) (by kernel_rfl) (by simp) ?_
        refine AllReadyH.cons rfl (fun Kc hK => ?_) (AllReadyH.nil)
        go_simp
        go_at_call 24
        refine (Hi.out _ _ _ _ _ _ _ ry rz (by first | exact Nat.le_refl _ | omega) (by first | exact Nat.le_refl _ | omega)).mono ?_
        rintro e wr16 ⟨qv, rfl, rq, hb⟩
        have hzz := hb.size
        obtain ⟨qa, qc, rfl⟩ := rq.slice
        have hbz0 := hbz
        replace ry := ry.below hb (by first | exact Nat.le_refl _ | omega)
        replace rz := rz.below hb (by first | exact Nat.le_refl _ | omega)
        replace bc : wr16.cell? ⟨v14.heap.size, 0, none⟩ = some (.slice none 0 0) := by rw [hb.cell (p := ⟨v14.heap.size, 0, none⟩) hbz]; exact bc
        replace bf : wr16.frozen? ⟨v14.heap.size, 0, none⟩ = false := by rw [hb.frozen (p := ⟨v14.heap.size, 0, none⟩) hbz]; exact bf
        replace bd : wr16.cell? ⟨v14.heap.size, 1, none⟩ = some (.int .i64 0) := by rw [hb.cell (p := ⟨v14.heap.size, 1, none⟩) hbz]; exact bd
        replace bg : wr16.frozen? ⟨v14.heap.size, 1, none⟩ = false := by rw [hb.frozen (p := ⟨v14.heap.size, 1, none⟩) hbz]; exact bg
        replace hbz : v14.heap.size < wr16.heap.size := Nat.lt_of_lt_of_le hbz hb.size
        refine hK.out _ _ ?_ (fun hHeld => ?_)
        · (first | assumption | exact rr4_start c14_0 c14_1 c14_2 c14_3 | exact rr4_drew (by assumption) | exact rr4_keep (by omega) (by omega) (by omega) (by omega) hb (by assumption) | fail)
        clear hK Kc
        refine step_read 5 94 rfl rfl (by kernel_rfl) (by kernel_rfl) (by kernel_rfl) (fun _ _ _ h => h) (by rfl) (v := ?_) (fun w hSw => ?_) (by assumption) ?_; rotate_left; (focus ((try dsimp only at hSw); go_simp; first | done | exact rfl)); simp only [List.set]
        refine step_read 6 100 rfl rfl (by kernel_rfl) (by kernel_rfl) (by kernel_rfl) (fun _ _ _ h => h) (by rfl) (v := ?_) (fun w hSw => ?_) (by assumption) ?_; rotate_left; (focus ((try dsimp only at hSw); go_simp; first | done | exact rfl)); simp only [List.set]
        refine step_read 7 101 rfl rfl (by kernel_rfl) (by kernel_rfl) (by kernel_rfl) (fun _ _ _ h => h) (by rfl) (v := ?_) (fun w hSw => ?_) (by assumption) ?_; rotate_left; (focus ((try dsimp only at hSw); go_simp; first | done | exact rfl)); simp only [List.set]
        refine wpAnyH_ready (rs := [9]) (by kernel_rfl) (by simp) ?_
        refine AllReadyH.cons rfl (fun Kc hK => ?_) (AllReadyH.nil)
        go_simp
        refine at_worldK (fun ws17 hwa => ?_)
        have hBR := BoxK.mk' hwa rq (base := v14) (by have hq := (rr4_out (by assumption)).1; omega) (by omega) hbb (by omega) (by omega) bc bd (rr4_out (by assumption)).2
        have hSn :  ws17.cell? ⟨w.heap.size, 0, none⟩ = some (.slice aa na ca) ∧ ws17.cell? ⟨w.heap.size, 1, none⟩ = some (.int .i64 ta) ∧ ws17.cell? ⟨w.heap.size + 1, 0, none⟩ = some (.slice ab nb cb) ∧ ws17.cell? ⟨w.heap.size + 1, 1, none⟩ = some (.int .i64 tb) ∧ v14.heap.size ≤ ws17.heap.size ∧ Below v14.heap.size v14 ws17 := by rw [hwa]; exact rr4_store (by omega) (by omega) (by omega) (by omega) hbb (rr4_store (by omega) (by omega) (by omega) (by omega) hbb (by assumption))
        clear hwa
        refine hK.out _ _ ?_ (fun hHeld => ?_)
        · (first | assumption | exact rr4_start c14_0 c14_1 c14_2 c14_3 | exact rr4_drew (by assumption) | exact rr4_keep (by omega) (by omega) (by omega) (by omega) hb (by assumption) | fail)
        clear hK Kc
        refine step_read 10 16 rfl rfl (by kernel_rfl) (by kernel_rfl) (by kernel_rfl) (fun _ _ _ h => h) (by rfl) (v := ?_) (fun w hSw => ?_) (by assumption) ?_; rotate_left; (focus ((try dsimp only at hSw); go_simp; first | done | exact rfl)); simp only [List.set]
        refine wpAnyH_done (by kernel_rfl) ?_ _
        go_wp2_with fail
        go_meet
        exact ⟨_, _, _, _, _, rfl, rfl, Lib.hid hBR⟩
    case rest =>
      obtain ⟨xH, loH, hiH, vaH, vcH, rfl, rfl, hBR⟩ := hcut
      obtain ⟨v15, rfl⟩ : ∃ x, x = wc := ⟨_, rfl⟩
      obtain ⟨br, b1, b2, b3, b4, b5, b6, b7, hb15⟩ := hBR.out
      clear hBR
      have sz15 : v14.heap.size ≤ v15.heap.size := hb15.size
      have st15 : Below v14.heap.size v14 v15 := hb15
      have c15_0 : v15.cell? ⟨w.heap.size, 0, none⟩ = some (.slice aa na ca) := by rw [(bcell st15).1 _ _ (by omega)]; exact c14_0
      have c15_1 : v15.cell? ⟨w.heap.size, 1, none⟩ = some (.int .i64 ta) := by rw [(bcell st15).1 _ _ (by omega)]; exact c14_1
      have c15_2 : v15.cell? ⟨w.heap.size + 1, 0, none⟩ = some (.slice ab nb cb) := by rw [(bcell st15).1 _ _ (by omega)]; exact c14_2
      have c15_3 : v15.cell? ⟨w.heap.size + 1, 1, none⟩ = some (.int .i64 tb) := by rw [(bcell st15).1 _ _ (by omega)]; exact c14_3
      have c15_4 : v15.cell? ⟨(xW), 0, none⟩ = some (.slice vaW m vcW) := by rw [(bcell st15).1 _ _ (by omega)]; exact c14_4
      have c15_5 : v15.cell? ⟨(xW), 1, none⟩ = some (.int .i64 tr) := by rw [(bcell st15).1 _ _ (by omega)]; exact c14_5
      have c15_6 : v15.cell? ⟨v4.heap.size, 0, none⟩ = some (.slice Xa na Xc) := by rw [(bcell st15).1 _ _ (by omega)]; exact c14_6
      have c15_7 : v15.cell? ⟨v4.heap.size, 1, none⟩ = some (.int .i64 ta) := by rw [(bcell st15).1 _ _ (by omega)]; exact c14_7
      have c15_8 : v15.cell? ⟨v5.heap.size, 0, none⟩ = some (.slice Ya nb Yc) := by rw [(bcell st15).1 _ _ (by omega)]; exact c14_8
      have c15_9 : v15.cell? ⟨v5.heap.size, 1, none⟩ = some (.int .i64 tb) := by rw [(bcell st15).1 _ _ (by omega)]; exact c14_9
      have c15_10 : v15.cell? ⟨v6.heap.size, 0, none⟩ = some (.slice Ga m Gc) := by rw [(bcell st15).1 _ _ (by omega)]; exact c14_10
      have c15_11 : v15.cell? ⟨v6.heap.size, 1, none⟩ = some (.int .i64 tr) := by rw [(bcell st15).1 _ _ (by omega)]; exact c14_11
      have B15 : Hid (Below w.heap.size w v15) := B14.out.trans (st15.mono (by omega))
      have R15_0 : Hid (Row 1 v15 (loW) (hiW) (.slice vaW m vcW) m DR) := R14_0.out.below st15 (by omega)
      have R15_1 : Hid (Row 1 v15 (v5.heap.size + 1) (v6.heap.size) (.slice Ga m Gc) m (marks 1 (m * 1))) := R14_1.out.below st15 (by omega)
      have R15_2 : Hid (Row 1 v15 (loH) (hiH) (.slice vaH m vcH) m DR) := br
      have d15_0 : w.heap.size < v15.heap.size := by omega
      have e15_0 : w.heap.size ≠ v15.heap.size := by omega
      have d15_1 : w.heap.size + 1 < v15.heap.size := by omega
      have e15_1 : w.heap.size + 1 ≠ v15.heap.size := by omega
      have d15_2 : (xW) < v15.heap.size := by omega
      have e15_2 : (xW) ≠ v15.heap.size := by omega
      have d15_3 : v4.heap.size < v15.heap.size := by omega
      have e15_3 : v4.heap.size ≠ v15.heap.size := by omega
      have d15_4 : v5.heap.size < v15.heap.size := by omega
      have e15_4 : v5.heap.size ≠ v15.heap.size := by omega
      have d15_5 : v6.heap.size < v15.heap.size := by omega
      have e15_5 : v6.heap.size ≠ v15.heap.size := by omega
      clear d14_0 e14_0 d14_1 e14_1 d14_2 e14_2 d14_3 e14_3 d14_4 e14_4 d14_5 e14_5 c14_0 c14_1 c14_2 c14_3 c14_4 c14_5 c14_6 c14_7 c14_8 c14_9 c14_10 c14_11 B14 st15 R14_0 R14_1 br hb15
      have cbH : v15.cell? ⟨(xH), 0, none⟩ = some (.slice vaH m vcH) := b6
      have cdH : v15.cell? ⟨(xH), 1, none⟩ = some (.int .i64 tr) := b7
      clear b6 b7
      have ddH : xH < v15.heap.size := b4
      have eeH : xH ≠ v15.heap.size := by omega
      go_wp2_with fail
      go_at_call 33
      refine (eqHist_same tr DR m _ _ _ _ _ _ _ R15_2.out R15_0.out (by first | omega | (simp; done) | (simp; omega) | fail) (by first | omega | (simp; done) | (simp; omega) | fail)).mono ?_
      rintro e v16 ⟨rfl, hb16⟩
      have sz16 : v15.heap.size ≤ v16.heap.size := hb16.size
      have st16 : Below v15.heap.size v15 v16 := hb16
      have c16_0 : v16.cell? ⟨w.heap.size, 0, none⟩ = some (.slice aa na ca) := by rw [(bcell st16).1 _ _ (by omega)]; exact c15_0
      have c16_1 : v16.cell? ⟨w.heap.size, 1, none⟩ = some (.int .i64 ta) := by rw [(bcell st16).1 _ _ (by omega)]; exact c15_1
      have c16_2 : v16.cell? ⟨w.heap.size + 1, 0, none⟩ = some (.slice ab nb cb) := by rw [(bcell st16).1 _ _ (by omega)]; exact c15_2
      have c16_3 : v16.cell? ⟨w.heap.size + 1, 1, none⟩ = some (.int .i64 tb) := by rw [(bcell st16).1 _ _ (by omega)]; exact c15_3
      have c16_4 : v16.cell? ⟨(xW), 0, none⟩ = some (.slice vaW m vcW) := by rw [(bcell st16).1 _ _ (by omega)]; exact c15_4
      have c16_5 : v16.cell? ⟨(xW), 1, none⟩ = some (.int .i64 tr) := by rw [(bcell st16).1 _ _ (by omega)]; exact c15_5
      have c16_6 : v16.cell? ⟨v4.heap.size, 0, none⟩ = some (.slice Xa na Xc) := by rw [(bcell st16).1 _ _ (by omega)]; exact c15_6
      have c16_7 : v16.cell? ⟨v4.heap.size, 1, none⟩ = some (.int .i64 ta) := by rw [(bcell st16).1 _ _ (by omega)]; exact c15_7
      have c16_8 : v16.cell? ⟨v5.heap.size, 0, none⟩ = some (.slice Ya nb Yc) := by rw [(bcell st16).1 _ _ (by omega)]; exact c15_8
      have c16_9 : v16.cell? ⟨v5.heap.size, 1, none⟩ = some (.int .i64 tb) := by rw [(bcell st16).1 _ _ (by omega)]; exact c15_9
      have c16_10 : v16.cell? ⟨v6.heap.size, 0, none⟩ = some (.slice Ga m Gc) := by rw [(bcell st16).1 _ _ (by omega)]; exact c15_10
      have c16_11 : v16.cell? ⟨v6.heap.size, 1, none⟩ = some (.int .i64 tr) := by rw [(bcell st16).1 _ _ (by omega)]; exact c15_11
      have c16_12 : v16.cell? ⟨(xH), 0, none⟩ = some (.slice vaH m vcH) := by rw [(bcell st16).1 _ _ (by omega)]; exact cbH
      have c16_13 : v16.cell? ⟨(xH), 1, none⟩ = some (.int .i64 tr) := by rw [(bcell st16).1 _ _ (by omega)]; exact cdH
      have B16 : Hid (Below w.heap.size w v16) := B15.out.trans (st16.mono (by omega))
      have R16_0 : Hid (Row 1 v16 (loW) (hiW) (.slice vaW m vcW) m DR) := R15_0.out.below st16 (by omega)
      have R16_1 : Hid (Row 1 v16 (v5.heap.size + 1) (v6.heap.size) (.slice Ga m Gc) m (marks 1 (m * 1))) := R15_1.out.below st16 (by omega)
      have R16_2 : Hid (Row 1 v16 (loH) (hiH) (.slice vaH m vcH) m DR) := R15_2.out.below st16 (by omega)
      have d16_0 : w.heap.size < v16.heap.size := by omega
      have e16_0 : w.heap.size ≠ v16.heap.size := by omega
      have d16_1 : w.heap.size + 1 < v16.heap.size := by omega
      have e16_1 : w.heap.size + 1 ≠ v16.heap.size := by omega
      have d16_2 : (xW) < v16.heap.size := by omega
      have e16_2 : (xW) ≠ v16.heap.size := by omega
      have d16_3 : v4.heap.size < v16.heap.size := by omega
      have e16_3 : v4.heap.size ≠ v16.heap.size := by omega
      have d16_4 : v5.heap.size < v16.heap.size := by omega
      have e16_4 : v5.heap.size ≠ v16.heap.size := by omega
      have d16_5 : v6.heap.size < v16.heap.size := by omega
      have e16_5 : v6.heap.size ≠ v16.heap.size := by omega
      have d16_6 : (xH) < v16.heap.size := by omega
      have e16_6 : (xH) ≠ v16.heap.size := by omega
      clear d15_0 e15_0 d15_1 e15_1 d15_2 e15_2 d15_3 e15_3 d15_4 e15_4 d15_5 e15_5 ddH eeH c15_0 c15_1 c15_2 c15_3 c15_4 c15_5 c15_6 c15_7 c15_8 c15_9 c15_10 c15_11 cbH cdH B15 st16 R15_0 R15_1 R15_2 hb16
      go_wp2_with fail
      go_at_call 37
      refine (heldHist_K KG _ m _ _ _ _ HKG.out R16_1.out (by first | omega | (simp; done) | (simp; omega) | fail) (by omega)).mono ?_
      rintro e v17 ⟨rfl, hb17⟩
      have sz17 : v16.heap.size ≤ v17.heap.size := hb17.size
      have st17 : Below v16.heap.size v16 v17 := hb17
      have c17_0 : v17.cell? ⟨w.heap.size, 0, none⟩ = some (.slice aa na ca) := by rw [(bcell st17).1 _ _ (by omega)]; exact c16_0
      have c17_1 : v17.cell? ⟨w.heap.size, 1, none⟩ = some (.int .i64 ta) := by rw [(bcell st17).1 _ _ (by omega)]; exact c16_1
      have c17_2 : v17.cell? ⟨w.heap.size + 1, 0, none⟩ = some (.slice ab nb cb) := by rw [(bcell st17).1 _ _ (by omega)]; exact c16_2
      have c17_3 : v17.cell? ⟨w.heap.size + 1, 1, none⟩ = some (.int .i64 tb) := by rw [(bcell st17).1 _ _ (by omega)]; exact c16_3
      have c17_4 : v17.cell? ⟨(xW), 0, none⟩ = some (.slice vaW m vcW) := by rw [(bcell st17).1 _ _ (by omega)]; exact c16_4
      have c17_5 : v17.cell? ⟨(xW), 1, none⟩ = some (.int .i64 tr) := by rw [(bcell st17).1 _ _ (by omega)]; exact c16_5
      have c17_6 : v17.cell? ⟨v4.heap.size, 0, none⟩ = some (.slice Xa na Xc) := by rw [(bcell st17).1 _ _ (by omega)]; exact c16_6
      have c17_7 : v17.cell? ⟨v4.heap.size, 1, none⟩ = some (.int .i64 ta) := by rw [(bcell st17).1 _ _ (by omega)]; exact c16_7
      have c17_8 : v17.cell? ⟨v5.heap.size, 0, none⟩ = some (.slice Ya nb Yc) := by rw [(bcell st17).1 _ _ (by omega)]; exact c16_8
      have c17_9 : v17.cell? ⟨v5.heap.size, 1, none⟩ = some (.int .i64 tb) := by rw [(bcell st17).1 _ _ (by omega)]; exact c16_9
      have c17_10 : v17.cell? ⟨v6.heap.size, 0, none⟩ = some (.slice Ga m Gc) := by rw [(bcell st17).1 _ _ (by omega)]; exact c16_10
      have c17_11 : v17.cell? ⟨v6.heap.size, 1, none⟩ = some (.int .i64 tr) := by rw [(bcell st17).1 _ _ (by omega)]; exact c16_11
      have c17_12 : v17.cell? ⟨(xH), 0, none⟩ = some (.slice vaH m vcH) := by rw [(bcell st17).1 _ _ (by omega)]; exact c16_12
      have c17_13 : v17.cell? ⟨(xH), 1, none⟩ = some (.int .i64 tr) := by rw [(bcell st17).1 _ _ (by omega)]; exact c16_13
      have B17 : Hid (Below w.heap.size w v17) := B16.out.trans (st17.mono (by omega))
      have R17_0 : Hid (Row 1 v17 (loW) (hiW) (.slice vaW m vcW) m DR) := R16_0.out.below st17 (by omega)
      have R17_1 : Hid (Row 1 v17 (v5.heap.size + 1) (v6.heap.size) (.slice Ga m Gc) m (marks 1 (m * 1))) := R16_1.out.below st17 (by omega)
      have R17_2 : Hid (Row 1 v17 (loH) (hiH) (.slice vaH m vcH) m DR) := R16_2.out.below st17 (by omega)
      have d17_0 : w.heap.size < v17.heap.size := by omega
      have e17_0 : w.heap.size ≠ v17.heap.size := by omega
      have d17_1 : w.heap.size + 1 < v17.heap.size := by omega
      have e17_1 : w.heap.size + 1 ≠ v17.heap.size := by omega
      have d17_2 : (xW) < v17.heap.size := by omega
      have e17_2 : (xW) ≠ v17.heap.size := by omega
      have d17_3 : v4.heap.size < v17.heap.size := by omega
      have e17_3 : v4.heap.size ≠ v17.heap.size := by omega
      have d17_4 : v5.heap.size < v17.heap.size := by omega
      have e17_4 : v5.heap.size ≠ v17.heap.size := by omega
      have d17_5 : v6.heap.size < v17.heap.size := by omega
      have e17_5 : v6.heap.size ≠ v17.heap.size := by omega
      have d17_6 : (xH) < v17.heap.size := by omega
      have e17_6 : (xH) ≠ v17.heap.size := by omega
      clear d16_0 e16_0 d16_1 e16_1 d16_2 e16_2 d16_3 e16_3 d16_4 e16_4 d16_5 e16_5 d16_6 e16_6 c16_0 c16_1 c16_2 c16_3 c16_4 c16_5 c16_6 c16_7 c16_8 c16_9 c16_10 c16_11 c16_12 c16_13 B16 st17 R16_0 R16_1 R16_2 hb17
      go_wp2_with fail
      go_ret
      exact ⟨rfl, B17.out⟩

end Go.Proofs.Ytcchoiobdcaboaa
