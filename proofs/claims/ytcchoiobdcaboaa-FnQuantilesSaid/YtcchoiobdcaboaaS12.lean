/- The histogram of a list, by the model. -/
import Derived.Test.YtcchoiobdcaboaaS11b
import Derived.Test.YtcchoiobdcaboaaReg
import Derived.Test.YtcchoiobdcaboaaGk
namespace Go.Proofs.Ytcchoiobdcaboaa
open Go.RowKit


theorem rr3_store {w w1 : World} {b0 b1 b2 o0 o1 o2 : Nat} {v0 v1 v2 : Value} (l0 : b0 < w.heap.size) (l1 : b1 < w.heap.size) (l2 : b2 < w.heap.size) {b o : Nat} {u : Value} (hb : w.heap.size ≤ b) (h : w1.cell? ⟨b0, o0, none⟩ = some v0 ∧ w1.cell? ⟨b1, o1, none⟩ = some v1 ∧ w1.cell? ⟨b2, o2, none⟩ = some v2 ∧ w.heap.size ≤ w1.heap.size ∧ Below w.heap.size w w1) : (w1.setCell ⟨b, o, none⟩ u).cell? ⟨b0, o0, none⟩ = some v0 ∧ (w1.setCell ⟨b, o, none⟩ u).cell? ⟨b1, o1, none⟩ = some v1 ∧ (w1.setCell ⟨b, o, none⟩ u).cell? ⟨b2, o2, none⟩ = some v2 ∧ w.heap.size ≤ (w1.setCell ⟨b, o, none⟩ u).heap.size ∧ Below w.heap.size w (w1.setCell ⟨b, o, none⟩ u) := by
  obtain ⟨h0, h1, h2, hs, hB⟩ := h
  exact ⟨by rw [World.cell?_setCell_other _ _ _ _ (by simp <;> omega)]; exact h0, by rw [World.cell?_setCell_other _ _ _ _ (by simp <;> omega)]; exact h1, by rw [World.cell?_setCell_other _ _ _ _ (by simp <;> omega)]; exact h2, by simp [World.setCell]; omega, hB.setCell (by show _ ≤ b; omega) _⟩

theorem at_worldV {K : Act → World → Prop} {a : Act} {W : World} (h : ∀ wa, wa = W → K a wa) : K a W := h W rfl
/-- What a region leaves that calls and boxes the histogram that the call answers. -/
def BoxV (base wx : World) (bx lo hi : Nat) (v : Value) (m : Nat) (tr : Int) (DR : List Int) : Prop :=
  Row 1 wx lo hi v m DR ∧ base.heap.size ≤ lo ∧ hi ≤ wx.heap.size ∧ base.heap.size ≤ bx ∧ bx < wx.heap.size ∧ (bx < lo ∨ hi ≤ bx) ∧ wx.cell? ⟨bx, 0, none⟩ = some v ∧ wx.cell? ⟨bx, 1, none⟩ = some (.int .i64 tr) ∧ Below base.heap.size base wx
theorem BoxV.mk' {base w5 wx : World} {bx lo hi m : Nat} {v u u1 : Value} {tr : Int} {DR : List Int} (hw : wx = (w5.setCell ⟨bx, 0, none⟩ v).setCell ⟨bx, 1, none⟩ (.int .i64 tr)) (hr : Row 1 w5 lo hi v m DR) (hlo : base.heap.size ≤ lo) (hhi : hi ≤ w5.heap.size) (h1 : base.heap.size ≤ bx) (h2 : bx < w5.heap.size) (h3 : bx < lo ∨ hi ≤ bx) (hc : w5.cell? ⟨bx, 0, none⟩ = some u) (hc1 : w5.cell? ⟨bx, 1, none⟩ = some u1) (hb : Below base.heap.size base w5) : BoxV base wx bx lo hi v m tr DR := by
  subst hw
  exact ⟨(hr.setCell (p := ⟨bx, 0, none⟩) h3 _).setCell (p := ⟨bx, 1, none⟩) h3 _, hlo, by simp [World.setCell]; omega, h1, by simp [World.setCell]; omega, h3, by rw [World.cell?_setCell_other _ _ _ _ (by simp)]; exact World.cell?_setCell_same' _ _ _ (by rw [hc]; rfl), World.cell?_setCell_same' _ _ _ (by rw [World.cell?_setCell_other _ _ _ _ (by simp), hc1]; rfl), (hb.setCell h1 _).setCell h1 _⟩
/-- What the model's loop holds: the histogram of k values in block X. -/
structure HsK (w q : World) (X : Nat) (L : List Int) (k : Nat) (wr : World) : Prop where
  one : ∃ G c, HBx wr X G c (hC (L.take k)) (hS (L.take k)) ∧ w.heap.size + 1 ≤ G
  low : Below (w.heap.size + 1) q wr
  val : hV (L.take k) = true
  nX : w.heap.size + 1 ≤ X ∧ w.heap.size + 1 ≤ q.heap.size
theorem HsK.next {L : List Int} {k : Nat} {x : Int} (hV' : hV (L.take k) = true) (hk : k ≤ 300) (hx : L[k]? = some x) :
    adB (hC (L.take k)) (hS (L.take k)) x = vB x ∧ (vB x = true → adC (hC (L.take k)) (hS (L.take k)) x = hC (L.take (k + 1)) ∧ adS (hC (L.take k)) (hS (L.take k)) x = hS (L.take (k + 1)) ∧ hV (L.take (k + 1)) = true) := by
  have hl : (L.take k).length ≤ 300 := by rw [List.length_take]; omega
  have hk1 := hC_ok (L.take k) (by omega) hV'
  have e : adB (hC (L.take k)) (hS (L.take k)) x = vB x := by
    unfold adB
    rw [hk1]
    cases hv : vB x with
    | false => rfl
    | true =>
      obtain ⟨h0, h1⟩ := vB_iff.1 hv
      have := hC_cnt (L.take k) (bl x) (bl_in h0 h1).1
      rw [inc_ok hk1 hv (by omega)]
      rfl
  refine ⟨e, fun hv => ?_⟩
  obtain ⟨t1, t2, t3⟩ := hC_take hx
  rw [hV', hv] at t3
  rw [(ad_yes (e.trans hv)).1, (ad_yes (e.trans hv)).2, t1, t2]
  exact ⟨rfl, rfl, t3⟩
theorem HBx.putS {w : World} {X G c : Nat} {C : List Int} {s : Int} (h : HBx w X G c C s) {lo hi n c2 : Nat} {G2 : Nat} {C2 : List Int} (s2 : Int) (hr : Row 1 w lo hi (.slice (some ⟨G2, 0, none⟩) 21 c2) 21 C2) (hX : X < lo ∨ hi ≤ X) (hh : hi ≤ w.heap.size) (_hn : n = 21) : HBx ((w.setCell ⟨X, 0, none⟩ (.slice (some ⟨G2, 0, none⟩) 21 c2)).setCell ⟨X, 1, none⟩ (.int .i64 s2)) X G2 c2 C2 s2 := by
  obtain ⟨G3, e, g1, g2, g3, g4, g5⟩ := hr.own21
  obtain rfl : G2 = G3 := by simpa using e
  have ne : X ≠ G2 := by omega
  refine ⟨?_, ?_, fun o => ?_, fun q z hz => ?_, fun o => ?_, g5, ?_, ?_, ne⟩
  · rw [World.cell?_setCell_other _ _ _ _ (by simp)]; exact World.cell?_setCell_same' _ _ _ (by rw [h.c0]; rfl)
  · exact World.cell?_setCell_same' _ _ _ (by rw [World.cell?_setCell_other _ _ _ _ (by simp), h.c1]; rfl)
  · rw [World.frozen?_setCell, World.frozen?_setCell]; exact h.fx o
  · rw [World.cell?_setCell_other _ _ _ _ (by simp <;> omega), World.cell?_setCell_other _ _ _ _ (by simp <;> omega)]; exact g3 q z hz
  · rw [World.frozen?_setCell, World.frozen?_setCell]; exact g4 o
  · simpa [World.setCell] using h.lx
  · simp [World.setCell]; omega

set_option maxRecDepth 100000 in
set_option maxHeartbeats 8000000 in
theorem sho_any (lo hi n : Nat) (v : Value) (L : List Int) (w : World) (hr : Row 1 w lo hi v n L) (hh : hi ≤ w.heap.size) :
    Calls Try.prog 17 #[v] w (HBPost (hoC L) (hoS L) (hoB L) (hoC L).length w) := by
  have hl : L.length = n := by have := hr.1; omega
  obtain ⟨ad, cp, rfl, hn, hc⟩ := hr.opened
  have HC := Lib.hid hc
  have HL := Lib.hid hl
  have hmk : ∀ w : World, (Instr.makeSlice 24 (.int .i64 21) (.int .i64 21)).run Try.prog w = .ok (.slice (some ⟨w.heap.size, 0, none⟩) 21 21) (w.alloc (.cells (Array.replicate 21 (.int .i64 0)) 3)) := fun _ => by kernel_rfl
  clear hr hc
  go_enter Try.func17, Try.ntmps17
  go_upto_region 2 with fail
  clear hmk
  obtain ⟨q, hq⟩ : ∃ q, q = ((w.alloc (.cells #[.slice none 0 0, .int .i64 0] 27)).alloc (.cells (Array.replicate 21 (.int .i64 0)) 3)).alloc (.cells #[.slice (some ⟨w.heap.size + 1, 0, none⟩) 21 21, .int .i64 0] 27) := ⟨_, rfl⟩
  have hb : Below w.heap.size w q := by rw [hq]; go_grown
  have hsz : q.heap.size = w.heap.size + 1 + 1 + 1 := by rw [hq]; simp
  have R0 : q.cell? ⟨w.heap.size, 0, none⟩ = some (.slice none 0 0) := by rw [hq, old_box (by simp <;> omega), old_box (by simp <;> omega), new_at rfl]; rfl
  have R1 : q.cell? ⟨w.heap.size, 1, none⟩ = some (.int .i64 0) := by rw [hq, old_box (by simp <;> omega), old_box (by simp <;> omega), new_at rfl]; rfl
  have F0 : q.frozen? ⟨w.heap.size, 0, none⟩ = false := by rw [hq, old_frz (by simp <;> omega), old_frz (by simp <;> omega), new_frz rfl]
  have F1 : q.frozen? ⟨w.heap.size, 1, none⟩ = false := by rw [hq, old_frz (by simp <;> omega), old_frz (by simp <;> omega), new_frz rfl]
  have hX : HBx q (w.heap.size + 1 + 1) (w.heap.size + 1) 21 H0 0 := by
    refine ⟨by rw [hq, new_at (by simp)]; rfl, by rw [hq, new_at (by simp)]; rfl, fun o => by rw [hq, new_frz (by simp)], fun p z hz => ?_, fun o => by rw [hq, old_frz (by simp), new_frz (by simp)], H0_len, by omega, by omega, by omega⟩
    have hp := lt_of_at hz
    rw [H0_len] at hp
    rw [hq, old_box (by simp), new_at (by simp)]
    unfold H0 at hz
    rw [List.getElem?_replicate, if_pos (by simpa using hp)] at hz
    obtain rfl := Option.some.inj hz
    simp [hp]
  rw [← hq]
  clear hq
  have HB := Lib.hid hb
  obtain ⟨X, hXe⟩ : ∃ X, X = w.heap.size + 1 + 1 := ⟨_, rfl⟩
  rw [← hXe] at hX ⊢
  by_cases h300 : n > 300
  case pos =>
    have e : hoB L = false := by unfold hoB; rw [decide_eq_false (by omega)]; rfl
    have E := Lib.hid e
    have h3 : (n : Int) > 300 := by omega
    clear e hl hX hXe hb
    go_upto_region 3 with fail
    have r0 : ((q.setCell ⟨w.heap.size, 0, none⟩ (.slice none 0 0)).setCell ⟨w.heap.size, 1, none⟩ (.int .i64 (0))).cell? ⟨w.heap.size, 0, none⟩ = some (.slice none 0 0) := by rw [World.cell?_setCell_other _ _ _ _ (by simp)]; exact World.cell?_setCell_same' _ _ _ (by rw [R0]; rfl)
    have r1 : ((q.setCell ⟨w.heap.size, 0, none⟩ (.slice none 0 0)).setCell ⟨w.heap.size, 1, none⟩ (.int .i64 (0))).cell? ⟨w.heap.size, 1, none⟩ = some (.int .i64 (0)) := World.cell?_setCell_same' _ _ _ (by rw [World.cell?_setCell_other _ _ _ _ (by simp), R1]; rfl)
    go_wp2_with fail
    refine bodyPost_ret (v := .tuple #[.agg #[.slice none 0 0, .int .i64 (0)], .bool false]) (by simp [results, Try.results17, go_sem, r0, r1]) rfl ?_
    rw [E.out, (ho_no E.out).1, (ho_no E.out).2, List.length_nil]
    refine ⟨_, rfl, ?_, ?_⟩
    · exact (((Row.empty 1 q q.heap.size q.heap.size none 0).setCell (p := ⟨w.heap.size, 0, none⟩) (.inl (by show w.heap.size < _; omega)) _).setCell (p := ⟨w.heap.size, 1, none⟩) (.inl (by show w.heap.size < _; omega)) _).wide (by omega) (by first | (simp [World.setCell]; done) | (simp [World.setCell]; omega))
    · exact ((HB.out.setCell (p := ⟨w.heap.size, 0, none⟩) (by show _ ≤ w.heap.size; omega) _).setCell (p := ⟨w.heap.size, 1, none⟩) (by show _ ≤ w.heap.size; omega) _)
  case neg =>
  have h3 : ¬ (n : Int) > 300 := by omega
  have HK0 : Hid (HsK w q X L 0 q) := ⟨⟨_, _, hX, Nat.le_refl _⟩, Below.refl _ _, rfl, by omega⟩
  have HR0 := Lib.hid R0
  have HR1 := Lib.hid R1
  have HG0 := Lib.hid F0
  have HG1 := Lib.hid F1
  have hXq : X < q.heap.size := by omega
  clear hl hX hXe hb R0 R1 F0 F1
  go_wp2_with fail
  go_loopw [5] (fun i wr => ∃ k : Nat, k ≤ n ∧ i = .int .i64 (k : Int) ∧ Hid (HsK w q X L k wr)) (fun i _ => n - (intOf i).toNat)
  case atStart => exact ⟨0, by omega, rfl, HK0⟩
  case round =>
    clear HK0
    obtain ⟨k, hk, rfl, hK⟩ := hrel
    have hlow := hK.out.low
    have hRw : w.heap.size < q.heap.size := by omega
    have e0 : wr.cell? ⟨w.heap.size, 0, none⟩ = some (.slice none 0 0) := by rw [hlow.cell (p := ⟨w.heap.size, 0, none⟩) (by show w.heap.size < _; omega)]; exact HR0.out
    have e1 : wr.cell? ⟨w.heap.size, 1, none⟩ = some (.int .i64 0) := by rw [hlow.cell (p := ⟨w.heap.size, 1, none⟩) (by show w.heap.size < _; omega)]; exact HR1.out
    have g0 : wr.frozen? ⟨w.heap.size, 0, none⟩ = false := by rw [hlow.frozen (p := ⟨w.heap.size, 0, none⟩) (by show w.heap.size < _; omega)]; exact HG0.out
    have g1 : wr.frozen? ⟨w.heap.size, 1, none⟩ = false := by rw [hlow.frozen (p := ⟨w.heap.size, 1, none⟩) (by show w.heap.size < _; omega)]; exact HG1.out
    have HBw : Hid (Below w.heap.size w wr) := HB.out.trans (hlow.mono (by omega))
    have hszw := HBw.out.size
    have hszq := hlow.size
    have hRs : w.heap.size < wr.heap.size := by omega
    obtain ⟨G, c, hone, hGw⟩ := hK.out.one
    have nX := hK.out.nX
    by_cases hlt : k < n
    case neg =>
      obtain rfl : k = n := by omega
      have hge : ¬ ((k : Int) < (k : Int)) := by omega
      have ht : L.take k = L := List.take_of_length_le (by rw [HL.out]; exact Nat.le_refl _)
      have hb : hoB L = true := by unfold hoB; rw [decide_eq_true (by rw [HL.out]; omega)]; have := hK.out.val; rw [ht] at this; rw [this]; rfl
      have E := Lib.hid hb
      rw [ht] at hone
      have HO := Lib.hid hone
      have hc0 := hone.c0
      have hc1 := hone.c1
      have hlG := hone.lg
      obtain ⟨S, hS⟩ : ∃ S, S = hS L := ⟨_, rfl⟩
      rw [← hS] at hc1 HO
      have ES := Lib.hid hS
      clear hK hlow ht hb hone hS
      have r0 : ((wr.setCell ⟨w.heap.size, 0, none⟩ (.slice (some ⟨G, 0, none⟩) 21 c)).setCell ⟨w.heap.size, 1, none⟩ (.int .i64 (S))).cell? ⟨w.heap.size, 0, none⟩ = some (.slice (some ⟨G, 0, none⟩) 21 c) := by rw [World.cell?_setCell_other _ _ _ _ (by simp)]; exact World.cell?_setCell_same' _ _ _ (by rw [e0]; rfl)
      have r1 : ((wr.setCell ⟨w.heap.size, 0, none⟩ (.slice (some ⟨G, 0, none⟩) 21 c)).setCell ⟨w.heap.size, 1, none⟩ (.int .i64 (S))).cell? ⟨w.heap.size, 1, none⟩ = some (.int .i64 (S)) := World.cell?_setCell_same' _ _ _ (by rw [World.cell?_setCell_other _ _ _ _ (by simp), e1]; rfl)
      go_wp2_with fail
      refine bodyPost_ret (v := .tuple #[.agg #[.slice (some ⟨G, 0, none⟩) 21 c, .int .i64 (S)], .bool true]) (by simp [results, Try.results17, go_sem, r0, r1]) rfl ?_
      rw [E.out, (ho_yes E.out).1, (ho_yes E.out).2, ← ES.out, hC_len]
      refine ⟨_, rfl, ?_, ?_⟩
      · exact (((HO.out.row (lo := G) (hi := G + 1) (Nat.le_refl _) (Nat.lt_succ_self _)).setCell (p := ⟨w.heap.size, 0, none⟩) (.inl (by show w.heap.size < _; omega)) _).setCell (p := ⟨w.heap.size, 1, none⟩) (.inl (by show w.heap.size < _; omega)) _).wide (by omega) (by first | (simp [World.setCell]; done) | (simp [World.setCell]; omega))
      · exact ((HBw.out.setCell (p := ⟨w.heap.size, 0, none⟩) (by show _ ≤ w.heap.size; omega) _).setCell (p := ⟨w.heap.size, 1, none⟩) (by show _ ≤ w.heap.size; omega) _)
    case pos =>
    obtain ⟨g, rfl, hg, hcell⟩ := HC.out (by omega)
    obtain ⟨x, hx⟩ : ∃ x, L[k]? = some x := ⟨_, List.getElem?_eq_getElem (by rw [HL.out]; exact hlt)⟩
    have d0 : wr.cell? ⟨g, k, none⟩ = some (.int .i64 x) := by rw [HBw.out.cell (p := ⟨g, k, none⟩) (by show g < _; omega)]; exact hcell k x hx
    have k0 : (0 : Int) ≤ (k : Int) := by omega
    have k1 : (k : Int) < (n : Int) := by omega
    have hgw : g < wr.heap.size := by omega
    have x0 := hone.c0
    have x1 := hone.c1
    have hXl := hone.lx
    have hGl := hone.lg
    obtain ⟨n1, n2⟩ := HsK.next hK.out.val (by omega) hx
    have hval0 := hK.out.val
    have hbad : vB x = false → hoB L = false := fun hv => by unfold hoB; rw [hV_at hx hv, Bool.and_false]
    have hs64 : I64 (hS (L.take k)) := by have := hS_in (L.take k) hval0; (have hl : (L.take k).length ≤ 300 := (by rw [List.length_take]; omega)); unfold I64; omega
    have HS64 := Lib.hid hs64
    obtain ⟨CC, hCC⟩ : ∃ y, y = adC (hC (L.take k)) (hS (L.take k)) x := ⟨_, rfl⟩
    obtain ⟨SS, hSS⟩ : ∃ y, y = adS (hC (L.take k)) (hS (L.take k)) x := ⟨_, rfl⟩
    obtain ⟨BB, hBB⟩ : ∃ y, y = adB (hC (L.take k)) (hS (L.take k)) x := ⟨_, rfl⟩
    rw [← hBB] at n1
    rw [← hCC, ← hSS] at n2
    have HN1 := Lib.hid n1
    have HN2 := Lib.hid n2
    have HBad := Lib.hid hbad
    have HCC := Lib.hid hCC
    have HSS := Lib.hid hSS
    have HBB := Lib.hid hBB
    have HO := Lib.hid hone
    have HLow := Lib.hid hlow
    obtain ⟨SK, hSK⟩ : ∃ y, y = hS (L.take k) := ⟨_, rfl⟩
    rw [← hSK] at x1 HO HS64 HSS HBB HCC
    clear hcell hK hlow hone n1 n2 hbad hs64 hCC hSS hBB hval0 hx hSK
    obtain ⟨wo, rfl⟩ : ∃ y, y = wr := ⟨_, rfl⟩
    go_upto_region 7 with fail
    go_cut [6, 7] (fun s6 s7 wx => ∃ (bx lo hi : Nat) (va : Option Addr) (vc : Nat), s6 = .pointer (some ⟨bx, 0, none⟩) ∧ s7 = .bool BB ∧ Hid (BoxV wo wx bx lo hi (.slice va 21 vc) 21 SS CC))
    case first =>
      go_wp2_with fail
      refine wp_region_held_drew (S := (fun w' => w'.cell? ⟨X, 0, none⟩ = some (.slice (some ⟨G, 0, none⟩) 21 c) ∧ w'.cell? ⟨X, 1, none⟩ = some (.int .i64 SK) ∧ w'.cell? ⟨g, k, none⟩ = some (.int .i64 x) ∧ wo.heap.size ≤ w'.heap.size ∧ Below wo.heap.size wo w')) (by kernel_rfl) ?_ (fun hHeld => ?_)
      · (first | assumption | exact rr3_start x0 x1 d0 | exact rr3_drew (by assumption) | exact rr3_keep (by omega) (by omega) (by omega) hb (by assumption) | fail)
      refine step_read 0 21 rfl rfl (by kernel_rfl) (by kernel_rfl) (by kernel_rfl) (fun _ _ _ h => h) (by rfl) (v := ?_) (fun w hSw => ?_) (by assumption) ?_; rotate_left; (focus ((try dsimp only at hSw); go_simp; first | done | exact rfl)); simp only [List.set]
      refine step_read 1 22 rfl rfl (by kernel_rfl) (by kernel_rfl) (by kernel_rfl) (fun _ _ _ h => h) (by rfl) (v := ?_) (fun w hSw => ?_) (by assumption) ?_; rotate_left; (focus ((try dsimp only at hSw); go_simp; first | done | exact rfl)); simp only [List.set]
      refine step_read 2 23 rfl rfl (by kernel_rfl) (by kernel_rfl) (by kernel_rfl) (fun _ _ _ h => h) (by rfl) (v := ?_) (fun w hSw => ?_) (by assumption) ?_; rotate_left; (focus ((try dsimp only at hSw); go_simp; first | done | exact rfl)); simp only [List.set]
      refine step_read 3 24 rfl rfl (by kernel_rfl) (by kernel_rfl) (by kernel_rfl) (fun _ _ _ h => h) (by rfl) (v := ?_) (fun w hSw => ?_) (by assumption) ?_; rotate_left; (focus ((try dsimp only at hSw); go_simp; first | done | exact rfl)); simp only [List.set]
      refine step_read 4 25 rfl rfl (by kernel_rfl) (by kernel_rfl) (by kernel_rfl) (fun _ _ _ h => h) (by rfl) (v := ?_) (fun w hSw => ?_) (by assumption) ?_; rotate_left; (focus ((try dsimp only at hSw); go_simp; first | done | exact rfl)); simp only [List.set]
      refine wpAnyH_ready (rs := [5, 9]) (by kernel_rfl) (by simp) ?_
      refine AllReadyH.cons rfl (fun Kc hK => ?_) (AllReadyH.cons rfl (fun Kc hK => ?_) (AllReadyH.nil))
      · go_simp
        go_at_call 34
        refine (sadd_any0 G (G + 1) 21 _ SK (hC (L.take k)) _ ((HO.out.below (rr3_out (by assumption)).2 hXl hGl).row (Nat.le_refl _) (Nat.lt_succ_self _)) (by have hq := (rr3_out (by assumption)).1; omega) HS64.out x).mono ?_
        rw [adC_len, hC_len, ← HCC.out, ← HSS.out, ← HBB.out]
        rintro e wr1 ⟨qv, rfl, rq, hb⟩
        have hzz := hb.size
        obtain ⟨qa, qc, rfl⟩ := rq.slice
        refine hK.out _ _ ?_ (fun hHeld => ?_)
        · (first | assumption | exact rr3_start x0 x1 d0 | exact rr3_drew (by assumption) | exact rr3_keep (by omega) (by omega) (by omega) hb (by assumption) | fail)
        clear hK Kc
        refine step_read 6 20 rfl rfl (by kernel_rfl) (by kernel_rfl) (by kernel_rfl) (fun _ _ _ h => h) (by rfl) (v := ?_) (fun w hSw => ?_) (by assumption) ?_; rotate_left; (focus ((try dsimp only at hSw); go_simp; first | done | exact rfl)); simp only [List.set]
        refine step_read 7 27 rfl rfl (by kernel_rfl) (by kernel_rfl) (by kernel_rfl) (fun _ _ _ h => h) (by rfl) (v := ?_) (fun w hSw => ?_) (by assumption) ?_; rotate_left; (focus ((try dsimp only at hSw); go_simp; first | done | exact rfl)); simp only [List.set]
        refine step_read 8 28 rfl rfl (by kernel_rfl) (by kernel_rfl) (by kernel_rfl) (fun _ _ _ h => h) (by rfl) (v := ?_) (fun w hSw => ?_) (by assumption) ?_; rotate_left; (focus ((try dsimp only at hSw); go_simp; first | done | exact rfl)); simp only [List.set]
        refine wpAnyH_ready (rs := [9]) (by kernel_rfl) (by simp) ?_
        refine AllReadyH.cons rfl (fun Kc hK => ?_) (AllReadyH.nil)
        go_simp
        refine at_worldV (fun wa2 hwa => ?_)
        have hb : Below wr1.heap.size wr1 wa2 := by rw [hwa]; exact (Below.refl _ _).alloc (Nat.le_refl _) _
        have bc : wa2.cell? ⟨wr1.heap.size, 0, none⟩ = some (.slice none 0 0) := by rw [hwa]; simp
        have bf : wa2.frozen? ⟨wr1.heap.size, 0, none⟩ = false := by rw [hwa]; simp [go_sem]
        have bd : wa2.cell? ⟨wr1.heap.size, 1, none⟩ = some (.int .i64 0) := by rw [hwa]; simp
        have bg : wa2.frozen? ⟨wr1.heap.size, 1, none⟩ = false := by rw [hwa]; simp [go_sem]
        have hbz : wr1.heap.size < wa2.heap.size := by rw [hwa]; simp
        have hzz := hb.size
        replace rq := rq.below hb (by first | exact Nat.le_refl _ | omega)
        have hbb : wo.heap.size ≤ wr1.heap.size := by first | exact Nat.le_refl _ | (have hq := (rr3_out (by assumption)).1; omega)
        have hSn :  wa2.cell? ⟨X, 0, none⟩ = some (.slice (some ⟨G, 0, none⟩) 21 c) ∧ wa2.cell? ⟨X, 1, none⟩ = some (.int .i64 SK) ∧ wa2.cell? ⟨g, k, none⟩ = some (.int .i64 x) ∧ wo.heap.size ≤ wa2.heap.size ∧ Below wo.heap.size wo wa2 := by rw [hwa]; first | exact rr3_drew (rr3_box (by omega) (by omega) (by omega) HSB) | exact rr3_box (by omega) (by omega) (by omega) (by assumption)
        clear hwa
        refine hK.out _ _ ?_ (fun hHeld => ?_)
        · (first | assumption | exact rr3_start x0 x1 d0 | exact rr3_drew (by assumption) | exact rr3_keep (by omega) (by omega) (by omega) hb (by assumption) | fail)
        clear hK Kc
        refine wpAnyH_ready (rs := [10]) (by kernel_rfl) (by simp) ?_
        refine AllReadyH.cons rfl (fun Kc hK => ?_) (AllReadyH.nil)
        go_simp
        refine at_worldV (fun ws3 hwa => ?_)
        have hBR := BoxV.mk' hwa rq (base := wo) (by have hq := (rr3_out (by assumption)).1; omega) (by omega) hbb (by omega) (by omega) bc bd (rr3_out (by assumption)).2
        have hSn :  ws3.cell? ⟨X, 0, none⟩ = some (.slice (some ⟨G, 0, none⟩) 21 c) ∧ ws3.cell? ⟨X, 1, none⟩ = some (.int .i64 SK) ∧ ws3.cell? ⟨g, k, none⟩ = some (.int .i64 x) ∧ wo.heap.size ≤ ws3.heap.size ∧ Below wo.heap.size wo ws3 := by rw [hwa]; exact rr3_store (by omega) (by omega) (by omega) hbb (rr3_store (by omega) (by omega) (by omega) hbb (by assumption))
        clear hwa
        refine hK.out _ _ ?_ (fun hHeld => ?_)
        · (first | assumption | exact rr3_start x0 x1 d0 | exact rr3_drew (by assumption) | exact rr3_keep (by omega) (by omega) (by omega) hb (by assumption) | fail)
        clear hK Kc
        refine step_read 11 7 rfl rfl (by kernel_rfl) (by kernel_rfl) (by kernel_rfl) (fun _ _ _ h => h) (by rfl) (v := ?_) (fun w hSw => ?_) (by assumption) ?_; rotate_left; (focus ((try dsimp only at hSw); go_simp; first | done | exact rfl)); simp only [List.set]
        refine wpAnyH_done (by kernel_rfl) ?_ _
        go_wp2_with fail
        go_meet
        exact ⟨_, _, _, _, _, rfl, rfl, Lib.hid hBR⟩
      · go_simp
        refine at_worldV (fun wa4 hwa => ?_)
        have hb : Below wo.heap.size wo wa4 := by rw [hwa]; first | exact ((Below.refl _ _).alloc (Nat.le_refl _) _).drew | exact (Below.refl _ _).drew.alloc (by first | exact Nat.le_refl _ | simp) _
        have HSB := (⟨x0, x1, d0, Nat.le_refl _, Below.refl _ _⟩ :  wo.cell? ⟨X, 0, none⟩ = some (.slice (some ⟨G, 0, none⟩) 21 c) ∧ wo.cell? ⟨X, 1, none⟩ = some (.int .i64 SK) ∧ wo.cell? ⟨g, k, none⟩ = some (.int .i64 x) ∧ wo.heap.size ≤ wo.heap.size ∧ Below wo.heap.size wo wo)
        have bc : wa4.cell? ⟨wo.heap.size, 0, none⟩ = some (.slice none 0 0) := by rw [hwa]; simp
        have bf : wa4.frozen? ⟨wo.heap.size, 0, none⟩ = false := by rw [hwa]; simp [go_sem]
        have bd : wa4.cell? ⟨wo.heap.size, 1, none⟩ = some (.int .i64 0) := by rw [hwa]; simp
        have bg : wa4.frozen? ⟨wo.heap.size, 1, none⟩ = false := by rw [hwa]; simp [go_sem]
        have hbz : wo.heap.size < wa4.heap.size := by rw [hwa]; simp
        have hzz := hb.size
        have hbb : wo.heap.size ≤ wo.heap.size := by first | exact Nat.le_refl _ | (have hq := (rr3_out (by assumption)).1; omega)
        have hSn :  wa4.cell? ⟨X, 0, none⟩ = some (.slice (some ⟨G, 0, none⟩) 21 c) ∧ wa4.cell? ⟨X, 1, none⟩ = some (.int .i64 SK) ∧ wa4.cell? ⟨g, k, none⟩ = some (.int .i64 x) ∧ wo.heap.size ≤ wa4.heap.size ∧ Below wo.heap.size wo wa4 := by rw [hwa]; first | exact rr3_drew (rr3_box (by omega) (by omega) (by omega) HSB) | exact rr3_box (by omega) (by omega) (by omega) (by assumption)
        clear hwa
        clear HSB
        refine hK.out _ _ ?_ (fun hHeld => ?_)
        · (first | assumption | exact rr3_start x0 x1 d0 | exact rr3_drew (by assumption) | exact rr3_keep (by omega) (by omega) (by omega) hb (by assumption) | fail)
        clear hK Kc
        refine wpAnyH_ready (rs := [5]) (by kernel_rfl) (by simp) ?_
        refine AllReadyH.cons rfl (fun Kc hK => ?_) (AllReadyH.nil)
        go_simp
        go_at_call 34
        refine (sadd_any0 G (G + 1) 21 _ SK (hC (L.take k)) _ ((HO.out.below (rr3_out (by assumption)).2 hXl hGl).row (Nat.le_refl _) (Nat.lt_succ_self _)) (by have hq := (rr3_out (by assumption)).1; omega) HS64.out x).mono ?_
        rw [adC_len, hC_len, ← HCC.out, ← HSS.out, ← HBB.out]
        rintro e wr5 ⟨qv, rfl, rq, hb⟩
        have hzz := hb.size
        obtain ⟨qa, qc, rfl⟩ := rq.slice
        have hbz0 := hbz
        replace bc : wr5.cell? ⟨wo.heap.size, 0, none⟩ = some (.slice none 0 0) := by rw [hb.cell (p := ⟨wo.heap.size, 0, none⟩) hbz]; exact bc
        replace bf : wr5.frozen? ⟨wo.heap.size, 0, none⟩ = false := by rw [hb.frozen (p := ⟨wo.heap.size, 0, none⟩) hbz]; exact bf
        replace bd : wr5.cell? ⟨wo.heap.size, 1, none⟩ = some (.int .i64 0) := by rw [hb.cell (p := ⟨wo.heap.size, 1, none⟩) hbz]; exact bd
        replace bg : wr5.frozen? ⟨wo.heap.size, 1, none⟩ = false := by rw [hb.frozen (p := ⟨wo.heap.size, 1, none⟩) hbz]; exact bg
        replace hbz : wo.heap.size < wr5.heap.size := Nat.lt_of_lt_of_le hbz hb.size
        refine hK.out _ _ ?_ (fun hHeld => ?_)
        · (first | assumption | exact rr3_start x0 x1 d0 | exact rr3_drew (by assumption) | exact rr3_keep (by omega) (by omega) (by omega) hb (by assumption) | fail)
        clear hK Kc
        refine step_read 6 20 rfl rfl (by kernel_rfl) (by kernel_rfl) (by kernel_rfl) (fun _ _ _ h => h) (by rfl) (v := ?_) (fun w hSw => ?_) (by assumption) ?_; rotate_left; (focus ((try dsimp only at hSw); go_simp; first | done | exact rfl)); simp only [List.set]
        refine step_read 7 27 rfl rfl (by kernel_rfl) (by kernel_rfl) (by kernel_rfl) (fun _ _ _ h => h) (by rfl) (v := ?_) (fun w hSw => ?_) (by assumption) ?_; rotate_left; (focus ((try dsimp only at hSw); go_simp; first | done | exact rfl)); simp only [List.set]
        refine step_read 8 28 rfl rfl (by kernel_rfl) (by kernel_rfl) (by kernel_rfl) (fun _ _ _ h => h) (by rfl) (v := ?_) (fun w hSw => ?_) (by assumption) ?_; rotate_left; (focus ((try dsimp only at hSw); go_simp; first | done | exact rfl)); simp only [List.set]
        refine wpAnyH_ready (rs := [10]) (by kernel_rfl) (by simp) ?_
        refine AllReadyH.cons rfl (fun Kc hK => ?_) (AllReadyH.nil)
        go_simp
        refine at_worldV (fun ws6 hwa => ?_)
        have hBR := BoxV.mk' hwa rq (base := wo) (by have hq := (rr3_out (by assumption)).1; omega) (by omega) hbb (by omega) (by omega) bc bd (rr3_out (by assumption)).2
        have hSn :  ws6.cell? ⟨X, 0, none⟩ = some (.slice (some ⟨G, 0, none⟩) 21 c) ∧ ws6.cell? ⟨X, 1, none⟩ = some (.int .i64 SK) ∧ ws6.cell? ⟨g, k, none⟩ = some (.int .i64 x) ∧ wo.heap.size ≤ ws6.heap.size ∧ Below wo.heap.size wo ws6 := by rw [hwa]; exact rr3_store (by omega) (by omega) (by omega) hbb (rr3_store (by omega) (by omega) (by omega) hbb (by assumption))
        clear hwa
        refine hK.out _ _ ?_ (fun hHeld => ?_)
        · (first | assumption | exact rr3_start x0 x1 d0 | exact rr3_drew (by assumption) | exact rr3_keep (by omega) (by omega) (by omega) hb (by assumption) | fail)
        clear hK Kc
        refine step_read 11 7 rfl rfl (by kernel_rfl) (by kernel_rfl) (by kernel_rfl) (fun _ _ _ h => h) (by rfl) (v := ?_) (fun w hSw => ?_) (by assumption) ?_; rotate_left; (focus ((try dsimp only at hSw); go_simp; first | done | exact rfl)); simp only [List.set]
        refine wpAnyH_done (by kernel_rfl) ?_ _
        go_wp2_with fail
        go_meet
        exact ⟨_, _, _, _, _, rfl, rfl, Lib.hid hBR⟩
    case rest =>
      obtain ⟨Y, lo2, hi2, va, vc, rfl, rfl, hBR⟩ := hcut
      obtain ⟨wx, rfl⟩ : ∃ y, y = wc := ⟨_, rfl⟩
      obtain ⟨br, b1, b2, b3, b4, b5, b6, b7, hbx⟩ := hBR.out
      have HBx2 := Lib.hid hbx
      have hsx := hbx.size
      have p0 : wx.cell? ⟨w.heap.size, 0, none⟩ = some (.slice none 0 0) := by rw [hbx.cell (p := ⟨w.heap.size, 0, none⟩) hRs]; exact e0
      have p1 : wx.cell? ⟨w.heap.size, 1, none⟩ = some (.int .i64 0) := by rw [hbx.cell (p := ⟨w.heap.size, 1, none⟩) hRs]; exact e1
      have p2 : wx.frozen? ⟨w.heap.size, 0, none⟩ = false := by rw [hbx.frozen (p := ⟨w.heap.size, 0, none⟩) hRs]; exact g0
      have p3 : wx.frozen? ⟨w.heap.size, 1, none⟩ = false := by rw [hbx.frozen (p := ⟨w.heap.size, 1, none⟩) hRs]; exact g1
      have HBwx : Hid (Below w.heap.size w wx) := HBw.out.trans (hbx.mono (by omega))
      have hRx : w.heap.size < wx.heap.size := by omega
      have HO2 := Lib.hid (HO.out.below hbx hXl hGl)
      have HRow := Lib.hid br
      clear hBR br hbx e0 e1 g0 g1 HBw d0 x0 x1 HO
      cases BB with
      | false =>
        have E : Hid (hoB L = false) := HBad.out HN1.out.symm
        clear b6 b7 HO2
        have r0 : ((wx.setCell ⟨w.heap.size, 0, none⟩ (.slice none 0 0)).setCell ⟨w.heap.size, 1, none⟩ (.int .i64 (0))).cell? ⟨w.heap.size, 0, none⟩ = some (.slice none 0 0) := by rw [World.cell?_setCell_other _ _ _ _ (by simp)]; exact World.cell?_setCell_same' _ _ _ (by rw [p0]; rfl)
        have r1 : ((wx.setCell ⟨w.heap.size, 0, none⟩ (.slice none 0 0)).setCell ⟨w.heap.size, 1, none⟩ (.int .i64 (0))).cell? ⟨w.heap.size, 1, none⟩ = some (.int .i64 (0)) := World.cell?_setCell_same' _ _ _ (by rw [World.cell?_setCell_other _ _ _ _ (by simp), p1]; rfl)
        go_wp2_with fail
        refine bodyPost_ret (v := .tuple #[.agg #[.slice none 0 0, .int .i64 (0)], .bool false]) (by simp [results, Try.results17, go_sem, r0, r1]) rfl ?_
        rw [E.out, (ho_no E.out).1, (ho_no E.out).2, List.length_nil]
        refine ⟨_, rfl, ?_, ?_⟩
        · exact (((Row.empty 1 wx wx.heap.size wx.heap.size none 0).setCell (p := ⟨w.heap.size, 0, none⟩) (.inl (by show w.heap.size < _; omega)) _).setCell (p := ⟨w.heap.size, 1, none⟩) (.inl (by show w.heap.size < _; omega)) _).wide (by omega) (by first | (simp [World.setCell]; done) | (simp [World.setCell]; omega))
        · exact ((HBwx.out.setCell (p := ⟨w.heap.size, 0, none⟩) (by show _ ≤ w.heap.size; omega) _).setCell (p := ⟨w.heap.size, 1, none⟩) (by show _ ≤ w.heap.size; omega) _)
      | true =>
        obtain ⟨m1, m2, m3⟩ := HN2.out HN1.out.symm
        have HM := Lib.hid (And.intro m1 (And.intro m2 m3))
        have y0 := HO2.out.c0
        have y1 := HO2.out.c1
        have y2 := HO2.out.fx 0
        have y3 := HO2.out.fx 1
        obtain ⟨G2, rfl, hG21, hG22, _, _, _⟩ := HRow.out.own21
        have hput := HO2.out.putS (n := 21) SS HRow.out (by omega) b2 rfl
        have HN : Hid (HsK w q X L (k + 1) ((wx.setCell ⟨X, 0, none⟩ (.slice (some ⟨G2, 0, none⟩) 21 vc)).setCell ⟨X, 1, none⟩ (.int .i64 SS))) := by
          refine ⟨⟨G2, vc, ?_, by omega⟩, ?_, m3, nX⟩
          · rw [← HM.out.1, ← HM.out.2.1]; exact hput
          · exact ((HLow.out.trans (HBx2.out.mono (by omega))).setCell (by show _ ≤ X; omega) _).setCell (by show _ ≤ X; omega) _
        clear m1 m2 m3 hput HO2 HRow HM
        go_wp2_with fail
        go_roundw
        case rel => exact ⟨k + 1, by omega, by go_num, HN⟩
        case measure => simp [intOf]; omega

end Go.Proofs.Ytcchoiobdcaboaa
