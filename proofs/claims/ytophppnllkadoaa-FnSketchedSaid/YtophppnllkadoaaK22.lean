/- The law on sketches, walked. -/
import Derived.Test.YtophppnllkadoaaK21
import Derived.Test.YtophppnllkadoaaK18
import Derived.Test.YtophppnllkadoaaK3
import Derived.Deep.DeepCutAuto
namespace Go.Proofs.Ytophppnllkadoaa
open Go.RowKit


theorem rr4_storeS {w w1 : World} {b0 b1 b2 b3 o0 o1 o2 o3 : Nat} {v0 v1 v2 v3 : Value} (l0 : b0 < w.heap.size) (l1 : b1 < w.heap.size) (l2 : b2 < w.heap.size) (l3 : b3 < w.heap.size) {b o : Nat} {u : Value} (hb : w.heap.size ≤ b) (h : w1.cell? ⟨b0, o0, none⟩ = some v0 ∧ w1.cell? ⟨b1, o1, none⟩ = some v1 ∧ w1.cell? ⟨b2, o2, none⟩ = some v2 ∧ w1.cell? ⟨b3, o3, none⟩ = some v3 ∧ w.heap.size ≤ w1.heap.size ∧ Below w.heap.size w w1) : (w1.setCell ⟨b, o, none⟩ u).cell? ⟨b0, o0, none⟩ = some v0 ∧ (w1.setCell ⟨b, o, none⟩ u).cell? ⟨b1, o1, none⟩ = some v1 ∧ (w1.setCell ⟨b, o, none⟩ u).cell? ⟨b2, o2, none⟩ = some v2 ∧ (w1.setCell ⟨b, o, none⟩ u).cell? ⟨b3, o3, none⟩ = some v3 ∧ w.heap.size ≤ (w1.setCell ⟨b, o, none⟩ u).heap.size ∧ Below w.heap.size w (w1.setCell ⟨b, o, none⟩ u) := by
  obtain ⟨h0, h1, h2, h3, hs, hB⟩ := h
  exact ⟨by rw [World.cell?_setCell_other _ _ _ _ (by simp <;> omega)]; exact h0, by rw [World.cell?_setCell_other _ _ _ _ (by simp <;> omega)]; exact h1, by rw [World.cell?_setCell_other _ _ _ _ (by simp <;> omega)]; exact h2, by rw [World.cell?_setCell_other _ _ _ _ (by simp <;> omega)]; exact h3, by simp [World.setCell]; omega, hB.setCell (by show _ ≤ b; omega) _⟩

theorem big_anyS (a : Option Addr) (n cp : Nat) (w : World) : Calls Try.prog 15 #[.slice a n cp] w fun e w' => e = .returned (.bool (decide ((n : Int) > 1048576))) ∧ w = w' := by
  go_enter Try.func15, Try.ntmps15
  go_wp2_with fail
  go_ret
  exact ⟨rfl, rfl⟩
theorem at_worldS {K : Act → World → Prop} {a : Act} {W : World} (h : ∀ wa, wa = W → K a wa) : K a W := h W rfl
/-- What a region leaves that calls and boxes the sketch that the call answers. -/
def BoxS (base wx : World) (bx lo hi : Nat) (v : Value) (m : Nat) (tr : Int) (DR : List (List Int)) : Prop :=
  KRow wx lo hi v m DR ∧ base.heap.size ≤ lo ∧ hi ≤ wx.heap.size ∧ base.heap.size ≤ bx ∧ bx < wx.heap.size ∧ (bx < lo ∨ hi ≤ bx) ∧ wx.cell? ⟨bx, 0, none⟩ = some v ∧ wx.cell? ⟨bx, 1, none⟩ = some (.int .i64 tr) ∧ Below base.heap.size base wx
theorem BoxS.mk' {base w5 wx : World} {bx lo hi m : Nat} {v u u1 : Value} {tr : Int} {DR : List (List Int)} (hw : wx = (w5.setCell ⟨bx, 0, none⟩ v).setCell ⟨bx, 1, none⟩ (.int .i64 tr)) (hr : KRow w5 lo hi v m DR) (hlo : base.heap.size ≤ lo) (hhi : hi ≤ w5.heap.size) (h1 : base.heap.size ≤ bx) (h2 : bx < w5.heap.size) (h3 : bx < lo ∨ hi ≤ bx) (hc : w5.cell? ⟨bx, 0, none⟩ = some u) (hc1 : w5.cell? ⟨bx, 1, none⟩ = some u1) (hb : Below base.heap.size base w5) : BoxS base wx bx lo hi v m tr DR := by
  subst hw
  exact ⟨(hr.setCell (p := ⟨bx, 0, none⟩) h3 _).setCell (p := ⟨bx, 1, none⟩) h3 _, hlo, by simp [World.setCell]; omega, h1, by simp [World.setCell]; omega, h3, by rw [World.cell?_setCell_other _ _ _ _ (by simp)]; exact World.cell?_setCell_same' _ _ _ (by rw [hc]; rfl), World.cell?_setCell_same' _ _ _ (by rw [World.cell?_setCell_other _ _ _ _ (by simp), hc1]; rfl), (hb.setCell h1 _).setCell h1 _⟩

set_option maxRecDepth 100000 in
set_option maxHeartbeats 16000000 in
theorem fnsk_any (a : Option Addr) (n cp : Nat) (w : World) (hb : n ≤ 1099511627776 → BytesAt w a n) (hold : ∀ p : Addr, a = some p → p.block < w.heap.size) : Calls Try.prog 3 #[.slice a n cp] w fun e w' => e = .returned (.bool true) ∧ Below w.heap.size w w' := by
  have HO := Lib.hid hold
  have HB := Lib.hid hb
  clear hb hold
  go_enter Try.func3, Try.ntmps3
  go_wp2_with fail
  go_at_call 15
  refine (big_anyS a n cp _).mono ?_
  rintro e w' ⟨rfl, rfl⟩
  by_cases hbig : (n : Int) > 1048576
  · rw [decide_eq_true hbig]
    go_wp2_with fail
    go_ret
    exact ⟨rfl, Below.refl _ _⟩
  rw [decide_eq_false hbig]
  go_wp2_with fail
  go_at_call 16
  refine (dplay_any a n cp _ (HB.out (by omega)) HO.out).mono ?_
  rintro e w1 ⟨rv, A, rfl, hAl, hr, _, hb1⟩
  obtain ⟨ra, rc, rfl⟩ := hr.slice
  obtain ⟨m, hm⟩ : ∃ m, m = A.length := ⟨_, rfl⟩
  rw [← hm] at hr hAl ⊢
  have HM := Lib.hid hm
  have HR1 := Lib.hid hr
  have HB1 := Lib.hid hb1
  have hs01 := hb1.size
  clear hr hb1 HB HO hbig hm
  go_wp2_with fail
  go_at_call 17
  refine (inew4 _).mono ?_
  rintro e v11 ⟨vJ, rfl, hr, hb11⟩
  have sz11 : w1.heap.size ≤ v11.heap.size := hb11.size
  have st11 : Below w1.heap.size w1 v11 := hb11
  have B11 : Hid (Below w1.heap.size w1 v11) := st11
  have R11_0 : Hid (KRow v11 (w1.heap.size) (v11.heap.size) vJ 4 D0) := hr
  clear st11 hr hb11
  obtain ⟨Ja, Jc, rfl⟩ := R11_0.out.slice
  go_wp2_with fail
  go_at_call 17
  refine (inew4 _).mono ?_
  rintro e v12 ⟨vK, rfl, hr, hb12⟩
  have sz12 : v11.heap.size + 1 ≤ v12.heap.size := by have hh := hb12.size; simp at hh; omega
  have st12 : Below v11.heap.size v11 v12 := Below.trans (by go_grown) (hb12.mono (by simp))
  have c12_0 : v12.cell? ⟨v11.heap.size, 0, none⟩ = some (.slice Ja 4 Jc) := by rw [(bcell hb12).1 _ _ (by simp)]; first | (rw [new_at (by simp)]; rfl) | simp
  have c12_1 : v12.cell? ⟨v11.heap.size, 1, none⟩ = some (.int .i64 0) := by rw [(bcell hb12).1 _ _ (by simp)]; first | (rw [new_at (by simp)]; rfl) | simp
  have g12_0 : v12.frozen? ⟨v11.heap.size, 0, none⟩ = false := by rw [(bcell hb12).2 _ _ (by simp), new_frz (by simp)]
  have g12_1 : v12.frozen? ⟨v11.heap.size, 1, none⟩ = false := by rw [(bcell hb12).2 _ _ (by simp), new_frz (by simp)]
  have B12 : Hid (Below w1.heap.size w1 v12) := B11.out.trans (st12.mono (by omega))
  have R12_0 : Hid (KRow v12 (w1.heap.size) (v11.heap.size) (.slice Ja 4 Jc) 4 D0) := R11_0.out.below st12 (by omega)
  have R12_1 : Hid (KRow v12 (v11.heap.size + 1) (v12.heap.size) vK 4 D0) := hr.wide (by simp) (Nat.le_refl _)
  have d12_0 : v11.heap.size < v12.heap.size := by omega
  have e12_0 : v11.heap.size ≠ v12.heap.size := by omega
  clear B11 st12 R11_0 hb12
  obtain ⟨Ka, Kc, rfl⟩ := R12_1.out.slice
  go_wp2_with fail
  go_at_call 17
  refine (inew4 _).mono ?_
  rintro e v13 ⟨vL, rfl, hr, hb13⟩
  have sz13 : v12.heap.size + 1 ≤ v13.heap.size := by have hh := hb13.size; simp at hh; omega
  have st13 : Below v12.heap.size v12 v13 := Below.trans (by go_grown) (hb13.mono (by simp))
  have c13_0 : v13.cell? ⟨v11.heap.size, 0, none⟩ = some (.slice Ja 4 Jc) := by rw [(bcell st13).1 _ _ (by omega)]; exact c12_0
  have c13_1 : v13.cell? ⟨v11.heap.size, 1, none⟩ = some (.int .i64 0) := by rw [(bcell st13).1 _ _ (by omega)]; exact c12_1
  have c13_2 : v13.cell? ⟨v12.heap.size, 0, none⟩ = some (.slice Ka 4 Kc) := by rw [(bcell hb13).1 _ _ (by simp)]; first | (rw [new_at (by simp)]; rfl) | simp
  have c13_3 : v13.cell? ⟨v12.heap.size, 1, none⟩ = some (.int .i64 0) := by rw [(bcell hb13).1 _ _ (by simp)]; first | (rw [new_at (by simp)]; rfl) | simp
  have g13_0 : v13.frozen? ⟨v11.heap.size, 0, none⟩ = false := by rw [(bcell st13).2 _ _ (by omega)]; exact g12_0
  have g13_1 : v13.frozen? ⟨v11.heap.size, 1, none⟩ = false := by rw [(bcell st13).2 _ _ (by omega)]; exact g12_1
  have g13_2 : v13.frozen? ⟨v12.heap.size, 0, none⟩ = false := by rw [(bcell hb13).2 _ _ (by simp), new_frz (by simp)]
  have g13_3 : v13.frozen? ⟨v12.heap.size, 1, none⟩ = false := by rw [(bcell hb13).2 _ _ (by simp), new_frz (by simp)]
  have B13 : Hid (Below w1.heap.size w1 v13) := B12.out.trans (st13.mono (by omega))
  have R13_0 : Hid (KRow v13 (w1.heap.size) (v11.heap.size) (.slice Ja 4 Jc) 4 D0) := R12_0.out.below st13 (by omega)
  have R13_1 : Hid (KRow v13 (v11.heap.size + 1) (v12.heap.size) (.slice Ka 4 Kc) 4 D0) := R12_1.out.below st13 (by omega)
  have R13_2 : Hid (KRow v13 (v12.heap.size + 1) (v13.heap.size) vL 4 D0) := hr.wide (by simp) (Nat.le_refl _)
  have d13_0 : v11.heap.size < v13.heap.size := by omega
  have e13_0 : v11.heap.size ≠ v13.heap.size := by omega
  have d13_1 : v12.heap.size < v13.heap.size := by omega
  have e13_1 : v12.heap.size ≠ v13.heap.size := by omega
  clear d12_0 e12_0 c12_0 c12_1 g12_0 g12_1 B12 st13 R12_0 R12_1 hb13
  obtain ⟨La, Lc, rfl⟩ := R13_2.out.slice
  go_upto_region 7 with fail
  obtain ⟨q14, hq14⟩ : ∃ q, q = (v13.alloc (.cells #[.slice La 4 Lc, .int .i64 0] 28)) := ⟨_, rfl⟩
  have hb14 : Below v13.heap.size v13 q14 := by rw [hq14]; go_grown
  have sz14 : v13.heap.size + 1 ≤ q14.heap.size := by rw [hq14]; simp
  have c14_0 : q14.cell? ⟨v11.heap.size, 0, none⟩ = some (.slice Ja 4 Jc) := by rw [(bcell hb14).1 _ _ (by omega)]; exact c13_0
  have c14_1 : q14.cell? ⟨v11.heap.size, 1, none⟩ = some (.int .i64 0) := by rw [(bcell hb14).1 _ _ (by omega)]; exact c13_1
  have c14_2 : q14.cell? ⟨v12.heap.size, 0, none⟩ = some (.slice Ka 4 Kc) := by rw [(bcell hb14).1 _ _ (by omega)]; exact c13_2
  have c14_3 : q14.cell? ⟨v12.heap.size, 1, none⟩ = some (.int .i64 0) := by rw [(bcell hb14).1 _ _ (by omega)]; exact c13_3
  have c14_4 : q14.cell? ⟨v13.heap.size, 0, none⟩ = some (.slice La 4 Lc) := by rw [hq14, new_at (by simp)]; rfl
  have c14_5 : q14.cell? ⟨v13.heap.size, 1, none⟩ = some (.int .i64 0) := by rw [hq14, new_at (by simp)]; rfl
  have g14_0 : q14.frozen? ⟨v11.heap.size, 0, none⟩ = false := by rw [(bcell hb14).2 _ _ (by omega)]; exact g13_0
  have g14_1 : q14.frozen? ⟨v11.heap.size, 1, none⟩ = false := by rw [(bcell hb14).2 _ _ (by omega)]; exact g13_1
  have g14_2 : q14.frozen? ⟨v12.heap.size, 0, none⟩ = false := by rw [(bcell hb14).2 _ _ (by omega)]; exact g13_2
  have g14_3 : q14.frozen? ⟨v12.heap.size, 1, none⟩ = false := by rw [(bcell hb14).2 _ _ (by omega)]; exact g13_3
  have g14_4 : q14.frozen? ⟨v13.heap.size, 0, none⟩ = false := by rw [hq14, new_frz (by simp)]
  have g14_5 : q14.frozen? ⟨v13.heap.size, 1, none⟩ = false := by rw [hq14, new_frz (by simp)]
  have B14 : Hid (Below w1.heap.size w1 q14) := Lib.hid (B13.out.trans (hb14.mono (by omega)))
  have R14_0 : Hid (KRow q14 (w1.heap.size) (v11.heap.size) (.slice Ja 4 Jc) 4 D0) := Lib.hid (R13_0.out.below hb14 (by omega))
  have R14_1 : Hid (KRow q14 (v11.heap.size + 1) (v12.heap.size) (.slice Ka 4 Kc) 4 D0) := Lib.hid (R13_1.out.below hb14 (by omega))
  have R14_2 : Hid (KRow q14 (v12.heap.size + 1) (v13.heap.size) (.slice La 4 Lc) 4 D0) := Lib.hid (R13_2.out.below hb14 (by omega))
  rw [← hq14]
  have d14_0 : v11.heap.size < q14.heap.size := by omega
  have e14_0 : v11.heap.size ≠ q14.heap.size := by omega
  have d14_1 : v12.heap.size < q14.heap.size := by omega
  have e14_1 : v12.heap.size ≠ q14.heap.size := by omega
  have d14_2 : v13.heap.size < q14.heap.size := by omega
  have e14_2 : v13.heap.size ≠ q14.heap.size := by omega
  clear hq14 hb14 d13_0 e13_0 d13_1 e13_1 c13_0 c13_1 c13_2 c13_3 g13_0 g13_1 g13_2 g13_3 B13 R13_0 R13_1 R13_2
  have S4 : SkR w1.heap.size [v11.heap.size, v12.heap.size, v13.heap.size] q14 (v11.heap.size) 0 D0 := ⟨⟨_, _, _, _, c14_0, R14_0.out, by omega, by omega, fun Y hY => by simp at hY; omega⟩, c14_1, ⟨g14_0, g14_1⟩, by omega⟩
  have S5 : SkR w1.heap.size [v11.heap.size, v12.heap.size, v13.heap.size] q14 (v12.heap.size) 0 D0 := ⟨⟨_, _, _, _, c14_2, R14_1.out, by omega, by omega, fun Y hY => by simp at hY; omega⟩, c14_3, ⟨g14_2, g14_3⟩, by omega⟩
  have S6 : SkR w1.heap.size [v11.heap.size, v12.heap.size, v13.heap.size] q14 (v13.heap.size) 0 D0 := ⟨⟨_, _, _, _, c14_4, R14_2.out, by omega, by omega, fun Y hY => by simp at hY; omega⟩, c14_5, ⟨g14_4, g14_5⟩, by omega⟩
  obtain ⟨X4, h4⟩ : ∃ X, X = v11.heap.size := ⟨_, rfl⟩
  obtain ⟨X5, h5⟩ : ∃ X, X = v12.heap.size := ⟨_, rfl⟩
  obtain ⟨X6, h6⟩ : ∃ X, X = v13.heap.size := ⟨_, rfl⟩
  rw [← h4, ← h5, ← h6] at S4 S5 S6
  rw [← h4, ← h5, ← h6]
  have hD0 : D0 = mat (shF []) := D0_mat
  rw [hD0] at S4 S5 S6
  have HK0 : Hid (LpK w1 X4 X5 X6 A 0 q14) := ⟨B14.out, fun _ h => by simp at h, S4, ⟨[], [], fun _ h => by simp at h, fun _ h => by simp at h, rfl, fun _ _ => rfl, S5, S6⟩, by omega⟩
  have hx4 : X4 < q14.heap.size := by omega
  have hx5 : X5 < q14.heap.size := by omega
  have hx6 : X6 < q14.heap.size := by omega
  have hw4 : w1.heap.size ≤ X4 := by omega
  have hw5 : w1.heap.size ≤ X5 := by omega
  have hw6 : w1.heap.size ≤ X6 := by omega
  clear h4 h5 h6 S4 S5 S6 hD0 c14_0 c14_1 c14_2 c14_3 c14_4 c14_5 g14_0 g14_1 g14_2 g14_3 g14_4 g14_5 R14_0 R14_1 R14_2 d14_0 e14_0 d14_1 e14_1 d14_2 e14_2
  go_wp2_with fail
  go_loopw [7] (fun i wr => ∃ k : Nat, k ≤ m ∧ i = .int .i64 (k : Int) ∧ Hid (q14.heap.size ≤ wr.heap.size) ∧ Hid (LpK w1 X4 X5 X6 A k wr)) (fun i _ => m - (intOf i).toNat)
  case atStart => exact ⟨0, Nat.zero_le _, rfl, Lib.hid (Nat.le_refl _), HK0⟩
  case round =>
    clear HK0
    obtain ⟨k, hk, rfl, hqs, hK⟩ := hrel
    have hlow := hK.out.low
    have hsw := hlow.size
    have hq0 := hqs.out
    by_cases hlt : k < m
    case pos =>
      obtain ⟨wo, rfl⟩ : ∃ y, y = wr := ⟨_, rfl⟩
      obtain ⟨⟨x, y⟩, hxy⟩ : ∃ p, A[k]? = some p := ⟨_, List.getElem?_eq_getElem (by rw [← HM.out]; exact hlt)⟩
      obtain ⟨ga, rfl, gal, gah, cx0, cy0⟩ := row2_cells HR1.out hxy
      have CX : Hid (w1.cell? ⟨ga, k * 2, none⟩ = some (.int .i64 x)) := cx0
      have CY : Hid (w1.cell? ⟨ga, k * 2 + 1, none⟩ = some (.int .i64 y)) := cy0
      have hgw : ga < wo.heap.size := by omega
      have dx : wo.cell? ⟨ga, k * 2, none⟩ = some (.int .i64 x) := by rw [hlow.cell (p := ⟨ga, k * 2, none⟩) gah]; exact cx0
      have dy : wo.cell? ⟨ga, k * 2 + 1, none⟩ = some (.int .i64 y) := by rw [hlow.cell (p := ⟨ga, k * 2 + 1, none⟩) gah]; exact cy0
      have HT : Hid (A.take (k + 1) = A.take k ++ [(x, y)]) := take_ad hxy
      obtain ⟨P, Q, hP, hQ, hPQ, hFF, hl5, hl6⟩ := hK.out.two
      obtain ⟨⟨tb0, tb1⟩, ⟨pb0, pb1⟩, ⟨qb0, qb1⟩⟩ := hK.out.bnd (by omega) hK.out.ok hP hQ hPQ
      obtain ⟨ne1, ne2, ne3⟩ := hK.out.ne
      have hok := hK.out.ok
      have hone := hK.out.one
      obtain ⟨lo4, hi4, a4, c4, e40, row4, _, hh4, far4⟩ := hone.ex
      have e41 := hone.c1
      have hX4 := hone.lx.2
      have HO := Lib.hid hone
      have H5 := Lib.hid hl5
      have H6 := Lib.hid hl6
      have HR4 := Lib.hid row4
      have HLow := Lib.hid hlow
      have HOK := Lib.hid hok
      have HPQ := Lib.hid (And.intro hP (And.intro hQ (And.intro hPQ hFF)))
      obtain ⟨t1, ht1⟩ : ∃ t, t = shT (A.take k) := ⟨_, rfl⟩
      obtain ⟨D1, hD1⟩ : ∃ D, D = mat (shF (A.take k)) := ⟨_, rfl⟩
      rw [← ht1] at e41 tb0 tb1 HO
      rw [← hD1] at HR4 HO
      have HT1 := Lib.hid ht1
      have HD1 := Lib.hid hD1
      have hD14 : Hid (D1.length = 4) := by show _ = _; rw [hD1, mat_len]
      have hsh := fun (hk : keyB x = true) (hn : inB y 1 1000000 = true) => ak_sh hok (x, y) (by have := inB_iff.1 hn; rw [← ht1]; show t1 + y ≤ _; omega) hk hn
      rw [← ht1, ← hD1, ← HT.out] at hsh
      have HSH := Lib.hid hsh
      obtain ⟨BB, hBB⟩ : ∃ B, B = akB t1 D1 x y := ⟨_, rfl⟩
      obtain ⟨TT, hTT⟩ : ∃ B, B = akT t1 D1 x y := ⟨_, rfl⟩
      obtain ⟨DD, hDD⟩ : ∃ B, B = akD t1 D1 x y := ⟨_, rfl⟩
      have HBB := Lib.hid hBB
      have HTT := Lib.hid hTT
      have HDD := Lib.hid hDD
      have h64 : I64 t1 := by unfold I64; omega
      have k0 : (0 : Int) ≤ (k : Int) := by omega
      have k1 : (k : Int) < (m : Int) := by omega
      clear hxy cx0 cy0 hP hQ hPQ hFF hl5 hl6 hok hone row4 hlow hK ht1 hD1 hsh hBB hTT hDD far4
      go_upto_region 10 with fail
      go_cut [8, 9] (fun s8 s9 wx => ∃ (bx lo hi : Nat) (va : Option Addr) (vc : Nat), s8 = .pointer (some ⟨bx, 0, none⟩) ∧ s9 = .bool BB ∧ Hid (BoxS wo wx bx lo hi (.slice va 4 vc) 4 TT DD))
      case first =>
        go_wp2_with fail
        refine wp_region_held_drew (S := (fun w' => w'.cell? ⟨X4, 0, none⟩ = some (.slice a4 4 c4) ∧ w'.cell? ⟨X4, 1, none⟩ = some (.int .i64 t1) ∧ w'.cell? ⟨ga, k * 2, none⟩ = some (.int .i64 x) ∧ w'.cell? ⟨ga, k * 2 + 1, none⟩ = some (.int .i64 y) ∧ wo.heap.size ≤ w'.heap.size ∧ Below wo.heap.size wo w')) (by kernel_rfl) ?_ (fun hHeld => ?_)
        · (first | assumption | exact rr4_start e40 e41 dx dy | exact rr4_drew (by assumption) | exact rr4_keep (by omega) (by omega) (by omega) (by omega) hb (by assumption) | fail)
        refine step_read 0 31 rfl rfl (by kernel_rfl) (by kernel_rfl) (by kernel_rfl) (fun _ _ _ h => h) (by rfl) (v := ?_) (fun w hSw => ?_) (by assumption) ?_; rotate_left; (focus ((try dsimp only at hSw); go_simp; first | done | exact rfl)); simp only [List.set]
        refine step_read 1 32 rfl rfl (by kernel_rfl) (by kernel_rfl) (by kernel_rfl) (fun _ _ _ h => h) (by rfl) (v := ?_) (fun w hSw => ?_) (by assumption) ?_; rotate_left; (focus ((try dsimp only at hSw); go_simp; first | done | exact rfl)); simp only [List.set]
        refine step_read 2 33 rfl rfl (by kernel_rfl) (by kernel_rfl) (by kernel_rfl) (fun _ _ _ h => h) (by rfl) (v := ?_) (fun w hSw => ?_) (by assumption) ?_; rotate_left; (focus ((try dsimp only at hSw); go_simp; first | done | exact rfl)); simp only [List.set]
        refine step_read 3 34 rfl rfl (by kernel_rfl) (by kernel_rfl) (by kernel_rfl) (fun _ _ _ h => h) (by rfl) (v := ?_) (fun w hSw => ?_) (by assumption) ?_; rotate_left; (focus ((try dsimp only at hSw); go_simp; first | done | exact rfl)); simp only [List.set]
        refine step_read 4 35 rfl rfl (by kernel_rfl) (by kernel_rfl) (by kernel_rfl) (fun _ _ _ h => h) (by rfl) (v := ?_) (fun w hSw => ?_) (by assumption) ?_; rotate_left; (focus ((try dsimp only at hSw); go_simp; first | done | exact rfl)); simp only [List.set]
        refine step_read 5 36 rfl rfl (by kernel_rfl) (by kernel_rfl) (by kernel_rfl) (fun _ _ _ h => h) (by rfl) (v := ?_) (fun w hSw => ?_) (by assumption) ?_; rotate_left; (focus ((try dsimp only at hSw); go_simp; first | done | exact rfl)); simp only [List.set]
        refine step_read 6 37 rfl rfl (by kernel_rfl) (by kernel_rfl) (by kernel_rfl) (fun _ _ _ h => h) (by rfl) (v := ?_) (fun w hSw => ?_) (by assumption) ?_; rotate_left; (focus ((try dsimp only at hSw); go_simp; first | done | exact rfl)); simp only [List.set]
        refine step_read 7 38 rfl rfl (by kernel_rfl) (by kernel_rfl) (by kernel_rfl) (fun _ _ _ h => h) (by rfl) (v := ?_) (fun w hSw => ?_) (by assumption) ?_; rotate_left; (focus ((try dsimp only at hSw); go_simp; first | done | exact rfl)); simp only [List.set]
        refine step_read 8 39 rfl rfl (by kernel_rfl) (by kernel_rfl) (by kernel_rfl) (fun _ _ _ h => h) (by rfl) (v := ?_) (fun w hSw => ?_) (by assumption) ?_; rotate_left; (focus ((try dsimp only at hSw); go_simp; first | done | exact rfl)); simp only [List.set]
        refine step_read 9 40 rfl rfl (by kernel_rfl) (by kernel_rfl) (by kernel_rfl) (fun _ _ _ h => h) (by rfl) (v := ?_) (fun w hSw => ?_) (by assumption) ?_; rotate_left; (focus ((try dsimp only at hSw); go_simp; first | done | exact rfl)); simp only [List.set]
        refine step_read 10 41 rfl rfl (by kernel_rfl) (by kernel_rfl) (by kernel_rfl) (fun _ _ _ h => h) (by rfl) (v := ?_) (fun w hSw => ?_) (by assumption) ?_; rotate_left; (focus ((try dsimp only at hSw); go_simp; first | done | exact rfl)); simp only [List.set]
        refine wpAnyH_ready (rs := [11, 15]) (by kernel_rfl) (by simp) ?_
        refine AllReadyH.cons rfl (fun Kc hK => ?_) (AllReadyH.cons rfl (fun Kc hK => ?_) (AllReadyH.nil))
        · go_simp
          go_at_call 18
          refine (iak_any0 lo4 hi4 4 _ t1 D1 _ (HR4.out.below (rr4_out (by assumption)).2 hh4) (by have hq := (rr4_out (by assumption)).1; omega) h64 x y).mono ?_
          unfold SkBPost
          rw [akD_len hD14.out, ← HTT.out, ← HDD.out, ← HBB.out]
          rintro e wr1 ⟨qv, rfl, rq, hb⟩
          have hzz := hb.size
          obtain ⟨qa, qc, rfl⟩ := rq.slice
          refine hK.out _ _ ?_ (fun hHeld => ?_)
          · (first | assumption | exact rr4_start e40 e41 dx dy | exact rr4_drew (by assumption) | exact rr4_keep (by omega) (by omega) (by omega) (by omega) hb (by assumption) | fail)
          clear hK Kc
          refine step_read 12 30 rfl rfl (by kernel_rfl) (by kernel_rfl) (by kernel_rfl) (fun _ _ _ h => h) (by rfl) (v := ?_) (fun w hSw => ?_) (by assumption) ?_; rotate_left; (focus ((try dsimp only at hSw); go_simp; first | done | exact rfl)); simp only [List.set]
          refine step_read 13 43 rfl rfl (by kernel_rfl) (by kernel_rfl) (by kernel_rfl) (fun _ _ _ h => h) (by rfl) (v := ?_) (fun w hSw => ?_) (by assumption) ?_; rotate_left; (focus ((try dsimp only at hSw); go_simp; first | done | exact rfl)); simp only [List.set]
          refine step_read 14 44 rfl rfl (by kernel_rfl) (by kernel_rfl) (by kernel_rfl) (fun _ _ _ h => h) (by rfl) (v := ?_) (fun w hSw => ?_) (by assumption) ?_; rotate_left; (focus ((try dsimp only at hSw); go_simp; first | done | exact rfl)); simp only [List.set]
          refine wpAnyH_ready (rs := [15]) (by kernel_rfl) (by simp) ?_
          refine AllReadyH.cons rfl (fun Kc hK => ?_) (AllReadyH.nil)
          go_simp
          refine at_worldS (fun wa2 hwa => ?_)
          have hb : Below wr1.heap.size wr1 wa2 := by rw [hwa]; exact (Below.refl _ _).alloc (Nat.le_refl _) _
          have bc : wa2.cell? ⟨wr1.heap.size, 0, none⟩ = some (.slice none 0 0) := by rw [hwa]; simp
          have bf : wa2.frozen? ⟨wr1.heap.size, 0, none⟩ = false := by rw [hwa]; simp [go_sem]
          have bd : wa2.cell? ⟨wr1.heap.size, 1, none⟩ = some (.int .i64 0) := by rw [hwa]; simp
          have bg : wa2.frozen? ⟨wr1.heap.size, 1, none⟩ = false := by rw [hwa]; simp [go_sem]
          have hbz : wr1.heap.size < wa2.heap.size := by rw [hwa]; simp
          have hzz := hb.size
          replace rq := rq.below hb (by first | exact Nat.le_refl _ | omega)
          have hbb : wo.heap.size ≤ wr1.heap.size := by first | exact Nat.le_refl _ | (have hq := (rr4_out (by assumption)).1; omega)
          have hSn :  wa2.cell? ⟨X4, 0, none⟩ = some (.slice a4 4 c4) ∧ wa2.cell? ⟨X4, 1, none⟩ = some (.int .i64 t1) ∧ wa2.cell? ⟨ga, k * 2, none⟩ = some (.int .i64 x) ∧ wa2.cell? ⟨ga, k * 2 + 1, none⟩ = some (.int .i64 y) ∧ wo.heap.size ≤ wa2.heap.size ∧ Below wo.heap.size wo wa2 := by rw [hwa]; first | exact rr4_drew (rr4_box (by omega) (by omega) (by omega) (by omega) HSB) | exact rr4_box (by omega) (by omega) (by omega) (by omega) (by assumption)
          clear hwa
          refine hK.out _ _ ?_ (fun hHeld => ?_)
          · (first | assumption | exact rr4_start e40 e41 dx dy | exact rr4_drew (by assumption) | exact rr4_keep (by omega) (by omega) (by omega) (by omega) hb (by assumption) | fail)
          clear hK Kc
          refine wpAnyH_ready (rs := [16]) (by kernel_rfl) (by simp) ?_
          refine AllReadyH.cons rfl (fun Kc hK => ?_) (AllReadyH.nil)
          go_simp
          refine at_worldS (fun ws3 hwa => ?_)
          have hBR := BoxS.mk' hwa rq (base := wo) (by have hq := (rr4_out (by assumption)).1; omega) (by omega) hbb (by omega) (by omega) bc bd (rr4_out (by assumption)).2
          have hSn :  ws3.cell? ⟨X4, 0, none⟩ = some (.slice a4 4 c4) ∧ ws3.cell? ⟨X4, 1, none⟩ = some (.int .i64 t1) ∧ ws3.cell? ⟨ga, k * 2, none⟩ = some (.int .i64 x) ∧ ws3.cell? ⟨ga, k * 2 + 1, none⟩ = some (.int .i64 y) ∧ wo.heap.size ≤ ws3.heap.size ∧ Below wo.heap.size wo ws3 := by rw [hwa]; exact rr4_storeS (by omega) (by omega) (by omega) (by omega) hbb (rr4_storeS (by omega) (by omega) (by omega) (by omega) hbb (by assumption))
          clear hwa
          refine hK.out _ _ ?_ (fun hHeld => ?_)
          · (first | assumption | exact rr4_start e40 e41 dx dy | exact rr4_drew (by assumption) | exact rr4_keep (by omega) (by omega) (by omega) (by omega) hb (by assumption) | fail)
          clear hK Kc
          refine step_read 17 9 rfl rfl (by kernel_rfl) (by kernel_rfl) (by kernel_rfl) (fun _ _ _ h => h) (by rfl) (v := ?_) (fun w hSw => ?_) (by assumption) ?_; rotate_left; (focus ((try dsimp only at hSw); go_simp; first | done | exact rfl)); simp only [List.set]
          refine wpAnyH_done (by kernel_rfl) ?_ _
          go_wp2_with fail
          go_meet
          exact ⟨_, _, _, _, _, rfl, rfl, Lib.hid hBR⟩
        · go_simp
          refine at_worldS (fun wa4 hwa => ?_)
          have hb : Below wo.heap.size wo wa4 := by rw [hwa]; first | exact ((Below.refl _ _).alloc (Nat.le_refl _) _).drew | exact (Below.refl _ _).drew.alloc (by first | exact Nat.le_refl _ | simp) _
          have HSB := (⟨e40, e41, dx, dy, Nat.le_refl _, Below.refl _ _⟩ :  wo.cell? ⟨X4, 0, none⟩ = some (.slice a4 4 c4) ∧ wo.cell? ⟨X4, 1, none⟩ = some (.int .i64 t1) ∧ wo.cell? ⟨ga, k * 2, none⟩ = some (.int .i64 x) ∧ wo.cell? ⟨ga, k * 2 + 1, none⟩ = some (.int .i64 y) ∧ wo.heap.size ≤ wo.heap.size ∧ Below wo.heap.size wo wo)
          have bc : wa4.cell? ⟨wo.heap.size, 0, none⟩ = some (.slice none 0 0) := by rw [hwa]; simp
          have bf : wa4.frozen? ⟨wo.heap.size, 0, none⟩ = false := by rw [hwa]; simp [go_sem]
          have bd : wa4.cell? ⟨wo.heap.size, 1, none⟩ = some (.int .i64 0) := by rw [hwa]; simp
          have bg : wa4.frozen? ⟨wo.heap.size, 1, none⟩ = false := by rw [hwa]; simp [go_sem]
          have hbz : wo.heap.size < wa4.heap.size := by rw [hwa]; simp
          have hzz := hb.size
          have hbb : wo.heap.size ≤ wo.heap.size := by first | exact Nat.le_refl _ | (have hq := (rr4_out (by assumption)).1; omega)
          have hSn :  wa4.cell? ⟨X4, 0, none⟩ = some (.slice a4 4 c4) ∧ wa4.cell? ⟨X4, 1, none⟩ = some (.int .i64 t1) ∧ wa4.cell? ⟨ga, k * 2, none⟩ = some (.int .i64 x) ∧ wa4.cell? ⟨ga, k * 2 + 1, none⟩ = some (.int .i64 y) ∧ wo.heap.size ≤ wa4.heap.size ∧ Below wo.heap.size wo wa4 := by rw [hwa]; first | exact rr4_drew (rr4_box (by omega) (by omega) (by omega) (by omega) HSB) | exact rr4_box (by omega) (by omega) (by omega) (by omega) (by assumption)
          clear hwa
          clear HSB
          refine hK.out _ _ ?_ (fun hHeld => ?_)
          · (first | assumption | exact rr4_start e40 e41 dx dy | exact rr4_drew (by assumption) | exact rr4_keep (by omega) (by omega) (by omega) (by omega) hb (by assumption) | fail)
          clear hK Kc
          refine wpAnyH_ready (rs := [11]) (by kernel_rfl) (by simp) ?_
          refine AllReadyH.cons rfl (fun Kc hK => ?_) (AllReadyH.nil)
          go_simp
          go_at_call 18
          refine (iak_any0 lo4 hi4 4 _ t1 D1 _ (HR4.out.below (rr4_out (by assumption)).2 hh4) (by have hq := (rr4_out (by assumption)).1; omega) h64 x y).mono ?_
          unfold SkBPost
          rw [akD_len hD14.out, ← HTT.out, ← HDD.out, ← HBB.out]
          rintro e wr5 ⟨qv, rfl, rq, hb⟩
          have hzz := hb.size
          obtain ⟨qa, qc, rfl⟩ := rq.slice
          have hbz0 := hbz
          replace bc : wr5.cell? ⟨wo.heap.size, 0, none⟩ = some (.slice none 0 0) := by rw [hb.cell (p := ⟨wo.heap.size, 0, none⟩) hbz]; exact bc
          replace bf : wr5.frozen? ⟨wo.heap.size, 0, none⟩ = false := by rw [hb.frozen (p := ⟨wo.heap.size, 0, none⟩) hbz]; exact bf
          replace bd : wr5.cell? ⟨wo.heap.size, 1, none⟩ = some (.int .i64 0) := by rw [hb.cell (p := ⟨wo.heap.size, 1, none⟩) hbz]; exact bd
          replace bg : wr5.frozen? ⟨wo.heap.size, 1, none⟩ = false := by rw [hb.frozen (p := ⟨wo.heap.size, 1, none⟩) hbz]; exact bg
          replace hbz : wo.heap.size < wr5.heap.size := Nat.lt_of_lt_of_le hbz hb.size
          refine hK.out _ _ ?_ (fun hHeld => ?_)
          · (first | assumption | exact rr4_start e40 e41 dx dy | exact rr4_drew (by assumption) | exact rr4_keep (by omega) (by omega) (by omega) (by omega) hb (by assumption) | fail)
          clear hK Kc
          refine step_read 12 30 rfl rfl (by kernel_rfl) (by kernel_rfl) (by kernel_rfl) (fun _ _ _ h => h) (by rfl) (v := ?_) (fun w hSw => ?_) (by assumption) ?_; rotate_left; (focus ((try dsimp only at hSw); go_simp; first | done | exact rfl)); simp only [List.set]
          refine step_read 13 43 rfl rfl (by kernel_rfl) (by kernel_rfl) (by kernel_rfl) (fun _ _ _ h => h) (by rfl) (v := ?_) (fun w hSw => ?_) (by assumption) ?_; rotate_left; (focus ((try dsimp only at hSw); go_simp; first | done | exact rfl)); simp only [List.set]
          refine step_read 14 44 rfl rfl (by kernel_rfl) (by kernel_rfl) (by kernel_rfl) (fun _ _ _ h => h) (by rfl) (v := ?_) (fun w hSw => ?_) (by assumption) ?_; rotate_left; (focus ((try dsimp only at hSw); go_simp; first | done | exact rfl)); simp only [List.set]
          refine wpAnyH_ready (rs := [16]) (by kernel_rfl) (by simp) ?_
          refine AllReadyH.cons rfl (fun Kc hK => ?_) (AllReadyH.nil)
          go_simp
          refine at_worldS (fun ws6 hwa => ?_)
          have hBR := BoxS.mk' hwa rq (base := wo) (by have hq := (rr4_out (by assumption)).1; omega) (by omega) hbb (by omega) (by omega) bc bd (rr4_out (by assumption)).2
          have hSn :  ws6.cell? ⟨X4, 0, none⟩ = some (.slice a4 4 c4) ∧ ws6.cell? ⟨X4, 1, none⟩ = some (.int .i64 t1) ∧ ws6.cell? ⟨ga, k * 2, none⟩ = some (.int .i64 x) ∧ ws6.cell? ⟨ga, k * 2 + 1, none⟩ = some (.int .i64 y) ∧ wo.heap.size ≤ ws6.heap.size ∧ Below wo.heap.size wo ws6 := by rw [hwa]; exact rr4_storeS (by omega) (by omega) (by omega) (by omega) hbb (rr4_storeS (by omega) (by omega) (by omega) (by omega) hbb (by assumption))
          clear hwa
          refine hK.out _ _ ?_ (fun hHeld => ?_)
          · (first | assumption | exact rr4_start e40 e41 dx dy | exact rr4_drew (by assumption) | exact rr4_keep (by omega) (by omega) (by omega) (by omega) hb (by assumption) | fail)
          clear hK Kc
          refine step_read 17 9 rfl rfl (by kernel_rfl) (by kernel_rfl) (by kernel_rfl) (fun _ _ _ h => h) (by rfl) (v := ?_) (fun w hSw => ?_) (by assumption) ?_; rotate_left; (focus ((try dsimp only at hSw); go_simp; first | done | exact rfl)); simp only [List.set]
          refine wpAnyH_done (by kernel_rfl) ?_ _
          go_wp2_with fail
          go_meet
          exact ⟨_, _, _, _, _, rfl, rfl, Lib.hid hBR⟩
      case rest =>
        obtain ⟨Y, lo2, hi2, va, vc, rfl, rfl, hBR⟩ := hcut
        obtain ⟨wx, rfl⟩ : ∃ y, y = wc := ⟨_, rfl⟩
        obtain ⟨br, b1, b2, b3, b4, b5, b6, b7, hbx⟩ := hBR.out
        have HBX := Lib.hid hbx
        have hsx := hbx.size
        have dx2 : wx.cell? ⟨ga, k * 2, none⟩ = some (.int .i64 x) := by rw [hbx.cell (p := ⟨ga, k * 2, none⟩) hgw]; exact dx
        have dy2 : wx.cell? ⟨ga, k * 2 + 1, none⟩ = some (.int .i64 y) := by rw [hbx.cell (p := ⟨ga, k * 2 + 1, none⟩) hgw]; exact dy
        have HRow := Lib.hid br
        have HLow2 : Hid (Below w1.heap.size w1 wx) := HLow.out.trans (hbx.mono (by omega))
        have hgx : ga < wx.heap.size := by omega
        clear hBR br hbx dx dy e40 e41
        cases BB with
        | false =>
          have hno : ¬ (keyB x = true ∧ inB y 1 1000000 = true) := fun h => by
            have := (HSH.out h.1 h.2).1
            rw [← HBB.out] at this
            cases this
          rw [keyB_iff, inB_iff] at hno
          have HBw : Hid (Below w.heap.size w wx) := HB1.out.trans (HLow2.out.mono (by omega))
          clear b6 b7 HSH
          by_cases n1 : x < 0
          · have d1 : decide (x ≥ 0) = false := decide_eq_false (by omega)
            have d1' : decide (0 ≤ x) = false := decide_eq_false (by omega)
            go_wp2_with fail
            go_ret
            exact ⟨rfl, HBw.out⟩
          have e1 : decide (x ≥ 0) = true := decide_eq_true (by omega)
          have e1' : decide (0 ≤ x) = true := decide_eq_true (by omega)
          by_cases n2 : x > 1000000000
          · have d2 : decide (x ≤ 1000000000) = false := decide_eq_false (by omega)
            go_wp2_with fail
            go_ret
            exact ⟨rfl, HBw.out⟩
          have e2 : decide (x ≤ 1000000000) = true := decide_eq_true (by omega)
          by_cases n3 : y < 1
          · have d3 : decide (y ≥ 1) = false := decide_eq_false (by omega)
            have d3' : decide (1 ≤ y) = false := decide_eq_false (by omega)
            go_wp2_with fail
            go_ret
            exact ⟨rfl, HBw.out⟩
          have e3 : decide (y ≥ 1) = true := decide_eq_true (by omega)
          have e3' : decide (1 ≤ y) = true := decide_eq_true (by omega)
          have d4 : decide (y ≤ 1000000) = false := decide_eq_false (by omega)
          go_wp2_with fail
          go_ret
          exact ⟨rfl, HBw.out⟩
        | true =>
          have hkn : keyB x = true ∧ inB y 1 1000000 = true := Decidable.byContradiction fun h => by
            have := ak_not (t := t1) (D := D1) h
            rw [← HBB.out] at this
            cases this
          obtain ⟨hkx, hny⟩ := hkn
          have hs := HSH.out hkx hny
          rw [← HDD.out, ← HTT.out] at hs
          obtain ⟨_, s2, s3⟩ := hs
          have y1 := inB_iff.1 hny
          obtain ⟨y10, y11⟩ := y1
          have HKN := Lib.hid (And.intro hkx hny)
          have HS := Lib.hid (And.intro s2 s3)
          have HN1 : Hid (adsOk (A.take (k + 1))) := by show adsOk _; rw [HT.out]; exact adsOk_app HOK.out hkx hny
          have HO2 := Lib.hid (HO.out.below HBX.out)
          have g0 := HO2.out.frz.1
          have g1 := HO2.out.frz.2
          obtain ⟨_, _, a40, c40, z0, _, _, _, _⟩ := HO2.out.ex
          have z1 := HO2.out.c1
          have mem4 : X4 ∈ [X4, X5, X6] := by simp
          have mem5 : X5 ∈ [X4, X5, X6] := by simp
          have mem6 : X6 ∈ [X4, X5, X6] := by simp
          have hfar : ∀ Z, Z ∈ [X4, X5, X6] → Z < lo2 ∨ hi2 ≤ Z := by
            intro Z hZ
            have h5 := H5.out.lx.2
            have h6 := H6.out.lx.2
            simp at hZ
            omega
          obtain ⟨w2, hw2⟩ : ∃ w2, w2 = (wx.setCell ⟨X4, 0, none⟩ (.slice va 4 vc)).setCell ⟨X4, 1, none⟩ (.int .i64 TT) := ⟨_, rfl⟩
          have S4 : Hid (SkR w1.heap.size [X4, X5, X6] w2 X4 (shT (A.take (k + 1))) (mat (shF (A.take (k + 1))))) := by
            show SkR _ _ _ _ _ _
            rw [hw2, ← HS.out.1, ← HS.out.2]
            exact HO2.out.put mem4 TT HRow.out (by omega) b2 hfar
          have S5 : Hid (SkR w1.heap.size [X4, X5, X6] w2 X5 (shT P) (mat (shF P))) := by
            rw [hw2]
            exact ((H5.out.below HBX.out).other mem4 ne1).other mem4 ne1
          have S6 : Hid (SkR w1.heap.size [X4, X5, X6] w2 X6 (shT Q) (mat (shF Q))) := by
            rw [hw2]
            exact ((H6.out.below HBX.out).other mem4 ne2).other mem4 ne2
          have L2 : Hid (Below w1.heap.size w1 w2) := by rw [hw2]; exact (HLow2.out.setCell (by show _ ≤ X4; omega) _).setCell (by show _ ≤ X4; omega) _
          have hsz2 : w2.heap.size = wx.heap.size := by rw [hw2]; simp [World.setCell]
          have dx3 : w2.cell? ⟨ga, k * 2, none⟩ = some (.int .i64 x) := by rw [L2.out.cell (p := ⟨ga, k * 2, none⟩) gah]; exact CX.out
          have dy3 : w2.cell? ⟨ga, k * 2 + 1, none⟩ = some (.int .i64 y) := by rw [L2.out.cell (p := ⟨ga, k * 2 + 1, none⟩) gah]; exact CY.out
          have hq2 : q14.heap.size ≤ w2.heap.size := by omega
          have hg2 : ga < w2.heap.size := by omega
          have hx42 : X4 < w2.heap.size := by omega
          have hx52 : X5 < w2.heap.size := S5.out.lx.2
          have hx62 : X6 < w2.heap.size := S6.out.lx.2
          clear s2 s3 HO2 HO HRow H5 H6 HSH HLow HLow2 HR4 hfar hkx hny
          go_upto_region 14 with fail
          rw [← hw2]
          clear hw2 hsz2 z0 z1 g0 g1 b6 b7 dx2 dy2 HBX
          by_cases hpar : k % 2 = 0
          case pos =>
            have hp2 : (k : Int) % 2 = 0 := by omega
            go_upto_region 15 with fail
            obtain ⟨lo5, hi5, a5, c5, p0, row5, hb5, hh5, far5⟩ := S5.out.ex
            have p1 := S5.out.c1
            have p2 := S5.out.frz.1
            have p3 := S5.out.frz.2
            have HRP := Lib.hid row5
            have hak := ak_sh HPQ.out.1 (x, y) (by show shT P + y ≤ _; omega) HKN.out.1 HKN.out.2
            have HAK := Lib.hid hak
            have hpd : Hid ((mat (shF P)).length = 4) := mat_len _
            have i64 : I64 (shT P) := by unfold I64; omega
            clear row5 hak far5
            obtain ⟨tp, htp⟩ : ∃ t, t = shT P := ⟨_, rfl⟩
            obtain ⟨Dp, hDp⟩ : ∃ D, D = mat (shF P) := ⟨_, rfl⟩
            have HTP := Lib.hid htp
            rw [← htp] at p1 i64 HAK
            rw [← hDp] at HRP HAK hpd
            clear htp hDp
            go_wp2_with fail
            (
              go_region_law (go_simp; go_at_call 18; refine (iak_any0 lo5 hi5 4 _ tp Dp w2.drew (HRP.out.below (Below.refl _ _).drew hh5) (by show hi5 ≤ w2.heap.size; exact hh5) i64 x y).mono ?_; unfold SkBPost; rw [akD_len hpd.out, HAK.out.1, HAK.out.2.1, HAK.out.2.2]; rintro e w3 ⟨rv, rfl, hr3, hb3⟩; obtain ⟨ra3, rc3, rfl⟩ := hr3.slice; have HB3 : Hid (Below w2.heap.size w2 w3) := below_undrew hb3; have HR3 : Hid (KRow w3 w2.heap.size w3.heap.size (.slice ra3 4 rc3) 4 (mat (shF (P ++ [(x, y)])))) := hr3; clear hr3 hb3; have hs3 := HB3.out.size; have u0 : w3.cell? ⟨X5, 0, none⟩ = some (.slice a5 4 c5) := (by rw [HB3.out.cell (p := ⟨X5, 0, none⟩) hx52]; exact p0); have u1 : w3.cell? ⟨X5, 1, none⟩ = some (.int .i64 tp) := (by rw [HB3.out.cell (p := ⟨X5, 1, none⟩) hx52]; exact p1); have u2 : w3.frozen? ⟨X5, 0, none⟩ = false := (by rw [HB3.out.frozen (p := ⟨X5, 0, none⟩) hx52]; exact p2); have u3 : w3.frozen? ⟨X5, 1, none⟩ = false := (by rw [HB3.out.frozen (p := ⟨X5, 1, none⟩) hx52]; exact p3); have u4 : w3.cell? ⟨ga, k * 2, none⟩ = some (.int .i64 x) := (by rw [HB3.out.cell (p := ⟨ga, k * 2, none⟩) hg2]; exact dx3); have u5 : w3.cell? ⟨ga, k * 2 + 1, none⟩ = some (.int .i64 y) := (by rw [HB3.out.cell (p := ⟨ga, k * 2 + 1, none⟩) hg2]; exact dy3); obtain ⟨t5, ht5⟩ : ∃ t, t = shT (P ++ [(x, y)]) := ⟨_, rfl⟩; simp only [← ht5]; have HT5 := Lib.hid ht5; clear ht5)
              all_goals
                have hfar : ∀ Z, Z ∈ [X4, X5, X6] → Z < w2.heap.size ∨ w3.heap.size ≤ Z := by
                  intro Z hZ
                  simp at hZ
                  omega
                have HN : Hid (LpK w1 X4 X5 X6 A (k + 1) ((w3.setCell ⟨X5, 0, none⟩ (.slice ra3 4 rc3)).setCell ⟨X5, 1, none⟩ (.int .i64 t5))) := by
                  refine ⟨((L2.out.trans (HB3.out.mono (by omega))).setCell (by show _ ≤ X5; omega) _).setCell (by show _ ≤ X5; omega) _, HN1.out, ((S4.out.below HB3.out).other mem5 ne1.symm).other mem5 ne1.symm, ?_, ne1, ne2, ne3⟩
                  have hp := (S5.out.below HB3.out).put mem5 t5 HR3.out (by omega) (Nat.le_refl _) hfar
                  rw [HT5.out] at hp
                  refine ⟨P ++ [(x, y)], Q, adsOk_app HPQ.out.1 HKN.out.1 HKN.out.2, HPQ.out.2.1, ?s1, ?s2, ?s3, ?s4⟩
                  case s1 => rw [HT.out, shT_app, shT_app]; have := HPQ.out.2.2.1; omega
                  case s2 => intro i j; rw [HT.out, shF_app, shF_app]; have := HPQ.out.2.2.2 i j; omega
                  case s3 => rw [← HT5.out] at hp ⊢; exact hp
                  case s4 => exact ((S6.out.below HB3.out).other mem5 ne3).other mem5 ne3
                have HQ2 : Hid (q14.heap.size ≤ ((w3.setCell ⟨X5, 0, none⟩ (.slice ra3 4 rc3)).setCell ⟨X5, 1, none⟩ (.int .i64 t5)).heap.size) := by show _ ≤ _; simp [World.setCell]; omega
                clear p0 p1 p2 p3 S4 S5 S6 dx3 dy3 HRP HAK hfar
                go_wp2_with fail
                go_roundw
                case rel => exact ⟨k + 1, by omega, by go_num, HQ2, HN⟩
                case measure => simp [intOf]; omega)
          case neg =>
            have hp2 : ¬ (k : Int) % 2 = 0 := by omega
            have hp3 : (k : Int) % 2 = 1 := by omega
            clear hp2
            go_upto_region 16 with fail
            obtain ⟨lo5, hi5, a5, c5, p0, row5, hb5, hh5, far5⟩ := S6.out.ex
            have p1 := S6.out.c1
            have p2 := S6.out.frz.1
            have p3 := S6.out.frz.2
            have HRP := Lib.hid row5
            have hak := ak_sh HPQ.out.2.1 (x, y) (by show shT Q + y ≤ _; omega) HKN.out.1 HKN.out.2
            have HAK := Lib.hid hak
            have hpd : Hid ((mat (shF Q)).length = 4) := mat_len _
            have i64 : I64 (shT Q) := by unfold I64; omega
            clear row5 hak far5
            obtain ⟨tp, htp⟩ : ∃ t, t = shT Q := ⟨_, rfl⟩
            obtain ⟨Dp, hDp⟩ : ∃ D, D = mat (shF Q) := ⟨_, rfl⟩
            have HTP := Lib.hid htp
            rw [← htp] at p1 i64 HAK
            rw [← hDp] at HRP HAK hpd
            clear htp hDp
            go_wp2_with fail
            (
              go_region_law (go_simp; go_at_call 18; refine (iak_any0 lo5 hi5 4 _ tp Dp w2.drew (HRP.out.below (Below.refl _ _).drew hh5) (by show hi5 ≤ w2.heap.size; exact hh5) i64 x y).mono ?_; unfold SkBPost; rw [akD_len hpd.out, HAK.out.1, HAK.out.2.1, HAK.out.2.2]; rintro e w3 ⟨rv, rfl, hr3, hb3⟩; obtain ⟨ra3, rc3, rfl⟩ := hr3.slice; have HB3 : Hid (Below w2.heap.size w2 w3) := below_undrew hb3; have HR3 : Hid (KRow w3 w2.heap.size w3.heap.size (.slice ra3 4 rc3) 4 (mat (shF (Q ++ [(x, y)])))) := hr3; clear hr3 hb3; have hs3 := HB3.out.size; have u0 : w3.cell? ⟨X6, 0, none⟩ = some (.slice a5 4 c5) := (by rw [HB3.out.cell (p := ⟨X6, 0, none⟩) hx62]; exact p0); have u1 : w3.cell? ⟨X6, 1, none⟩ = some (.int .i64 tp) := (by rw [HB3.out.cell (p := ⟨X6, 1, none⟩) hx62]; exact p1); have u2 : w3.frozen? ⟨X6, 0, none⟩ = false := (by rw [HB3.out.frozen (p := ⟨X6, 0, none⟩) hx62]; exact p2); have u3 : w3.frozen? ⟨X6, 1, none⟩ = false := (by rw [HB3.out.frozen (p := ⟨X6, 1, none⟩) hx62]; exact p3); have u4 : w3.cell? ⟨ga, k * 2, none⟩ = some (.int .i64 x) := (by rw [HB3.out.cell (p := ⟨ga, k * 2, none⟩) hg2]; exact dx3); have u5 : w3.cell? ⟨ga, k * 2 + 1, none⟩ = some (.int .i64 y) := (by rw [HB3.out.cell (p := ⟨ga, k * 2 + 1, none⟩) hg2]; exact dy3); obtain ⟨t5, ht5⟩ : ∃ t, t = shT (Q ++ [(x, y)]) := ⟨_, rfl⟩; simp only [← ht5]; have HT5 := Lib.hid ht5; clear ht5)
              all_goals
                have hfar : ∀ Z, Z ∈ [X4, X5, X6] → Z < w2.heap.size ∨ w3.heap.size ≤ Z := by
                  intro Z hZ
                  simp at hZ
                  omega
                have HN : Hid (LpK w1 X4 X5 X6 A (k + 1) ((w3.setCell ⟨X6, 0, none⟩ (.slice ra3 4 rc3)).setCell ⟨X6, 1, none⟩ (.int .i64 t5))) := by
                  refine ⟨((L2.out.trans (HB3.out.mono (by omega))).setCell (by show _ ≤ X6; omega) _).setCell (by show _ ≤ X6; omega) _, HN1.out, ((S4.out.below HB3.out).other mem6 ne2.symm).other mem6 ne2.symm, ?_, ne1, ne2, ne3⟩
                  have hp := (S6.out.below HB3.out).put mem6 t5 HR3.out (by omega) (Nat.le_refl _) hfar
                  rw [HT5.out] at hp
                  refine ⟨P, Q ++ [(x, y)], HPQ.out.1, adsOk_app HPQ.out.2.1 HKN.out.1 HKN.out.2, ?s1, ?s2, ?s4, ?s3⟩
                  case s1 => rw [HT.out, shT_app, shT_app]; have := HPQ.out.2.2.1; omega
                  case s2 => intro i j; rw [HT.out, shF_app, shF_app]; have := HPQ.out.2.2.2 i j; omega
                  case s3 => rw [← HT5.out] at hp ⊢; exact hp
                  case s4 => exact ((S5.out.below HB3.out).other mem6 ne3.symm).other mem6 ne3.symm
                have HQ2 : Hid (q14.heap.size ≤ ((w3.setCell ⟨X6, 0, none⟩ (.slice ra3 4 rc3)).setCell ⟨X6, 1, none⟩ (.int .i64 t5)).heap.size) := by show _ ≤ _; simp [World.setCell]; omega
                clear p0 p1 p2 p3 S4 S5 S6 dx3 dy3 HRP HAK hfar
                go_wp2_with fail
                go_roundw
                case rel => exact ⟨k + 1, by omega, by go_num, HQ2, HN⟩
                case measure => simp [intOf]; omega)
    case neg =>
    obtain rfl : k = m := by omega
    have hge : ¬ ((k : Int) < (k : Int)) := by omega
    have ht : A.take k = A := List.take_of_length_le (by rw [← HM.out]; exact Nat.le_refl _)
    have hone := hK.out.one
    have hok := hK.out.ok
    obtain ⟨P, Q, hP, hQ, hPQ, hFF, hl5, hl6⟩ := hK.out.two
    obtain ⟨⟨tb0, tb1⟩, ⟨pb0, pb1⟩, ⟨qb0, qb1⟩⟩ := hK.out.bnd (by omega) hok hP hQ hPQ
    rw [ht] at hone hok hPQ hFF tb0 tb1
    obtain ⟨lo4, hi4, a4, c4, e40, row4, l4, hh4, _⟩ := hone.ex
    obtain ⟨lo5, hi5, a5, c5, e50, row5, l5, hh5, _⟩ := hl5.ex
    obtain ⟨lo6, hi6, a6, c6, e60, row6, l6, hh6, _⟩ := hl6.ex
    have e41 := hone.c1
    have e51 := hl5.c1
    have e61 := hl6.c1
    have hx4w := hone.lx.2
    have hx5w := hl5.lx.2
    have hx6w := hl6.lx.2
    obtain ⟨gne1, gne2, gne3⟩ := hK.out.ne
    have hsum : sumD (mat (shF P)) (mat (shF Q)) = mat (shF A) := by rw [sumD_sh]; exact mat_congr fun i j _ _ => hFF i j
    have hmb : mgB (shT P) (mat (shF P)) (shT Q) (mat (shF Q)) = true := by
      unfold mgB
      rw [hsum, hPQ, skB_iff.2 (sk_sh hP (by omega)), skB_iff.2 (sk_sh hQ (by omega)), skB_iff.2 (sk_sh hok (by omega))]
      rfl
    have hmg := mg_yes hmb
    rw [hsum, hPQ] at hmg
    have hest := fun (key : Int) (hk : keyB key = true) => est_between hok (by omega) hk
    have htr := fun key => truth_in (L := A) hok key
    have hml := mat_len (shF A)
    obtain ⟨tA, htA⟩ : ∃ t, t = shT A := ⟨_, rfl⟩
    obtain ⟨DA, hDA⟩ : ∃ D, D = mat (shF A) := ⟨_, rfl⟩
    obtain ⟨tP, htP⟩ : ∃ t, t = shT P := ⟨_, rfl⟩
    obtain ⟨DP, hDP⟩ : ∃ D, D = mat (shF P) := ⟨_, rfl⟩
    obtain ⟨tQ, htQ⟩ : ∃ t, t = shT Q := ⟨_, rfl⟩
    obtain ⟨DQ, hDQ⟩ : ∃ D, D = mat (shF Q) := ⟨_, rfl⟩
    simp only [← htA, ← hDA] at e41 row4 tb0 tb1 hmg hest htr hml
    simp only [← htP, ← hDP] at e51 row5 pb0 pb1 hmb hmg
    simp only [← htQ, ← hDQ] at e61 row6 qb0 qb1 hmb hmg
    have R4 := Lib.hid row4
    have R5 := Lib.hid row5
    have R6 := Lib.hid row6
    have EM : Hid (mgD tP DP tQ DQ = DA ∧ mgT tP DP tQ DQ = tA ∧ mgB tP DP tQ DQ = true ∧ DA.length = 4) := ⟨hmg.1, hmg.2, hmb, hml⟩
    have HES := Lib.hid hest
    have HTR := Lib.hid htr
    have HOK := Lib.hid hok
    have i4 : I64 tA := by unfold I64; omega
    have i5 : I64 tP := by unfold I64; omega
    have i6 : I64 tQ := by unfold I64; omega
    have HLow := Lib.hid hlow
    clear ht hone hok hP hQ hPQ hFF hl5 hl6 row4 row5 row6 hsum hmb hmg hest htr hml htA hDA htP hDP htQ hDQ hlow hK
    go_wp2_with fail
    go_at_call 19
    refine (imerge_any _ _ 4 _ _ 4 _ _ tP tQ DP DQ _ R5.out R6.out (by first | omega | (simp; done) | (simp; omega)) (by first | omega | (simp; done) | (simp; omega)) i5 i6).mono ?_
    unfold SkBPost
    rw [EM.out.1, EM.out.2.1, EM.out.2.2.1, EM.out.2.2.2]
    rintro e v41 ⟨vM, rfl, hr, hb41⟩
    have sz41 : wr.heap.size ≤ v41.heap.size := hb41.size
    have st41 : Below wr.heap.size wr v41 := hb41
    have c41_0 : v41.cell? ⟨X4, 0, none⟩ = some (.slice a4 4 c4) := by rw [(bcell st41).1 _ _ (by omega)]; exact e40
    have c41_1 : v41.cell? ⟨X4, 1, none⟩ = some (.int .i64 tA) := by rw [(bcell st41).1 _ _ (by omega)]; exact e41
    have c41_2 : v41.cell? ⟨X5, 0, none⟩ = some (.slice a5 4 c5) := by rw [(bcell st41).1 _ _ (by omega)]; exact e50
    have c41_3 : v41.cell? ⟨X5, 1, none⟩ = some (.int .i64 tP) := by rw [(bcell st41).1 _ _ (by omega)]; exact e51
    have c41_4 : v41.cell? ⟨X6, 0, none⟩ = some (.slice a6 4 c6) := by rw [(bcell st41).1 _ _ (by omega)]; exact e60
    have c41_5 : v41.cell? ⟨X6, 1, none⟩ = some (.int .i64 tQ) := by rw [(bcell st41).1 _ _ (by omega)]; exact e61
    have B41 : Hid (Below w1.heap.size w1 v41) := HLow.out.trans (st41.mono (by omega))
    have R41_0 : Hid (KRow v41 (lo4) (hi4) (.slice a4 4 c4) 4 DA) := R4.out.below st41 (by omega)
    have R41_1 : Hid (KRow v41 (lo5) (hi5) (.slice a5 4 c5) 4 DP) := R5.out.below st41 (by omega)
    have R41_2 : Hid (KRow v41 (lo6) (hi6) (.slice a6 4 c6) 4 DQ) := R6.out.below st41 (by omega)
    have R41_3 : Hid (KRow v41 (wr.heap.size) (v41.heap.size) vM 4 DA) := hr
    clear e40 e41 e50 e51 e60 e61 HLow st41 R4 R5 R6 hr hb41
    obtain ⟨Ma, Mc, rfl⟩ := R41_3.out.slice
    go_upto_region 18 with fail
    obtain ⟨q42, hq42⟩ : ∃ q, q = (v41.alloc (.cells #[.slice Ma 4 Mc, .int .i64 tA] 28)) := ⟨_, rfl⟩
    have hb42 : Below v41.heap.size v41 q42 := by rw [hq42]; go_grown
    have sz42 : v41.heap.size + 1 ≤ q42.heap.size := by rw [hq42]; simp
    have c42_0 : q42.cell? ⟨X4, 0, none⟩ = some (.slice a4 4 c4) := by rw [(bcell hb42).1 _ _ (by omega)]; exact c41_0
    have c42_1 : q42.cell? ⟨X4, 1, none⟩ = some (.int .i64 tA) := by rw [(bcell hb42).1 _ _ (by omega)]; exact c41_1
    have c42_2 : q42.cell? ⟨X5, 0, none⟩ = some (.slice a5 4 c5) := by rw [(bcell hb42).1 _ _ (by omega)]; exact c41_2
    have c42_3 : q42.cell? ⟨X5, 1, none⟩ = some (.int .i64 tP) := by rw [(bcell hb42).1 _ _ (by omega)]; exact c41_3
    have c42_4 : q42.cell? ⟨X6, 0, none⟩ = some (.slice a6 4 c6) := by rw [(bcell hb42).1 _ _ (by omega)]; exact c41_4
    have c42_5 : q42.cell? ⟨X6, 1, none⟩ = some (.int .i64 tQ) := by rw [(bcell hb42).1 _ _ (by omega)]; exact c41_5
    have c42_6 : q42.cell? ⟨v41.heap.size, 0, none⟩ = some (.slice Ma 4 Mc) := by rw [hq42, new_at (by simp)]; rfl
    have c42_7 : q42.cell? ⟨v41.heap.size, 1, none⟩ = some (.int .i64 tA) := by rw [hq42, new_at (by simp)]; rfl
    have B42 : Hid (Below w1.heap.size w1 q42) := Lib.hid (B41.out.trans (hb42.mono (by omega)))
    have R42_0 : Hid (KRow q42 (lo4) (hi4) (.slice a4 4 c4) 4 DA) := Lib.hid (R41_0.out.below hb42 (by omega))
    have R42_1 : Hid (KRow q42 (lo5) (hi5) (.slice a5 4 c5) 4 DP) := Lib.hid (R41_1.out.below hb42 (by omega))
    have R42_2 : Hid (KRow q42 (lo6) (hi6) (.slice a6 4 c6) 4 DQ) := Lib.hid (R41_2.out.below hb42 (by omega))
    have R42_3 : Hid (KRow q42 (wr.heap.size) (v41.heap.size) (.slice Ma 4 Mc) 4 DA) := Lib.hid (R41_3.out.below hb42 (by omega))
    rw [← hq42]
    have d42_3 : v41.heap.size < q42.heap.size := by omega
    have e42_3 : v41.heap.size ≠ q42.heap.size := by omega
    clear hq42 hb42 c41_0 c41_1 c41_2 c41_3 c41_4 c41_5 B41 R41_0 R41_1 R41_2 R41_3
    obtain ⟨MX, hMX⟩ : ∃ X, X = v41.heap.size := ⟨_, rfl⟩
    have C40 := Lib.hid c42_0
    have C41 := Lib.hid c42_1
    have CM0 : Hid (q42.cell? ⟨MX, 0, none⟩ = some (.slice Ma 4 Mc)) := by rw [hMX]; exact Lib.hid c42_6
    have CM1 : Hid (q42.cell? ⟨MX, 1, none⟩ = some (.int .i64 tA)) := by rw [hMX]; exact Lib.hid c42_7
    have hMl : MX < q42.heap.size := by omega
    have hX4l : X4 < q42.heap.size := by omega
    have b4 : hi4 ≤ q42.heap.size := by omega
    have bM : v41.heap.size ≤ q42.heap.size := by omega
    have b1q : w1.heap.size ≤ q42.heap.size := by omega
    rw [← hMX]
    have hcm := CM1.out
    have hc4 := C41.out
    have hcm0 := CM0.out
    clear hMX c42_0 c42_1 c42_2 c42_3 c42_4 c42_5 c42_6 c42_7 d42_3 e42_3
    have HB2 := Lib.hid (B42.out)
    go_wp2_with fail
    clear hcm hc4 hcm0
    go_loopw [12] (fun i wr => ∃ j : Nat, j ≤ k ∧ i = .int .i64 (j : Int) ∧ Hid (Below q42.heap.size q42 wr)) (fun i _ => k - (intOf i).toNat)
    case atStart => exact ⟨0, Nat.zero_le _, rfl, Below.refl _ _⟩
    case round =>
      obtain ⟨wo2, rfl⟩ : ∃ y, y = wr := ⟨_, rfl⟩
      obtain ⟨j, hj, rfl, hB⟩ := hrel
      have hsB := hB.out.size
      have HE : Hid (Below w.heap.size w wo2) := HB1.out.trans ((HB2.out.trans (hB.out.mono (by omega))).mono (by omega))
      by_cases hjk : j < k
      case neg =>
        have hge : ¬ ((j : Int) < (k : Int)) := by omega
        have dge : decide ((j : Int) < (k : Int)) = false := decide_eq_false hge
        go_wp2_with fail
        go_ret
        exact ⟨rfl, HE.out⟩
      case pos =>
      have dlt : decide ((j : Int) < (k : Int)) = true := decide_eq_true (by omega)
      by_cases h40 : j < 40
      case neg =>
        have d40 : decide ((j : Int) < 40) = false := decide_eq_false (by omega)
        go_wp2_with fail
        go_ret
        exact ⟨rfl, HE.out⟩
      case pos =>
      have d40 : decide ((j : Int) < 40) = true := decide_eq_true (by omega)
      obtain ⟨⟨x, y⟩, hxy⟩ : ∃ p, A[j]? = some p := ⟨_, List.getElem?_eq_getElem (by rw [← HM.out]; exact hjk)⟩
      obtain ⟨ga, rfl, gal, gah, cx0, cy0⟩ := row2_cells HR1.out hxy
      have hBw : Below w1.heap.size w1 wo2 := HB2.out.trans (hB.out.mono (by omega))
      have HBW := Lib.hid hBw
      have dx : wo2.cell? ⟨ga, j * 2, none⟩ = some (.int .i64 x) := by rw [hBw.cell (p := ⟨ga, j * 2, none⟩) gah]; exact cx0
      have hkx : keyB x = true := (HOK.out (x, y) (List.mem_of_getElem? hxy)).1
      have HKX := Lib.hid hkx
      have hgw : ga < wo2.heap.size := by omega
      have j0 : (0 : Int) ≤ (j : Int) := by omega
      have j1 : (j : Int) < (k : Int) := by omega
      clear cx0 cy0 hxy hBw hkx
      go_upto_region 24 with fail
      go_wp2_with fail
      go_loop [14, 15] (fun s i => ∃ (p : Nat) (tr : Int), p ≤ k ∧ i = .int .i64 (p : Int) ∧ s = .int .i64 tr ∧ 0 ≤ tr ∧ tr ≤ 301000000 ∧ Hid (tr = truth x (A.take p))) (fun _ i => k - (intOf i).toNat)
      case atStart => exact ⟨0, 0, Nat.zero_le _, rfl, rfl, by omega, by omega, Lib.hid rfl⟩
      case round =>
        obtain ⟨p, tr, hp, rfl, rfl, tr0, tr1, hTr⟩ := hrel
        by_cases hpk : p < k
        case pos =>
          obtain ⟨⟨x2, y2⟩, hxy2⟩ : ∃ p', A[p]? = some p' := ⟨_, List.getElem?_eq_getElem (by rw [← HM.out]; exact hpk)⟩
          obtain ⟨ga2, eg, _, _, cx2, cy2⟩ := row2_cells HR1.out hxy2
          obtain rfl : ga = ga2 := by simpa using eg
          have dx2 : wo2.cell? ⟨ga, p * 2, none⟩ = some (.int .i64 x2) := by rw [HBW.out.cell (p := ⟨ga, p * 2, none⟩) gah]; exact cx2
          have dy2 : wo2.cell? ⟨ga, p * 2 + 1, none⟩ = some (.int .i64 y2) := by rw [HBW.out.cell (p := ⟨ga, p * 2 + 1, none⟩) gah]; exact cy2
          have hnx : truth x (A.take (p + 1)) = tr + if x2 = x then y2 else 0 := by rw [take_ad hxy2, truth_app, ← hTr.out]
          have hbn := truth_in (adsOk_take HOK.out (p + 1)) x
          have hbt := shT_in (adsOk_take HOK.out (p + 1))
          have hbl : ((A.take (p + 1)).length : Int) ≤ 301 := by rw [List.length_take]; have := HM.out; omega
          have p0 : (0 : Int) ≤ (p : Int) := by omega
          have p1 : (p : Int) < (k : Int) := by omega
          by_cases heq : x2 = x
          · rw [if_pos heq] at hnx
            have n0 : 0 ≤ tr + y2 := by omega
            have n1 : tr + y2 ≤ 301000000 := by omega
            have HN : Hid (tr + y2 = truth x (A.take (p + 1))) := hnx.symm
            have deq : (x2 == x) = true := by simp [heq]
            clear hnx hbn hbt hbl cx2 cy2 hxy2 eg hTr heq
            go_wp2_with fail
            go_round
            case rel => exact ⟨p + 1, _, by omega, by go_num, rfl, n0, n1, HN⟩
            case measure => simp [intOf]; omega
          · rw [if_neg heq, Int.add_zero] at hnx
            have HN : Hid (tr = truth x (A.take (p + 1))) := hnx.symm
            have deq : (x2 == x) = false := by simp [heq]
            clear hnx hbn hbt hbl cx2 cy2 hxy2 eg hTr
            go_wp2_with fail
            go_round
            case rel => exact ⟨p + 1, _, by omega, by go_num, rfl, tr0, tr1, HN⟩
            case measure => simp [intOf]; omega
        case neg =>
          obtain rfl : p = k := by omega
          have hge : ¬ ((p : Int) < (p : Int)) := by omega
          have ht : A.take p = A := List.take_of_length_le (by rw [← HM.out]; exact Nat.le_refl _)
          rw [ht] at hTr
          have hes := HES.out x HKX.out
          rw [← hTr.out] at hes
          obtain ⟨E, hE⟩ : ∃ E, E = estV tA DA x := ⟨_, rfl⟩
          rw [← hE] at hes
          have HEE := Lib.hid hE
          have dE1 : decide (E < tr) = false := decide_eq_false (by omega)
          have dE2 : decide (E > tA) = false := decide_eq_false (by omega)
          have dE3 : decide (tA < E) = false := decide_eq_false (by omega)
          have c40 : wo2.cell? ⟨X4, 0, none⟩ = some (.slice a4 4 c4) := by rw [hB.out.cell (p := ⟨X4, 0, none⟩) hX4l]; exact C40.out
          have c41 : wo2.cell? ⟨X4, 1, none⟩ = some (.int .i64 tA) := by rw [hB.out.cell (p := ⟨X4, 1, none⟩) hX4l]; exact C41.out
          have cm0 : wo2.cell? ⟨MX, 0, none⟩ = some (.slice Ma 4 Mc) := by rw [hB.out.cell (p := ⟨MX, 0, none⟩) hMl]; exact CM0.out
          have cm1 : wo2.cell? ⟨MX, 1, none⟩ = some (.int .i64 tA) := by rw [hB.out.cell (p := ⟨MX, 1, none⟩) hMl]; exact CM1.out
          have RA : Hid (KRow wo2 lo4 hi4 (.slice a4 4 c4) 4 DA) := R42_0.out.below hB.out b4
          have RM : Hid (KRow wo2 (wr.heap.size) (v41.heap.size) (.slice Ma 4 Mc) 4 DA) := R42_3.out.below hB.out bM
          have hx4o : X4 < wo2.heap.size := by omega
          have hMo : MX < wo2.heap.size := by omega
          clear hes hE dx ht hTr
          go_wp2_with fail
          go_at_call 20
          refine (iest_any _ _ 4 _ tA DA _ RA.out (by first | omega | (simp; done) | (simp; omega)) i4 x).mono ?_
          rw [← HEE.out]
          rintro e v61 ⟨rfl, hb61⟩
          have sz61 : wo2.heap.size ≤ v61.heap.size := hb61.size
          have st61 : Below wo2.heap.size wo2 v61 := hb61
          have c61_0 : v61.cell? ⟨X4, 0, none⟩ = some (.slice a4 4 c4) := by rw [(bcell st61).1 _ _ (by omega)]; exact c40
          have c61_1 : v61.cell? ⟨X4, 1, none⟩ = some (.int .i64 tA) := by rw [(bcell st61).1 _ _ (by omega)]; exact c41
          have c61_2 : v61.cell? ⟨MX, 0, none⟩ = some (.slice Ma 4 Mc) := by rw [(bcell st61).1 _ _ (by omega)]; exact cm0
          have c61_3 : v61.cell? ⟨MX, 1, none⟩ = some (.int .i64 tA) := by rw [(bcell st61).1 _ _ (by omega)]; exact cm1
          have B61 : Hid (Below q42.heap.size q42 v61) := hB.out.trans (st61.mono (by omega))
          have R61_0 : Hid (KRow v61 (lo4) (hi4) (.slice a4 4 c4) 4 DA) := RA.out.below st61 (by omega)
          have R61_1 : Hid (KRow v61 (wr.heap.size) (v41.heap.size) (.slice Ma 4 Mc) 4 DA) := RM.out.below st61 (by omega)
          clear c40 c41 cm0 cm1 hB st61 RA RM hb61
          go_wp2_with fail
          go_at_call 20
          refine (iest_any _ _ 4 _ tA DA _ R61_1.out (by first | omega | (simp; done) | (simp; omega)) i4 x).mono ?_
          rw [← HEE.out]
          rintro e v62 ⟨rfl, hb62⟩
          have sz62 : v61.heap.size ≤ v62.heap.size := hb62.size
          have st62 : Below v61.heap.size v61 v62 := hb62
          have c62_0 : v62.cell? ⟨X4, 0, none⟩ = some (.slice a4 4 c4) := by rw [(bcell st62).1 _ _ (by omega)]; exact c61_0
          have c62_1 : v62.cell? ⟨X4, 1, none⟩ = some (.int .i64 tA) := by rw [(bcell st62).1 _ _ (by omega)]; exact c61_1
          have c62_2 : v62.cell? ⟨MX, 0, none⟩ = some (.slice Ma 4 Mc) := by rw [(bcell st62).1 _ _ (by omega)]; exact c61_2
          have c62_3 : v62.cell? ⟨MX, 1, none⟩ = some (.int .i64 tA) := by rw [(bcell st62).1 _ _ (by omega)]; exact c61_3
          have B62 : Hid (Below q42.heap.size q42 v62) := B61.out.trans (st62.mono (by omega))
          have R62_0 : Hid (KRow v62 (lo4) (hi4) (.slice a4 4 c4) 4 DA) := R61_0.out.below st62 (by omega)
          have R62_1 : Hid (KRow v62 (wr.heap.size) (v41.heap.size) (.slice Ma 4 Mc) 4 DA) := R61_1.out.below st62 (by omega)
          clear c61_0 c61_1 c61_2 c61_3 B61 st62 R61_0 R61_1 hb62
          go_wp2_with fail
          go_at_call 21
          refine (sest_any _ _ 4 _ tA DA _ R62_0.out (by first | omega | (simp; done) | (simp; omega)) i4 x).mono ?_
          rw [← HEE.out]
          rintro e v63 ⟨rfl, hb63⟩
          have sz63 : v62.heap.size ≤ v63.heap.size := hb63.size
          have st63 : Below v62.heap.size v62 v63 := hb63
          have c63_0 : v63.cell? ⟨X4, 0, none⟩ = some (.slice a4 4 c4) := by rw [(bcell st63).1 _ _ (by omega)]; exact c62_0
          have c63_1 : v63.cell? ⟨X4, 1, none⟩ = some (.int .i64 tA) := by rw [(bcell st63).1 _ _ (by omega)]; exact c62_1
          have c63_2 : v63.cell? ⟨MX, 0, none⟩ = some (.slice Ma 4 Mc) := by rw [(bcell st63).1 _ _ (by omega)]; exact c62_2
          have c63_3 : v63.cell? ⟨MX, 1, none⟩ = some (.int .i64 tA) := by rw [(bcell st63).1 _ _ (by omega)]; exact c62_3
          have B63 : Hid (Below q42.heap.size q42 v63) := B62.out.trans (st63.mono (by omega))
          have R63_0 : Hid (KRow v63 (lo4) (hi4) (.slice a4 4 c4) 4 DA) := R62_0.out.below st63 (by omega)
          have R63_1 : Hid (KRow v63 (wr.heap.size) (v41.heap.size) (.slice Ma 4 Mc) 4 DA) := R62_1.out.below st63 (by omega)
          clear c62_0 c62_1 c62_2 c62_3 B62 st63 R62_0 R62_1 hb63
          have HBN := Lib.hid B63.out
          clear c63_0 c63_1 c63_2 c63_3
          go_wp2_with fail
          go_roundw
          case rel => exact ⟨j + 1, by omega, by go_num, HBN⟩
          case measure => simp [intOf]; omega

end Go.Proofs.Ytophppnllkadoaa
