/- Two sketches added up. -/
import Derived.Test.YtophppnllkadoaaK12
namespace Go.Proofs.Ytophppnllkadoaa
open Go.RowKit


set_option maxRecDepth 100000 in
set_option maxHeartbeats 4000000 in
theorem iadd2_any (P c0 c1 la ha lb hb : Nat) (a0 a1 : Option Addr) (ta tb : Int) (fa fb : Nat → Nat → Int) (w : World) (hP : P < w.heap.size)
    (p0 : w.cell? ⟨P, 0, none⟩ = some (.slice a0 4 c0)) (p1 : w.cell? ⟨P, 1, none⟩ = some (.int .i64 ta)) (p2 : w.cell? ⟨P, 2, none⟩ = some (.slice a1 4 c1)) (p3 : w.cell? ⟨P, 3, none⟩ = some (.int .i64 tb))
    (hra : KRow w la ha (.slice a0 4 c0) 4 (mat fa)) (hrb : KRow w lb hb (.slice a1 4 c1) 4 (mat fb)) (hha : ha ≤ w.heap.size) (hhb : hb ≤ w.heap.size)
    (hta : 0 ≤ ta ∧ ta ≤ 1000000000000) (htb : 0 ≤ tb ∧ tb ≤ 1000000000000) (hfa : ∀ i j, 0 ≤ fa i j ∧ fa i j ≤ 1000000000000) (hfb : ∀ i j, 0 ≤ fb i j ∧ fb i j ≤ 1000000000000) :
    Calls Try.prog 53 #[.slice (some ⟨P, 0, none⟩) 2 2] w fun e w' => ∃ rv, e = .returned (.agg #[rv, .int .i64 (ta + tb)]) ∧ KRow w' w.heap.size w'.heap.size rv 4 (mat fun i j => fa i j + fb i j) ∧ Below w.heap.size w w' := by
  obtain ⟨tt, htt⟩ : ∃ tt : Nat → Int, tt = fun q => if q = 0 then 0 else if q = 1 then ta else ta + tb := ⟨_, rfl⟩
  obtain ⟨FF, hFF⟩ : ∃ FF : Nat → Nat → Nat → Int, FF = fun q i j => if q = 0 then 0 else if q = 1 then fa i j else fa i j + fb i j := ⟨_, rfl⟩
  have HQ : Hid (∀ q, q < 2 → ∃ (a : Option Addr) (c lo hi : Nat) (t : Int) (f : Nat → Nat → Int), w.cell? ⟨P, q * 2, none⟩ = some (.slice a 4 c) ∧ w.cell? ⟨P, q * 2 + 1, none⟩ = some (.int .i64 t) ∧ KRow w lo hi (.slice a 4 c) 4 (mat f) ∧ hi ≤ w.heap.size ∧ 0 ≤ t ∧ t ≤ 1000000000000 ∧ (∀ i j, 0 ≤ f i j ∧ f i j ≤ 1000000000000) ∧ tt (q + 1) = tt q + t ∧ (∀ i j, FF (q + 1) i j = FF q i j + f i j) ∧ 0 ≤ tt q ∧ tt q ≤ 1000000000000 ∧ ∀ i j, 0 ≤ FF q i j ∧ FF q i j ≤ 1000000000000) := by
    intro q hq
    match q, hq with
    | 0, _ => exact ⟨a0, c0, la, ha, ta, fa, p0, p1, hra, hha, hta.1, hta.2, hfa, by simp [htt], by simp [hFF], by simp [htt], by simp [htt], by simp [hFF]⟩
    | 1, _ => exact ⟨a1, c1, lb, hb, tb, fb, p2, p3, hrb, hhb, htb.1, htb.2, hfb, by simp [htt], by simp [hFF], by simp [htt, hta.1], by simp [htt, hta.2], by simpa [hFF] using hfa⟩
  have HE : Hid (tt 2 = ta + tb ∧ ∀ i j, FF 2 i j = fa i j + fb i j) := Lib.hid ⟨by simp [htt], by simp [hFF]⟩
  have HS0 : Hid (tt 0 = 0 ∧ ∀ i j, FF 0 i j = 0) := Lib.hid ⟨by simp [htt], by simp [hFF]⟩
  clear p0 p1 p2 p3 hra hrb hta htb hfa hfb htt hFF
  obtain ⟨iI, hi0, hz0, hz1, hz2⟩ := info_parts Try.info41k
  have I := Lib.hid (And.intro hi0 (And.intro hz0 (And.intro hz1 hz2)))
  clear hi0 hz0 hz1 hz2
  have hmk : ∀ w : World, (Instr.makeSlice 41 (.int .i64 16) (.int .i64 16)).run Try.prog w = .ok (.slice (some ⟨w.heap.size, 0, none⟩) 16 16) (w.alloc (.cells (Array.replicate 16 (.int .i64 0)) 3)) := fun _ => by kernel_rfl
  go_enter Try.func53, Try.ntmps53
  go_wp2_with fail
  obtain ⟨w3, hw3⟩ : ∃ w3, w3 = (w.alloc (.cells #[.slice none 0 0, .int .i64 0] 28)).alloc (.cells #[.slice none 0 0, .int .i64 0] 28) := ⟨_, rfl⟩
  rw [← hw3]
  have y0 : w3.cell? ⟨w.heap.size + 1, 0, none⟩ = some (.slice none 0 0) := by rw [hw3]; simp [go_sem]
  have y1 : w3.cell? ⟨w.heap.size + 1, 1, none⟩ = some (.int .i64 0) := by rw [hw3]; simp [go_sem]
  have y2 : ∀ o, w3.frozen? ⟨w.heap.size + 1, o, none⟩ = false := fun o => by rw [hw3]; simp [go_sem]
  have HR0 : Hid (w3.cell? ⟨w.heap.size, 0, none⟩ = some (.slice none 0 0)) := by rw [hw3]; show _ = _; simp [go_sem]
  have HR1 : Hid (w3.cell? ⟨w.heap.size, 1, none⟩ = some (.int .i64 0)) := by rw [hw3]; show _ = _; simp [go_sem]
  have HRf : Hid (∀ o, w3.frozen? ⟨w.heap.size, o, none⟩ = false) := Lib.hid fun o => by rw [hw3]; simp [go_sem]
  have HB : Hid (Below w.heap.size w w3) := by rw [hw3]; show Below _ _ _; go_grown
  have hs3 : w3.heap.size = w.heap.size + 1 + 1 := by rw [hw3]; simp
  clear hw3
  obtain ⟨X, hX⟩ : ∃ X, X = w.heap.size + 1 := ⟨_, rfl⟩
  rw [← hX] at y0 y1 y2 ⊢
  have n2 : w.heap.size < X := by omega
  have n3 : w.heap.size ≠ X := by omega
  have n4 : X < w3.heap.size := by omega
  have n5 : w.heap.size < X := by omega
  clear hX
  have HO : Hid (OutK w3 w3 X 0 (List.replicate 0 Z16)) := OutK.start n4 y2 y0 y1
  clear hs3 y0 y1 y2
  go_loopw [10] (fun i wr => ∃ k : Nat, k ≤ 4 ∧ i = .int .i64 (k : Int) ∧ Hid (OutK w3 wr X 0 (List.replicate k Z16))) (fun i _ => 4 - (intOf i).toNat)
  case atStart => exact ⟨0, Nat.zero_le _, rfl, HO⟩
  case round =>
    obtain ⟨k, hk, rfl, hR⟩ := hrel
    have hBw : Below w.heap.size w wr := HB.out.trans (hR.out.1.mono (by omega))
    have hXl := hR.out.size
    have hsz := hBw.size
    by_cases hlt : k < 4
    case neg =>
      obtain rfl : k = 4 := by omega
      have hO : OutK w3 wr X 0 (mat fun _ _ => 0) := by rw [← zero_mat]; exact hR.out
      obtain ⟨G, cG, hG1, hG2, hbox⟩ := hO.box
      obtain ⟨H, hH⟩ : ∃ H, H = wr.heap.size := ⟨_, rfl⟩
      rw [← hH] at hG2 hbox
      have hwX : w.heap.size ≤ X := by omega
      have Hsz3 := HB.out.size
      have HBX0 : Hid (BoxM w3 wr X H (some ⟨G, 0, none⟩) cG (tt 0) (FF 0)) := Lib.hid (by rw [HS0.out.1]; exact hbox.congr fun i j _ _ => (HS0.out.2 i j).symm)
      clear hO hbox hH hBw hR hsz hXl HO HS0
      go_wp2_with fail
      go_loopw [21] (fun i wq => ∃ q : Nat, q ≤ 2 ∧ i = .int .i64 (q : Int) ∧ Hid (BoxM w3 wq X H (some ⟨G, 0, none⟩) cG (tt q) (FF q))) (fun i _ => 2 - (intOf i).toNat)
      case atStart => exact ⟨0, Nat.zero_le _, rfl, HBX0⟩
      case round =>
        clear HBX0
        obtain ⟨q, hq, rfl, hBX⟩ := hrel
        have hXs := hBX.out.size
        have hHs := hBX.out.hi
        have hsz : w.heap.size < wr.heap.size := by omega
        by_cases hlt : q < 2
        case neg =>
          obtain rfl : q = 2 := by omega
          have hbx := hBX.out
          have hc0 := hbx.c0
          have hc1 := hbx.c1
          have b0 := hbx.keep n2 HR0.out
          have b1 := hbx.keep n2 HR1.out
          have bf0 := hbx.keepf n2 (HRf.out 0)
          have bf1 := hbx.keepf n2 (HRf.out 1)
          have HBw : Hid (Below w.heap.size w wr) := HB.out.trans (hbx.below.mono (by omega))
          obtain ⟨T, hT⟩ : ∃ T, T = tt 2 := ⟨_, rfl⟩
          rw [← hT] at hc1
          have HTT := Lib.hid hT
          obtain ⟨wz, hwz⟩ : ∃ wz, wz = (wr.setCell ⟨w.heap.size, 0, none⟩ (.slice (some ⟨G, 0, none⟩) 4 cG)).setCell ⟨w.heap.size, 1, none⟩ (.int .i64 T) := ⟨_, rfl⟩
          have r0 : wz.cell? ⟨w.heap.size, 0, none⟩ = some (.slice (some ⟨G, 0, none⟩) 4 cG) := by rw [hwz, World.cell?_setCell_other _ _ _ _ (by simp)]; exact World.cell?_setCell_same' _ _ _ (by rw [b0]; rfl)
          have r1 : wz.cell? ⟨w.heap.size, 1, none⟩ = some (.int .i64 T) := by rw [hwz]; exact World.cell?_setCell_same' _ _ _ (by rw [World.cell?_setCell_other _ _ _ _ (by simp), b1]; rfl)
          have Hrow2 : Hid (KRow wz w.heap.size wz.heap.size (.slice (some ⟨G, 0, none⟩) 4 cG) 4 (mat fun i j => fa i j + fb i j)) := by
            show KRow _ _ _ _ _ _
            rw [hwz, ← mat_congr (fun i j _ _ => HE.out.2 i j)]
            exact ((hbx.row.setCell (p := ⟨w.heap.size, 0, none⟩) (.inl (by show w.heap.size < X + 1; omega)) _).setCell (p := ⟨w.heap.size, 1, none⟩) (.inl (by show w.heap.size < X + 1; omega)) _).wide (by omega) (by simp [World.setCell]; omega)
          have HB2 : Hid (Below w.heap.size w wz) := by rw [hwz]; exact (HBw.out.setCell (by show _ ≤ w.heap.size; omega) _).setCell (by show _ ≤ w.heap.size; omega) _
          subst hwz
          have hge : ¬ (((2 : Nat) : Int) < 2) := by omega
          clear hbx hBX hT
          go_wp2_with fail
          refine bodyPost_ret (v := .agg #[.slice (some ⟨G, 0, none⟩) 4 cG, .int .i64 T]) (by simp [results, Try.results53, go_sem, r0, r1]) rfl ⟨_, by rw [HTT.out, HE.out.1], ?_, ?_⟩
          · exact Hrow2.out
          · exact HB2.out
        case pos =>
        obtain ⟨a, c, lo, hi, t, f, e0, e1, hsrc, hhi, ht0, ht1, hf, htt, hFF, hT0, hT1, hFb⟩ := HQ.out q hlt
        have b3 : Below w.heap.size w wr := HB.out.trans (hBX.out.below.mono (by omega))
        have d0 : wr.cell? ⟨P, q * 2, none⟩ = some (.slice a 4 c) := by rw [b3.cell (p := ⟨P, q * 2, none⟩) hP]; exact e0
        have d1 : wr.cell? ⟨P, q * 2 + 1, none⟩ = some (.int .i64 t) := by rw [b3.cell (p := ⟨P, q * 2 + 1, none⟩) hP]; exact e1
        have HSrc : Hid (KRow w3 lo hi (.slice a 4 c) 4 (mat f)) := hsrc.below HB.out hhi
        obtain ⟨GS, _, _, ea, _, hGS, _, _⟩ := HSrc.out.cell (mat_at f (i := 0) (by decide))
        subst ea
        have HF := Lib.hid hf
        have hGX : GS < X := by omega
        have hhX : hi ≤ X := by omega
        have HFb := Lib.hid hFb
        have HFF := Lib.hid hFF
        obtain ⟨T, hT⟩ : ∃ T, T = tt q := ⟨_, rfl⟩
        rw [← hT] at hBX htt hT0 hT1
        have HTT := Lib.hid htt
        have x0 := hBX.out.c0
        have x1 := hBX.out.c1
        have xf1 := hBX.out.frz 1
        have q0 : (0 : Int) ≤ (q : Int) := by omega
        have q1 : (q : Int) < 2 := by omega
        have hPw : P < wr.heap.size := by omega
        have hs1 : -9223372036854775808 ≤ T + t := by omega
        have hs2 : T + t ≤ 9223372036854775807 := by omega
        obtain ⟨wb, hwb⟩ : ∃ wb, wb = (wr.setCell ⟨X, 1, none⟩ (.int .i64 (T + t))).alloc (.cells #[.slice (some ⟨GS, 0, none⟩) 4 c, .int .i64 t] 28) := ⟨_, rfl⟩
        have HBX2 : Hid (BoxM w3 wb X H (some ⟨G, 0, none⟩) cG (T + t) (gp (FF q) f 0)) := by
          show BoxM _ _ _ _ _ _ _ _
          rw [hwb, gp_zero]
          exact (hBX.out.tot (T + t)).grow ((Below.refl _ _).alloc (Nat.le_refl _) _)
        clear e0 e1 hsrc hf hFb hFF htt hT hBX b3
        go_wp2_with fail
        rw [← hwb]
        clear hwb x0 x1 xf1 d0 d1
        go_loopw [34] (fun i wq => ∃ r : Nat, r ≤ 4 ∧ i = .int .i64 (r : Int) ∧ Hid (BoxM w3 wq X H (some ⟨G, 0, none⟩) cG (T + t) (gp (FF q) f (16 * r)))) (fun i _ => 4 - (intOf i).toNat)
        case atStart => exact ⟨0, Nat.zero_le _, rfl, HBX2⟩
        case round =>
          clear HBX2
          obtain ⟨r, hr, rfl, hBY⟩ := hrel
          by_cases hlr : r < 4
          case neg =>
            obtain rfl : r = 4 := by omega
            have hge : ¬ (((4 : Nat) : Int) < 4) := by omega
            have HN : Hid (BoxM w3 wr X H (some ⟨G, 0, none⟩) cG (tt (q + 1)) (FF (q + 1))) := by
              show BoxM _ _ _ _ _ _ _ _
              rw [HTT.out]
              exact hBY.out.congr fun i j hi hj => (gp_all _ _ i j hi hj).trans (HFF.out i j).symm
            clear hBY
            go_wp2_with fail
            go_roundw
            case rel => exact ⟨q + 1, by omega, by go_num, HN⟩
            case measure => simp [intOf]; omega
          case pos =>
          obtain ⟨GS2, sx, sy, ea, _, _, s0, srow⟩ := HSrc.out.cell (mat_at f hlr)
          obtain rfl : GS = GS2 := by simpa using ea
          rw [mrow_len] at s0 srow
          obtain ⟨gs, es, _, hgs, _⟩ := row1_cell srow (mrow_at f r (j := 0) (by decide))
          subst es
          have HSR : Hid (∀ j, j < 16 → w3.cell? ⟨gs, j, none⟩ = some (.int .i64 (f r j))) := Lib.hid fun j hj => by
            obtain ⟨g2, e2, _, _, h2⟩ := row1_cell srow (mrow_at f r hj)
            obtain rfl : gs = g2 := by simpa using e2
            exact h2
          have hgX : gs < X := by omega
          have k1 := hBY.out.keep hGX s0
          have r0 : (0 : Int) ≤ (r : Int) := by omega
          have r1 : (r : Int) < 4 := by omega
          have HBY0 : Hid (BoxM w3 wr X H (some ⟨G, 0, none⟩) cG (T + t) (gp (FF q) f (16 * r + 0))) := hBY
          clear srow s0 hBY ea
          go_wp2_with fail
          go_loopw [41] (fun i wq => ∃ c : Nat, c ≤ 16 ∧ i = .int .i64 (c : Int) ∧ Hid (BoxM w3 wq X H (some ⟨G, 0, none⟩) cG (T + t) (gp (FF q) f (16 * r + c)))) (fun i _ => 16 - (intOf i).toNat)
          case atStart => exact ⟨0, Nat.zero_le _, rfl, HBY0⟩
          case round =>
            clear HBY0 k1
            obtain ⟨cc, hcc, rfl, hBZ⟩ := hrel
            by_cases hlc : cc < 16
            case neg =>
              obtain rfl : cc = 16 := by omega
              have hge : ¬ (((16 : Nat) : Int) < 16) := by omega
              have HN : Hid (BoxM w3 wr X H (some ⟨G, 0, none⟩) cG (T + t) (gp (FF q) f (16 * (r + 1)))) := by
                show BoxM _ _ _ _ _ _ _ _
                rw [Nat.mul_succ]
                exact hBZ.out
              clear hBZ
              go_wp2_with fail
              go_roundw
              case rel => exact ⟨r + 1, by omega, by go_num, HN⟩
              case measure => simp [intOf]; omega
            case pos =>
            have z0 := hBZ.out.keep hgX (HSR.out cc hlc)
            obtain ⟨G2, ty, g, eG, hg1, hg2, hg3, hg4, t0, t1, tf, hput⟩ := hBZ.out.put hlr hlc
            obtain rfl : G = G2 := by simpa using eG
            rw [gp_here] at t1
            have x0 := hBZ.out.c0
            have hHs := hBZ.out.hi
            have hb1 := HFb.out r cc
            have hb2 := HF.out r cc
            obtain ⟨za, hza⟩ : ∃ z, z = FF q r cc := ⟨_, rfl⟩
            obtain ⟨zb, hzb⟩ : ∃ z, z = f r cc := ⟨_, rfl⟩
            rw [← hzb] at z0 hb2
            rw [← hza] at t1 hb1
            have HN : Hid (BoxM w3 (wr.setCell ⟨g, cc, none⟩ (.int .i64 (za + zb))) X H (some ⟨G, 0, none⟩) cG (T + t) (gp (FF q) f (16 * r + (cc + 1)))) :=
              (hput (za + zb)).congr (gp_step (FF q) f hlc (by rw [hza, hzb]))
            have hs1 : -9223372036854775808 ≤ za + zb := by omega
            have hs2 : za + zb ≤ 9223372036854775807 := by omega
            have c0' : (0 : Int) ≤ (cc : Int) := by omega
            have c1' : (cc : Int) < 16 := by omega
            clear hput hBZ hza hzb hb1 hb2 eG
            go_wp2_with fail
            go_roundw
            case rel => exact ⟨cc + 1, by omega, by go_num, HN⟩
            case measure => simp [intOf]; omega
    case pos =>
    have q0 : (0 : Int) ≤ (k : Int) := by omega
    have q1 : (k : Int) < 4 := by omega
    obtain ⟨rv, vs, bs, hrv, hst⟩ := hR.out.2.2.2.2
    obtain ⟨ra, rc, hra⟩ := own_slice hst.row
    subst hra
    have hfX := hR.out.2.2.1 0
    have HN := Lib.hid (rep_snoc k)
    rw [List.length_replicate] at hrv hst
    have KS := Lib.hid hst
    have HW : Hid (wr.ownsRow (X + 1) 41 1 (.slice ra k rc) k ((List.range k).map vs)) := by
      have hh := hst.row
      rw [List.length_replicate] at hh
      exact hh
    have hXq : X < wr.heap.size := by omega
    clear hst hBw
    have HLk : Hid ((List.replicate k Z16).length = k) := Lib.hid (by simp)
    go_wp2_with fail
    go_region_law ((refine step_append_lies _ rfl _ _ 26 rfl (X + 1) 41 iI (.slice none 0 0) 1 24 Try.underlying26 I.out.1 I.out.2.1 I.out.2.2.1 I.out.2.2.2 rfl (by decide) _ k ((List.range k).map vs) rfl ((HW.out.drew.alloc _).alloc _) ⟨wr.heap.size + 1, 0, none⟩ 1 1 [.slice (some ⟨wr.heap.size, 0, none⟩) 16 16] rfl rfl (fun j u hj => cell_one_new _ _ _ (by simp) j u hj) (slice_one _ _ _) (by decide) (by unfold maxLen; omega) (by omega) (by simp; omega) _ rfl ?_; intro g4 cap4 w4 hown4 hgrow4 hat4 hlt4; obtain ⟨⟨uu, hc4⟩, hf4, hF4⟩ := OutK.app (w2 := wr.drew.alloc (.cells (Array.replicate 16 (.int .i64 0)) 3)) hR.out.drew KS.out.drew ((Below.refl _ _).alloc (Nat.le_refl _) _) (row_made _) ((Below.refl _ _).alloc (Nat.le_refl _) _) hgrow4 rfl (hat4.imp id (fun e => by rw [e]; simp)) HLk.out.symm hown4; have HF := Lib.hid hF4; clear hF4 hown4 hgrow4 hat4 hlt4))
    all_goals
      go_wp2_with fail
      go_roundw
      case rel => exact ⟨k + 1, by omega, by go_num, by rw [HN.out]; exact HF.out⟩
      case measure => simp [intOf]; omega

end Go.Proofs.Ytophppnllkadoaa
