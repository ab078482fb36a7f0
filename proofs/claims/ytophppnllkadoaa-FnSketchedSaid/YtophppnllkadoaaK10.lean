/- A sketch copied by the program. -/
import Derived.Test.YtophppnllkadoaaK9
namespace Go.Proofs.Ytophppnllkadoaa
open Go.RowKit


set_option maxRecDepth 100000 in
set_option maxHeartbeats 4000000 in
theorem icpk_any (lo hi n : Nat) (v : Value) (t : Int) (D : List (List Int)) (w : World) (hr : KRow w lo hi v n D) (hh : hi ≤ w.heap.size) : Calls Try.prog 55 #[.agg #[v, .int .i64 t]] w fun e w' => ∃ rv, e = .returned (.agg #[rv, .int .i64 t]) ∧ KRow w' w.heap.size w'.heap.size rv n D ∧ Below w.heap.size w w' := by
  obtain ⟨ad, cp, rfl⟩ := hr.slice
  have hD := hr.2
  have hn := hr.len
  have HR := Lib.hid hr
  obtain ⟨iI, hi0, hz0, hz1, hz2⟩ := info_parts Try.info41k
  have I := Lib.hid (And.intro hi0 (And.intro hz0 (And.intro hz1 hz2)))
  obtain ⟨iJ, hi0', hz0', hz1', hz2'⟩ := info_parts Try.info3q
  have J := Lib.hid (And.intro hi0' (And.intro hz0' (And.intro hz1' hz2')))
  clear hi0 hz0 hz1 hz2 hi0' hz0' hz1' hz2' hr
  have HD := Lib.hid hD
  clear hD
  go_enter Try.func55, Try.ntmps55
  go_wp2_with fail
  obtain ⟨w3, hw3⟩ : ∃ w3, w3 = ((w.alloc (.cells #[.slice ad n cp, .int .i64 t] 28)).alloc (.cells #[.slice none 0 0, .int .i64 0] 28)).alloc (.cells #[.slice none 0 0, .int .i64 t] 28) := ⟨_, rfl⟩
  rw [← hw3]
  have x0 : w3.cell? ⟨w.heap.size, 0, none⟩ = some (.slice ad n cp) := by rw [hw3]; simp [go_sem]
  have X0 := Lib.hid x0
  have y0 : w3.cell? ⟨w.heap.size + 1 + 1, 0, none⟩ = some (.slice none 0 0) := by rw [hw3, new_at (by simp)]; rfl
  have y1 : w3.cell? ⟨w.heap.size + 1 + 1, 1, none⟩ = some (.int .i64 t) := by rw [hw3, new_at (by simp)]; rfl
  have y2 : ∀ o, w3.frozen? ⟨w.heap.size + 1 + 1, o, none⟩ = false := fun o => by rw [hw3, new_frz (by simp)]
  have HR0 : Hid (w3.cell? ⟨w.heap.size + 1, 0, none⟩ = some (.slice none 0 0)) := by rw [hw3]; show _ = _; simp [go_sem]
  have HR1 : Hid (w3.cell? ⟨w.heap.size + 1, 1, none⟩ = some (.int .i64 0)) := by rw [hw3]; show _ = _; simp [go_sem]
  have HRf : Hid (∀ o, w3.frozen? ⟨w.heap.size + 1, o, none⟩ = false) := Lib.hid fun o => by rw [hw3]; simp [go_sem]
  have HB : Hid (Below w.heap.size w w3) := by rw [hw3]; show Below _ _ _; go_grown
  have hs3 : w3.heap.size = w.heap.size + 1 + 1 + 1 := by rw [hw3]; simp
  clear hw3
  obtain ⟨X, hX⟩ : ∃ X, X = w.heap.size + 1 + 1 := ⟨_, rfl⟩
  obtain ⟨R, hRR⟩ : ∃ R, R = w.heap.size + 1 := ⟨_, rfl⟩
  rw [← hX] at y0 y1 y2 ⊢
  rw [← hRR] at HR0 HR1 HRf ⊢
  have n1 : w.heap.size < R := by omega
  have n2 : R < X := by omega
  have n3 : R ≠ X := by omega
  have n4 : X < w3.heap.size := by omega
  have n5 : w.heap.size < X := by omega
  clear hX hRR
  have HO : Hid (OutK w3 w3 X t (D.take 0)) := OutK.start n4 y2 y0 y1
  clear hs3 y0 y1 y2
  go_loopw [12] (fun i wr => ∃ k : Nat, k ≤ n ∧ i = .int .i64 (k : Int) ∧ Hid (OutK w3 wr X t (D.take k))) (fun i _ => n - (intOf i).toNat)
  case atStart => exact ⟨0, Nat.zero_le _, rfl, HO⟩
  case round =>
    obtain ⟨k, hk, rfl, hR⟩ := hrel
    have hBw : Below w.heap.size w wr := HB.out.trans (hR.out.1.mono (by omega))
    have hXl := hR.out.size
    have hsz := hBw.size
    have k0 : wr.cell? ⟨w.heap.size, 0, none⟩ = some (.slice ad n cp) := hR.out.keep n5 X0.out
    by_cases hlt : k < n
    case neg =>
      have hge : ¬ ((k : Int) < (n : Int)) := by omega
      obtain rfl : k = n := by omega
      rw [List.take_of_length_le (by rw [HD.out]; exact Nat.le_refl _)] at hR
      have HBw := Lib.hid hBw
      obtain ⟨ra, rc, hrv, hrow⟩ := hR.out.take (by rw [HD.out]; exact hn)
      have hrt := hR.out.2.2.2.1
      rw [HD.out] at hrv hrow
      have b0 := hR.out.keep n2 HR0.out
      have b1 := hR.out.keep n2 HR1.out
      have bf := fun o => hR.out.keepf (o := o) n2 (HRf.out o)
      have bf0 := bf 0
      have bf1 := bf 1
      obtain ⟨wz, hwz⟩ : ∃ wz, wz = (wr.setCell ⟨R, 0, none⟩ (.slice ra k rc)).setCell ⟨R, 1, none⟩ (.int .i64 t) := ⟨_, rfl⟩
      have r0 : wz.cell? ⟨R, 0, none⟩ = some (.slice ra k rc) := by rw [hwz, World.cell?_setCell_other _ _ _ _ (by simp)]; exact World.cell?_setCell_same' _ _ _ (by rw [b0]; rfl)
      have r1 : wz.cell? ⟨R, 1, none⟩ = some (.int .i64 t) := by rw [hwz]; exact World.cell?_setCell_same' _ _ _ (by rw [World.cell?_setCell_other _ _ _ _ (by simp), b1]; rfl)
      have Hrow2 : Hid (KRow wz w.heap.size wz.heap.size (.slice ra k rc) k D) := by
        show KRow _ _ _ _ _ _
        rw [hwz]
        exact ((hrow.setCell (p := ⟨R, 0, none⟩) (.inl (by show R < X + 1; omega)) _).setCell (p := ⟨R, 1, none⟩) (.inl (by show R < X + 1; omega)) _).wide (by omega) (by simp [World.setCell])
      have HB2 : Hid (Below w.heap.size w wz) := by rw [hwz]; exact (HBw.out.setCell (by show _ ≤ R; omega) _).setCell (by show _ ≤ R; omega) _
      subst hwz
      clear hBw hrow hR bf
      go_wp2_with fail
      refine bodyPost_ret (v := .agg #[.slice ra k rc, .int .i64 t]) (by simp [results, Try.results55, go_sem, r0, r1]) rfl ⟨_, rfl, ?_, ?_⟩
      · exact Hrow2.out
      · exact HB2.out
    case pos =>
    obtain ⟨l, hl⟩ : ∃ l, D[k]? = some l := ⟨_, List.getElem?_eq_getElem (by rw [HD.out]; exact hlt)⟩
    have HRw : Hid (KRow wr lo hi (.slice ad n cp) n D) := HR.out.below hBw hh
    obtain ⟨G, x, y, rfl, _, hG, d1, hrow⟩ := HRw.out.cell hl
    have HT : Hid (D.take (k + 1) = D.take k ++ [l]) := by show _ = _; rw [List.take_add_one, hl]; rfl
    have hlk : (D.take k).length = k := by rw [List.length_take, HD.out]; omega
    have hml : l.length ≤ 1100000 := by obtain ⟨_, _, _, h, _⟩ := hrow.opened; exact h
    obtain ⟨Q, hQ⟩ : ∃ Q, Q = D.take k := ⟨_, rfl⟩
    rw [← hQ] at hR HT hlk
    have HLk := Lib.hid hlk
    obtain ⟨m, hm⟩ : ∃ m, m = l.length := ⟨_, rfl⟩
    rw [← hm] at d1 hrow hml
    have HM := Lib.hid hm
    have Hrow := Lib.hid hrow
    obtain ⟨rv, vs, bs, hrv, hst⟩ := hR.out.2.2.2.2
    obtain ⟨ra, rc, hra⟩ := own_slice hst.row
    subst hra
    rw [HLk.out] at hrv hst
    have HW : Hid (wr.ownsRow (X + 1) 41 1 (.slice ra k rc) k ((List.range k).map vs)) := by
      have hh := hst.row
      rw [HLk.out] at hh
      exact hh
    have KS := Lib.hid hst
    have hfX := hR.out.2.2.1 0
    have q0 : (0 : Int) ≤ (k : Int) := by omega
    have q1 : (k : Int) < (n : Int) := by omega
    have hXq : X < wr.heap.size := by omega
    have hGq : G < wr.heap.size := by omega
    have hwq : w.heap.size < wr.heap.size := by omega
    have hhi : hi ≤ wr.heap.size := by omega
    clear hst hlk hl hQ hrow hm hBw
    go_upto_region 5 with fail
    by_cases h00 : m = 0
    case pos =>
      subst h00
      have hl0 : l = [] := List.eq_nil_of_length_eq_zero HM.out.symm
      have hrun := fun wq : World => append_zero wq 41 41 0 3 iJ 1 Try.underlying41 J.out.1 (.slice none 0 0) 0 [] (World.ownsRow_nil wq _ _ _) x y
      have HBy : Hid (Below wr.heap.size wr wr.drew) := (show Below _ _ _ from ⟨rfl, rfl, rfl, Nat.le_refl _, fun _ _ => rfl⟩)
      have Hry : Hid (Row 1 wr.drew wr.heap.size wr.drew.heap.size (.slice none 0 0) l.length l) := (show Row _ _ _ _ _ _ _ from by rw [hl0]; exact ⟨rfl, .inl ⟨rfl, none, 0, rfl⟩⟩)
      have HW2 : Hid (wr.drew.ownsRow (X + 1) 41 1 (.slice ra k rc) k ((List.range k).map vs)) := HW.out.drew
      clear hrun
      rcases x with _ | ax
      all_goals
        go_region_law ((refine step_append_lies _ rfl _ _ 26 rfl (X + 1) 41 iI (.slice none 0 0) 1 24 Try.underlying26 I.out.1 I.out.2.1 I.out.2.2.1 I.out.2.2.2 rfl (by decide) _ k ((List.range k).map vs) rfl (HW2.out.alloc _) ⟨wr.heap.size, 0, none⟩ 1 1 [.slice none 0 0] rfl rfl (fun j u hj => cell_one_new _ _ _ (by simp) j u hj) (slice_one _ _ _) (by decide) (by unfold maxLen; omega) (by omega) (by simp; omega) _ rfl ?_; intro g4 cap4 w4 hown4 hgrow4 hat4 hlt4; obtain ⟨⟨uu, hc4⟩, hf4, hF4⟩ := OutK.app (w2 := wr.drew) hR.out KS.out HBy.out Hry.out ((Below.refl _ _).alloc (Nat.le_refl _) _) hgrow4 rfl (hat4.imp id (fun e => by rw [e]; simp)) HLk.out.symm hown4; have HF := Lib.hid hF4; clear hF4 hown4 hgrow4 hat4 hlt4))
        all_goals
          go_wp2_with fail
          go_roundw
          case rel => exact ⟨k + 1, by omega, by go_num, by rw [HT.out]; exact HF.out⟩
          case measure => simp [intOf]; omega
    case neg =>
      have h0 : 0 < m := by omega
      obtain ⟨_, _, e, _, hcc⟩ := Hrow.out.opened
      obtain ⟨g, e2, hg, hcell⟩ := hcc h0
      simp only [Value.slice.injEq] at e
      obtain ⟨e1, em, ey⟩ := e
      rw [← e1] at e2
      subst e2
      have Hcell : Hid (∀ (j : Nat) u, (ints l)[j]? = some u → wr.drew.cell? ⟨g, j, none⟩ = some u) := Lib.hid fun j u hj => by
        unfold ints at hj
        rw [List.getElem?_map] at hj
        cases hz : l[j]? with
        | none => rw [hz] at hj; cases hj
        | some z => rw [hz] at hj; exact (hcell j z hz).trans hj
      clear hcell hcc e1 em ey
      go_region_law (first | (refine step_append_lies _ rfl _ _ 26 rfl (X + 1) 41 iI (.slice none 0 0) 1 24 Try.underlying26 I.out.1 I.out.2.1 I.out.2.2.1 I.out.2.2.2 rfl (by decide) _ k ((List.range k).map vs) rfl (HW2.out.alloc _) ⟨wy.heap.size, 0, none⟩ 1 1 [.slice ya m yc] rfl rfl (fun j u hj => cell_one_new _ _ _ (by simp) j u hj) (slice_one _ _ _) (by decide) (by unfold maxLen; omega) (by omega) (by simp; omega) _ rfl ?_; intro g4 cap4 w4 hown4 hgrow4 hat4 hlt4; obtain ⟨⟨uu, hc4⟩, hf4, hF4⟩ := OutK.app (w2 := wy) hR.out KS.out HBy.out Hry.out ((Below.refl _ _).alloc (Nat.le_refl _) _) hgrow4 rfl (hat4.imp id (fun e => by rw [e]; simp)) HLk.out.symm hown4; have HF := Lib.hid hF4; clear hF4 hown4 hgrow4 hat4 hlt4) | (refine step_append_lies _ rfl _ _ 41 rfl wr.heap.size 3 iJ (.int .i64 0) 1 8 Try.underlying41 J.out.1 J.out.2.1 J.out.2.2.1 J.out.2.2.2 rfl (by decide) (.slice none 0 0) 0 [] rfl (World.ownsRow_nil _ _ _ _) ⟨g, 0, none⟩ m y (ints l) rfl (by rw [ints_len, Nat.mul_one]; exact HM.out.symm) (fun j u hj => by rw [add_none]; exact Hcell.out j u hj) (ints_one _) h0 (by unfold maxLen; omega) (by omega) (Nat.le_refl _) _ rfl ?_; intro g5 yc wy hown5 hgrow5 hat5 hlt5; have HBy : Hid (Below wr.heap.size wr wy) := (show Below _ _ _ from ⟨hgrow5.os, hgrow5.tape, hgrow5.output, hgrow5.size, fun k hk => hgrow5.block k hk (by simp [Value.ownBlock])⟩); obtain ⟨ya, hya⟩ : ∃ ya, ya = (some ⟨g5, 0, none⟩ : Option Addr) := ⟨_, rfl⟩; rw [Nat.zero_add] at hown5 ⊢; rw [← hya] at hown5 ⊢; have Hry : Hid (Row 1 wy wr.heap.size wy.heap.size (.slice ya m yc) l.length l) := (by have hh := row_of_own hown5 hml; rw [← HM.out]; exact hh); have HW2 : Hid (wy.ownsRow (X + 1) 41 1 (.slice ra k rc) k ((List.range k).map vs)) := (by have hh := (KS.out.grow HBy.out).row; rw [HLk.out] at hh; exact hh); have hzy := HBy.out.size; have hXy : X < wy.heap.size := (by omega); have hcy : wy.cell? ⟨X, 0, none⟩ = some (.slice ra k rc) := (by rw [HBy.out.cell (p := ⟨X, 0, none⟩) hXq]; exact hrv); clear hown5 hgrow5 hat5 hlt5 hya) | fail)
      all_goals
        go_wp2_with fail
        go_roundw
        case rel => exact ⟨k + 1, by omega, by go_num, by rw [HT.out]; exact HF.out⟩
        case measure => simp [intOf]; omega

end Go.Proofs.Ytophppnllkadoaa
