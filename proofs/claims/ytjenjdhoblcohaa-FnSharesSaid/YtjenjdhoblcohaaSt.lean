/- The search of the model: how many nodes, how many ways. -/
import Derived.Test.YtjenjdhoblcohaaLm
import Derived.Test.YtjenjdhoblcohaaWi
namespace Go.Proofs.Ytjenjdhoblcohaa
open Go.RowKit


theorem Try.info4 : (Try.prog.info? 4).map (fun i => (i.zero, i.size, i.bytes)) = some (some (.bool false), 1, 1) := by kernel_rfl
theorem scost_in {N : Int} {L : List Ed} {x y : Int} (hG : gok N L = true) (hx : 0 ≤ x ∧ x < N) (hy : 0 ≤ y ∧ y < N) (hne : x ≠ y) : scost N L x y = cst L x y := by
  have hN := gok_parts hG
  have h1 : ndB N x = true := by unfold ndB; rw [inB_iff]; omega
  have h2 : ndB N y = true := by unfold ndB; rw [inB_iff]; omega
  unfold scost
  rw [if_pos ⟨h1, h2⟩, if_neg hne]
theorem upd_same {F : Int → Int} {a z : Int} (h : F a = z) : upd F a z = F := by
  funext x
  unfold upd
  split
  · rename_i e; rw [e, h]
  · rfl
theorem upd_upd (F : Int → Int) (a y z : Int) : upd (upd F a y) a z = upd F a z := by
  funext x
  unfold upd
  split <;> rfl
theorem pw9 {k : Nat} (h : k ≤ 9) : (10 : Int) ^ k ≤ 1000000000 := by
  obtain ⟨d, hd⟩ : ∃ d, 9 = k + d := ⟨9 - k, by omega⟩
  have e : (1000000000 : Int) = 10 ^ (k + d) := by rw [← hd]; decide
  rw [e, Int.pow_add 10 k d]
  have h1 : (1 : Int) ≤ 10 ^ d := Int.pow_pos (n := (10 : Int)) (m := d) (by omega)
  have h2 : (0 : Int) ≤ 10 ^ k := Int.pow_nonneg (by omega)
  have := Int.mul_le_mul_of_nonneg_left h1 h2
  rw [Int.mul_one] at this
  exact this
theorem not_tgP_self {N : Int} {L : List Ed} {o x : Int} (hG : gok N L = true) : ¬ tgP N L o x x := fun h => by
  have := (h.facts hG).2.2.1
  omega
/-- What the model's search comes to. -/
def StPost (M : Nat) (L : List Ed) (o : Nat) (w : World) (e : Ending) (w' : World) : Prop :=
  ∃ gs gw S W, e = .returned (.tuple #[.slice (some ⟨gs, 0, none⟩) M M, .slice (some ⟨gw, 0, none⟩) M M]) ∧ Row 1 w' w.heap.size w'.heap.size (.slice (some ⟨gs, 0, none⟩) M M) M (tabI M S) ∧ Row 1 w' w.heap.size w'.heap.size (.slice (some ⟨gw, 0, none⟩) M M) M (tabI M W) ∧ StepsP (M : Int) L (o : Int) S W ∧ Below w.heap.size w w'

theorem st_end {M gb cb gs gw gd o : Nat} {L : List Ed} {D S W : Int → Int} {X : Int → Bool} {w v0 wr : World} (h : StepsP (M : Int) L (o : Int) S W) (hM : LM v0 wr M gb cb gs gw gd D S W X) (hb : Below w.heap.size w v0) (hs : w.heap.size ≤ v0.heap.size) (h10 : M ≤ 10) : StPost M L o w (.returned (.tuple #[.slice (some ⟨gs, 0, none⟩) M M, .slice (some ⟨gw, 0, none⟩) M M])) wr :=
  ⟨gs, gw, S, W, rfl, (row_of_own hM.rs (by omega)).wide hs (Nat.le_refl _), (row_of_own hM.rw (by omega)).wide hs (Nat.le_refl _), h, hb.trans (hM.below.mono hs)⟩

set_option maxRecDepth 100000 in
set_option maxHeartbeats 4000000 in
theorem ssteps_any (M : Nat) (lo hi n : Nat) (v : Value) (L : List Ed) (o : Nat) (w : World) (hL : L.length = n) (hr : Row 3 w lo hi v n (flat L)) (hh : hi ≤ w.heap.size) (hG : gok (M : Int) L = true) (ho : o < M) :
    Calls Try.prog 70 #[.agg #[.int .i64 (M : Int), v], .int .i64 (o : Int)] w (StPost M L o w) := by
  have HR := Lib.hid hr
  have HG := Lib.hid hG
  have HL := Lib.hid hL
  have hN1 := (gok_parts hG).1
  have hN2 := (gok_parts hG).2.1
  obtain ⟨ad, cp, rfl⟩ := hr.slice
  obtain ⟨i3, hi3, hz0, hz1, hz2⟩ := info_parts Try.info3
  have I := Lib.hid (And.intro hi3 (And.intro hz0 (And.intro hz1 hz2)))
  obtain ⟨i4, hi4, hy0, hy1, hy2⟩ := info_parts Try.info4
  have I4 := Lib.hid (And.intro hi4 (And.intro hy0 (And.intro hy1 hy2)))
  have HO2 : Hid (0 ≤ (o : Int) ∧ (o : Int) < (M : Int)) := ⟨by omega, by omega⟩
  clear hr hi3 hz0 hz1 hz2 hi4 hy0 hy1 hy2 hG
  go_enter Try.func70, Try.ntmps70
  go_wp2_with fail
  obtain ⟨v0, hv0⟩ : ∃ v0, v0 = w.alloc (.cells #[.int .i64 (M : Int), .slice ad n cp] 29) := ⟨_, rfl⟩
  have hv0s : v0.heap.size = w.heap.size + 1 := by rw [hv0]; simp
  have hwv : w.heap.size < v0.heap.size := by omega
  have K0 : Hid (v0.cell? ⟨w.heap.size, 0, none⟩ = some (.int .i64 (M : Int))) := by rw [hv0]; show _ = _; simp
  have K1 : Hid (v0.cell? ⟨w.heap.size, 1, none⟩ = some (.slice ad n cp)) := by rw [hv0]; show _ = _; simp
  have HBv : Hid (Below w.heap.size w v0) := by rw [hv0]; show Below _ _ _; go_grown
  have HRv : Hid (Row 3 v0 lo hi (.slice ad n cp) n (flat L)) := HR.out.below HBv.out (by omega)
  have HO : Hid (OwnI v0 (v0.alloc (.cells #[] 3)) (.slice (some ⟨v0.heap.size, 0, none⟩) 0 0) 0 (tabI 0 fun x => dsT (M : Int) L x (o : Int))) := Lib.hid (OwnI.lit0 v0)
  rw [← hv0]
  rw [hv0s] at HO
  have HV := Lib.hid hv0s
  clear hv0 HR hv0s
  go_loopw [6, 7] (fun v i wr => ∃ k : Nat, k ≤ M ∧ i = .int .i64 (k : Int) ∧ Hid (OwnI v0 wr v k (tabI k fun x => dsT (M : Int) L x (o : Int)))) (fun _ i _ => M - (intOf i).toNat)
  case atStart => exact ⟨0, Nat.zero_le _, rfl, HO⟩
  case round =>
    obtain ⟨k, hk, rfl, hR⟩ := hrel
    have k0 : wr.cell? ⟨w.heap.size, 0, none⟩ = some (.int .i64 (M : Int)) := by rw [hR.out.below.cell (p := ⟨w.heap.size, 0, none⟩) hwv]; exact K0.out
    have k1 : wr.cell? ⟨w.heap.size, 1, none⟩ = some (.slice ad n cp) := by rw [hR.out.below.cell (p := ⟨w.heap.size, 1, none⟩) hwv]; exact K1.out
    have hsz := hR.out.below.size
    have HRw : Hid (Row 3 wr lo hi (.slice ad n cp) n (flat L)) := HRv.out.below hR.out.below (by omega)
    obtain ⟨oa, oc, hov⟩ := own_slice hR.out.row
    subst hov
    by_cases hlt : k < M
    · have q0 : (k : Int) < (M : Int) := by omega
      go_wp2_with fail
      go_at_call 39
      refine (sdist_yes M lo hi n _ L k _ HL.out HRw.out (by omega) HG.out hlt).mono ?_
      rintro e w2 ⟨dv, rfl, hrd, hb2⟩
      obtain ⟨dg, dc, hdv, _, hd2, hdc⟩ := row_cells (by omega) hrd
      subst hdv
      have z0 : w2.cell? ⟨dg, o, none⟩ = some (.int .i64 (dsT (M : Int) L (k : Int) (o : Int))) := hdc o _ (tabI_at _ ho)
      have p1 : (0 : Int) ≤ (o : Int) := by omega
      have p2 : (o : Int) < (M : Int) := by omega
      have hs2 := hb2.size
      have HR2 : Hid (OwnI v0 w2 (.slice oa k oc) k (tabI k fun x => dsT (M : Int) L x (o : Int))) := hR.out.grow hb2
      have Hw := Lib.hid HR2.out.row
      obtain ⟨d, hd⟩ : ∃ d, d = dsT (M : Int) L (k : Int) (o : Int) := ⟨_, rfl⟩
      rw [← hd] at z0
      have Hd := Lib.hid hd
      clear hrd hdc hb2 hR k0 k1 hd
      go_wp2_with (at_builtin; refine wpList_append_lies _ rfl _ _ 33 rfl v0.heap.size 3 i3 (.int .i64 0) 1 8 Try.underlying33 I.out.1 I.out.2.1 I.out.2.2.1 I.out.2.2.2 rfl (by decide) _ k (ints (tabI k fun x => dsT (M : Int) L x (o : Int))) rfl (Hw.out.alloc _) ⟨w2.heap.size, 0, none⟩ 1 1 [.int .i64 d] rfl rfl ?d0 (int_one _) (by decide) ?d1 ?d2 ?d3 _ rfl ?_)
      case d0 => exact fun j u hj => cell_one_new _ _ 3 rfl j u hj
      case d1 => unfold maxLen; omega
      case d2 => omega
      case d3 => simp; omega
      intro g4 cap4 w4 hown4 hgrow4 hat4 hlt4
      have HF : Hid (OwnI v0 w4 (.slice (some ⟨g4, 0, none⟩) (k + 1) cap4) (k + 1) (tabI (k + 1) fun x => dsT (M : Int) L x (o : Int))) := by show OwnI _ _ _ _ _; rw [tabI_succ, ← Hd.out]; exact (HR2.out.grow ((Below.refl _ _).alloc (Nat.le_refl _) _)).app hgrow4 hown4
      clear hown4 hgrow4 hat4 hlt4 HR2 Hw
      go_wp2_with fail
      go_roundw
      case rel => exact ⟨k + 1, by omega, by go_num, HF⟩
      case measure => simp [intOf]; omega
    · obtain rfl : M = k := by omega
      obtain ⟨wa, rfl⟩ : ∃ x : World, x = wr := ⟨_, rfl⟩
      obtain ⟨gb, cb, hv⟩ := hR.out.form (by omega)
      cases hv
      have hge : ¬ ((M : Int) < (M : Int)) := by omega
      have hgb := hR.out.lt
      have HB1 := Lib.hid hR.out
      have q0 : ¬ (M : Int) < 0 := by omega
      clear hR HRw
      go_wp2_with (at_make; refine wpList_make_full _ rfl _ _ 33 rfl v0.heap.size 3 i3 (.int .i64 0) 1 Try.underlying33 I.out.1 I.out.2.1 I.out.2.2.1 .i64 .i64 _ _ M rfl rfl rfl rfl ?b2 ?b3 ?b4 ?_)
      case b2 => rw [I.out.2.2.2]; omega
      case b3 => unfold maxLen; omega
      intro w1 hown1 hgr1
      have ho1 := own_zeros hown1
      have hl1 := (hown1.lt _ rfl).2
      have hs1 := hgr1.size
      have HB2 := Lib.hid (own_grown HB1.out.row hgr1)
      have HBl1 : Hid (Below v0.heap.size v0 w1) := HB1.out.below.trans ((below_grown hgr1).mono hsz)
      have k01 : w1.cell? ⟨w.heap.size, 0, none⟩ = some (.int .i64 (M : Int)) := by rw [HBl1.out.cell (p := ⟨w.heap.size, 0, none⟩) hwv]; exact K0.out
      have Ho1 := Lib.hid ho1
      obtain ⟨gs, hgs⟩ : ∃ g, g = wa.heap.size := ⟨_, rfl⟩
      rw [← hgs] at Ho1 hgb hl1 ⊢
      clear hown1 ho1 hgr1 HB1 k0 k1 hs1 hsz hgs
      go_wp2_with (at_make; refine wpList_make_full _ rfl _ _ 33 rfl v0.heap.size 3 i3 (.int .i64 0) 1 Try.underlying33 I.out.1 I.out.2.1 I.out.2.2.1 .i64 .i64 _ _ M rfl rfl rfl rfl ?c2 ?c3 ?c4 ?_)
      case c2 => rw [I.out.2.2.2]; omega
      case c3 => unfold maxLen; omega
      case c4 => exact HBl1.out.size
      intro w2 hown2 hgr2
      have ho2 := own_zeros hown2
      have hl2 := (hown2.lt _ rfl).2
      have HB3 := Lib.hid (own_grown HB2.out hgr2)
      have Ho12 := Lib.hid (own_grown Ho1.out hgr2)
      have HBl2 : Hid (Below v0.heap.size v0 w2) := HBl1.out.trans ((below_grown hgr2).mono HBl1.out.size)
      have k02 : w2.cell? ⟨w.heap.size, 0, none⟩ = some (.int .i64 (M : Int)) := by rw [HBl2.out.cell (p := ⟨w.heap.size, 0, none⟩) hwv]; exact K0.out
      have Ho2 := Lib.hid ho2
      obtain ⟨gw, hgw⟩ : ∃ g, g = w1.heap.size := ⟨_, rfl⟩
      rw [← hgw] at Ho2 hl1 hl2 ⊢
      clear hown2 ho2 hgr2 HB2 Ho1 HBl1 k01 hgw
      go_wp2_with (at_make; refine wpList_make_full _ rfl _ _ 108 rfl v0.heap.size 4 i4 (.bool false) 1 Try.underlying108 I4.out.1 I4.out.2.1 I4.out.2.2.1 .i64 .i64 _ _ M rfl rfl rfl rfl ?e2 ?e3 ?e4 ?_)
      case e2 => rw [I4.out.2.2.2]; omega
      case e3 => unfold maxLen; omega
      case e4 => exact HBl2.out.size
      intro w3 hown3 hgr3
      have ho3 := own_marks hown3
      have hl3 := (hown3.lt _ rfl).2
      have HBl3 : Hid (Below v0.heap.size v0 w3) := HBl2.out.trans ((below_grown hgr3).mono HBl2.out.size)
      have HM : Hid (LM v0 w3 M gb oc gs gw w2.heap.size (fun x => dsT (M : Int) L x (o : Int)) (fun _ => 0) (fun _ => 0) (fun _ => false)) :=
        Lib.hid ⟨HBl3.out, own_grown HB3.out hgr3, own_grown Ho12.out hgr3, own_grown Ho2.out hgr3, ho3, by omega⟩
      obtain ⟨gd, hgd⟩ : ∃ g, g = w2.heap.size := ⟨_, rfl⟩
      rw [← hgd] at HM ⊢
      clear hown3 ho3 hgr3 HB3 Ho12 Ho2 HBl2 HBl3 k02 hl1 hl2 hl3 hgd hgb
      go_wp2_with fail
      go_loopw [11] (fun i wr => ∃ (k : Nat) (S W : Int → Int) (X : Int → Bool), k ≤ M ∧ i = .int .i64 (k : Int) ∧ Hid (LM v0 wr M gb oc gs gw gd (fun x => dsT (M : Int) L x (o : Int)) S W X) ∧ Hid (LSt (M : Int) L (o : Int) k X S W)) (fun i _ => M - (intOf i).toNat)
      case atStart => exact ⟨0, _, _, _, Nat.zero_le _, rfl, HM, Lib.hid (LSt.start _ _ _)⟩
      case round =>
        obtain ⟨k, S, W, X, hk, rfl, hM, hS⟩ := hrel
        have k0 : wr.cell? ⟨w.heap.size, 0, none⟩ = some (.int .i64 (M : Int)) := by rw [hM.out.below.cell (p := ⟨w.heap.size, 0, none⟩) hwv]; exact K0.out
        by_cases hlt : k < M
        · have q0 : (k : Int) < (M : Int) := by omega
          clear HM
          go_wp2_with fail
          obtain ⟨wo, rfl⟩ : ∃ wo : World, wo = wr := ⟨_, rfl⟩
          clear k0
          go_loopw [12, 13] (fun a i wr => ∃ (j : Nat) (a' : Int), j ≤ M ∧ a = .int .i64 a' ∧ i = .int .i64 (j : Int) ∧ Hid (LM v0 wr M gb oc gs gw gd (fun x => dsT (M : Int) L x (o : Int)) S W X) ∧ Hid (PickP (M : Int) L (o : Int) X a' j)) (fun _ i _ => M - (intOf i).toNat)
          case atStart => exact ⟨0, -1, Nat.zero_le _, rfl, rfl, hM, Lib.hid (PickP.start _ _ _ _)⟩
          case round =>
            obtain ⟨j, a, hj, rfl, rfl, hM, hP⟩ := hrel
            have k0 : wr.cell? ⟨w.heap.size, 0, none⟩ = some (.int .i64 (M : Int)) := by rw [hM.out.below.cell (p := ⟨w.heap.size, 0, none⟩) hwv]; exact K0.out
            by_cases hlt2 : j < M
            · have p0 : (j : Int) < (M : Int) := by omega
              have p1 : (0 : Int) ≤ (j : Int) := by omega
              have z1 := hM.out.d_at hlt2
              have z2 := hM.out.b_at hlt2
              obtain ⟨xj, hxj⟩ : ∃ x, x = X (j : Int) := ⟨_, rfl⟩
              obtain ⟨dj, hdj⟩ : ∃ x, x = dsT (M : Int) L (j : Int) (o : Int) := ⟨_, rfl⟩
              rw [← hxj] at z1
              rw [← hdj] at z2
              have Hxj := Lib.hid hxj
              have Hdj := Lib.hid hdj
              clear hxj hdj
              cases xj with
              | true =>
                go_wp2_with fail
                go_quiet (fail)
                go_wp2_with fail
                go_roundw
                case rel => exact ⟨j + 1, a, by omega, rfl, by go_num, Lib.hid (hM.out.drewN _), Lib.hid (hP.out.skip HG.out p0 (.inl Hxj.out.symm))⟩
                case measure => simp [intOf]; omega
              | false =>
                by_cases h1 : dj < 1000000
                · have d1 : decide (dj < 1000000) = true := decide_eq_true h1
                  by_cases ha : a < 0
                  · have d2 : decide (a < 0) = true := decide_eq_true ha
                    go_wp2_with fail
                    go_quiet (fail)
                    go_wp2_with fail
                    go_roundw
                    case rel => exact ⟨j + 1, (j : Int), by omega, rfl, by go_num, Lib.hid (hM.out.drewN _), Lib.hid (hP.out.take Hxj.out.symm (by rw [← Hdj.out]; exact h1) (.inl ha))⟩
                    case measure => simp [intOf]; omega
                  · have d2 : decide (a < 0) = false := decide_eq_false ha
                    obtain ⟨an, rfl⟩ : ∃ an : Nat, a = (an : Int) := ⟨a.toNat, by omega⟩
                    have haj : an < j := by rcases hP.out with ⟨h, _⟩ | ⟨_, h, _⟩ <;> omega
                    have z3 := hM.out.b_at (show an < M by omega)
                    obtain ⟨da, hda⟩ : ∃ x, x = dsT (M : Int) L (an : Int) (o : Int) := ⟨_, rfl⟩
                    rw [← hda] at z3
                    have Hda := Lib.hid hda
                    have p2 : (0 : Int) ≤ (an : Int) := by omega
                    have p3 : (an : Int) < (M : Int) := by omega
                    clear hda
                    by_cases h3 : dj < da
                    · have d3 : decide (dj < da) = true := decide_eq_true h3
                      go_wp2_with fail
                      go_quiet (fail)
                      go_wp2_with fail
                      go_roundw
                      case rel => exact ⟨j + 1, (j : Int), by omega, rfl, by go_num, Lib.hid (hM.out.drewN _), Lib.hid (hP.out.take Hxj.out.symm (by rw [← Hdj.out]; exact h1) (.inr (by rw [← Hdj.out, ← Hda.out]; exact h3)))⟩
                      case measure => simp [intOf]; omega
                    · have d3 : decide (dj < da) = false := decide_eq_false h3
                      go_wp2_with fail
                      go_quiet (fail)
                      go_wp2_with fail
                      go_roundw
                      case rel => exact ⟨j + 1, (an : Int), by omega, rfl, by go_num, Lib.hid (hM.out.drewN _), Lib.hid (hP.out.skip HG.out p0 (.inr (.inr ⟨p2, by rw [← Hdj.out, ← Hda.out]; omega⟩)))⟩
                      case measure => simp [intOf]; omega
                · have d1 : decide (dj < 1000000) = false := decide_eq_false h1
                  go_wp2_with fail
                  go_quiet (fail)
                  go_wp2_with fail
                  go_roundw
                  case rel => exact ⟨j + 1, a, by omega, rfl, by go_num, Lib.hid (hM.out.drewN _), Lib.hid (hP.out.skip HG.out p0 (.inr (.inl (by rw [← Hdj.out]; unfold Far; omega))))⟩
                  case measure => simp [intOf]; omega
            · obtain rfl : M = j := by omega
              have hge : ¬ ((M : Int) < (M : Int)) := by omega
              obtain ⟨wp, rfl⟩ : ∃ x : World, x = wr := ⟨_, rfl⟩
              by_cases ha : a < 0
              · have HF : Hid (StepsP (M : Int) L (o : Int) S W) := Lib.hid (hS.out.fin (by omega) (hP.out.none ha))
                go_wp2_with fail
                refine bodyPost_ret (v := .tuple #[.slice (some ⟨gs, 0, none⟩) M M, .slice (some ⟨gw, 0, none⟩) M M]) (by simp [results, Try.results70, go_sem]) rfl (st_end HF.out hM.out HBv.out (by rw [HV.out]; omega) (by omega))
              · obtain ⟨an, rfl⟩ : ∃ an : Nat, a = (an : Int) := ⟨a.toNat, by omega⟩
                have p2 : (0 : Int) ≤ (an : Int) := by omega
                have hp := hP.out
                have han : an < M ∧ X (an : Int) = false := by
                  rcases hp with ⟨h, _⟩ | ⟨_, h, h', _⟩
                  · omega
                  · exact ⟨by omega, h'⟩
                have p3 : (an : Int) < (M : Int) := by omega
                have y1 := hM.out.d_at han.1
                have y2 := hM.out.d_fz an
                have hMD : Hid (LM v0 (wp.setCell ⟨gd, an, none⟩ (.bool true)) M gb oc gs gw gd (fun x => dsT (M : Int) L x (o : Int)) S W (fun x => if x = (an : Int) then true else X x)) := Lib.hid (hM.out.setD an true)
                clear hp hM
                by_cases hao : an = o
                · subst hao
                  have y3 := hMD.out.s_at han.1
                  have y4 := hMD.out.s_fz an
                  have hMS : Hid (LM v0 ((wp.setCell ⟨gd, an, none⟩ (.bool true)).setCell ⟨gs, an, none⟩ (.int .i64 1)) M gb oc gs gw gd (fun x => dsT (M : Int) L x (an : Int)) (upd S (an : Int) 1) W (fun x => if x = (an : Int) then true else X x)) := Lib.hid (hMD.out.setS an 1)
                  have y5 := hMS.out.w_at han.1
                  have y6 := hMS.out.w_fz an
                  have HMF := Lib.hid (hMS.out.setW an 1)
                  go_wp2_with fail
                  go_roundw
                  case rel => exact ⟨k + 1, _, _, _, by omega, by go_num, HMF, Lib.hid (hS.out.target HG.out HO2.out han.2)⟩
                  case measure => simp [intOf]; omega
                · have hao' : ¬ ((an : Int) = (o : Int)) := by omega
                  have HX0 : Hid (S (an : Int) = 0 ∧ W (an : Int) = 0) := hS.out.open_ _ ⟨p2, p3⟩ han.2
                  have hSb := Lib.hid hS.out.bnd
                  go_wp2_with fail
                  obtain ⟨wq, hwq⟩ : ∃ wq, wq = wp.setCell ⟨gd, an, none⟩ (.bool true) := ⟨_, rfl⟩
                  rw [← hwq] at hMD ⊢
                  have HM0 : Hid (LM v0 wq M gb oc gs gw gd (fun x => dsT (M : Int) L x (o : Int)) (upd S (an : Int) 0) (upd W (an : Int) 0) (fun x => if x = (an : Int) then true else X x)) := by rw [upd_same HX0.out.1, upd_same HX0.out.2]; exact hMD
                  clear hwq y1 y2 k0 hMD
                  go_loopw [14] (fun i wr => ∃ (j : Nat) (m z : Int), j ≤ M ∧ i = .int .i64 (j : Int) ∧ Hid (LM v0 wr M gb oc gs gw gd (fun x => dsT (M : Int) L x (o : Int)) (upd S (an : Int) m) (upd W (an : Int) z) (fun x => if x = (an : Int) then true else X x)) ∧ Hid (MinP (M : Int) L (o : Int) S (an : Int) m j) ∧ Hid (z = wsum (M : Int) L (o : Int) W (an : Int) j)) (fun i _ => M - (intOf i).toNat)
                  case atStart => exact ⟨0, 0, 0, Nat.zero_le _, rfl, HM0, Lib.hid (MinP.start _ _ _ _ _), Lib.hid rfl⟩
                  case round =>
                    obtain ⟨j, m, z, hj, rfl, hM, hQ, hz⟩ := hrel
                    have k0 : wr.cell? ⟨w.heap.size, 0, none⟩ = some (.int .i64 (M : Int)) := by rw [hM.out.below.cell (p := ⟨w.heap.size, 0, none⟩) hwv]; exact K0.out
                    have k1 : wr.cell? ⟨w.heap.size, 1, none⟩ = some (.slice ad n cp) := by rw [hM.out.below.cell (p := ⟨w.heap.size, 1, none⟩) hwv]; exact K1.out
                    have HRw : Hid (Row 3 wr lo hi (.slice ad n cp) n (flat L)) := HRv.out.below hM.out.below (by rw [HV.out]; omega)
                    have hsz : lo ≤ lo := Nat.le_refl _
                    have hhw : hi ≤ wr.heap.size := by have := hM.out.below.size; rw [HV.out] at this; omega
                    by_cases hlt2 : j < M
                    · have p4 : (j : Int) < (M : Int) := by omega
                      have p5 : (0 : Int) ≤ (j : Int) := by omega
                      go_wp2_with fail
                      go_at_call 71
                      refine (scost_any (M : Int) lo hi n _ L (an : Int) (j : Int) _ HG.out HL.out HRw.out hhw).mono ?_
                      rintro e w2 ⟨rfl, hb2⟩
                      have hM2 := Lib.hid (hM.out.grow hb2)
                      clear hM k0 k1 HRw hhw hb2 hsz
                      by_cases hja : j = an
                      · obtain rfl : an = j := hja.symm
                        obtain ⟨c, hc⟩ : ∃ c, c = scost (M : Int) L (an : Int) (an : Int) := ⟨_, rfl⟩
                        rw [← hc]
                        clear hc
                        go_wp2_with fail
                        go_quiet (fail)
                        go_wp2_with fail
                        go_roundw
                        case rel => exact ⟨an + 1, m, z, by omega, by go_num, Lib.hid (hM2.out.drewN _), Lib.hid (hQ.out.pass (not_tgP_self HG.out)), Lib.hid (by rw [wsum_succ, if_neg (not_tgP_self HG.out), Int.add_zero]; exact hz.out)⟩
                        case measure => simp [intOf]; omega
                      · have hja' : ¬ ((j : Int) = (an : Int)) := by omega
                        rw [scost_in HG.out ⟨p2, p3⟩ ⟨p5, p4⟩ (fun h => hja' h.symm)]
                        have x1 := hM2.out.b_at hlt2
                        have x2 := hM2.out.b_at han.1
                        have x3 := hM2.out.w_at han.1
                        have x4 := hM2.out.w_at hlt2
                        have x5 := hM2.out.w_fz an
                        have x6 := hM2.out.s_at han.1
                        have x7 := hM2.out.s_at hlt2
                        rw [upd_at] at x3 x6
                        rw [upd_ne hja'] at x4 x7
                        have hcb := cst_bound HG.out (an : Int) (j : Int)
                        have hjb := dsT_bnd (s := (j : Int)) HG.out ⟨p5, p4⟩ (o : Int)
                        have hab := dsT_bnd (s := (an : Int)) HG.out ⟨p2, p3⟩ (o : Int)
                        unfold Far at hjb hab
                        obtain ⟨c, hc⟩ : ∃ c, c = cst L (an : Int) (j : Int) := ⟨_, rfl⟩
                        obtain ⟨dj, hdj⟩ : ∃ x, x = dsT (M : Int) L (j : Int) (o : Int) := ⟨_, rfl⟩
                        obtain ⟨da, hda⟩ : ∃ x, x = dsT (M : Int) L (an : Int) (o : Int) := ⟨_, rfl⟩
                        rw [← hc] at hcb ⊢
                        rw [← hdj] at x1 hjb
                        rw [← hda] at x2 hab
                        have Hc := Lib.hid hc
                        have Hdj := Lib.hid hdj
                        have Hda := Lib.hid hda
                        clear hc hdj hda
                        have e1 : IntKind.i64.wrap (c + dj) = c + dj := IntWalk.i64_in _ (by omega)
                        have f1 : ((j : Int) == (an : Int)) = false := by simp; omega
                        have f2 : (j == an) = false := by simp; omega
                        have f3 : decide (j = an) = false := decide_eq_false hja
                        have f4 : decide ((j : Int) = (an : Int)) = false := decide_eq_false hja'
                        by_cases h1 : c = 1000000
                        · have Hn : Hid (¬ tgP (M : Int) L (o : Int) (an : Int) (j : Int)) := fun h => h.1 (Hc.out.symm.trans h1)
                          subst h1
                          clear x3 x4 x5 x6 x7
                          go_wp2_with fail
                          go_quiet (fail)
                          go_wp2_with fail
                          go_roundw
                          case rel => exact ⟨j + 1, m, z, by omega, by go_num, Lib.hid (hM2.out.drewN _), Lib.hid (hQ.out.pass Hn.out), Lib.hid (by rw [wsum_succ, if_neg Hn.out, Int.add_zero]; exact hz.out)⟩
                          case measure => simp [intOf]; omega
                        · have f5 : (c == 1000000) = false := by simp [h1]
                          by_cases h2 : dj = 1000000
                          · have Hn : Hid (¬ tgP (M : Int) L (o : Int) (an : Int) (j : Int)) := fun h => h.2.1 (Hdj.out.symm.trans h2)
                            subst h2
                            clear x3 x4 x5 x6 x7
                            go_wp2_with fail
                            go_quiet (fail)
                            go_wp2_with fail
                            go_roundw
                            case rel => exact ⟨j + 1, m, z, by omega, by go_num, Lib.hid (hM2.out.drewN _), Lib.hid (hQ.out.pass Hn.out), Lib.hid (by rw [wsum_succ, if_neg Hn.out, Int.add_zero]; exact hz.out)⟩
                            case measure => simp [intOf]; omega
                          · have f6 : (dj == 1000000) = false := by simp [h2]
                            by_cases h3 : c + dj = da
                            · have Ht : Hid (tgP (M : Int) L (o : Int) (an : Int) (j : Int)) := ⟨by rw [← Hc.out]; exact h1, by rw [← Hdj.out]; exact h2, by rw [← Hc.out, ← Hdj.out, ← Hda.out]; exact h3⟩
                              have f7 : (c + dj != da) = false := by simp [h3]
                              have hsj : 0 ≤ S (j : Int) ∧ S (j : Int) ≤ 10 := by have := hSb.out (j : Int) ⟨p5, p4⟩; omega
                              have hpk := pw9 (show k ≤ 9 by omega)
                              have hzb := wsum_bnd (N := (M : Int)) (L := L) (o := (o : Int)) (W := W) (B := 1000000000) (by omega) (x := (an : Int)) j (fun i hi => by have := hSb.out (i : Int) ⟨by omega, by omega⟩; omega)
                              rw [← hz.out] at hzb
                              have hwj := hSb.out (j : Int) ⟨p5, p4⟩
                              have e3 : IntKind.i64.wrap (z + W (j : Int)) = z + W (j : Int) := IntWalk.i64_in _ (by omega)
                              have e4 : IntKind.i64.wrap (S (j : Int) + 1) = S (j : Int) + 1 := IntWalk.i64_in _ (by omega)
                              clear hpk hzb hwj
                              go_wp2_with fail
                              go_quiet (fail)
                              go_wp2_with fail
                              go_region
                              go_wp2_with fail
                              obtain ⟨wt, hwt⟩ : ∃ wt, wt = (w2.drewN (nq + 1)).setCell ⟨gw, an, none⟩ (.int .i64 (z + W (j : Int))) := ⟨_, rfl⟩
                              rw [← hwt]
                              have HMt : Hid (LM v0 wt M gb oc gs gw gd (fun x => dsT (M : Int) L x (o : Int)) (upd S (an : Int) m) (upd W (an : Int) (z + W (j : Int))) (fun x => if x = (an : Int) then true else X x)) := by
                                show LM _ _ _ _ _ _ _ _ _ _ _ _
                                rw [hwt, ← upd_upd W (an : Int) z (z + W (j : Int))]
                                exact (hM2.out.drewN _).setW an (z + W (j : Int))
                              have t1 := HMt.out.s_at han.1
                              have t2 := HMt.out.s_at hlt2
                              have t3 := HMt.out.s_fz an
                              rw [upd_at] at t1
                              rw [upd_ne hja'] at t2
                              have Hz2 : Hid (z + W (j : Int) = wsum (M : Int) L (o : Int) W (an : Int) (j + 1)) := by show _ = _; rw [wsum_succ, if_pos Ht.out, ← hz.out]
                              clear hwt x1 x2 x3 x4 x5 x6 x7 hM2 hz e3 f5 f6 f7
                              by_cases hm0 : m = 0
                              · obtain rfl : m = 0 := hm0
                                go_wp2_with fail
                                go_quiet (fail)
                                go_wp2_with fail
                                go_roundw
                                case rel => exact ⟨j + 1, S (j : Int) + 1, z + W (j : Int), by omega, by go_num, Lib.hid (by rw [← upd_upd S (an : Int) 0 (S (j : Int) + 1)]; exact (HMt.out.drewN _).setS an (S (j : Int) + 1)), Lib.hid (hQ.out.less Ht.out hsj.1 (.inl rfl)), Hz2⟩
                                case measure => simp [intOf]; omega
                              · have g1 : (m == 0) = false := by simp [hm0]
                                by_cases hm1 : S (j : Int) + 1 < m
                                · have g2 : decide (S (j : Int) + 1 < m) = true := decide_eq_true hm1
                                  go_wp2_with fail
                                  go_quiet (fail)
                                  go_wp2_with fail
                                  go_roundw
                                  case rel => exact ⟨j + 1, S (j : Int) + 1, z + W (j : Int), by omega, by go_num, Lib.hid (by rw [← upd_upd S (an : Int) m (S (j : Int) + 1)]; exact (HMt.out.drewN _).setS an (S (j : Int) + 1)), Lib.hid (hQ.out.less Ht.out hsj.1 (.inr hm1)), Hz2⟩
                                  case measure => simp [intOf]; omega
                                · have g2 : decide (S (j : Int) + 1 < m) = false := decide_eq_false hm1
                                  go_wp2_with fail
                                  go_quiet (fail)
                                  go_wp2_with fail
                                  go_roundw
                                  case rel => exact ⟨j + 1, m, z + W (j : Int), by omega, by go_num, Lib.hid (HMt.out.drewN _), Lib.hid (hQ.out.more Ht.out hm0 (by omega)), Hz2⟩
                                  case measure => simp [intOf]; omega
                            · have Hn : Hid (¬ tgP (M : Int) L (o : Int) (an : Int) (j : Int)) := fun h => h3 (by rw [Hc.out, Hdj.out, Hda.out]; exact h.2.2)
                              have f7 : (c + dj != da) = true := by simp [h3]
                              clear x3 x4 x5 x6 x7
                              go_wp2_with fail
                              go_quiet (fail)
                              go_wp2_with fail
                              go_roundw
                              case rel => exact ⟨j + 1, m, z, by omega, by go_num, Lib.hid (hM2.out.drewN _), Lib.hid (hQ.out.pass Hn.out), Lib.hid (by rw [wsum_succ, if_neg Hn.out, Int.add_zero]; exact hz.out)⟩
                              case measure => simp [intOf]; omega
                    · obtain rfl : M = j := by omega
                      have hge : ¬ ((M : Int) < (M : Int)) := by omega
                      go_wp2_with fail
                      go_roundw
                      case rel => exact ⟨k + 1, _, _, _, by omega, by go_num, hM, Lib.hid (by rw [hz.out]; exact hS.out.node HG.out HO2.out hP.out p2 hao' hQ.out)⟩
                      case measure => simp [intOf]; omega
        · obtain rfl : M = k := by omega
          have hge : ¬ ((M : Int) < (M : Int)) := by omega
          have HF : Hid (StepsP (M : Int) L (o : Int) S W) := Lib.hid (hS.out.fin (by omega) (fun x hx => .inl (hS.out.full (by omega) (by simp) x hx)))
          go_wp2_with fail
          refine bodyPost_ret (v := .tuple #[.slice (some ⟨gs, 0, none⟩) M M, .slice (some ⟨gw, 0, none⟩) M M]) (by simp [results, Try.results70, go_sem]) rfl (st_end HF.out hM.out HBv.out (by rw [HV.out]; omega) (by omega))

end Go.Proofs.Ytjenjdhoblcohaa
