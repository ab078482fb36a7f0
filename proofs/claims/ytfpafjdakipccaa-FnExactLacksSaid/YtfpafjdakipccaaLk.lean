/- Lacks of the program. -/
import Derived.Test.YtfpafjdakipccaaCf
import Derived.Test.YtfpafjdakipccaaGi
import Derived.Test.YtfpafjdakipccaaGx
import Derived.Test.YtfpafjdakipccaaOo
import Derived.Maps.AppendAt
import Derived.Deep.AppendLies
namespace Go.Proofs.Ytfpafjdakipccaa
open Go.RowKit


set_option linter.unusedVariables false in
set_option maxRecDepth 100000 in
set_option maxHeartbeats 8000000 in
theorem ilack_3 (DA DB : List Ls) (lo hi lo2 hi2 : Nat) (v v2 : Value) (w : World) (hr : DRow w lo hi v DA) (hr2 : DRow w lo2 hi2 v2 DB) (hh : hi ≤ w.heap.size) (hh2 : hi2 ≤ w.heap.size)  (ha : dokB DA = true) (hb : dokB DB = true) :
    Calls Try.prog 39 #[.agg #[v], .agg #[v2]] w fun e w' => ∃ rv, e = .returned rv ∧ Row 1 w' w.heap.size w'.heap.size rv (lks_ DA DB).length (lks_ DA DB) ∧ Below w.heap.size w w' := by
  have HA := Lib.hid ha
  have HB := Lib.hid hb
  have HZ : Hid (lks_ DA DB = lkL DA DB) := Lib.hid (if_pos ⟨ha, hb⟩)
  have hn10 := dokB_len hb
  have R0 := Lib.hid hr
  have R1 := Lib.hid hr2
  have hr' := hr2
  obtain ⟨a0, c0, e0⟩ := hr.slice
  subst e0
  obtain ⟨a, c, us, xs, bs, ev, X⟩ := hr'
  subst ev
  obtain ⟨na, hna⟩ : ∃ n, n = DA.length := ⟨_, rfl⟩
  rw [← hna] at R0 ⊢
  obtain ⟨n, hn⟩ : ∃ n, n = DB.length := ⟨_, rfl⟩
  rw [← hn] at R1 ⊢
  have HN := Lib.hid hn
  have HX := Lib.hid X
  clear X hr hr2 hn hna ha hb
  rw [← HN.out] at hn10
  obtain ⟨i3, hi0, hz0, hz1, hz2⟩ := info_parts Try.info3
  have I3 := Lib.hid (And.intro hi0 (And.intro hz0 (And.intro hz1 hz2)))
  clear hi0 hz0 hz1 hz2
  go_enter Try.func39, Try.ntmps39
  go_wp2_with fail
  go_at_call 20
  refine (idbok_any DA lo hi _ _ (R0.out.below (B := w.heap.size) (by go_grown) (by omega)) (by first | omega | (simp; omega) | simp)).mono ?_
  rw [HA.out]
  rintro e v1 ⟨rfl, hb1⟩
  have sz1 : w.heap.size + 2 ≤ v1.heap.size := by have hh := hb1.size; simp at hh; omega
  have st1 : Below w.heap.size w v1 := Below.trans (by go_grown) (hb1.mono (by simp <;> omega))
  have c1_0 : v1.cell? ⟨w.heap.size, 0, none⟩ = some (.slice a0 na c0) := by rw [(bcell hb1).1 _ _ (by simp <;> omega), old_box (by simp <;> omega)]; first | (rw [new_at (by simp)]; rfl) | simp
  have c1_1 : v1.cell? ⟨w.heap.size + 1, 0, none⟩ = some (.slice a n c) := by rw [(bcell hb1).1 _ _ (by simp)]; first | (rw [new_at (by simp)]; rfl) | simp
  have B1 : Hid (Below w.heap.size w v1) := st1
  have R1_0 : Hid (DRow v1 (lo) (hi) (.slice a0 na c0)  DA) := R0.out.below st1 (by omega)
  have R1_1 : Hid (DRow v1 (lo2) (hi2) (.slice a n c)  DB) := R1.out.below st1 (by omega)
  have d1_0 : w.heap.size < v1.heap.size := by omega
  have e1_0 : w.heap.size ≠ v1.heap.size := by omega
  have d1_1 : w.heap.size + 1 < v1.heap.size := by omega
  have e1_1 : w.heap.size + 1 ≠ v1.heap.size := by omega
  clear st1 R0 R1 hb1
  go_wp2_with fail
  go_at_call 20
  refine (idbok_any DB lo2 hi2 _ _ R1_1.out (by first | omega | (simp; omega) | simp)).mono ?_
  rw [HB.out]
  rintro e v2 ⟨rfl, hb2⟩
  have sz2 : v1.heap.size ≤ v2.heap.size := hb2.size
  have st2 : Below v1.heap.size v1 v2 := hb2
  have c2_0 : v2.cell? ⟨w.heap.size, 0, none⟩ = some (.slice a0 na c0) := by rw [(bcell st2).1 _ _ (by omega)]; exact c1_0
  have c2_1 : v2.cell? ⟨w.heap.size + 1, 0, none⟩ = some (.slice a n c) := by rw [(bcell st2).1 _ _ (by omega)]; exact c1_1
  have B2 : Hid (Below w.heap.size w v2) := B1.out.trans (st2.mono (by omega))
  have R2_0 : Hid (DRow v2 (lo) (hi) (.slice a0 na c0)  DA) := R1_0.out.below st2 (by omega)
  have R2_1 : Hid (DRow v2 (lo2) (hi2) (.slice a n c)  DB) := R1_1.out.below st2 (by omega)
  have d2_0 : w.heap.size < v2.heap.size := by omega
  have e2_0 : w.heap.size ≠ v2.heap.size := by omega
  have d2_1 : w.heap.size + 1 < v2.heap.size := by omega
  have e2_1 : w.heap.size + 1 ≠ v2.heap.size := by omega
  clear d1_0 e1_0 d1_1 e1_1 c1_0 c1_1 B1 st2 R1_0 R1_1 hb2
  go_wp2_with fail
  go_at_call 50
  refine (shelf_any DA lo hi _ _ R2_0.out (by omega) HA.out).mono ?_
  rintro e v3 ⟨rfl, hsh, hb3⟩
  have sz3 : v2.heap.size ≤ v3.heap.size := hb3.size
  have st3 : Below v2.heap.size v2 v3 := hb3
  have c3_0 : v3.cell? ⟨w.heap.size, 0, none⟩ = some (.slice a0 na c0) := by rw [(bcell st3).1 _ _ (by omega)]; exact c2_0
  have c3_1 : v3.cell? ⟨w.heap.size + 1, 0, none⟩ = some (.slice a n c) := by rw [(bcell st3).1 _ _ (by omega)]; exact c2_1
  have B3 : Hid (Below w.heap.size w v3) := B2.out.trans (st3.mono (by omega))
  have R3_0 : Hid (DRow v3 (lo) (hi) (.slice a0 na c0)  DA) := R2_0.out.below st3 (by omega)
  have R3_1 : Hid (DRow v3 (lo2) (hi2) (.slice a n c)  DB) := R2_1.out.below st3 (by omega)
  have d3_0 : w.heap.size < v3.heap.size := by omega
  have e3_0 : w.heap.size ≠ v3.heap.size := by omega
  have d3_1 : w.heap.size + 1 < v3.heap.size := by omega
  have e3_1 : w.heap.size + 1 ≠ v3.heap.size := by omega
  clear d2_0 e2_0 d2_1 e2_1 c2_0 c2_1 B2 st3 R2_0 R2_1 hb3
  obtain ⟨m, hm⟩ : ∃ q, q = v2.heap.size + 1 := ⟨_, rfl⟩
  rw [← hm] at hsh ⊢
  have hS := Lib.hid hsh
  have hml := hsh.lt
  have HBs : Hid (v2.heap.size ≤ m ∧ w.heap.size + 2 ≤ m) := Lib.hid (by omega)
  have HR0 : Hid (L2 w v3 (.slice a0 na c0) (.slice a n c)) := Lib.hid ⟨c3_0, c3_1, by omega, B3.out⟩
  obtain ⟨B, hB⟩ : ∃ q, q = v2.heap.size := ⟨_, rfl⟩
  rw [← hB] at hS
  have hmv : m < v3.heap.size := hml
  have HVB := B3
  clear hsh hm hB hml
  go_wp2
  go_loopw [6, 22] (fun lv i wr => ∃ (k : Nat) (rv : Value), k ≤ n ∧ i = .int .i64 (k : Int) ∧ lv = rv ∧ Hid (L2 w wr (.slice a0 na c0) (.slice a n c)) ∧ Hid (Shelf wr m B (dfind DA)) ∧ Hid (Own 3 1 v3 wr rv (lkL DA (DB.take k)).length (ints (lkL DA (DB.take k))))) (fun _ i _ => n - (intOf i).toNat)
  case atStart => exact ⟨0, _, Nat.zero_le _, rfl, rfl, HR0, hS, Lib.hid (Own.nil 3 1 v3)⟩
  case round =>
    clear hS HR0 c3_0 c3_1 d3_0 e3_0 d3_1 e3_1 R3_0 R3_1
    obtain ⟨k, rv, hk, rfl, rfl, hR, hS, HO⟩ := hrel
    obtain ⟨xa, xc, erv⟩ := HO.out.slice
    subst erv
    obtain ⟨zn, hzn⟩ : ∃ q, q = (lkL DA (DB.take k)).length := ⟨_, rfl⟩
    rw [← hzn] at HO ⊢
    have hzl : zn ≤ n := by rw [hzn]; refine Nat.le_trans (lkL_len _ _) ?_; rw [List.length_take]; omega
    have HZN := Lib.hid hzn
    clear hzn
    by_cases hlt : k < n
    · skip
      obtain ⟨p, hp⟩ : ∃ p, DB[k]? = some p := ⟨_, List.getElem?_eq_getElem (by have := HN.out; omega)⟩
      obtain ⟨G, rfl, g1, g2, _, g4, _⟩ := HX.out.outer (by have := HN.out; omega)
      have hc := (g4 k p hp).below hR.out.below (by omega)
      obtain ⟨i1, i2, i3'⟩ := HX.out.inner k p hp
      have RP := Lib.hid (i1.below hR.out.below (by omega))
      obtain ⟨x1, y1, x2, y2, e1, e2⟩ := i1.slice
      rw [e1, e2] at hc RP
      obtain ⟨d1, d2, d3, d4, d5⟩ := hc
      have hk0 : (0 : Int) ≤ (k : Int) := by omega
      have hk1 : (k : Int) < (n : Int) := by omega
      have hbz := hR.out.below.size
      have hGw : G < wr.heap.size := by omega
      obtain ⟨H0, hH0⟩ : ∃ q, q = (bs k).1 := ⟨_, rfl⟩
      obtain ⟨H1, hH1⟩ : ∃ q, q = (bs k).2 := ⟨_, rfl⟩
      have z1 : H1 ≤ wr.heap.size := by omega
      rw [← hH0, ← hH1] at RP
      have Hp := Lib.hid hp
      have HPO := Lib.hid (dokB_get HB.out hp).1
      have c0 := hR.out.c0
      have c1 := hR.out.c1
      have hsz := hR.out.size
      have hsz0 : w.heap.size < wr.heap.size := by omega
      clear i1 i2 i3' e1 e2 hH0 hH1 hp g4
      have hwb : Below wr.heap.size wr (wr.alloc (.cells #[.int .i64 p.o, .int .i64 p.s, .int .i64 p.g, .slice x1 p.K.length y1, .slice x2 p.T.length y2] 33)) := by go_grown
      have HWB := Lib.hid hwb
      have hml2 := hS.out.lt
      clear hwb
      go_wp2_with fail
      go_at_call 78
      refine (code_any (dfind DA) p m B H0 H1 _ _ _ (hS.out.below HWB.out hml2) (shok_dfind HA.out) HPO.out (RP.out.below HWB.out z1) (by have := HWB.out.size; omega)).mono ?_
      cases hlk : lakB DA p
      · obtain ⟨z, hz⟩ : ∃ z, z = codeF (dfind DA p.o) p := ⟨_, rfl⟩
        rw [← hz]
        have hzb : (z == 0) = false := by rw [hz]; exact hlk
        have HNX := Lib.hid (lkL_no Hp.out hlk)
        clear hz hlk
        rintro e w9 ⟨rfl, hb9⟩
        have HB9 : Hid (Below wr.heap.size wr w9) := Lib.hid (HWB.out.trans (hb9.mono HWB.out.size))
        clear hb9
        go_wp2_with fail
        go_roundw
        case rel => exact ⟨k + 1, _, by omega, by go_num, rfl, Lib.hid (hR.out.next (HB9.out.mono (by omega))), Lib.hid (hS.out.below HB9.out hml2), Lib.hid (by rw [HNX.out, ← HZN.out]; exact HO.out.grow HB9.out)⟩
        case measure => simp [intOf]; omega
      · have hz : codeF (dfind DA p.o) p = 0 := by simpa [lakB] using hlk
        rw [hz]
        have HNX := Lib.hid (lkL_yes Hp.out hlk)
        clear hz hlk
        rintro e w9 ⟨rfl, hb9⟩
        have q1 : w9.cell? ⟨wr.heap.size, 0, none⟩ = some (.int .i64 p.o) := by rw [(bcell hb9).1 _ _ (by simp), new_at (by simp)]; rfl
        have q2 : wr.heap.size < w9.heap.size := by have hh := hb9.size; simp at hh; omega
        have HB9 : Hid (Below wr.heap.size wr w9) := Lib.hid (HWB.out.trans (hb9.mono HWB.out.size))
        have HOo := Lib.hid (HO.out.grow HB9.out)
        clear hb9
        go_wp2_with (at_builtin; refine wpList_append_lies _ rfl _ _ 59 rfl v3.heap.size 3 i3 (.int .i64 0) 1 8 Try.underlying59 I3.out.1 I3.out.2.1 I3.out.2.2.1 I3.out.2.2.2 rfl (by decide) (.slice xa zn xc) zn (ints (lkL DA (DB.take k))) rfl (HOo.out.row.alloc _) ⟨w9.heap.size, 0, none⟩ 1 1 [.int .i64 p.o] rfl rfl (fun j u hj => cell_one_new1 w9 _ 3 j u hj) (int_one1 _) (by decide) (by unfold maxLen; omega) (by omega) (by have := HOo.out.size; simp; omega) _ rfl ?_; intro g4 cap4 w4 hown4 hgrow4 hat4 hlt4)
        have HOn : Hid (Own 3 1 v3 w4 (.slice (some ⟨g4, 0, none⟩) (zn + 1) cap4) (lkL DA (DB.take (k + 1))).length (ints (lkL DA (DB.take (k + 1))))) := Lib.hid (by
          have hg : w9.grownBy w4 (Value.slice xa zn xc).ownBlock := ⟨hgrow4.os, hgrow4.tape, hgrow4.output, by have := hgrow4.size; simp at this; omega, fun j hj hne => by rw [hgrow4.block j (by simp; omega) hne]; exact Below.heap_alloc _ _ j hj⟩
          have h := HOo.out.app hg hown4
          rw [HNX.out, List.length_append, ← HZN.out]
          have e : ints (lkL DA (DB.take k)) ++ [.int .i64 p.o] = ints (lkL DA (DB.take k) ++ [p.o]) := by simp [ints]
          rw [← e]
          exact h)
        have HBw : Hid (Below (m + 1) wr w4) := Lib.hid ((HB9.out.mono (by omega)).trans (by
          have h1 : Below (m + 1) w9 (w9.alloc (.cells #[.int .i64 p.o] 3)) := (Below.refl _ _).alloc (by omega) _
          exact h1.grown hgrow4 (by simp; omega) (fun j hj => by have := (HOo.out.row.lt j hj).1; omega)))
        clear hown4 hgrow4 hat4 hlt4
        go_wp2_with fail
        go_roundw
        case rel => exact ⟨k + 1, _, by omega, by go_num, rfl, Lib.hid (hR.out.next (HBw.out.mono (by have := HBs.out; omega))), Lib.hid (hS.out.below HBw.out (by omega)), HOn⟩
        case measure => simp [intOf]; omega
    · have hge : ¬ ((k : Int) < (n : Int)) := by omega
      have HZZ : Hid (Row 1 wr w.heap.size wr.heap.size (.slice xa zn xc) (lks_ DA DB).length (lks_ DA DB)) := Lib.hid (by
        have h := (HO.out.toRow (by omega)).wide HVB.out.size (Nat.le_refl _)
        have e : DB.take k = DB := List.take_of_length_le (by have := HN.out; omega)
        rw [HZN.out, e] at h
        rw [HZ.out, HZN.out, e]
        exact h)
      go_wp2
      go_ret
      exact ⟨_, rfl, HZZ.out, hR.out.below⟩

end Go.Proofs.Ytfpafjdakipccaa
