/- Lacks of the specification. -/
import Derived.Test.YtfpafjdakipccaaSj
import Derived.Test.YtfpafjdakipccaaSk
import Derived.Test.YtfpafjdakipccaaOo
namespace Go.Proofs.Ytfpafjdakipccaa
open Go.RowKit


theorem sinst_any (D : List Ls) (l : Ls) (lo hi lo2 hi2 : Nat) (v u x : Value) (w : World) (hr : DRow w lo hi v D) (hr2 : LRow w lo2 hi2 u x l.K.length l.T.length (flat2 l.K) (flat l.T)) (hh : hi ≤ w.heap.size) (hh2 : hi2 ≤ w.heap.size) (hd : dtot D ≤ 1048576) :
    Calls Try.prog 29 #[.agg #[v], .agg #[.int .i64 l.o, .int .i64 l.s, .int .i64 l.g, u, x]] w fun e w' => ∃ rv, e = .returned (.tuple #[.agg #[rv], .int .i64 (icode D l)]) ∧ DRow w' w.heap.size w'.heap.size rv (inst D l) ∧ Below w.heap.size w w' := by
  cases hv : dokB D
  · exact sins_1 D l lo hi lo2 hi2 v u x w hr hr2 hh hh2 hd hv
  · cases hl : l.ok
    · exact sins_2 D l lo hi lo2 hi2 v u x w hr hr2 hh hh2 hd hv hl
    · cases hf : dfind D l.o with
      | none =>
        by_cases hg : l.g = 60
        · exact sins_3 D l lo hi lo2 hi2 v u x w hr hr2 hh hh2 hd hv hl hf hg
        · exact (sins_4 D l lo hi lo2 hi2 v u x w hr hr2 hh hh2 hd hv hl hf hg).mono fun _ _ h => h
      | some old =>
        obtain ⟨h1, h2⟩ := flo_len hv hf
        rcases newL_three hl h2 h1.symm with hz | hz | hz
        · exact (sins_7 D l lo hi lo2 hi2 v u x w hr hr2 hh hh2 hd hv hl old hf hz).mono fun _ _ h => h
        · exact sins_5 D l lo hi lo2 hi2 v u x w hr hr2 hh hh2 hd hv hl old hf hz
        · exact sins_6 D l lo hi lo2 hi2 v u x w hr hr2 hh hh2 hd hv hl old hf hz

set_option linter.unusedVariables false in
set_option maxRecDepth 100000 in
set_option maxHeartbeats 8000000 in
theorem slack_1 (DA DB : List Ls) (lo hi lo2 hi2 : Nat) (v v2 : Value) (w : World) (hr : DRow w lo hi v DA) (hr2 : DRow w lo2 hi2 v2 DB) (hh : hi ≤ w.heap.size) (hh2 : hi2 ≤ w.heap.size)  (ha : dokB DA = false) :
    Calls Try.prog 38 #[.agg #[v], .agg #[v2]] w fun e w' => ∃ rv, e = .returned rv ∧ Row 1 w' w.heap.size w'.heap.size rv (lks_ DA DB).length (lks_ DA DB) ∧ Below w.heap.size w w' := by
  have HA := Lib.hid ha
  have HZ : Hid (lks_ DA DB = []) := Lib.hid (if_neg (by rw [ha]; simp))
  have R0 := Lib.hid hr
  have R1 := Lib.hid hr2
  have hr' := hr2
  obtain ⟨a0, c0, e0⟩ := hr.slice
  subst e0
  obtain ⟨a, c, us, xs, bs, ev, X⟩ := hr'
  subst ev
  obtain ⟨na, hna⟩ : ∃ n, n = DA.length := ⟨_, rfl⟩
  rw [← hna] at R0 ⊢
  obtain ⟨n, hn⟩ : ∃ n, n = DB.length := ⟨_, rfl⟩
  rw [← hn] at R1 ⊢
  have HN := Lib.hid hn
  clear X hr hr2 hn hna ha
  go_enter Try.func38, Try.ntmps38
  go_wp2_with fail
  go_at_call 14
  refine (sdbok_any DA lo hi _ _ (R0.out.below (B := w.heap.size) (by go_grown) (by omega)) (by first | omega | (simp; omega) | simp)).mono ?_
  rw [HA.out]
  rintro e v1 ⟨rfl, hb1⟩
  have sz1 : w.heap.size + 3 ≤ v1.heap.size := by have hh := hb1.size; simp at hh; omega
  have st1 : Below w.heap.size w v1 := Below.trans (by go_grown) (hb1.mono (by simp <;> omega))
  have c1_0 : v1.cell? ⟨w.heap.size, 0, none⟩ = some (.slice a0 na c0) := by rw [(bcell hb1).1 _ _ (by simp <;> omega), old_box (by simp <;> omega), old_box (by simp <;> omega)]; first | (rw [new_at (by simp)]; rfl) | simp
  have c1_1 : v1.cell? ⟨w.heap.size + 1, 0, none⟩ = some (.slice a n c) := by rw [(bcell hb1).1 _ _ (by simp <;> omega), old_box (by simp <;> omega)]; first | (rw [new_at (by simp)]; rfl) | simp
  have B1 : Hid (Below w.heap.size w v1) := st1
  have R1_0 : Hid (DRow v1 (lo) (hi) (.slice a0 na c0)  DA) := R0.out.below st1 (by omega)
  have R1_1 : Hid (DRow v1 (lo2) (hi2) (.slice a n c)  DB) := R1.out.below st1 (by omega)
  have d1_0 : w.heap.size < v1.heap.size := by omega
  have e1_0 : w.heap.size ≠ v1.heap.size := by omega
  have d1_1 : w.heap.size + 1 < v1.heap.size := by omega
  have e1_1 : w.heap.size + 1 ≠ v1.heap.size := by omega
  clear st1 R0 R1 hb1
  go_wp2_with fail
  go_ret
  exact ⟨_, rfl, by rw [HZ.out]; exact ⟨rfl, .inl ⟨rfl, none, 0, rfl⟩⟩, B1.out⟩

set_option linter.unusedVariables false in
set_option maxRecDepth 100000 in
set_option maxHeartbeats 8000000 in
theorem slack_2 (DA DB : List Ls) (lo hi lo2 hi2 : Nat) (v v2 : Value) (w : World) (hr : DRow w lo hi v DA) (hr2 : DRow w lo2 hi2 v2 DB) (hh : hi ≤ w.heap.size) (hh2 : hi2 ≤ w.heap.size)  (ha : dokB DA = true) (hb : dokB DB = false) :
    Calls Try.prog 38 #[.agg #[v], .agg #[v2]] w fun e w' => ∃ rv, e = .returned rv ∧ Row 1 w' w.heap.size w'.heap.size rv (lks_ DA DB).length (lks_ DA DB) ∧ Below w.heap.size w w' := by
  have HA := Lib.hid ha
  have HB := Lib.hid hb
  have HZ : Hid (lks_ DA DB = []) := Lib.hid (if_neg (by rw [hb]; simp))
  have R0 := Lib.hid hr
  have R1 := Lib.hid hr2
  have hr' := hr2
  obtain ⟨a0, c0, e0⟩ := hr.slice
  subst e0
  obtain ⟨a, c, us, xs, bs, ev, X⟩ := hr'
  subst ev
  obtain ⟨na, hna⟩ : ∃ n, n = DA.length := ⟨_, rfl⟩
  rw [← hna] at R0 ⊢
  obtain ⟨n, hn⟩ : ∃ n, n = DB.length := ⟨_, rfl⟩
  rw [← hn] at R1 ⊢
  have HN := Lib.hid hn
  clear X hr hr2 hn hna ha hb
  go_enter Try.func38, Try.ntmps38
  go_wp2_with fail
  go_at_call 14
  refine (sdbok_any DA lo hi _ _ (R0.out.below (B := w.heap.size) (by go_grown) (by omega)) (by first | omega | (simp; omega) | simp)).mono ?_
  rw [HA.out]
  rintro e v1 ⟨rfl, hb1⟩
  have sz1 : w.heap.size + 3 ≤ v1.heap.size := by have hh := hb1.size; simp at hh; omega
  have st1 : Below w.heap.size w v1 := Below.trans (by go_grown) (hb1.mono (by simp <;> omega))
  have c1_0 : v1.cell? ⟨w.heap.size, 0, none⟩ = some (.slice a0 na c0) := by rw [(bcell hb1).1 _ _ (by simp <;> omega), old_box (by simp <;> omega), old_box (by simp <;> omega)]; first | (rw [new_at (by simp)]; rfl) | simp
  have c1_1 : v1.cell? ⟨w.heap.size + 1, 0, none⟩ = some (.slice a n c) := by rw [(bcell hb1).1 _ _ (by simp <;> omega), old_box (by simp <;> omega)]; first | (rw [new_at (by simp)]; rfl) | simp
  have B1 : Hid (Below w.heap.size w v1) := st1
  have R1_0 : Hid (DRow v1 (lo) (hi) (.slice a0 na c0)  DA) := R0.out.below st1 (by omega)
  have R1_1 : Hid (DRow v1 (lo2) (hi2) (.slice a n c)  DB) := R1.out.below st1 (by omega)
  have d1_0 : w.heap.size < v1.heap.size := by omega
  have e1_0 : w.heap.size ≠ v1.heap.size := by omega
  have d1_1 : w.heap.size + 1 < v1.heap.size := by omega
  have e1_1 : w.heap.size + 1 ≠ v1.heap.size := by omega
  clear st1 R0 R1 hb1
  go_wp2_with fail
  go_at_call 14
  refine (sdbok_any DB lo2 hi2 _ _ R1_1.out (by first | omega | (simp; omega) | simp)).mono ?_
  rw [HB.out]
  rintro e v2 ⟨rfl, hb2⟩
  have sz2 : v1.heap.size ≤ v2.heap.size := hb2.size
  have st2 : Below v1.heap.size v1 v2 := hb2
  have c2_0 : v2.cell? ⟨w.heap.size, 0, none⟩ = some (.slice a0 na c0) := by rw [(bcell st2).1 _ _ (by omega)]; exact c1_0
  have c2_1 : v2.cell? ⟨w.heap.size + 1, 0, none⟩ = some (.slice a n c) := by rw [(bcell st2).1 _ _ (by omega)]; exact c1_1
  have B2 : Hid (Below w.heap.size w v2) := B1.out.trans (st2.mono (by omega))
  have R2_0 : Hid (DRow v2 (lo) (hi) (.slice a0 na c0)  DA) := R1_0.out.below st2 (by omega)
  have R2_1 : Hid (DRow v2 (lo2) (hi2) (.slice a n c)  DB) := R1_1.out.below st2 (by omega)
  have d2_0 : w.heap.size < v2.heap.size := by omega
  have e2_0 : w.heap.size ≠ v2.heap.size := by omega
  have d2_1 : w.heap.size + 1 < v2.heap.size := by omega
  have e2_1 : w.heap.size + 1 ≠ v2.heap.size := by omega
  clear d1_0 e1_0 d1_1 e1_1 c1_0 c1_1 B1 st2 R1_0 R1_1 hb2
  go_wp2_with fail
  go_ret
  exact ⟨_, rfl, by rw [HZ.out]; exact ⟨rfl, .inl ⟨rfl, none, 0, rfl⟩⟩, B2.out⟩

set_option linter.unusedVariables false in
set_option maxRecDepth 100000 in
set_option maxHeartbeats 8000000 in
theorem slack_3 (DA DB : List Ls) (lo hi lo2 hi2 : Nat) (v v2 : Value) (w : World) (hr : DRow w lo hi v DA) (hr2 : DRow w lo2 hi2 v2 DB) (hh : hi ≤ w.heap.size) (hh2 : hi2 ≤ w.heap.size) (hd : dtot DA ≤ 1048576) (ha : dokB DA = true) (hb : dokB DB = true) :
    Calls Try.prog 38 #[.agg #[v], .agg #[v2]] w fun e w' => ∃ rv, e = .returned rv ∧ Row 1 w' w.heap.size w'.heap.size rv (lks_ DA DB).length (lks_ DA DB) ∧ Below w.heap.size w w' := by
  have HA := Lib.hid ha
  have HB := Lib.hid hb
  have HZ : Hid (lks_ DA DB = lkL DA DB) := Lib.hid (if_pos ⟨ha, hb⟩)
  have hn10 := dokB_len hb
  have R0 := Lib.hid hr
  have R1 := Lib.hid hr2
  have hr' := hr2
  obtain ⟨a0, c0, e0⟩ := hr.slice
  subst e0
  obtain ⟨a, c, us, xs, bs, ev, X⟩ := hr'
  subst ev
  obtain ⟨na, hna⟩ : ∃ n, n = DA.length := ⟨_, rfl⟩
  rw [← hna] at R0 ⊢
  obtain ⟨n, hn⟩ : ∃ n, n = DB.length := ⟨_, rfl⟩
  rw [← hn] at R1 ⊢
  have HN := Lib.hid hn
  have HX := Lib.hid X
  clear X hr hr2 hn hna ha hb
  rw [← HN.out] at hn10
  have HRA := R0
  obtain ⟨i3, hi0, hz0, hz1, hz2⟩ := info_parts Try.info3
  have I3 := Lib.hid (And.intro hi0 (And.intro hz0 (And.intro hz1 hz2)))
  clear hi0 hz0 hz1 hz2
  go_enter Try.func38, Try.ntmps38
  go_wp2_with fail
  obtain ⟨wS, hwS⟩ : ∃ q, q = (w.alloc (.cells #[.slice a0 na c0] 26)).alloc (.cells #[.slice a n c] 26) := ⟨_, rfl⟩
  have zS : wS.heap.size = w.heap.size + 1 + 1 := by rw [hwS]; simp
  have bS : Below w.heap.size w wS := by rw [hwS]; go_grown
  have HOw : Hid (Own 3 1 wS (wS.alloc (.cells #[] 3)) (.slice (some ⟨w.heap.size + 1 + 1, 0, none⟩) 0 0) 0 (ints [])) := Lib.hid (by have h := own_lit0 wS; rw [zS] at h; exact h)
  have HZS := Lib.hid zS
  have HBS := Lib.hid bS
  rw [hwS] at HOw
  obtain ⟨q1, hq1⟩ : ∃ q, q = (((w.alloc (.cells #[.slice a0 na c0] 26)).alloc (.cells #[.slice a n c] 26)).alloc (.cells #[] 3)) := ⟨_, rfl⟩
  have hb1 : Below w.heap.size w q1 := by rw [hq1]; go_grown
  have sz1 : w.heap.size + 3 ≤ q1.heap.size := by rw [hq1]; simp
  have c1_0 : q1.cell? ⟨w.heap.size, 0, none⟩ = some (.slice a0 na c0) := by rw [hq1, old_box (by simp <;> omega), old_box (by simp <;> omega), new_at (by simp)]; rfl
  have c1_1 : q1.cell? ⟨w.heap.size + 1, 0, none⟩ = some (.slice a n c) := by rw [hq1, old_box (by simp <;> omega), new_at (by simp)]; rfl
  have B1 : Hid (Below w.heap.size w q1) := Lib.hid hb1
  have R1_0 : Hid (DRow q1 (lo) (hi) (.slice a0 na c0)  DA) := Lib.hid (R0.out.below hb1 (by omega))
  have R1_1 : Hid (DRow q1 (lo2) (hi2) (.slice a n c)  DB) := Lib.hid (R1.out.below hb1 (by omega))
  rw [← hwS] at HOw
  rw [hwS] at HOw
  rw [← hq1] at HOw
  rw [← hwS] at HOw
  rw [← hq1]
  clear hwS zS bS
  have d1_0 : w.heap.size < q1.heap.size := by omega
  have e1_0 : w.heap.size ≠ q1.heap.size := by omega
  have d1_1 : w.heap.size + 1 < q1.heap.size := by omega
  have e1_1 : w.heap.size + 1 ≠ q1.heap.size := by omega
  clear hq1 hb1 R0 R1
  go_wp2_with fail
  go_at_call 14
  refine (sdbok_any DA lo hi _ _ R1_0.out (by first | omega | (simp; omega) | simp)).mono ?_
  rw [HA.out]
  rintro e v2 ⟨rfl, hb2⟩
  have sz2 : q1.heap.size ≤ v2.heap.size := hb2.size
  have st2 : Below q1.heap.size q1 v2 := hb2
  have HOw2 : Hid (Own 3 1 wS v2 (.slice (some ⟨w.heap.size + 1 + 1, 0, none⟩) 0 0) 0 (ints [])) := Lib.hid (HOw.out.grow hb2)
  have c2_0 : v2.cell? ⟨w.heap.size, 0, none⟩ = some (.slice a0 na c0) := by rw [(bcell st2).1 _ _ (by omega)]; exact c1_0
  have c2_1 : v2.cell? ⟨w.heap.size + 1, 0, none⟩ = some (.slice a n c) := by rw [(bcell st2).1 _ _ (by omega)]; exact c1_1
  have B2 : Hid (Below w.heap.size w v2) := B1.out.trans (st2.mono (by omega))
  have R2_0 : Hid (DRow v2 (lo) (hi) (.slice a0 na c0)  DA) := R1_0.out.below st2 (by omega)
  have R2_1 : Hid (DRow v2 (lo2) (hi2) (.slice a n c)  DB) := R1_1.out.below st2 (by omega)
  have d2_0 : w.heap.size < v2.heap.size := by omega
  have e2_0 : w.heap.size ≠ v2.heap.size := by omega
  have d2_1 : w.heap.size + 1 < v2.heap.size := by omega
  have e2_1 : w.heap.size + 1 ≠ v2.heap.size := by omega
  clear d1_0 e1_0 d1_1 e1_1 c1_0 c1_1 B1 st2 R1_0 R1_1 hb2
  
  go_wp2_with fail
  go_at_call 14
  refine (sdbok_any DB lo2 hi2 _ _ R2_1.out (by first | omega | (simp; omega) | simp)).mono ?_
  rw [HB.out]
  rintro e v3 ⟨rfl, hb3⟩
  have sz3 : v2.heap.size ≤ v3.heap.size := hb3.size
  have st3 : Below v2.heap.size v2 v3 := hb3
  have HOw3 : Hid (Own 3 1 wS v3 (.slice (some ⟨w.heap.size + 1 + 1, 0, none⟩) 0 0) 0 (ints [])) := Lib.hid (HOw2.out.grow hb3)
  have c3_0 : v3.cell? ⟨w.heap.size, 0, none⟩ = some (.slice a0 na c0) := by rw [(bcell st3).1 _ _ (by omega)]; exact c2_0
  have c3_1 : v3.cell? ⟨w.heap.size + 1, 0, none⟩ = some (.slice a n c) := by rw [(bcell st3).1 _ _ (by omega)]; exact c2_1
  have B3 : Hid (Below w.heap.size w v3) := B2.out.trans (st3.mono (by omega))
  have R3_0 : Hid (DRow v3 (lo) (hi) (.slice a0 na c0)  DA) := R2_0.out.below st3 (by omega)
  have R3_1 : Hid (DRow v3 (lo2) (hi2) (.slice a n c)  DB) := R2_1.out.below st3 (by omega)
  have d3_0 : w.heap.size < v3.heap.size := by omega
  have e3_0 : w.heap.size ≠ v3.heap.size := by omega
  have d3_1 : w.heap.size + 1 < v3.heap.size := by omega
  have e3_1 : w.heap.size + 1 ≠ v3.heap.size := by omega
  clear d2_0 e2_0 d2_1 e2_1 c2_0 c2_1 B2 st3 R2_0 R2_1 hb3
  have HR0 : Hid (L2 w v3 (.slice a0 na c0) (.slice a n c)) := Lib.hid ⟨c3_0, c3_1, by omega, B3.out⟩
  go_wp2
  go_loopw [5, 6] (fun lv i wr => ∃ (k : Nat) (rv : Value), k ≤ n ∧ i = .int .i64 (k : Int) ∧ lv = rv ∧ Hid (L2 w wr (.slice a0 na c0) (.slice a n c)) ∧ Hid (Own 3 1 wS wr rv (lkL DA (DB.take k)).length (ints (lkL DA (DB.take k)))) ) (fun _ i _ => n - (intOf i).toNat)
  case atStart => exact ⟨0, _, Nat.zero_le _, rfl, rfl, HR0, HOw3⟩
  case round =>
    clear HR0 c3_0 c3_1 d3_0 e3_0 d3_1 e3_1 HOw HOw2 HOw3
    obtain ⟨k, rv, hk, rfl, rfl, hR, HO⟩ := hrel
    obtain ⟨xa, xc, erv⟩ := HO.out.slice
    subst erv
    obtain ⟨zn, hzn⟩ : ∃ q, q = (lkL DA (DB.take k)).length := ⟨_, rfl⟩
    rw [← hzn] at HO ⊢
    have hzl : zn ≤ n := by rw [hzn]; refine Nat.le_trans (lkL_len _ _) ?_; rw [List.length_take]; omega
    have HZN := Lib.hid hzn
    clear hzn
    by_cases hlt : k < n
    · skip
      obtain ⟨p, hp⟩ : ∃ p, DB[k]? = some p := ⟨_, List.getElem?_eq_getElem (by have := HN.out; omega)⟩
      obtain ⟨G, rfl, g1, g2, _, g4, _⟩ := HX.out.outer (by have := HN.out; omega)
      have hc := (g4 k p hp).below hR.out.below (by omega)
      obtain ⟨i1, i2, i3'⟩ := HX.out.inner k p hp
      have RP := Lib.hid (i1.below hR.out.below (by omega))
      obtain ⟨x1, y1, x2, y2, e1, e2⟩ := i1.slice
      rw [e1, e2] at hc RP
      obtain ⟨d1, d2, d3, d4, d5⟩ := hc
      have hk0 : (0 : Int) ≤ (k : Int) := by omega
      have hk1 : (k : Int) < (n : Int) := by omega
      have hbz := hR.out.below.size
      have hGw : G < wr.heap.size := by omega
      obtain ⟨H0, hH0⟩ : ∃ q, q = (bs k).1 := ⟨_, rfl⟩
      obtain ⟨H1, hH1⟩ : ∃ q, q = (bs k).2 := ⟨_, rfl⟩
      have z1 : H1 ≤ wr.heap.size := by omega
      rw [← hH0, ← hH1] at RP
      have Hp := Lib.hid hp
      have HPO := Lib.hid (dokB_get HB.out hp).1
      have c0 := hR.out.c0
      have c1 := hR.out.c1
      have hsz := hR.out.size
      have hsz0 : w.heap.size < wr.heap.size := by omega
      clear i1 i2 i3' e1 e2 hH0 hH1 hp g4
      have R0w := Lib.hid (HRA.out.below hR.out.below hh)
      have z0 : hi ≤ wr.heap.size := by have := hR.out.below.size; omega
      cases hlk : lakB DA p
      · obtain ⟨z, hz⟩ : ∃ z, z = icode DA p := ⟨_, rfl⟩
        have hzb : (z == 0) = false := by rw [hz, icode_ok HA.out HPO.out]; exact hlk
        have HCO := Lib.hid hz.symm
        have HNX := Lib.hid (lkL_no Hp.out hlk)
        clear hz hlk
        go_wp2_with fail
        go_region_law (first
          | (go_simp; go_at_call 29; refine (sinst_any DA p lo hi H0 H1 _ _ _ _ (R0w.out.below (B := wr.heap.size) (by go_grown) z0) (RP.out.below (B := wr.heap.size) (by go_grown) z1) (by simp; omega) (by simp; omega) hd).mono ?_; rw [HCO.out]; rintro e w3 ⟨rv3, rfl, hr3, hb3⟩; obtain ⟨ra, rc, er⟩ := hr3.slice; subst er; have HB3 : Hid (Below wr.heap.size wr w3) := Lib.hid (Below.trans (by go_grown) (hb3.mono (by simp))); have h3z := HB3.out.size; first | (have cq : w3.cell? ⟨wr.heap.size, 0, none⟩ = some (.slice none 0 0) := (by rw [(bcell hb3).1 _ _ (by simp)]; first | (rw [new_at (by simp)]; rfl) | simp [go_sem]); have fq : w3.frozen? ⟨wr.heap.size, 0, none⟩ = false := (by rw [(bcell hb3).2 _ _ (by simp)]; first | (rw [new_frz (by simp)]) | simp [go_sem]); have lq : wr.heap.size < w3.heap.size := (by have hh := hb3.size; simp at hh; omega); clear hr3 hb3) | clear hr3 hb3))
        all_goals
          first
          | (obtain ⟨wy, hwy⟩ : ∃ q, q = w3.alloc (.cells #[.slice ra (inst DA p).length rc] 26) := ⟨_, rfl⟩
             rw [← hwy]
             have HBy : Hid (Below wr.heap.size wr wy) := Lib.hid (by rw [hwy]; exact HB3.out.alloc h3z _)
             clear hwy)
          | (obtain ⟨wy, hwy⟩ : ∃ q, q = w3.setCell ⟨wr.heap.size, 0, none⟩ (.slice ra (inst DA p).length rc) := ⟨_, rfl⟩
             rw [← hwy]
             have HBy : Hid (Below wr.heap.size wr wy) := Lib.hid (by rw [hwy]; exact HB3.out.setCell (Nat.le_refl _) _)
             clear hwy)
          clear HB3 h3z
          go_wp2_with fail
          go_roundw
          case rel => exact ⟨k + 1, _, by omega, by go_num, rfl, Lib.hid (hR.out.next (HBy.out.mono (by omega))), Lib.hid (by rw [HNX.out, ← HZN.out]; exact HO.out.grow HBy.out)⟩
          case measure => simp [intOf]; omega
      · have HCO : Hid (icode DA p = 0) := Lib.hid (by rw [icode_ok HA.out HPO.out]; simpa [lakB] using hlk)
        have HNX := Lib.hid (lkL_yes Hp.out hlk)
        clear hlk
        go_wp2_with fail
        go_region_law (first
          | (go_simp; go_at_call 29; refine (sinst_any DA p lo hi H0 H1 _ _ _ _ (R0w.out.below (B := wr.heap.size) (by go_grown) z0) (RP.out.below (B := wr.heap.size) (by go_grown) z1) (by simp; omega) (by simp; omega) hd).mono ?_; rw [HCO.out]; rintro e w3 ⟨rv3, rfl, hr3, hb3⟩; obtain ⟨ra, rc, er⟩ := hr3.slice; subst er; have HB3 : Hid (Below wr.heap.size wr w3) := Lib.hid (Below.trans (by go_grown) (hb3.mono (by simp))); have h3z := HB3.out.size; first | (have cq : w3.cell? ⟨wr.heap.size, 0, none⟩ = some (.slice none 0 0) := (by rw [(bcell hb3).1 _ _ (by simp)]; first | (rw [new_at (by simp)]; rfl) | simp [go_sem]); have fq : w3.frozen? ⟨wr.heap.size, 0, none⟩ = false := (by rw [(bcell hb3).2 _ _ (by simp)]; first | (rw [new_frz (by simp)]) | simp [go_sem]); have lq : wr.heap.size < w3.heap.size := (by have hh := hb3.size; simp at hh; omega); clear hr3 hb3) | clear hr3 hb3))
        all_goals
          first
          | (obtain ⟨wy, hwy⟩ : ∃ q, q = w3.alloc (.cells #[.slice ra (inst DA p).length rc] 26) := ⟨_, rfl⟩
             rw [← hwy]
             have HBy : Hid (Below wr.heap.size wr wy) := Lib.hid (by rw [hwy]; exact HB3.out.alloc h3z _)
             clear hwy)
          | (obtain ⟨wy, hwy⟩ : ∃ q, q = w3.setCell ⟨wr.heap.size, 0, none⟩ (.slice ra (inst DA p).length rc) := ⟨_, rfl⟩
             rw [← hwy]
             have HBy : Hid (Below wr.heap.size wr wy) := Lib.hid (by rw [hwy]; exact HB3.out.setCell (Nat.le_refl _) _)
             clear hwy)
          have HOo := Lib.hid (HO.out.grow HBy.out)
          have y0 : wy.cell? ⟨w.heap.size + 1, 0, none⟩ = some (.slice (some ⟨G, 0, none⟩) n c) := by rw [HBy.out.cell (p := ⟨w.heap.size + 1, 0, none⟩) hsz]; exact hR.out.c1
          have y1' : wy.cell? ⟨G, k * 5, none⟩ = some (.int .i64 p.o) := by rw [HBy.out.cell (p := ⟨G, k * 5, none⟩) hGw]; exact d1
          have yz := HBy.out.size
          clear HB3 h3z
          go_wp2_with (at_builtin; refine wpList_append_lies _ rfl _ _ 59 rfl wS.heap.size 3 i3 (.int .i64 0) 1 8 Try.underlying59 I3.out.1 I3.out.2.1 I3.out.2.2.1 I3.out.2.2.2 rfl (by decide) (.slice xa zn xc) zn (ints (lkL DA (DB.take k))) rfl (HOo.out.row.alloc _) ⟨wy.heap.size, 0, none⟩ 1 1 [.int .i64 p.o] rfl rfl (fun j u hj => cell_one_new1 wy _ 3 j u hj) (int_one1 _) (by decide) (by unfold maxLen; omega) (by omega) (by have := HOo.out.size; simp; omega) _ rfl ?_; intro g4 cap4 w4 hown4 hgrow4 hat4 hlt4)
          have HOn : Hid (Own 3 1 wS w4 (.slice (some ⟨g4, 0, none⟩) (zn + 1) cap4) (lkL DA (DB.take (k + 1))).length (ints (lkL DA (DB.take (k + 1))))) := Lib.hid (by
            have hg : wy.grownBy w4 (Value.slice xa zn xc).ownBlock := ⟨hgrow4.os, hgrow4.tape, hgrow4.output, by have := hgrow4.size; simp at this; omega, fun j hj hne => by rw [hgrow4.block j (by simp; omega) hne]; exact Below.heap_alloc _ _ j hj⟩
            have h := HOo.out.app hg hown4
            rw [HNX.out, List.length_append, ← HZN.out]
            have e : ints (lkL DA (DB.take k)) ++ [.int .i64 p.o] = ints (lkL DA (DB.take k) ++ [p.o]) := by simp [ints]
            rw [← e]
            exact h)
          have HBw : Hid (Below (w.heap.size + 2) wr w4) := Lib.hid ((HBy.out.mono (by omega)).trans (by
            have h1 : Below (w.heap.size + 2) wy (wy.alloc (.cells #[.int .i64 p.o] 3)) := (Below.refl _ _).alloc (by omega) _
            exact h1.grown hgrow4 (by simp; omega) (fun j hj => by have := (HOo.out.row.lt j hj).1; have := HZS.out; omega)))
          clear hown4 hgrow4 hat4 hlt4
          go_wp2_with fail
          go_roundw
          case rel => exact ⟨k + 1, _, by omega, by go_num, rfl, Lib.hid (hR.out.next HBw.out), HOn⟩
          case measure => simp [intOf]; omega
    · have hge : ¬ ((k : Int) < (n : Int)) := by omega
      have HZZ : Hid (Row 1 wr w.heap.size wr.heap.size (.slice xa zn xc) (lks_ DA DB).length (lks_ DA DB)) := Lib.hid (by
        have h := (HO.out.toRow (by omega)).wide HBS.out.size (Nat.le_refl _)
        have e : DB.take k = DB := List.take_of_length_le (by have := HN.out; omega)
        rw [HZN.out, e] at h
        rw [HZ.out, HZN.out, e]
        exact h)
      have c0 := hR.out.c0
      have c1 := hR.out.c1
      have hsz := hR.out.size
      have hsz0 : w.heap.size < wr.heap.size := by omega
      go_wp2
      go_ret
      exact ⟨_, rfl, HZZ.out, hR.out.below⟩

end Go.Proofs.Ytfpafjdakipccaa
