/- The model's table functions once more: what they answer lies in memory of its own. -/
import Derived.Test.YtgdnfglhlpnooaaPp
namespace Go.Proofs.Ytgdnfglhlpnooaa
open Go.RowKit

set_option maxRecDepth 100000 in
set_option maxHeartbeats 4000000 in
theorem sput_no_own (lo hi n : Nat) (v : Value) (L : List Rt) (x0 x1 x2 : Int) (w : World) (hL : L.length = n) (hr : Row 3 w lo hi v n (flat L)) (hh : hi ≤ w.heap.size) (ht : tok L = true) (hto : tok (insR L (x0, x1, x2)) = false) : Calls Try.prog 19 #[.agg #[v], .agg #[.int .i64 x0, .int .i64 x1, .int .i64 x2]] w (TabBPostO L false w) := by
  have HR := Lib.hid hr
  obtain ⟨ad, cp, rfl, hn, _⟩ := hr.opened
  clear hr
  obtain ⟨iI, hi0, hz0, hz1, hz2⟩ := info_parts Try.info43r
  have I := Lib.hid (And.intro hi0 (And.intro hz0 (And.intro hz1 hz2)))
  clear hi0 hz0 hz1 hz2
  have h120 := (tok_parts ht).1
  have hsp := spF_ins (r := (x0, x1, x2)) (tok_srt ht)
  have hil := insR_len L (x0, x1, x2)
  have HSP := Lib.hid hsp
  clear hsp
  go_enter Try.func19, Try.ntmps19
  go_wp2_with fail
  go_at_call 39
  refine (stok_any lo hi n _ L _ hL (HR.out.below (B := w.heap.size) (by go_grown) (by omega)) (by simp; omega)).mono ?_
  rw [ht]
  rintro e v1 ⟨rfl, hb1⟩
  have sz1 : w.heap.size + 3 ≤ v1.heap.size := by have hh := hb1.size; simp at hh; omega
  have st1 : Below w.heap.size w v1 := Below.trans (by go_grown) (hb1.mono (by simp <;> omega))
  have c1_0 : v1.cell? ⟨w.heap.size, 0, none⟩ = some (.slice ad n cp) := by rw [(bcell hb1).1 _ _ (by simp <;> omega), old_box (by simp <;> omega), old_box (by simp <;> omega)]; first | (rw [new_at (by simp)]; rfl) | simp
  have c1_1 : v1.cell? ⟨w.heap.size + 1, 0, none⟩ = some (.int .i64 x0) := by rw [(bcell hb1).1 _ _ (by simp <;> omega), old_box (by simp <;> omega)]; first | (rw [new_at (by simp)]; rfl) | simp
  have c1_2 : v1.cell? ⟨w.heap.size + 1, 1, none⟩ = some (.int .i64 x1) := by rw [(bcell hb1).1 _ _ (by simp <;> omega), old_box (by simp <;> omega)]; first | (rw [new_at (by simp)]; rfl) | simp
  have c1_3 : v1.cell? ⟨w.heap.size + 1, 2, none⟩ = some (.int .i64 x2) := by rw [(bcell hb1).1 _ _ (by simp <;> omega), old_box (by simp <;> omega)]; first | (rw [new_at (by simp)]; rfl) | simp
  have c1_4 : v1.cell? ⟨w.heap.size + 1 + 1, 0, none⟩ = some (.slice none 0 0) := by rw [(bcell hb1).1 _ _ (by simp)]; first | (rw [new_at (by simp)]; rfl) | simp
  have g1_0 : v1.frozen? ⟨w.heap.size + 1 + 1, 0, none⟩ = false := by rw [(bcell hb1).2 _ _ (by simp), new_frz (by simp)]
  have B1 : Hid (Below w.heap.size w v1) := st1
  have R1_0 : Hid (Row 3 v1 (lo) (hi) (.slice ad n cp) n (flat L)) := HR.out.below st1 (by omega)
  have d1_0 : w.heap.size < v1.heap.size := by omega
  have e1_0 : w.heap.size ≠ v1.heap.size := by omega
  have d1_1 : w.heap.size + 1 < v1.heap.size := by omega
  have e1_1 : w.heap.size + 1 ≠ v1.heap.size := by omega
  have d1_2 : w.heap.size + 1 + 1 < v1.heap.size := by omega
  have e1_2 : w.heap.size + 1 + 1 ≠ v1.heap.size := by omega
  have ST1 := Lib.hid st1
  clear st1 HR hb1
  obtain ⟨O, hO⟩ : ∃ O, O = L.filter (notP x0 x1) := ⟨_, rfl⟩
  have hOl : O.length ≤ n := by rw [hO, ← hL]; exact List.length_filter_le _ _
  obtain ⟨m, hm⟩ : ∃ m, m = O.length := ⟨_, rfl⟩
  rw [← hm] at hOl
  go_wp2_with fail
  go_at_call 52
  refine (sless_any lo hi n _ L x0 x1 _ hL R1_0.out (by omega)).mono ?_
  rintro e v2 ⟨rv, rfl, hr2, hb2⟩
  have sz2 : v1.heap.size ≤ v2.heap.size := hb2.size
  have st2 : Below v1.heap.size v1 v2 := hb2
  have c2_0 : v2.cell? ⟨w.heap.size, 0, none⟩ = some (.slice ad n cp) := by rw [(bcell st2).1 _ _ (by omega)]; exact c1_0
  have c2_1 : v2.cell? ⟨w.heap.size + 1, 0, none⟩ = some (.int .i64 x0) := by rw [(bcell st2).1 _ _ (by omega)]; exact c1_1
  have c2_2 : v2.cell? ⟨w.heap.size + 1, 1, none⟩ = some (.int .i64 x1) := by rw [(bcell st2).1 _ _ (by omega)]; exact c1_2
  have c2_3 : v2.cell? ⟨w.heap.size + 1, 2, none⟩ = some (.int .i64 x2) := by rw [(bcell st2).1 _ _ (by omega)]; exact c1_3
  have c2_4 : v2.cell? ⟨w.heap.size + 1 + 1, 0, none⟩ = some (.slice none 0 0) := by rw [(bcell st2).1 _ _ (by omega)]; exact c1_4
  have g2_0 : v2.frozen? ⟨w.heap.size + 1 + 1, 0, none⟩ = false := by rw [(bcell st2).2 _ _ (by omega)]; exact g1_0
  have B2 : Hid (Below w.heap.size w v2) := B1.out.trans (st2.mono (by omega))
  have R2_0 : Hid (Row 3 v2 (lo) (hi) (.slice ad n cp) n (flat L)) := R1_0.out.below st2 (by omega)
  have d2_0 : w.heap.size < v2.heap.size := by omega
  have e2_0 : w.heap.size ≠ v2.heap.size := by omega
  have d2_1 : w.heap.size + 1 < v2.heap.size := by omega
  have e2_1 : w.heap.size + 1 ≠ v2.heap.size := by omega
  have d2_2 : w.heap.size + 1 + 1 < v2.heap.size := by omega
  have e2_2 : w.heap.size + 1 + 1 ≠ v2.heap.size := by omega
  have ST2 := Lib.hid st2
  clear d1_0 e1_0 d1_1 e1_1 d1_2 e1_2 c1_0 c1_1 c1_2 c1_3 c1_4 g1_0 B1 st2 R1_0 hb2
  rw [← hO, ← hm] at hr2
  obtain ⟨ra, rc, rfl⟩ := hr2.slice
  have HR2 := Lib.hid hr2
  have HO := Lib.hid (And.intro hO hm)
  clear hr2 hO hm
  go_upto_region 5 with fail
  obtain ⟨q3, hq3⟩ : ∃ q, q = ((v2.alloc (.cells #[.slice ra m rc] 30)).alloc (.cells #[.slice none 0 0] 30)) := ⟨_, rfl⟩
  have hb3 : Below v2.heap.size v2 q3 := by rw [hq3]; go_grown
  have sz3 : v2.heap.size + 2 ≤ q3.heap.size := by rw [hq3]; simp
  have c3_0 : q3.cell? ⟨w.heap.size, 0, none⟩ = some (.slice ad n cp) := by rw [(bcell hb3).1 _ _ (by omega)]; exact c2_0
  have c3_1 : q3.cell? ⟨w.heap.size + 1, 0, none⟩ = some (.int .i64 x0) := by rw [(bcell hb3).1 _ _ (by omega)]; exact c2_1
  have c3_2 : q3.cell? ⟨w.heap.size + 1, 1, none⟩ = some (.int .i64 x1) := by rw [(bcell hb3).1 _ _ (by omega)]; exact c2_2
  have c3_3 : q3.cell? ⟨w.heap.size + 1, 2, none⟩ = some (.int .i64 x2) := by rw [(bcell hb3).1 _ _ (by omega)]; exact c2_3
  have c3_4 : q3.cell? ⟨w.heap.size + 1 + 1, 0, none⟩ = some (.slice none 0 0) := by rw [(bcell hb3).1 _ _ (by omega)]; exact c2_4
  have c3_5 : q3.cell? ⟨v2.heap.size, 0, none⟩ = some (.slice ra m rc) := by rw [hq3, old_box (by simp <;> omega), new_at (by simp)]; rfl
  have c3_6 : q3.cell? ⟨v2.heap.size + 1, 0, none⟩ = some (.slice none 0 0) := by rw [hq3, new_at (by simp)]; rfl
  have g3_0 : q3.frozen? ⟨w.heap.size + 1 + 1, 0, none⟩ = false := by rw [(bcell hb3).2 _ _ (by omega)]; exact g2_0
  have g3_1 : q3.frozen? ⟨v2.heap.size, 0, none⟩ = false := by rw [hq3, old_frz (by simp <;> omega), new_frz (by simp)]
  have g3_2 : q3.frozen? ⟨v2.heap.size + 1, 0, none⟩ = false := by rw [hq3, new_frz (by simp)]
  have B3 : Hid (Below w.heap.size w q3) := Lib.hid (B2.out.trans (hb3.mono (by omega)))
  have R3_0 : Hid (Row 3 q3 (lo) (hi) (.slice ad n cp) n (flat L)) := Lib.hid (R2_0.out.below hb3 (by omega))
  have R3_1 : Hid (Row 3 q3 (v1.heap.size) (v2.heap.size) (.slice ra m rc) m (flat O)) := Lib.hid (HR2.out.below hb3 (by omega))
  rw [← hq3]
  have d3_0 : w.heap.size < q3.heap.size := by omega
  have e3_0 : w.heap.size ≠ q3.heap.size := by omega
  have d3_1 : w.heap.size + 1 < q3.heap.size := by omega
  have e3_1 : w.heap.size + 1 ≠ q3.heap.size := by omega
  have d3_2 : w.heap.size + 1 + 1 < q3.heap.size := by omega
  have e3_2 : w.heap.size + 1 + 1 ≠ q3.heap.size := by omega
  have d3_3 : v2.heap.size < q3.heap.size := by omega
  have e3_3 : v2.heap.size ≠ q3.heap.size := by omega
  have d3_4 : v2.heap.size + 1 < q3.heap.size := by omega
  have e3_4 : v2.heap.size + 1 ≠ q3.heap.size := by omega
  clear hq3 hb3 d2_0 e2_0 d2_1 e2_1 d2_2 e2_2 c2_0 c2_1 c2_2 c2_3 c2_4 g2_0 B2 R2_0 HR2
  obtain ⟨X, hX⟩ : ∃ X, X = v2.heap.size + 1 := ⟨_, rfl⟩
  rw [← hX] at c3_6 g3_2 ⊢
  have HOT : Hid (OutT q3 q3 X (spK O (x0, x1, x2) 0).1) := Lib.hid (OutT.start (by omega) g3_2 c3_6)
  have nX : v2.heap.size < X := by omega
  have nX3 : X < q3.heap.size := by omega
  have nsz : v2.heap.size + 2 ≤ q3.heap.size := by omega
  have nX2 : w.heap.size + 1 + 1 + 1 ≤ v1.heap.size := by omega
  have nX4 : v1.heap.size ≤ v2.heap.size := by omega
  have HX := Lib.hid hX
  clear hX c3_6 g3_2
  have HC0 : Hid (q3.cell? ⟨w.heap.size, 0, none⟩ = some (.slice ad n cp)) := c3_0
  clear c3_0
  have HC1 : Hid (q3.cell? ⟨w.heap.size + 1, 0, none⟩ = some (.int .i64 x0)) := c3_1
  clear c3_1
  have HC2 : Hid (q3.cell? ⟨w.heap.size + 1, 1, none⟩ = some (.int .i64 x1)) := c3_2
  clear c3_2
  have HC3 : Hid (q3.cell? ⟨w.heap.size + 1, 2, none⟩ = some (.int .i64 x2)) := c3_3
  clear c3_3
  have HC4 : Hid (q3.cell? ⟨w.heap.size + 1 + 1, 0, none⟩ = some (.slice none 0 0)) := c3_4
  clear c3_4
  have HC5 : Hid (q3.cell? ⟨v2.heap.size, 0, none⟩ = some (.slice ra m rc)) := c3_5
  clear c3_5
  have HJ0 : Hid (q3.frozen? ⟨w.heap.size + 1 + 1, 0, none⟩ = false) := g3_0
  clear g3_0
  have HJ1 : Hid (q3.frozen? ⟨v2.heap.size, 0, none⟩ = false) := g3_1
  clear g3_1
  have hOop := R3_1.out.opened
  have HOL := Lib.hid hOop
  clear hOop
  go_wp2_with fail
  go_loopw [8, 9] (fun p i wr => ∃ k : Nat, k ≤ m ∧ p = .bool (spK O (x0, x1, x2) k).2 ∧ i = .int .i64 (k : Int) ∧ Hid (OutT q3 wr X (spK O (x0, x1, x2) k).1)) (fun _ i _ => m - (intOf i).toNat)
  case atStart => exact ⟨0, Nat.zero_le _, rfl, rfl, HOT⟩
  case round =>
    clear HOT
    obtain ⟨k, hk, rfl, rfl, hR⟩ := hrel
    have hsl := (spK_len O (x0, x1, x2) k).1
    have sXr := hR.out.size
    have s3r : q3.heap.size ≤ wr.heap.size := hR.out.1.size
    have kr0 : wr.cell? ⟨w.heap.size, 0, none⟩ = some (.slice ad n cp) := hR.out.keep (by omega) HC0.out
    have kr1 : wr.cell? ⟨w.heap.size + 1, 0, none⟩ = some (.int .i64 x0) := hR.out.keep (by omega) HC1.out
    have kr2 : wr.cell? ⟨w.heap.size + 1, 1, none⟩ = some (.int .i64 x1) := hR.out.keep (by omega) HC2.out
    have kr3 : wr.cell? ⟨w.heap.size + 1, 2, none⟩ = some (.int .i64 x2) := hR.out.keep (by omega) HC3.out
    have kr4 : wr.cell? ⟨w.heap.size + 1 + 1, 0, none⟩ = some (.slice none 0 0) := hR.out.keep (by omega) HC4.out
    have kr5 : wr.cell? ⟨v2.heap.size, 0, none⟩ = some (.slice ra m rc) := hR.out.keep (by omega) HC5.out
    have jr0 : wr.frozen? ⟨w.heap.size + 1 + 1, 0, none⟩ = false := hR.out.keepf (by omega) HJ0.out
    have jr1 : wr.frozen? ⟨v2.heap.size, 0, none⟩ = false := hR.out.keepf (by omega) HJ1.out
    by_cases hlt : k < m
    case pos =>
      have q0 : (0 : Int) ≤ (k : Int) := by omega
      have q1 : (k : Int) < (m : Int) := by omega
      obtain ⟨ra', rc', hsl', hn', hop'⟩ := HOL.out
      obtain ⟨rfl, rfl⟩ : ra = ra' ∧ rc = rc' := by simpa using hsl'
      obtain ⟨g, rfl, hg, hz⟩ := hop' (by omega)
      clear hsl' hop' HOL
      obtain ⟨a, b, c, hrk⟩ := at_of_lt (L := O) (i := k) (by rw [← HO.out.2]; exact hlt)
      obtain ⟨r0, r1, r2⟩ := flat_at O k _ hrk
      have HZ0 := Lib.hid (hz _ _ r0)
      have HZ1 := Lib.hid (hz _ _ r1)
      have HZ2 := Lib.hid (hz _ _ r2)
      have hgX : g < X := by omega
      have zr0 : wr.cell? ⟨g, k * 3, none⟩ = some (.int .i64 a) := hR.out.keep hgX HZ0.out
      have zr1 : wr.cell? ⟨g, k * 3 + 1, none⟩ = some (.int .i64 b) := hR.out.keep hgX HZ1.out
      have Hrk := Lib.hid hrk
      clear r0 r1 r2 hrk hz
      cases hp : (spK O (x0, x1, x2) k).2 with
      | true =>
        have HN : Hid (spK O (x0, x1, x2) (k + 1) = ((spK O (x0, x1, x2) k).1 ++ [(a, b, c)], true)) := by
          have h := spK_two (r := (x0, x1, x2)) Hrk.out (by rw [hp]; simp)
          rw [hp] at h
          exact Lib.hid h
        go_wp2_with fail
        go_quiet (fail)
        obtain ⟨wy, hwy⟩ : ∃ wy, wy = wr.drewN nq := ⟨_, rfl⟩
        have HOTy : Hid (OutT q3 wy X (spK O (x0, x1, x2) k).1) := by rw [hwy]; exact Lib.hid (hR.out.drewN nq)
        rw [← hwy]
        clear hwy hR hp zr0 zr1
        clear kr0 kr1 kr2 kr3 kr4 kr5 jr0 jr1
        have sXy := HOTy.out.size
        have s3y : q3.heap.size ≤ wy.heap.size := HOTy.out.1.size
        have ky0 : wy.cell? ⟨w.heap.size, 0, none⟩ = some (.slice ad n cp) := HOTy.out.keep (by omega) HC0.out
        have ky1 : wy.cell? ⟨w.heap.size + 1, 0, none⟩ = some (.int .i64 x0) := HOTy.out.keep (by omega) HC1.out
        have ky2 : wy.cell? ⟨w.heap.size + 1, 1, none⟩ = some (.int .i64 x1) := HOTy.out.keep (by omega) HC2.out
        have ky3 : wy.cell? ⟨w.heap.size + 1, 2, none⟩ = some (.int .i64 x2) := HOTy.out.keep (by omega) HC3.out
        have ky4 : wy.cell? ⟨w.heap.size + 1 + 1, 0, none⟩ = some (.slice none 0 0) := HOTy.out.keep (by omega) HC4.out
        have ky5 : wy.cell? ⟨v2.heap.size, 0, none⟩ = some (.slice (some ⟨g, 0, none⟩) m rc) := HOTy.out.keep (by omega) HC5.out
        have jy0 : wy.frozen? ⟨w.heap.size + 1 + 1, 0, none⟩ = false := HOTy.out.keepf (by omega) HJ0.out
        have jy1 : wy.frozen? ⟨v2.heap.size, 0, none⟩ = false := HOTy.out.keepf (by omega) HJ1.out
        obtain ⟨rvy, hrvy, howny⟩ := HOTy.out.2.2.2
        obtain ⟨oay, ocy, hoay⟩ := own_slice howny
        subst hoay
        have hfXy := HOTy.out.2.2.1
        have Hwy := Lib.hid howny
        obtain ⟨mly, hmly⟩ : ∃ ml, ml = (spK O (x0, x1, x2) k).1.length := ⟨_, rfl⟩
        rw [← hmly] at hrvy Hwy
        have Hmly := Lib.hid hmly
        have hmby : mly ≤ 1000000 := by omega
        clear howny hmly
        have zy0 : wy.cell? ⟨g, k * 3, none⟩ = some (.int .i64 a) := HOTy.out.keep (by omega) HZ0.out
        have zy1 : wy.cell? ⟨g, k * 3 + 1, none⟩ = some (.int .i64 b) := HOTy.out.keep (by omega) HZ1.out
        have zy2 : wy.cell? ⟨g, k * 3 + 2, none⟩ = some (.int .i64 c) := HOTy.out.keep (by omega) HZ2.out
        have hgwy : g < wy.heap.size := by omega
        go_wp2_with fail
        go_region_law ((refine step_append_lies _ rfl _ _ 28 rfl (X + 1) 43 iI (.agg #[.int .i64 0, .int .i64 0, .int .i64 0]) 3 24 Try.underlying28 I.out.1 I.out.2.1 I.out.2.2.1 I.out.2.2.2 rfl (by decide) _ mly (ints (flat (spK O (x0, x1, x2) k).1)) rfl (Hwy.out.drew.alloc _) ⟨wy.heap.size, 0, none⟩ 1 1 (ints [a, b, c]) rfl rfl (fun j u hj => cells_new _ [a, b, c] 43 rfl j u hj) (ints_one _) (by decide) (by unfold maxLen; omega) (by omega) (by simp; omega) _ rfl ?_; intro g4 cap4 w4 hown4 hgrow4 hat4 hlt4; obtain ⟨⟨uu, hc4⟩, hf4, hF4⟩ := OutT.app HOTy.out.drew (by rw [← Hmly.out]; exact Hwy.out.drew) hgrow4 (show mly + 1 = (spK O (x0, x1, x2) k).1.length + 1 by rw [Hmly.out]) hown4; have HF := Lib.hid hF4; clear hF4 hown4 hgrow4 hat4 hlt4))
        all_goals
          go_wp2_with fail
          go_roundw
          case rel => exact ⟨k + 1, by omega, by rw [HN.out], by go_num, by rw [HN.out]; exact HF⟩
          case measure => simp [intOf]; omega
      | false =>
        have hsl2 := (spK_len O (x0, x1, x2) k).2 hp
        cases ha : ahP x0 x1 a b with
        | false =>
          have HN : Hid (spK O (x0, x1, x2) (k + 1) = ((spK O (x0, x1, x2) k).1 ++ [(a, b, c)], false)) := by
            have h := spK_two (r := (x0, x1, x2)) Hrk.out (fun h => by rw [ha] at h; exact absurd h.2 (by simp))
            rw [hp] at h
            exact Lib.hid h
          have Hp := Lib.hid hp
          go_wp2_with fail
          refine wp_region_held_drew (S := (fun w' => w'.cell? ⟨w.heap.size + 1, 0, none⟩ = some (.int .i64 x0) ∧ w'.cell? ⟨w.heap.size + 1, 1, none⟩ = some (.int .i64 x1) ∧ w'.cell? ⟨v2.heap.size, 0, none⟩ = some (.slice (some ⟨g, 0, none⟩) m rc) ∧ w'.cell? ⟨g, k * 3, none⟩ = some (.int .i64 a) ∧ w'.cell? ⟨g, k * 3 + 1, none⟩ = some (.int .i64 b) ∧ wr.heap.size ≤ w'.heap.size ∧ Below wr.heap.size wr w')) (by kernel_rfl) ?_ (fun hHeld => ?_)
          · (first | assumption | exact rr5_start kr1 kr2 kr5 zr0 zr1 | exact rr5_drew (by assumption) | exact rr5_keep (by omega) (by omega) (by omega) (by omega) (by omega) hb (by assumption) | fail)
          refine step_read 0 27 rfl rfl (by kernel_rfl) (by kernel_rfl) (by kernel_rfl) (fun _ _ _ h => h) (by rfl) (v := ?_) (fun w hSw => ?_) (by assumption) ?_; rotate_left; (focus ((try dsimp only at hSw); go_simp; first | done | exact rfl)); simp only [List.set]
          refine step_read 1 28 rfl rfl (by kernel_rfl) (by kernel_rfl) (by kernel_rfl) (fun _ _ _ h => h) (by rfl) (v := ?_) (fun w hSw => ?_) (by assumption) ?_; rotate_left; (focus ((try dsimp only at hSw); go_simp; first | done | exact rfl)); simp only [List.set]
          refine step_read 2 29 rfl rfl (by kernel_rfl) (by kernel_rfl) (by kernel_rfl) (fun _ _ _ h => h) (by rfl) (v := ?_) (fun w hSw => ?_) (by assumption) ?_; rotate_left; (focus ((try dsimp only at hSw); go_simp; first | done | exact rfl)); simp only [List.set]
          refine step_read 3 30 rfl rfl (by kernel_rfl) (by kernel_rfl) (by kernel_rfl) (fun _ _ _ h => h) (by rfl) (v := ?_) (fun w hSw => ?_) (by assumption) ?_; rotate_left; (focus ((try dsimp only at hSw); go_simp; first | done | exact rfl)); simp only [List.set]
          refine step_read 4 31 rfl rfl (by kernel_rfl) (by kernel_rfl) (by kernel_rfl) (fun _ _ _ h => h) (by rfl) (v := ?_) (fun w hSw => ?_) (by assumption) ?_; rotate_left; (focus ((try dsimp only at hSw); go_simp; first | done | exact rfl)); simp only [List.set]
          refine step_read 5 32 rfl rfl (by kernel_rfl) (by kernel_rfl) (by kernel_rfl) (fun _ _ _ h => h) (by rfl) (v := ?_) (fun w hSw => ?_) (by assumption) ?_; rotate_left; (focus ((try dsimp only at hSw); go_simp; first | done | exact rfl)); simp only [List.set]
          refine step_read 6 33 rfl rfl (by kernel_rfl) (by kernel_rfl) (by kernel_rfl) (fun _ _ _ h => h) (by rfl) (v := ?_) (fun w hSw => ?_) (by assumption) ?_; rotate_left; (focus ((try dsimp only at hSw); go_simp; first | done | exact rfl)); simp only [List.set]
          refine step_read 7 34 rfl rfl (by kernel_rfl) (by kernel_rfl) (by kernel_rfl) (fun _ _ _ h => h) (by rfl) (v := ?_) (fun w hSw => ?_) (by assumption) ?_; rotate_left; (focus ((try dsimp only at hSw); go_simp; first | done | exact rfl)); simp only [List.set]
          refine step_read 8 35 rfl rfl (by kernel_rfl) (by kernel_rfl) (by kernel_rfl) (fun _ _ _ h => h) (by rfl) (v := ?_) (fun w hSw => ?_) (by assumption) ?_; rotate_left; (focus ((try dsimp only at hSw); go_simp; first | done | exact rfl)); simp only [List.set]
          refine step_read 9 36 rfl rfl (by kernel_rfl) (by kernel_rfl) (by kernel_rfl) (fun _ _ _ h => h) (by rfl) (v := ?_) (fun w hSw => ?_) (by assumption) ?_; rotate_left; (focus ((try dsimp only at hSw); go_simp; first | done | exact rfl)); simp only [List.set]
          refine step_read 10 37 rfl rfl (by kernel_rfl) (by kernel_rfl) (by kernel_rfl) (fun _ _ _ h => h) (by rfl) (v := ?_) (fun w hSw => ?_) (by assumption) ?_; rotate_left; (focus ((try dsimp only at hSw); go_simp; first | done | exact rfl)); simp only [List.set]
          refine wpAnyH_ready (rs := [11]) (by kernel_rfl) (by simp) ?_
          refine AllReadyH.cons rfl (fun Kc hK => ?_) (AllReadyH.nil)
          go_simp
          go_at_call 62
          refine (ahead_any x0 x1 a b _).mono ?_
          rw [ha]
          rintro e wy ⟨rfl, hb⟩
          refine hK.out _ _ ?_ (fun hHeld => ?_)
          · (first | assumption | exact rr5_start kr1 kr2 kr5 zr0 zr1 | exact rr5_drew (by assumption) | exact rr5_keep (by omega) (by omega) (by omega) (by omega) (by omega) hb (by assumption) | fail)
          clear hK Kc
          refine step_read 12 39 rfl rfl (by kernel_rfl) (by kernel_rfl) (by kernel_rfl) (fun _ _ _ h => h) (by rfl) (v := ?_) (fun w hSw => ?_) (by assumption) ?_; rotate_left; (focus ((try dsimp only at hSw); go_simp; first | done | exact rfl)); simp only [List.set]
          refine wpAnyH_done (by kernel_rfl) ?_ _
          have HOTy : Hid (OutT q3 wy X (spK O (x0, x1, x2) k).1) := Lib.hid (hR.out.below (rr5_out (by assumption)).2)
          clear hR
          clear kr0 kr1 kr2 kr3 kr4 kr5 jr0 jr1
          clear hp zr0 zr1
          have sXy := HOTy.out.size
          have s3y : q3.heap.size ≤ wy.heap.size := HOTy.out.1.size
          have ky0 : wy.cell? ⟨w.heap.size, 0, none⟩ = some (.slice ad n cp) := HOTy.out.keep (by omega) HC0.out
          have ky1 : wy.cell? ⟨w.heap.size + 1, 0, none⟩ = some (.int .i64 x0) := HOTy.out.keep (by omega) HC1.out
          have ky2 : wy.cell? ⟨w.heap.size + 1, 1, none⟩ = some (.int .i64 x1) := HOTy.out.keep (by omega) HC2.out
          have ky3 : wy.cell? ⟨w.heap.size + 1, 2, none⟩ = some (.int .i64 x2) := HOTy.out.keep (by omega) HC3.out
          have ky4 : wy.cell? ⟨w.heap.size + 1 + 1, 0, none⟩ = some (.slice none 0 0) := HOTy.out.keep (by omega) HC4.out
          have ky5 : wy.cell? ⟨v2.heap.size, 0, none⟩ = some (.slice (some ⟨g, 0, none⟩) m rc) := HOTy.out.keep (by omega) HC5.out
          have jy0 : wy.frozen? ⟨w.heap.size + 1 + 1, 0, none⟩ = false := HOTy.out.keepf (by omega) HJ0.out
          have jy1 : wy.frozen? ⟨v2.heap.size, 0, none⟩ = false := HOTy.out.keepf (by omega) HJ1.out
          obtain ⟨rvy, hrvy, howny⟩ := HOTy.out.2.2.2
          obtain ⟨oay, ocy, hoay⟩ := own_slice howny
          subst hoay
          have hfXy := HOTy.out.2.2.1
          have Hwy := Lib.hid howny
          obtain ⟨mly, hmly⟩ : ∃ ml, ml = (spK O (x0, x1, x2) k).1.length := ⟨_, rfl⟩
          rw [← hmly] at hrvy Hwy
          have Hmly := Lib.hid hmly
          have hmby : mly ≤ 1000000 := by omega
          clear howny hmly
          have zy0 : wy.cell? ⟨g, k * 3, none⟩ = some (.int .i64 a) := HOTy.out.keep (by omega) HZ0.out
          have zy1 : wy.cell? ⟨g, k * 3 + 1, none⟩ = some (.int .i64 b) := HOTy.out.keep (by omega) HZ1.out
          have zy2 : wy.cell? ⟨g, k * 3 + 2, none⟩ = some (.int .i64 c) := HOTy.out.keep (by omega) HZ2.out
          have hgwy : g < wy.heap.size := by omega
          go_wp2_with fail
          go_region_law ((refine step_append_lies _ rfl _ _ 28 rfl (X + 1) 43 iI (.agg #[.int .i64 0, .int .i64 0, .int .i64 0]) 3 24 Try.underlying28 I.out.1 I.out.2.1 I.out.2.2.1 I.out.2.2.2 rfl (by decide) _ mly (ints (flat (spK O (x0, x1, x2) k).1)) rfl (Hwy.out.drew.alloc _) ⟨wy.heap.size, 0, none⟩ 1 1 (ints [a, b, c]) rfl rfl (fun j u hj => cells_new _ [a, b, c] 43 rfl j u hj) (ints_one _) (by decide) (by unfold maxLen; omega) (by omega) (by simp; omega) _ rfl ?_; intro g4 cap4 w4 hown4 hgrow4 hat4 hlt4; obtain ⟨⟨uu, hc4⟩, hf4, hF4⟩ := OutT.app HOTy.out.drew (by rw [← Hmly.out]; exact Hwy.out.drew) hgrow4 (show mly + 1 = (spK O (x0, x1, x2) k).1.length + 1 by rw [Hmly.out]) hown4; have HF := Lib.hid hF4; clear hF4 hown4 hgrow4 hat4 hlt4))
          all_goals
            go_wp2_with fail
            go_roundw
            case rel => exact ⟨k + 1, by omega, by rw [HN.out], by go_num, by rw [HN.out]; exact HF⟩
            case measure => simp [intOf]; omega
        | true =>
          have HN : Hid (spK O (x0, x1, x2) (k + 1) = ((spK O (x0, x1, x2) k).1 ++ [(x0, x1, x2)] ++ [(a, b, c)], true)) := Lib.hid (spK_one (r := (x0, x1, x2)) Hrk.out hp ha)
          have Hp := Lib.hid hp
          go_wp2_with fail
          refine wp_region_held_drew (S := (fun w' => w'.cell? ⟨w.heap.size + 1, 0, none⟩ = some (.int .i64 x0) ∧ w'.cell? ⟨w.heap.size + 1, 1, none⟩ = some (.int .i64 x1) ∧ w'.cell? ⟨v2.heap.size, 0, none⟩ = some (.slice (some ⟨g, 0, none⟩) m rc) ∧ w'.cell? ⟨g, k * 3, none⟩ = some (.int .i64 a) ∧ w'.cell? ⟨g, k * 3 + 1, none⟩ = some (.int .i64 b) ∧ wr.heap.size ≤ w'.heap.size ∧ Below wr.heap.size wr w')) (by kernel_rfl) ?_ (fun hHeld => ?_)
          · (first | assumption | exact rr5_start kr1 kr2 kr5 zr0 zr1 | exact rr5_drew (by assumption) | exact rr5_keep (by omega) (by omega) (by omega) (by omega) (by omega) hb (by assumption) | fail)
          refine step_read 0 27 rfl rfl (by kernel_rfl) (by kernel_rfl) (by kernel_rfl) (fun _ _ _ h => h) (by rfl) (v := ?_) (fun w hSw => ?_) (by assumption) ?_; rotate_left; (focus ((try dsimp only at hSw); go_simp; first | done | exact rfl)); simp only [List.set]
          refine step_read 1 28 rfl rfl (by kernel_rfl) (by kernel_rfl) (by kernel_rfl) (fun _ _ _ h => h) (by rfl) (v := ?_) (fun w hSw => ?_) (by assumption) ?_; rotate_left; (focus ((try dsimp only at hSw); go_simp; first | done | exact rfl)); simp only [List.set]
          refine step_read 2 29 rfl rfl (by kernel_rfl) (by kernel_rfl) (by kernel_rfl) (fun _ _ _ h => h) (by rfl) (v := ?_) (fun w hSw => ?_) (by assumption) ?_; rotate_left; (focus ((try dsimp only at hSw); go_simp; first | done | exact rfl)); simp only [List.set]
          refine step_read 3 30 rfl rfl (by kernel_rfl) (by kernel_rfl) (by kernel_rfl) (fun _ _ _ h => h) (by rfl) (v := ?_) (fun w hSw => ?_) (by assumption) ?_; rotate_left; (focus ((try dsimp only at hSw); go_simp; first | done | exact rfl)); simp only [List.set]
          refine step_read 4 31 rfl rfl (by kernel_rfl) (by kernel_rfl) (by kernel_rfl) (fun _ _ _ h => h) (by rfl) (v := ?_) (fun w hSw => ?_) (by assumption) ?_; rotate_left; (focus ((try dsimp only at hSw); go_simp; first | done | exact rfl)); simp only [List.set]
          refine step_read 5 32 rfl rfl (by kernel_rfl) (by kernel_rfl) (by kernel_rfl) (fun _ _ _ h => h) (by rfl) (v := ?_) (fun w hSw => ?_) (by assumption) ?_; rotate_left; (focus ((try dsimp only at hSw); go_simp; first | done | exact rfl)); simp only [List.set]
          refine step_read 6 33 rfl rfl (by kernel_rfl) (by kernel_rfl) (by kernel_rfl) (fun _ _ _ h => h) (by rfl) (v := ?_) (fun w hSw => ?_) (by assumption) ?_; rotate_left; (focus ((try dsimp only at hSw); go_simp; first | done | exact rfl)); simp only [List.set]
          refine step_read 7 34 rfl rfl (by kernel_rfl) (by kernel_rfl) (by kernel_rfl) (fun _ _ _ h => h) (by rfl) (v := ?_) (fun w hSw => ?_) (by assumption) ?_; rotate_left; (focus ((try dsimp only at hSw); go_simp; first | done | exact rfl)); simp only [List.set]
          refine step_read 8 35 rfl rfl (by kernel_rfl) (by kernel_rfl) (by kernel_rfl) (fun _ _ _ h => h) (by rfl) (v := ?_) (fun w hSw => ?_) (by assumption) ?_; rotate_left; (focus ((try dsimp only at hSw); go_simp; first | done | exact rfl)); simp only [List.set]
          refine step_read 9 36 rfl rfl (by kernel_rfl) (by kernel_rfl) (by kernel_rfl) (fun _ _ _ h => h) (by rfl) (v := ?_) (fun w hSw => ?_) (by assumption) ?_; rotate_left; (focus ((try dsimp only at hSw); go_simp; first | done | exact rfl)); simp only [List.set]
          refine step_read 10 37 rfl rfl (by kernel_rfl) (by kernel_rfl) (by kernel_rfl) (fun _ _ _ h => h) (by rfl) (v := ?_) (fun w hSw => ?_) (by assumption) ?_; rotate_left; (focus ((try dsimp only at hSw); go_simp; first | done | exact rfl)); simp only [List.set]
          refine wpAnyH_ready (rs := [11]) (by kernel_rfl) (by simp) ?_
          refine AllReadyH.cons rfl (fun Kc hK => ?_) (AllReadyH.nil)
          go_simp
          go_at_call 62
          refine (ahead_any x0 x1 a b _).mono ?_
          rw [ha]
          rintro e wy ⟨rfl, hb⟩
          refine hK.out _ _ ?_ (fun hHeld => ?_)
          · (first | assumption | exact rr5_start kr1 kr2 kr5 zr0 zr1 | exact rr5_drew (by assumption) | exact rr5_keep (by omega) (by omega) (by omega) (by omega) (by omega) hb (by assumption) | fail)
          clear hK Kc
          refine step_read 12 39 rfl rfl (by kernel_rfl) (by kernel_rfl) (by kernel_rfl) (fun _ _ _ h => h) (by rfl) (v := ?_) (fun w hSw => ?_) (by assumption) ?_; rotate_left; (focus ((try dsimp only at hSw); go_simp; first | done | exact rfl)); simp only [List.set]
          refine wpAnyH_done (by kernel_rfl) ?_ _
          have HOTy : Hid (OutT q3 wy X (spK O (x0, x1, x2) k).1) := Lib.hid (hR.out.below (rr5_out (by assumption)).2)
          clear hR
          clear kr0 kr1 kr2 kr3 kr4 kr5 jr0 jr1
          clear hp zr0 zr1
          have sXy := HOTy.out.size
          have s3y : q3.heap.size ≤ wy.heap.size := HOTy.out.1.size
          have ky0 : wy.cell? ⟨w.heap.size, 0, none⟩ = some (.slice ad n cp) := HOTy.out.keep (by omega) HC0.out
          have ky1 : wy.cell? ⟨w.heap.size + 1, 0, none⟩ = some (.int .i64 x0) := HOTy.out.keep (by omega) HC1.out
          have ky2 : wy.cell? ⟨w.heap.size + 1, 1, none⟩ = some (.int .i64 x1) := HOTy.out.keep (by omega) HC2.out
          have ky3 : wy.cell? ⟨w.heap.size + 1, 2, none⟩ = some (.int .i64 x2) := HOTy.out.keep (by omega) HC3.out
          have ky4 : wy.cell? ⟨w.heap.size + 1 + 1, 0, none⟩ = some (.slice none 0 0) := HOTy.out.keep (by omega) HC4.out
          have ky5 : wy.cell? ⟨v2.heap.size, 0, none⟩ = some (.slice (some ⟨g, 0, none⟩) m rc) := HOTy.out.keep (by omega) HC5.out
          have jy0 : wy.frozen? ⟨w.heap.size + 1 + 1, 0, none⟩ = false := HOTy.out.keepf (by omega) HJ0.out
          have jy1 : wy.frozen? ⟨v2.heap.size, 0, none⟩ = false := HOTy.out.keepf (by omega) HJ1.out
          obtain ⟨rvy, hrvy, howny⟩ := HOTy.out.2.2.2
          obtain ⟨oay, ocy, hoay⟩ := own_slice howny
          subst hoay
          have hfXy := HOTy.out.2.2.1
          have Hwy := Lib.hid howny
          obtain ⟨mly, hmly⟩ : ∃ ml, ml = (spK O (x0, x1, x2) k).1.length := ⟨_, rfl⟩
          rw [← hmly] at hrvy Hwy
          have Hmly := Lib.hid hmly
          have hmby : mly ≤ 1000000 := by omega
          clear howny hmly
          go_wp2_with (at_builtin; refine wpList_append_lies _ rfl _ _ 28 rfl (X + 1) 43 iI (.agg #[.int .i64 0, .int .i64 0, .int .i64 0]) 3 24 Try.underlying28 I.out.1 I.out.2.1 I.out.2.2.1 I.out.2.2.2 rfl (by decide) _ mly (ints (flat (spK O (x0, x1, x2) k).1)) rfl (Hwy.out.alloc _) ⟨wy.heap.size, 0, none⟩ 1 1 (ints [x0, x1, x2]) rfl rfl ?d0 (ints_one _) (by decide) ?d1 ?d2 ?d3 _ rfl ?_)
          case d0 => first | exact fun a_ u ha => cells_new _ [x0, x1, x2] 43 rfl a_ u ha | exact fun a_ u ha => by simpa [ints] using ha
          case d1 => unfold maxLen; omega
          case d2 => omega
          case d3 => first | omega | (simp; omega)
          intro g4 cap4 w4 hown4 hgrow4 hat4 hlt4
          obtain ⟨⟨uu, hc4⟩, hf4, hF4⟩ := OutT.app HOTy.out (by rw [← Hmly.out]; exact Hwy.out) hgrow4 (show mly + 1 = (spK O (x0, x1, x2) k).1.length + 1 by rw [Hmly.out]) hown4
          obtain ⟨wz, hnn⟩ : ∃ wz, wz = w4.setCell ⟨X, 0, none⟩ (.slice (some ⟨g4, 0, none⟩) (mly + 1) cap4) := ⟨_, rfl⟩
          rw [← hnn] at hF4
          have HOTwz := Lib.hid hF4
          have HNN := Lib.hid hnn
          clear hF4 hnn hown4 hgrow4 hat4 hlt4
          go_upto_region 11 with fail
          rw [← HNN.out]
          clear hc4 hf4 HOTy ky0 ky1 ky2 ky3 ky4 ky5 jy0 jy1 hrvy hfXy Hwy Hmly hmby
          have hlz : ((spK O (x0, x1, x2) k).1 ++ [(x0, x1, x2)]).length ≤ m + 2 := by rw [List.length_append, List.length_singleton]; omega
          have sXz := HOTwz.out.size
          have s3z : q3.heap.size ≤ wz.heap.size := HOTwz.out.1.size
          have kz0 : wz.cell? ⟨w.heap.size, 0, none⟩ = some (.slice ad n cp) := HOTwz.out.keep (by omega) HC0.out
          have kz1 : wz.cell? ⟨w.heap.size + 1, 0, none⟩ = some (.int .i64 x0) := HOTwz.out.keep (by omega) HC1.out
          have kz2 : wz.cell? ⟨w.heap.size + 1, 1, none⟩ = some (.int .i64 x1) := HOTwz.out.keep (by omega) HC2.out
          have kz3 : wz.cell? ⟨w.heap.size + 1, 2, none⟩ = some (.int .i64 x2) := HOTwz.out.keep (by omega) HC3.out
          have kz4 : wz.cell? ⟨w.heap.size + 1 + 1, 0, none⟩ = some (.slice none 0 0) := HOTwz.out.keep (by omega) HC4.out
          have kz5 : wz.cell? ⟨v2.heap.size, 0, none⟩ = some (.slice (some ⟨g, 0, none⟩) m rc) := HOTwz.out.keep (by omega) HC5.out
          have jz0 : wz.frozen? ⟨w.heap.size + 1 + 1, 0, none⟩ = false := HOTwz.out.keepf (by omega) HJ0.out
          have jz1 : wz.frozen? ⟨v2.heap.size, 0, none⟩ = false := HOTwz.out.keepf (by omega) HJ1.out
          obtain ⟨rvz, hrvz, hownz⟩ := HOTwz.out.2.2.2
          obtain ⟨oaz, ocz, hoaz⟩ := own_slice hownz
          subst hoaz
          have hfXz := HOTwz.out.2.2.1
          have Hwz := Lib.hid hownz
          obtain ⟨mlz, hmlz⟩ : ∃ ml, ml = ((spK O (x0, x1, x2) k).1 ++ [(x0, x1, x2)]).length := ⟨_, rfl⟩
          rw [← hmlz] at hrvz Hwz
          have Hmlz := Lib.hid hmlz
          have hmbz : mlz ≤ 1000000 := by omega
          clear hownz hmlz
          have zz0 : wz.cell? ⟨g, k * 3, none⟩ = some (.int .i64 a) := HOTwz.out.keep (by omega) HZ0.out
          have zz1 : wz.cell? ⟨g, k * 3 + 1, none⟩ = some (.int .i64 b) := HOTwz.out.keep (by omega) HZ1.out
          have zz2 : wz.cell? ⟨g, k * 3 + 2, none⟩ = some (.int .i64 c) := HOTwz.out.keep (by omega) HZ2.out
          have hgwz : g < wz.heap.size := by omega
          go_wp2_with fail
          go_region_law ((refine step_append_lies _ rfl _ _ 28 rfl (X + 1) 43 iI (.agg #[.int .i64 0, .int .i64 0, .int .i64 0]) 3 24 Try.underlying28 I.out.1 I.out.2.1 I.out.2.2.1 I.out.2.2.2 rfl (by decide) _ mlz (ints (flat ((spK O (x0, x1, x2) k).1 ++ [(x0, x1, x2)]))) rfl (Hwz.out.drew.alloc _) ⟨wz.heap.size, 0, none⟩ 1 1 (ints [a, b, c]) rfl rfl (fun j u hj => cells_new _ [a, b, c] 43 rfl j u hj) (ints_one _) (by decide) (by unfold maxLen; omega) (by omega) (by simp; omega) _ rfl ?_; intro g4 cap4 w4 hown4 hgrow4 hat4 hlt4; obtain ⟨⟨uu, hc4⟩, hf4, hF4⟩ := OutT.app HOTwz.out.drew (by rw [← Hmlz.out]; exact Hwz.out.drew) hgrow4 (show mlz + 1 = ((spK O (x0, x1, x2) k).1 ++ [(x0, x1, x2)]).length + 1 by rw [Hmlz.out]) hown4; have HF := Lib.hid hF4; clear hF4 hown4 hgrow4 hat4 hlt4))
          all_goals
            go_wp2_with fail
            go_roundw
            case rel => exact ⟨k + 1, by omega, by rw [HN.out], by go_num, by rw [HN.out]; exact HF⟩
            case measure => simp [intOf]; omega
    case neg =>
      have hge : ¬ ((k : Int) < (m : Int)) := by omega
      obtain rfl : k = m := by omega
      have hsf : spF O (x0, x1, x2) = insR L (x0, x1, x2) := by rw [HO.out.1]; exact HSP.out
      obtain ⟨M, hM⟩ : ∃ M, M = insR L (x0, x1, x2) := ⟨_, rfl⟩
      have HM := Lib.hid hM
      go_upto_region 13 with fail
      clear kr0 kr1 kr2 kr3 kr4 kr5 jr0 jr1
      cases hp : (spK O (x0, x1, x2) k).2 with
      | true =>
        have hM2 : (spK O (x0, x1, x2) k).1 = M := by rw [hM, ← hsf]; unfold spF; rw [← HO.out.2, if_pos hp]
        rw [hM2] at hR
        have HR9 := Lib.hid hR.out
        clear hM hM2 hsf hR
        go_upto_region 15 with fail
        obtain ⟨ya, yc, hyc, hyr⟩ := HR9.out.takeO (by rw [HM.out]; omega)
        obtain ⟨ml, hml⟩ : ∃ ml, ml = M.length := ⟨_, rfl⟩
        have hml2 : ml ≤ n + 1 := by rw [hml, HM.out, ← hL]; exact hil
        rw [← hml] at hyc hyr
        have Hml := Lib.hid hml
        have HYR := Lib.hid hyr
        have HBr : Hid (Below w.heap.size w wr) := B3.out.trans (HR9.out.1.mono (by omega))
        have HLr : Hid (Row 3 wr lo hi (.slice ad n cp) n (flat L)) := R3_0.out.below HR9.out.1 (by omega)
        clear hml hyr
        have sXr := HR9.out.size
        have s3r : q3.heap.size ≤ wr.heap.size := HR9.out.1.size
        have kr0 : wr.cell? ⟨w.heap.size, 0, none⟩ = some (.slice ad n cp) := HR9.out.keep (by omega) HC0.out
        have kr1 : wr.cell? ⟨w.heap.size + 1, 0, none⟩ = some (.int .i64 x0) := HR9.out.keep (by omega) HC1.out
        have kr2 : wr.cell? ⟨w.heap.size + 1, 1, none⟩ = some (.int .i64 x1) := HR9.out.keep (by omega) HC2.out
        have kr3 : wr.cell? ⟨w.heap.size + 1, 2, none⟩ = some (.int .i64 x2) := HR9.out.keep (by omega) HC3.out
        have kr4 : wr.cell? ⟨w.heap.size + 1 + 1, 0, none⟩ = some (.slice none 0 0) := HR9.out.keep (by omega) HC4.out
        have kr5 : wr.cell? ⟨v2.heap.size, 0, none⟩ = some (.slice ra k rc) := HR9.out.keep (by omega) HC5.out
        have jr0 : wr.frozen? ⟨w.heap.size + 1 + 1, 0, none⟩ = false := HR9.out.keepf (by omega) HJ0.out
        have jr1 : wr.frozen? ⟨v2.heap.size, 0, none⟩ = false := HR9.out.keepf (by omega) HJ1.out
        clear kr1 kr2 kr3 kr5 jr1
        go_wp2_with fail
        go_at_call 39
        refine (stok_any (X + 1) wr.heap.size ml _ M _ Hml.out.symm HYR.out.row (Nat.le_refl _)).mono ?_
        rw [HM.out, hto]
        rintro e v21 ⟨rfl, hb21⟩
        have sz21 : wr.heap.size ≤ v21.heap.size := hb21.size
        have st21 : Below wr.heap.size wr v21 := hb21
        have c21_0 : v21.cell? ⟨w.heap.size, 0, none⟩ = some (.slice ad n cp) := by rw [(bcell st21).1 _ _ (by omega)]; exact kr0
        have c21_1 : v21.cell? ⟨w.heap.size + 1 + 1, 0, none⟩ = some (.slice none 0 0) := by rw [(bcell st21).1 _ _ (by omega)]; exact kr4
        have c21_2 : v21.cell? ⟨X, 0, none⟩ = some (.slice ya ml yc) := by rw [(bcell st21).1 _ _ (by omega)]; exact hyc
        have g21_0 : v21.frozen? ⟨w.heap.size + 1 + 1, 0, none⟩ = false := by rw [(bcell st21).2 _ _ (by omega)]; exact jr0
        have B21 : Hid (Below w.heap.size w v21) := HBr.out.trans (st21.mono (by omega))
        have R21_0 : Hid (Row 3 v21 (lo) (hi) (.slice ad n cp) n (flat L)) := HLr.out.below st21 (by omega)
        have R21_1 : Hid (RowT v21 (X + 1) (wr.heap.size) (.slice ya ml yc) ml M) := HYR.out.below st21 (by omega)
        have d21_0 : w.heap.size < v21.heap.size := by omega
        have e21_0 : w.heap.size ≠ v21.heap.size := by omega
        have d21_1 : w.heap.size + 1 + 1 < v21.heap.size := by omega
        have e21_1 : w.heap.size + 1 + 1 ≠ v21.heap.size := by omega
        clear kr0 kr4 hyc jr0 HBr st21 HLr HYR hb21
        go_wp2_with fail
        go_at_call 53
        refine (scopy_own lo hi n _ L _ hL R21_0.out (by omega)).mono ?_
        rintro e v22 ⟨rv3, rfl, hr3, hb22⟩
        have sz22 : v21.heap.size ≤ v22.heap.size := hb22.size
        have st22 : Below v21.heap.size v21 v22 := hb22
        have c22_0 : v22.cell? ⟨w.heap.size, 0, none⟩ = some (.slice ad n cp) := by rw [(bcell st22).1 _ _ (by omega)]; exact c21_0
        have c22_1 : v22.cell? ⟨w.heap.size + 1 + 1, 0, none⟩ = some (.slice none 0 0) := by rw [(bcell st22).1 _ _ (by omega)]; exact c21_1
        have c22_2 : v22.cell? ⟨X, 0, none⟩ = some (.slice ya ml yc) := by rw [(bcell st22).1 _ _ (by omega)]; exact c21_2
        have g22_0 : v22.frozen? ⟨w.heap.size + 1 + 1, 0, none⟩ = false := by rw [(bcell st22).2 _ _ (by omega)]; exact g21_0
        have B22 : Hid (Below w.heap.size w v22) := B21.out.trans (st22.mono (by omega))
        have R22_0 : Hid (Row 3 v22 (lo) (hi) (.slice ad n cp) n (flat L)) := R21_0.out.below st22 (by omega)
        have R22_1 : Hid (RowT v22 (X + 1) (wr.heap.size) (.slice ya ml yc) ml M) := R21_1.out.below st22 (by omega)
        have d22_0 : w.heap.size < v22.heap.size := by omega
        have e22_0 : w.heap.size ≠ v22.heap.size := by omega
        have d22_1 : w.heap.size + 1 + 1 < v22.heap.size := by omega
        have e22_1 : w.heap.size + 1 + 1 ≠ v22.heap.size := by omega
        clear d21_0 e21_0 d21_1 e21_1 c21_0 c21_1 c21_2 g21_0 B21 st22 R21_0 R21_1 hb22
        obtain ⟨sa, sc, rfl⟩ := hr3.slice
        rw [hL] at hr3
        have HR3 := Lib.hid hr3
        clear hr3
        have r0 : (v22.setCell ⟨w.heap.size + 1 + 1, 0, none⟩ (.slice sa n sc)).cell? ⟨w.heap.size + 1 + 1, 0, none⟩ = some (.slice sa n sc) := World.cell?_setCell_same' _ _ _ (by rw [c22_1]; rfl)
        have Hrow := Lib.hid ((HR3.out.setCell (p := ⟨w.heap.size + 1 + 1, 0, none⟩) (.inl (by show w.heap.size + 1 + 1 < v21.heap.size; omega)) (.slice sa n sc)).wide (lo' := w.heap.size) (hi' := (v22.setCell ⟨w.heap.size + 1 + 1, 0, none⟩ (.slice sa n sc)).heap.size) (by omega) (by simp [World.setCell] <;> omega))
        go_wp2_with fail
        refine bodyPost_ret (v := .tuple #[.agg #[.slice sa n sc], .bool false]) (by simp [results, Try.results19, go_sem, r0]) rfl ⟨_, rfl, ?_, ?_⟩
        · rw [hL]; exact Hrow.out
        · exact B22.out.setCell (by show _ ≤ w.heap.size + 1 + 1; omega) _
      | false =>
        have hM2 : (spK O (x0, x1, x2) k).1 ++ [(x0, x1, x2)] = M := by rw [hM, ← hsf]; unfold spF; rw [← HO.out.2, if_neg (by rw [hp]; simp)]
        have hsl2 := (spK_len O (x0, x1, x2) k).2 hp
        clear hM hsf
        have Hp := Lib.hid hp
        go_upto_region 14 with fail
        clear hp
        have sXr := hR.out.size
        have s3r : q3.heap.size ≤ wr.heap.size := hR.out.1.size
        have kr0 : wr.cell? ⟨w.heap.size, 0, none⟩ = some (.slice ad n cp) := hR.out.keep (by omega) HC0.out
        have kr1 : wr.cell? ⟨w.heap.size + 1, 0, none⟩ = some (.int .i64 x0) := hR.out.keep (by omega) HC1.out
        have kr2 : wr.cell? ⟨w.heap.size + 1, 1, none⟩ = some (.int .i64 x1) := hR.out.keep (by omega) HC2.out
        have kr3 : wr.cell? ⟨w.heap.size + 1, 2, none⟩ = some (.int .i64 x2) := hR.out.keep (by omega) HC3.out
        have kr4 : wr.cell? ⟨w.heap.size + 1 + 1, 0, none⟩ = some (.slice none 0 0) := hR.out.keep (by omega) HC4.out
        have kr5 : wr.cell? ⟨v2.heap.size, 0, none⟩ = some (.slice ra k rc) := hR.out.keep (by omega) HC5.out
        have jr0 : wr.frozen? ⟨w.heap.size + 1 + 1, 0, none⟩ = false := hR.out.keepf (by omega) HJ0.out
        have jr1 : wr.frozen? ⟨v2.heap.size, 0, none⟩ = false := hR.out.keepf (by omega) HJ1.out
        obtain ⟨rvr, hrvr, hownr⟩ := hR.out.2.2.2
        obtain ⟨oar, ocr, hoar⟩ := own_slice hownr
        subst hoar
        have hfXr := hR.out.2.2.1
        have Hwr := Lib.hid hownr
        obtain ⟨mlr, hmlr⟩ : ∃ ml, ml = (spK O (x0, x1, x2) k).1.length := ⟨_, rfl⟩
        rw [← hmlr] at hrvr Hwr
        have Hmlr := Lib.hid hmlr
        have hmbr : mlr ≤ 1000000 := by omega
        clear hownr hmlr
        go_wp2_with (at_builtin; refine wpList_append_lies _ rfl _ _ 28 rfl (X + 1) 43 iI (.agg #[.int .i64 0, .int .i64 0, .int .i64 0]) 3 24 Try.underlying28 I.out.1 I.out.2.1 I.out.2.2.1 I.out.2.2.2 rfl (by decide) _ mlr (ints (flat (spK O (x0, x1, x2) k).1)) rfl (Hwr.out.alloc _) ⟨wr.heap.size, 0, none⟩ 1 1 (ints [x0, x1, x2]) rfl rfl ?d0 (ints_one _) (by decide) ?d1 ?d2 ?d3 _ rfl ?_)
        case d0 => first | exact fun a_ u ha => cells_new _ [x0, x1, x2] 43 rfl a_ u ha | exact fun a_ u ha => by simpa [ints] using ha
        case d1 => unfold maxLen; omega
        case d2 => omega
        case d3 => first | omega | (simp; omega)
        intro g4 cap4 w4 hown4 hgrow4 hat4 hlt4
        obtain ⟨⟨uu, hc4⟩, hf4, hF4⟩ := OutT.app hR.out (by rw [← Hmlr.out]; exact Hwr.out) hgrow4 (show mlr + 1 = (spK O (x0, x1, x2) k).1.length + 1 by rw [Hmlr.out]) hown4
        obtain ⟨wz, hnn⟩ : ∃ wz, wz = w4.setCell ⟨X, 0, none⟩ (.slice (some ⟨g4, 0, none⟩) (mlr + 1) cap4) := ⟨_, rfl⟩
        rw [← hnn] at hF4
        have HOTwz := Lib.hid hF4
        have HNN := Lib.hid hnn
        clear hF4 hnn hown4 hgrow4 hat4 hlt4
        go_upto_region 15 with fail
        rw [← HNN.out]
        rw [hM2] at HOTwz
        clear hc4 hf4 hR kr0 kr1 kr2 kr3 kr4 kr5 jr0 jr1 hrvr hfXr Hwr Hmlr hmbr hM2
        obtain ⟨ya, yc, hyc, hyr⟩ := HOTwz.out.takeO (by rw [HM.out]; omega)
        obtain ⟨ml, hml⟩ : ∃ ml, ml = M.length := ⟨_, rfl⟩
        have hml2 : ml ≤ n + 1 := by rw [hml, HM.out, ← hL]; exact hil
        rw [← hml] at hyc hyr
        have Hml := Lib.hid hml
        have HYR := Lib.hid hyr
        have HBz : Hid (Below w.heap.size w wz) := B3.out.trans (HOTwz.out.1.mono (by omega))
        have HLr : Hid (Row 3 wz lo hi (.slice ad n cp) n (flat L)) := R3_0.out.below HOTwz.out.1 (by omega)
        clear hml hyr
        have sXz := HOTwz.out.size
        have s3z : q3.heap.size ≤ wz.heap.size := HOTwz.out.1.size
        have kz0 : wz.cell? ⟨w.heap.size, 0, none⟩ = some (.slice ad n cp) := HOTwz.out.keep (by omega) HC0.out
        have kz1 : wz.cell? ⟨w.heap.size + 1, 0, none⟩ = some (.int .i64 x0) := HOTwz.out.keep (by omega) HC1.out
        have kz2 : wz.cell? ⟨w.heap.size + 1, 1, none⟩ = some (.int .i64 x1) := HOTwz.out.keep (by omega) HC2.out
        have kz3 : wz.cell? ⟨w.heap.size + 1, 2, none⟩ = some (.int .i64 x2) := HOTwz.out.keep (by omega) HC3.out
        have kz4 : wz.cell? ⟨w.heap.size + 1 + 1, 0, none⟩ = some (.slice none 0 0) := HOTwz.out.keep (by omega) HC4.out
        have kz5 : wz.cell? ⟨v2.heap.size, 0, none⟩ = some (.slice ra k rc) := HOTwz.out.keep (by omega) HC5.out
        have jz0 : wz.frozen? ⟨w.heap.size + 1 + 1, 0, none⟩ = false := HOTwz.out.keepf (by omega) HJ0.out
        have jz1 : wz.frozen? ⟨v2.heap.size, 0, none⟩ = false := HOTwz.out.keepf (by omega) HJ1.out
        clear kz1 kz2 kz3 kz5 jz1
        go_wp2_with fail
        go_at_call 39
        refine (stok_any (X + 1) wz.heap.size ml _ M _ Hml.out.symm HYR.out.row (Nat.le_refl _)).mono ?_
        rw [HM.out, hto]
        rintro e v21 ⟨rfl, hb21⟩
        have sz21 : wz.heap.size ≤ v21.heap.size := hb21.size
        have st21 : Below wz.heap.size wz v21 := hb21
        have c21_0 : v21.cell? ⟨w.heap.size, 0, none⟩ = some (.slice ad n cp) := by rw [(bcell st21).1 _ _ (by omega)]; exact kz0
        have c21_1 : v21.cell? ⟨w.heap.size + 1 + 1, 0, none⟩ = some (.slice none 0 0) := by rw [(bcell st21).1 _ _ (by omega)]; exact kz4
        have c21_2 : v21.cell? ⟨X, 0, none⟩ = some (.slice ya ml yc) := by rw [(bcell st21).1 _ _ (by omega)]; exact hyc
        have g21_0 : v21.frozen? ⟨w.heap.size + 1 + 1, 0, none⟩ = false := by rw [(bcell st21).2 _ _ (by omega)]; exact jz0
        have B21 : Hid (Below w.heap.size w v21) := HBz.out.trans (st21.mono (by omega))
        have R21_0 : Hid (Row 3 v21 (lo) (hi) (.slice ad n cp) n (flat L)) := HLr.out.below st21 (by omega)
        have R21_1 : Hid (RowT v21 (X + 1) (wz.heap.size) (.slice ya ml yc) ml M) := HYR.out.below st21 (by omega)
        have d21_0 : w.heap.size < v21.heap.size := by omega
        have e21_0 : w.heap.size ≠ v21.heap.size := by omega
        have d21_1 : w.heap.size + 1 + 1 < v21.heap.size := by omega
        have e21_1 : w.heap.size + 1 + 1 ≠ v21.heap.size := by omega
        clear kz0 kz4 hyc jz0 HBz st21 HLr HYR hb21
        go_wp2_with fail
        go_at_call 53
        refine (scopy_own lo hi n _ L _ hL R21_0.out (by omega)).mono ?_
        rintro e v22 ⟨rv3, rfl, hr3, hb22⟩
        have sz22 : v21.heap.size ≤ v22.heap.size := hb22.size
        have st22 : Below v21.heap.size v21 v22 := hb22
        have c22_0 : v22.cell? ⟨w.heap.size, 0, none⟩ = some (.slice ad n cp) := by rw [(bcell st22).1 _ _ (by omega)]; exact c21_0
        have c22_1 : v22.cell? ⟨w.heap.size + 1 + 1, 0, none⟩ = some (.slice none 0 0) := by rw [(bcell st22).1 _ _ (by omega)]; exact c21_1
        have c22_2 : v22.cell? ⟨X, 0, none⟩ = some (.slice ya ml yc) := by rw [(bcell st22).1 _ _ (by omega)]; exact c21_2
        have g22_0 : v22.frozen? ⟨w.heap.size + 1 + 1, 0, none⟩ = false := by rw [(bcell st22).2 _ _ (by omega)]; exact g21_0
        have B22 : Hid (Below w.heap.size w v22) := B21.out.trans (st22.mono (by omega))
        have R22_0 : Hid (Row 3 v22 (lo) (hi) (.slice ad n cp) n (flat L)) := R21_0.out.below st22 (by omega)
        have R22_1 : Hid (RowT v22 (X + 1) (wz.heap.size) (.slice ya ml yc) ml M) := R21_1.out.below st22 (by omega)
        have d22_0 : w.heap.size < v22.heap.size := by omega
        have e22_0 : w.heap.size ≠ v22.heap.size := by omega
        have d22_1 : w.heap.size + 1 + 1 < v22.heap.size := by omega
        have e22_1 : w.heap.size + 1 + 1 ≠ v22.heap.size := by omega
        clear d21_0 e21_0 d21_1 e21_1 c21_0 c21_1 c21_2 g21_0 B21 st22 R21_0 R21_1 hb22
        obtain ⟨sa, sc, rfl⟩ := hr3.slice
        rw [hL] at hr3
        have HR3 := Lib.hid hr3
        clear hr3
        have r0 : (v22.setCell ⟨w.heap.size + 1 + 1, 0, none⟩ (.slice sa n sc)).cell? ⟨w.heap.size + 1 + 1, 0, none⟩ = some (.slice sa n sc) := World.cell?_setCell_same' _ _ _ (by rw [c22_1]; rfl)
        have Hrow := Lib.hid ((HR3.out.setCell (p := ⟨w.heap.size + 1 + 1, 0, none⟩) (.inl (by show w.heap.size + 1 + 1 < v21.heap.size; omega)) (.slice sa n sc)).wide (lo' := w.heap.size) (hi' := (v22.setCell ⟨w.heap.size + 1 + 1, 0, none⟩ (.slice sa n sc)).heap.size) (by omega) (by simp [World.setCell] <;> omega))
        go_wp2_with fail
        refine bodyPost_ret (v := .tuple #[.agg #[.slice sa n sc], .bool false]) (by simp [results, Try.results19, go_sem, r0]) rfl ⟨_, rfl, ?_, ?_⟩
        · rw [hL]; exact Hrow.out
        · exact B22.out.setCell (by show _ ≤ w.heap.size + 1 + 1; omega) _

theorem sput_any_own (lo hi n : Nat) (v : Value) (L : List Rt) (x0 x1 x2 : Int) (w : World) (hL : L.length = n) (hr : Row 3 w lo hi v n (flat L)) (hh : hi ≤ w.heap.size) : Calls Try.prog 19 #[.agg #[v], .agg #[.int .i64 x0, .int .i64 x1, .int .i64 x2]] w (TabBPostO (putL L (x0, x1, x2)) (putB L (x0, x1, x2)) w) := by
  cases ht : tok L with
  | true =>
    cases hto : tok (insR L (x0, x1, x2)) with
    | true =>
      have hd := put_yes ht hto
      rw [hd.1, hd.2]
      exact sput_yes_own lo hi n v L x0 x1 x2 w hL hr hh ht hto
    | false =>
      have hd := put_no ht hto
      rw [hd.1, hd.2]
      exact sput_no_own lo hi n v L x0 x1 x2 w hL hr hh ht hto
  | false =>
    have hd := put_bad (r := (x0, x1, x2)) ht
    rw [hd.1, hd.2]
    exact sput_bad_own lo hi n v L x0 x1 x2 w hL hr hh ht


end Go.Proofs.Ytgdnfglhlpnooaa
