/- AddTop of the model. -/
import Derived.Test.YtophppnllkadoaaS8
import Derived.Deep.DeepCutAuto
namespace Go.Proofs.Ytophppnllkadoaa
open Go.RowKit


set_option maxRecDepth 100000 in
set_option maxHeartbeats 4000000 in
theorem sadd_way (lo hi n : Nat) (v : Value) (L : List Hv) (key num : Int) (w : World) (hL : L.length = n) (hr : Row 3 w lo hi v n (flat L)) (hh : hi ≤ w.heap.size) (ht : topB L = true) (ha : adB key num = true) : Calls Try.prog 44 #[.agg #[v], .int .i64 key, .int .i64 num] w (TabBPost (addL L key num) (addB L key num) w) := by
  have HR := Lib.hid hr
  obtain ⟨ad, cp, rfl, hn, hop⟩ := hr.opened
  have HOP := Lib.hid hop
  clear hr hop
  have HR0 := HR
  obtain ⟨iI, hi0, hz0, hz1, hz2⟩ := info_parts Try.info43q
  have I := Lib.hid (And.intro hi0 (And.intro hz0 (And.intro hz1 hz2)))
  clear hi0 hz0 hz1 hz2
  have hT := topB_iff.1 ht
  have hst0 := hT
  have hn4 : n ≤ 4 := by rw [← hL]; exact hT.1
  have hnb : 1 ≤ num ∧ num ≤ 1000000 := (adB_iff.1 ha).2
  obtain ⟨hnb1, hnb2⟩ := hnb
  have hk : keyB key = true := keyB_iff.2 (adB_iff.1 ha).1
  have hi2 : inB num 1 1000000 = true := inB_iff.2 (adB_iff.1 ha).2
  have hol : (addOut L key num).length ≤ 4 := addOut_len hT key num
  have HT := Lib.hid hT
  clear hT
  go_enter Try.func44, Try.ntmps44
  go_wp2_with fail
  go_at_call 25
  refine (stop_any lo hi n _ L _ hL (HR.out.below (B := w.heap.size) (by go_grown) (by omega)) (by simp; omega)).mono ?_
  rw [ht]
  rintro e v1 ⟨rfl, hb1⟩
  have sz1 : w.heap.size + 2 ≤ v1.heap.size := by have hh := hb1.size; simp at hh; omega
  have st1 : Below w.heap.size w v1 := Below.trans (by go_grown) (hb1.mono (by simp <;> omega))
  have c1_0 : v1.cell? ⟨w.heap.size, 0, none⟩ = some (.slice ad n cp) := by rw [(bcell hb1).1 _ _ (by simp <;> omega), old_box (by simp <;> omega)]; first | (rw [new_at (by simp)]; rfl) | simp
  have c1_1 : v1.cell? ⟨w.heap.size + 1, 0, none⟩ = some (.slice none 0 0) := by rw [(bcell hb1).1 _ _ (by simp)]; first | (rw [new_at (by simp)]; rfl) | simp
  have g1_0 : v1.frozen? ⟨w.heap.size + 1, 0, none⟩ = false := by rw [(bcell hb1).2 _ _ (by simp), new_frz (by simp)]
  have B1 : Hid (Below w.heap.size w v1) := st1
  have R1_0 : Hid (Row 3 v1 (lo) (hi) (.slice ad n cp) n (flat L)) := HR.out.below st1 (by omega)
  have d1_0 : w.heap.size < v1.heap.size := by omega
  have e1_0 : w.heap.size ≠ v1.heap.size := by omega
  have d1_1 : w.heap.size + 1 < v1.heap.size := by omega
  have e1_1 : w.heap.size + 1 ≠ v1.heap.size := by omega
  have ST1 := Lib.hid st1
  clear st1 HR hb1
  go_wp2_with fail
  go_at_call 60
  refine (key_any key _).mono ?_
  rw [hk]
  rintro e w' ⟨rfl, rfl⟩
  go_wp2_with fail
  go_at_call 61
  refine (in_any num 1 1000000 _).mono ?_
  rw [hi2]
  rintro e w' ⟨rfl, rfl⟩
  go_wp2_with fail
  obtain ⟨w3, hw3⟩ : ∃ w3, w3 = v1.alloc (.cells #[.int .i64 key, .int .i64 num, .int .i64 0] 43) := ⟨_, rfl⟩
  obtain ⟨w4, hw4⟩ : ∃ w4, w4 = (v1.alloc (.cells #[.int .i64 key, .int .i64 num, .int .i64 0] 43)).alloc (.cells #[] 43) := ⟨_, rfl⟩
  rw [← hw4]
  obtain ⟨X, hX⟩ : ∃ X, X = v1.heap.size := ⟨_, rfl⟩
  have hb3 : Below X v1 w3 := by rw [hw3, hX]; exact (Below.refl _ _).alloc (Nat.le_refl _) _
  have HS : Hid (HRS w3 w4 X (hK L key num 0) (.slice (some ⟨X + 1, 0, none⟩) 0 0) (addRest (L.take 0) key)) := by rw [hw3, hw4, hX]; exact HRS.start v1 key num
  rw [← hX]
  have nX : w.heap.size + 1 < X := by omega
  have kt : Hid (w3.cell? ⟨w.heap.size, 0, none⟩ = some (.slice ad n cp)) := by show _ = _; rw [hb3.cell (p := ⟨w.heap.size, 0, none⟩) (by show w.heap.size < X; omega)]; exact c1_0
  have kr : Hid (w3.cell? ⟨w.heap.size + 1, 0, none⟩ = some (.slice none 0 0)) := by show _ = _; rw [hb3.cell (p := ⟨w.heap.size + 1, 0, none⟩) (by show w.heap.size + 1 < X; omega)]; exact c1_1
  have gr : Hid (w3.frozen? ⟨w.heap.size + 1, 0, none⟩ = false) := by show _ = _; rw [hb3.frozen (p := ⟨w.heap.size + 1, 0, none⟩) (by show w.heap.size + 1 < X; omega)]; exact g1_0
  have HB3 : Hid (Below w.heap.size w w3) := B1.out.trans (hb3.mono (by omega))
  have sz3 : X < w3.heap.size := HS.out.lt
  have Hst := Lib.hid hst0
  clear hw3 hw4 hX hb3 c1_0 c1_1 g1_0 hst0
  have kc : ∀ q z, (flat L)[q]? = some z → 0 < n → ∃ g, ad = some ⟨g, 0, none⟩ ∧ g < w.heap.size ∧ w.cell? ⟨g, q, none⟩ = some (.int .i64 z) := fun q z hz h0 => by
    obtain ⟨g, e, hg, hc⟩ := HOP.out h0
    exact ⟨g, e, by omega, hc q z hz⟩
  clear kc
  go_loopw [9, 10] (fun s i wr => ∃ (k m : Nat) (a : Option Addr) (c : Nat), k ≤ n ∧ m ≤ k ∧ i = .int .i64 (k : Int) ∧ s = .slice a m c ∧ Hid (m = (addRest (L.take k) key).length ∧ HRS w3 wr X (hK L key num k) (.slice a m c) (addRest (L.take k) key))) (fun _ i _ => n - (intOf i).toNat)
  case atStart => exact ⟨0, 0, _, _, Nat.zero_le _, Nat.le_refl _, rfl, rfl, rfl, HS.out⟩
  case round =>
    clear HS
    obtain ⟨wo, rfl⟩ : ∃ x, x = wr := ⟨_, rfl⟩
    obtain ⟨k, m, a0, c0, hk9, hm9, rfl, rfl, hR⟩ := hrel
    have hHR := Lib.hid hR.out.2
    have hMM := Lib.hid hR.out.1
    clear hR
    have sx := hHR.out.size
    have s3 := hHR.out.below.size
    have ct : wo.cell? ⟨w.heap.size, 0, none⟩ = some (.slice ad n cp) := hHR.out.keep (by omega) kt.out
    by_cases hlt : k < n
    case pos =>
      obtain ⟨g, rfl, hg, hz⟩ := HOP.out (by omega)
      clear HOP
      obtain ⟨a, b, c, hrk⟩ := at_of_lt (L := L) (i := k) (by rw [hL]; exact hlt)
      obtain ⟨r0, r1, r2⟩ := flat_at L k _ hrk
      have hbz := hvB_iff.1 (Hst.out.at_ hrk)
      have hb1 : 1 ≤ b := hbz.2.1.1
      have hb2 : b ≤ 1000000000000 := hbz.2.1.2
      have hgX : g < X := by omega
      have hg3 : g < w3.heap.size := by omega
      have z0 : wo.cell? ⟨g, k * 3, none⟩ = some (.int .i64 a) := hHR.out.keep hgX (by rw [HB3.out.cell (p := ⟨g, k * 3, none⟩) (by show g < _; omega)]; exact hz _ _ r0)
      have z1 : wo.cell? ⟨g, k * 3 + 1, none⟩ = some (.int .i64 b) := hHR.out.keep hgX (by rw [HB3.out.cell (p := ⟨g, k * 3 + 1, none⟩) (by show g < _; omega)]; exact hz _ _ r1)
      have z2 : wo.cell? ⟨g, k * 3 + 2, none⟩ = some (.int .i64 c) := hHR.out.keep hgX (by rw [HB3.out.cell (p := ⟨g, k * 3 + 2, none⟩) (by show g < _; omega)]; exact hz _ _ r2)
      have HK := Lib.hid hrk
      have q0 : (0 : Int) ≤ (k : Int) := by omega
      have q1 : (k : Int) < (n : Int) := by omega
      have wb : IntKind.i64.wrap (b + num) = b + num := IntWalk.i64_in _ (by omega)
      clear r0 r1 r2 hrk hz hbz
      by_cases hak : a = key
      case pos =>
        have he : (a == key) = true := by simp [hak]
        have HN : Hid (HRS w3 ((((wo.setCell ⟨X, 0, none⟩ (.int .i64 a)).setCell ⟨X, 1, none⟩ (.int .i64 b)).setCell ⟨X, 2, none⟩ (.int .i64 c)).setCell ⟨X, 1, none⟩ (.int .i64 (b + num))) X (hK L key num (k + 1)) (.slice a0 m c0) (addRest (L.take (k + 1)) key)) := by
          rw [hK_at HK.out, if_pos hak, rest_snoc HK.out, if_pos hak]
          exact (hHR.out.set3 a b c).set1 (b + num)
        have HM2 : Hid (m = (addRest (L.take (k + 1)) key).length) := by show _ = _; rw [rest_snoc HK.out, if_pos hak]; exact hMM.out
        have hx0 := hHR.out.c0
        have hx1 := hHR.out.c1
        have hx2 := hHR.out.c2
        have hf0 := hHR.out.frz 0
        have hf1 := hHR.out.frz 1
        have hf2 := hHR.out.frz 2
        have ngX : g ≠ X := by omega
        have ntX : w.heap.size ≠ X := by omega
        obtain ⟨y, hy⟩ : ∃ y, y = hK L key num k := ⟨_, rfl⟩
        rw [← hy] at hx0 hx1 hx2
        clear hak hHR hy
        go_wp2_with fail
        go_roundw
        case rel => exact ⟨k + 1, m, a0, c0, by omega, by omega, by go_num, rfl, HM2.out, HN.out⟩
        case measure => simp [intOf]; omega
      case neg =>
        have he : (a == key) = false := by simp [hak]
        have HM2 : Hid (m + 1 = (addRest (L.take (k + 1)) key).length) := by show _ = _; rw [rest_snoc HK.out, if_neg hak, List.length_append, ← hMM.out]; rfl
        have HOW := hHR.out.own
        rw [← hMM.out] at HOW
        have Hw := Lib.hid HOW
        have hRS : Hid (addRest (L.take (k + 1)) key = addRest (L.take k) key ++ [(a, b, c)]) := by show _ = _; rw [rest_snoc HK.out, if_neg hak]
        have hHK : Hid (hK L key num (k + 1) = hK L key num k) := by show _ = _; rw [hK_at HK.out, if_neg hak]
        clear hak HOW
        go_wp2_with (at_builtin; refine wpList_append_lies _ rfl _ _ 36 rfl (X + 1) 43 iI (.agg #[.int .i64 0, .int .i64 0, .int .i64 0]) 3 24 Try.underlying36 I.out.1 I.out.2.1 I.out.2.2.1 I.out.2.2.2 rfl (by decide) _ m (ints (flat (addRest (L.take k) key))) rfl (Hw.out.alloc _) ⟨wo.heap.size, 0, none⟩ 1 1 (ints [a, b, c]) rfl rfl ?d0 (ints_one _) (by decide) ?d1 ?d2 ?d3 _ rfl ?_)
        case d0 => first | exact fun a_ u ha => cells_new _ [a, b, c] 43 rfl a_ u ha | exact fun a_ u ha => by simpa [ints] using ha
        case d1 => unfold maxLen; omega
        case d2 => omega
        case d3 => first | omega | (simp; omega)
        intro g4 cap4 w5 hown4 hgrow4 hat4 hlt4
        have HN : Hid (HRS w3 w5 X (hK L key num (k + 1)) (.slice (some ⟨g4, 0, none⟩) (m + 1) cap4) (addRest (L.take (k + 1)) key)) := by
          show HRS _ _ _ _ _ _
          rw [hHK.out, hRS.out]
          exact hHR.out.app hgrow4 (by rw [← hMM.out]; exact hown4)
        clear hown4 hgrow4 hat4 hlt4 hHR
        go_wp2_with fail
        go_roundw
        case rel => exact ⟨k + 1, m + 1, _, _, by omega, by omega, by go_num, rfl, HM2.out, HN.out⟩
        case measure => simp [intOf]; omega
    case neg =>
      have hge : ¬ ((k : Int) < (n : Int)) := by omega
      obtain rfl : k = n := by omega
      have hLt : L.take k = L := by rw [← hL, List.take_length]
      rw [hLt] at hHR hMM
      obtain ⟨M, hM⟩ : ∃ M, M = (addBase L key).length := ⟨_, rfl⟩
      obtain ⟨h0, h1, h2, hH⟩ : ∃ h0 h1 h2 : Int, addNew L key num = (h0, h1, h2) := ⟨_, _, _, rfl⟩
      have HM := Lib.hid hM
      have HH := Lib.hid hH
      have hM3 : M ≤ 4 := by rw [hM]; exact Nat.le_trans (base_sub L key).length_le (by rw [hL]; exact hn4)
      clear hM hH hLt
      go_upto_if 69 with fail
      go_cut [9] (fun s9 wx => ∃ (a : Option Addr) (c : Nat), s9 = .slice a M c ∧ Hid (HRW w3 wx X (h0, h1, h2) (.slice a M c) (addBase L key)))
      case first =>
        by_cases hm4 : m = 4
        case neg =>
          have hne : (addRest L key).length ≠ 4 := by rw [← hMM.out]; exact hm4
          have hm5 : M = m := by rw [HM.out, rest_less key hne, hMM.out]
          have d0 : ((m : Int) == 4) = false := by simp; omega
          have hW : Hid (HRW w3 wo X (h0, h1, h2) (.slice a0 m c0) (addBase L key)) := by
            have hx := hHR.out.toW (by rw [← hMM.out]; omega)
            show HRW _ _ _ _ _ _
            rw [rest_less key hne, ← HH.out, ← new_less HT.out key num hne, hL]
            exact hx
          subst hm5
          clear hne hm4
          go_wp2_with fail
          go_meet
          exact ⟨_, _, rfl, hW⟩
        case pos =>
          have hfp := full_parts HT.out key num (by rw [← hMM.out, hm4])
          obtain ⟨hrf, hn5⟩ := rest_full HT.out key (by rw [← hMM.out, hm4])
          rw [hfp.1] at hHR
          obtain ⟨ya, yb, yc, hy⟩ := at_of_lt (L := L) (i := 3) (by omega)
          have hrow := hHR.out.row (by omega)
          subst hm4
          have hroom : 4 ≤ c0 := own_room (n := 4) (by have h := hHR.out.own; rw [hn5] at h; exact h) (by omega)
          rw [hn5] at hrow
          obtain ⟨a1, c1, e1, _, hcc⟩ := hrow.opened
          simp only [Value.slice.injEq] at e1
          obtain ⟨rfl, _, rfl⟩ := e1
          obtain ⟨g, rfl, hg, hz⟩ := hcc (by omega)
          obtain ⟨r0, r1, r2⟩ := flat_at L 3 _ hy
          have z0 : wo.cell? ⟨g, 9, none⟩ = some (.int .i64 ya) := hz _ _ r0
          have z1 : wo.cell? ⟨g, 10, none⟩ = some (.int .i64 yb) := hz _ _ r1
          have z2 : wo.cell? ⟨g, 11, none⟩ = some (.int .i64 yc) := hz _ _ r2
          have hbz := hvB_iff.1 (HT.out.at_ hy)
          have hb1 : 1 ≤ yb := hbz.2.1.1
          have hb2 : yb ≤ 1000000000000 := hbz.2.1.2
          have wb : IntKind.i64.wrap (yb + num) = yb + num := IntWalk.i64_in _ (by omega)
          have hc4 : 3 ≤ c0 := by omega
          have hM5 : M = 3 := by rw [HM.out, hfp.2.1, List.length_take, hn5]; rfl
          have hx0 := hHR.out.c0
          have hx1 := hHR.out.c1
          have hx2 := hHR.out.c2
          have hf0 := hHR.out.frz 0
          have hf1 := hHR.out.frz 1
          have hf2 := hHR.out.frz 2
          have ngX : g ≠ X := by have := (hHR.out.own.lt g rfl).1; omega
          have ngs : g < wo.heap.size := by omega
          have ngs2 : g ≠ wo.heap.size := by omega
          have nXs : X ≠ wo.heap.size := by omega
          have hW : Hid (HRW w3 ((((wo.setCell ⟨X, 0, none⟩ (.int .i64 key)).setCell ⟨X, 1, none⟩ (.int .i64 (yb + num))).setCell ⟨X, 2, none⟩ (.int .i64 yb)).alloc (.cells #[.int .i64 ya, .int .i64 yb, .int .i64 yc] 43)) X (h0, h1, h2) (.slice (some ⟨g, 0, none⟩) 3 c0) (addBase L key)) := by
            have hs := (hHR.out.set3 key (yb + num) yb).grow ((Below.refl _ _).alloc (Nat.le_refl _) (.cells #[.int .i64 ya, .int .i64 yb, .int .i64 yc] 43))
            have e : (h0, h1, h2) = (key, yb + num, yb) := by rw [← HH.out, hfp.2.2, getD_at hy]
            have hrow := hs.row (by omega)
            rw [hn5] at hrow
            show HRW _ _ _ _ _ _
            rw [e, hfp.2.1]
            exact ⟨hs.below, hs.lt, hs.c0, hs.c1, hs.c2, by have := row_take (cap' := c0) hrow 3 (by omega) hn5; rw [List.length_take, hn5]; exact this⟩
          obtain ⟨y, hy9⟩ : ∃ y, y = hK L key num k := ⟨_, rfl⟩
          rw [← hy9] at hx0 hx1 hx2
          subst hM5
          clear hHR hy9 hfp hrf hcc hz r0 r1 r2 hrow hroom hbz hn5 hy
          go_wp2_with fail
          go_meet
          exact ⟨_, _, rfl, hW⟩
      case rest =>
        obtain ⟨ra, rc, rfl, hW9⟩ := hcut
        obtain ⟨wB, rfl⟩ : ∃ x, x = wc := ⟨_, rfl⟩
        have HW := Lib.hid hW9.out
        clear hW9 hHR hMM ct
        obtain ⟨O, hO⟩ : ∃ O, O = addBase L key := ⟨_, rfl⟩
        rw [← hO] at HW HM
        have HOe := Lib.hid hO
        have sB3 := HW.out.below.size
        have sBX : X < wB.heap.size := by omega
        have ct : wB.cell? ⟨w.heap.size, 0, none⟩ = some (.slice ad k cp) := by rw [HW.out.below.cell (p := ⟨w.heap.size, 0, none⟩) (by show w.heap.size < X; omega)]; exact kt.out
        have cr : wB.cell? ⟨w.heap.size + 1, 0, none⟩ = some (.slice none 0 0) := by rw [HW.out.below.cell (p := ⟨w.heap.size + 1, 0, none⟩) (by show w.heap.size + 1 < X; omega)]; exact kr.out
        have fr : wB.frozen? ⟨w.heap.size + 1, 0, none⟩ = false := by rw [HW.out.below.frozen (p := ⟨w.heap.size + 1, 0, none⟩) (by show w.heap.size + 1 < X; omega)]; exact gr.out
        have x0 := HW.out.c0
        have x1 := HW.out.c1
        have x2 := HW.out.c2
        have HBB : Hid (Below w.heap.size w wB) := HB3.out.trans (HW.out.below.mono (by omega))
        have RL : Hid (Row 3 wB lo hi (.slice ad k cp) k (flat L)) := HR0.out.below HBB.out hh
        have RO : Hid (Row 3 wB (X + 1) wB.heap.size (.slice ra M rc) M (flat O)) := by have h := HW.out.row; rw [← HM.out] at h; exact h
        clear hO HW
        go_upto_region 17 with fail
        obtain ⟨q11, hq11⟩ : ∃ q, q = (wB.alloc (.cells #[.slice none 0 0] 38)) := ⟨_, rfl⟩
        have hb11 : Below wB.heap.size wB q11 := by rw [hq11]; go_grown
        have sz11 : wB.heap.size + 1 ≤ q11.heap.size := by rw [hq11]; simp
        have c11_0 : q11.cell? ⟨w.heap.size, 0, none⟩ = some (.slice ad k cp) := by rw [(bcell hb11).1 _ _ (by omega)]; exact ct
        have c11_1 : q11.cell? ⟨w.heap.size + 1, 0, none⟩ = some (.slice none 0 0) := by rw [(bcell hb11).1 _ _ (by omega)]; exact cr
        have c11_2 : q11.cell? ⟨X, 0, none⟩ = some (.int .i64 h0) := by rw [(bcell hb11).1 _ _ (by omega)]; exact x0
        have c11_3 : q11.cell? ⟨X, 1, none⟩ = some (.int .i64 h1) := by rw [(bcell hb11).1 _ _ (by omega)]; exact x1
        have c11_4 : q11.cell? ⟨X, 2, none⟩ = some (.int .i64 h2) := by rw [(bcell hb11).1 _ _ (by omega)]; exact x2
        have c11_5 : q11.cell? ⟨wB.heap.size, 0, none⟩ = some (.slice none 0 0) := by rw [hq11, new_at (by simp)]; rfl
        have g11_0 : q11.frozen? ⟨w.heap.size + 1, 0, none⟩ = false := by rw [(bcell hb11).2 _ _ (by omega)]; exact fr
        have g11_1 : q11.frozen? ⟨wB.heap.size, 0, none⟩ = false := by rw [hq11, new_frz (by simp)]
        have B11 : Hid (Below w.heap.size w q11) := Lib.hid (HBB.out.trans (hb11.mono (by omega)))
        have R11_0 : Hid (Row 3 q11 (lo) (hi) (.slice ad k cp) k (flat L)) := Lib.hid (RL.out.below hb11 (by omega))
        have R11_1 : Hid (Row 3 q11 ((X + 1)) (wB.heap.size) (.slice ra M rc) M (flat O)) := Lib.hid (RO.out.below hb11 (by omega))
        rw [← hq11]
        have d11_0 : w.heap.size < q11.heap.size := by omega
        have e11_0 : w.heap.size ≠ q11.heap.size := by omega
        have d11_1 : w.heap.size + 1 < q11.heap.size := by omega
        have e11_1 : w.heap.size + 1 ≠ q11.heap.size := by omega
        have d11_3 : wB.heap.size < q11.heap.size := by omega
        have e11_3 : wB.heap.size ≠ q11.heap.size := by omega
        clear hq11 hb11 ct cr x0 x1 x2 fr HBB RL RO
        obtain ⟨Y, hY⟩ : ∃ Y, Y = wB.heap.size := ⟨_, rfl⟩
        rw [← hY] at c11_5 g11_1 ⊢
        have HOT : Hid (OutT q11 q11 Y (outK (h0, h1, h2) (O.take 0))) := Lib.hid (OutT.start (by omega) g11_1 c11_5)
        have nY : X < Y := by omega
        have nY3 : Y < q11.heap.size := by omega
        have nYO : wB.heap.size ≤ Y := by omega
        clear hY c11_5 g11_1
        have HC0 : Hid (q11.cell? ⟨w.heap.size, 0, none⟩ = some (.slice ad k cp)) := c11_0
        clear c11_0
        have HC1 : Hid (q11.cell? ⟨w.heap.size + 1, 0, none⟩ = some (.slice none 0 0)) := c11_1
        clear c11_1
        have HC2 : Hid (q11.cell? ⟨X, 0, none⟩ = some (.int .i64 h0)) := c11_2
        clear c11_2
        have HC3 : Hid (q11.cell? ⟨X, 1, none⟩ = some (.int .i64 h1)) := c11_3
        clear c11_3
        have HC4 : Hid (q11.cell? ⟨X, 2, none⟩ = some (.int .i64 h2)) := c11_4
        clear c11_4
        have HJ0 : Hid (q11.frozen? ⟨w.heap.size + 1, 0, none⟩ = false) := g11_0
        clear g11_0
        have hOop := R11_1.out.opened
        have HOL := Lib.hid hOop
        clear hOop
        go_wp2_with fail
        go_loopw [13, 14] (fun p i wr => ∃ u : Nat, u ≤ M ∧ p = .bool (putB (h0, h1, h2) (O.take u)) ∧ i = .int .i64 (u : Int) ∧ Hid (OutT q11 wr Y (outK (h0, h1, h2) (O.take u)))) (fun _ i _ => M - (intOf i).toNat)
        case atStart => exact ⟨0, Nat.zero_le _, rfl, rfl, HOT⟩
        case round =>
          clear HOT
          obtain ⟨u, hu, rfl, rfl, hR⟩ := hrel
          have hsl : (outK (h0, h1, h2) (O.take u)).length ≤ u + 1 := by
            unfold outK
            split
            · rw [insH_len, List.length_take]; omega
            · rw [List.length_take]; omega
          have sXr := hR.out.size
          have s3r : q11.heap.size ≤ wr.heap.size := hR.out.1.size
          have kr0 : wr.cell? ⟨w.heap.size, 0, none⟩ = some (.slice ad k cp) := hR.out.keep (by omega) HC0.out
          have kr1 : wr.cell? ⟨w.heap.size + 1, 0, none⟩ = some (.slice none 0 0) := hR.out.keep (by omega) HC1.out
          have kr2 : wr.cell? ⟨X, 0, none⟩ = some (.int .i64 h0) := hR.out.keep (by omega) HC2.out
          have kr3 : wr.cell? ⟨X, 1, none⟩ = some (.int .i64 h1) := hR.out.keep (by omega) HC3.out
          have kr4 : wr.cell? ⟨X, 2, none⟩ = some (.int .i64 h2) := hR.out.keep (by omega) HC4.out
          have jr0 : wr.frozen? ⟨w.heap.size + 1, 0, none⟩ = false := hR.out.keepf (by omega) HJ0.out
          by_cases hlu : u < M
          case pos =>
            have q0 : (0 : Int) ≤ (u : Int) := by omega
            have q1 : (u : Int) < (M : Int) := by omega
            obtain ⟨ra', rc', hsl', hn', hop'⟩ := HOL.out
            obtain ⟨rfl, rfl⟩ : ra = ra' ∧ rc = rc' := by simpa using hsl'
            obtain ⟨g, rfl, hg, hz⟩ := hop' (by omega)
            clear hsl' hop' HOL
            obtain ⟨a, b, c, hrk⟩ := at_of_lt (L := O) (i := u) (by rw [← HM.out]; exact hlu)
            obtain ⟨r0, r1, r2⟩ := flat_at O u _ hrk
            have HZ0 := Lib.hid (hz _ _ r0)
            have HZ1 := Lib.hid (hz _ _ r1)
            have HZ2 := Lib.hid (hz _ _ r2)
            have hgY : g < Y := by omega
            have zr0 : wr.cell? ⟨g, u * 3, none⟩ = some (.int .i64 a) := hR.out.keep hgY HZ0.out
            have zr1 : wr.cell? ⟨g, u * 3 + 1, none⟩ = some (.int .i64 b) := hR.out.keep hgY HZ1.out
            have zr2 : wr.cell? ⟨g, u * 3 + 2, none⟩ = some (.int .i64 c) := hR.out.keep hgY HZ2.out
            have Hrk := Lib.hid hrk
            clear r0 r1 r2 hrk hz
            cases hp : putB (h0, h1, h2) (O.take u) with
            | true =>
              have HN : Hid (outK (h0, h1, h2) (O.take (u + 1)) = outK (h0, h1, h2) (O.take u) ++ [(a, b, c)]) := by show _ = _; rw [take_snoc3 Hrk.out]; exact outK_put hp
              have HPN : Hid (putB (h0, h1, h2) (O.take (u + 1)) = true) := by show _ = _; rw [take_snoc3 Hrk.out, putB_snoc]; rw [hp]; rfl
              go_wp2_with fail
              go_quiet (fail)
              obtain ⟨wy, hwy⟩ : ∃ wy, wy = wr.drewN nq := ⟨_, rfl⟩
              have HOTy : Hid (OutT q11 wy Y (outK (h0, h1, h2) (O.take u))) := by rw [hwy]; exact Lib.hid (hR.out.drewN nq)
              rw [← hwy]
              clear hwy hR hp zr0 zr1 zr2
              clear kr0 kr1 kr2 kr3 kr4 jr0
              have sXy := HOTy.out.size
              have s3y : q11.heap.size ≤ wy.heap.size := HOTy.out.1.size
              have ky0 : wy.cell? ⟨w.heap.size, 0, none⟩ = some (.slice ad k cp) := HOTy.out.keep (by omega) HC0.out
              have ky1 : wy.cell? ⟨w.heap.size + 1, 0, none⟩ = some (.slice none 0 0) := HOTy.out.keep (by omega) HC1.out
              have ky2 : wy.cell? ⟨X, 0, none⟩ = some (.int .i64 h0) := HOTy.out.keep (by omega) HC2.out
              have ky3 : wy.cell? ⟨X, 1, none⟩ = some (.int .i64 h1) := HOTy.out.keep (by omega) HC3.out
              have ky4 : wy.cell? ⟨X, 2, none⟩ = some (.int .i64 h2) := HOTy.out.keep (by omega) HC4.out
              have jy0 : wy.frozen? ⟨w.heap.size + 1, 0, none⟩ = false := HOTy.out.keepf (by omega) HJ0.out
              obtain ⟨rvy, hrvy, howny⟩ := HOTy.out.2.2.2
              obtain ⟨oay, ocy, hoay⟩ := own_slice howny
              subst hoay
              have hfXy := HOTy.out.2.2.1
              have Hwy := Lib.hid howny
              obtain ⟨mly, hmly⟩ : ∃ ml, ml = (outK (h0, h1, h2) (O.take u)).length := ⟨_, rfl⟩
              rw [← hmly] at hrvy Hwy
              have Hmly := Lib.hid hmly
              have hmby : mly ≤ 1000000 := by omega
              clear howny hmly
              have zy0 : wy.cell? ⟨g, u * 3, none⟩ = some (.int .i64 a) := HOTy.out.keep (by omega) HZ0.out
              have zy1 : wy.cell? ⟨g, u * 3 + 1, none⟩ = some (.int .i64 b) := HOTy.out.keep (by omega) HZ1.out
              have zy2 : wy.cell? ⟨g, u * 3 + 2, none⟩ = some (.int .i64 c) := HOTy.out.keep (by omega) HZ2.out
              have hgwy : g < wy.heap.size := by omega
              go_wp2_with fail
              go_region_law ((refine step_append_lies _ rfl _ _ 36 rfl (Y + 1) 43 iI (.agg #[.int .i64 0, .int .i64 0, .int .i64 0]) 3 24 Try.underlying36 I.out.1 I.out.2.1 I.out.2.2.1 I.out.2.2.2 rfl (by decide) _ mly (ints (flat (outK (h0, h1, h2) (O.take u)))) rfl (Hwy.out.drew.alloc _) ⟨wy.heap.size, 0, none⟩ 1 1 (ints [a, b, c]) rfl rfl (fun j u hj => cells_new _ [a, b, c] 43 rfl j u hj) (ints_one _) (by decide) (by unfold maxLen; omega) (by omega) (by simp; omega) _ rfl ?_; intro g4 cap4 w4 hown4 hgrow4 hat4 hlt4; obtain ⟨⟨uu, hc4⟩, hf4, hF4⟩ := OutT.app HOTy.out.drew (by rw [← Hmly.out]; exact Hwy.out.drew) hgrow4 (show mly + 1 = (outK (h0, h1, h2) (O.take u)).length + 1 by rw [Hmly.out]) hown4; have HF := Lib.hid hF4; clear hF4 hown4 hgrow4 hat4 hlt4))
              all_goals
                go_wp2_with fail
                go_roundw
                case rel => exact ⟨u + 1, by omega, by rw [HPN.out], by go_num, by rw [HN.out]; exact HF⟩
                case measure => simp [intOf]; omega
            | false =>
              cases ha9 : ahP h0 h1 a b with
              | false =>
                have HN : Hid (outK (h0, h1, h2) (O.take (u + 1)) = outK (h0, h1, h2) (O.take u) ++ [(a, b, c)]) := by show _ = _; rw [take_snoc3 Hrk.out]; exact outK_not hp ha9
                have HPN : Hid (putB (h0, h1, h2) (O.take (u + 1)) = false) := by show _ = _; rw [take_snoc3 Hrk.out, putB_snoc]; rw [hp]; exact ha9
                have Hp := Lib.hid hp
                go_wp2_with fail
                refine wp_region_held_drew (S := (fun w' => w'.cell? ⟨X, 0, none⟩ = some (.int .i64 h0) ∧ w'.cell? ⟨X, 1, none⟩ = some (.int .i64 h1) ∧ w'.cell? ⟨X, 2, none⟩ = some (.int .i64 h2) ∧ w'.cell? ⟨g, u * 3, none⟩ = some (.int .i64 a) ∧ w'.cell? ⟨g, u * 3 + 1, none⟩ = some (.int .i64 b) ∧ w'.cell? ⟨g, u * 3 + 2, none⟩ = some (.int .i64 c) ∧ wr.heap.size ≤ w'.heap.size ∧ Below wr.heap.size wr w')) (by kernel_rfl) ?_ (fun hHeld => ?_)
                · (first | assumption | exact rr6_start kr2 kr3 kr4 zr0 zr1 zr2 | exact rr6_drew (by assumption) | exact rr6_keep (by omega) (by omega) (by omega) (by omega) (by omega) (by omega) hb (by assumption) | fail)
                refine step_read 0 90 rfl rfl (by kernel_rfl) (by kernel_rfl) (by kernel_rfl) (fun _ _ _ h => h) (by rfl) (v := ?_) (fun w hSw => ?_) (by assumption) ?_; rotate_left; (focus ((try dsimp only at hSw); go_simp; first | done | exact rfl)); simp only [List.set]
                refine step_read 1 91 rfl rfl (by kernel_rfl) (by kernel_rfl) (by kernel_rfl) (fun _ _ _ h => h) (by rfl) (v := ?_) (fun w hSw => ?_) (by assumption) ?_; rotate_left; (focus ((try dsimp only at hSw); go_simp; first | done | exact rfl)); simp only [List.set]
                refine step_read 2 92 rfl rfl (by kernel_rfl) (by kernel_rfl) (by kernel_rfl) (fun _ _ _ h => h) (by rfl) (v := ?_) (fun w hSw => ?_) (by assumption) ?_; rotate_left; (focus ((try dsimp only at hSw); go_simp; first | done | exact rfl)); simp only [List.set]
                refine step_read 3 93 rfl rfl (by kernel_rfl) (by kernel_rfl) (by kernel_rfl) (fun _ _ _ h => h) (by rfl) (v := ?_) (fun w hSw => ?_) (by assumption) ?_; rotate_left; (focus ((try dsimp only at hSw); go_simp; first | done | exact rfl)); simp only [List.set]
                refine step_read 4 94 rfl rfl (by kernel_rfl) (by kernel_rfl) (by kernel_rfl) (fun _ _ _ h => h) (by rfl) (v := ?_) (fun w hSw => ?_) (by assumption) ?_; rotate_left; (focus ((try dsimp only at hSw); go_simp; first | done | exact rfl)); simp only [List.set]
                refine step_read 5 95 rfl rfl (by kernel_rfl) (by kernel_rfl) (by kernel_rfl) (fun _ _ _ h => h) (by rfl) (v := ?_) (fun w hSw => ?_) (by assumption) ?_; rotate_left; (focus ((try dsimp only at hSw); go_simp; first | done | exact rfl)); simp only [List.set]
                refine step_read 6 96 rfl rfl (by kernel_rfl) (by kernel_rfl) (by kernel_rfl) (fun _ _ _ h => h) (by rfl) (v := ?_) (fun w hSw => ?_) (by assumption) ?_; rotate_left; (focus ((try dsimp only at hSw); go_simp; first | done | exact rfl)); simp only [List.set]
                refine step_read 7 97 rfl rfl (by kernel_rfl) (by kernel_rfl) (by kernel_rfl) (fun _ _ _ h => h) (by rfl) (v := ?_) (fun w hSw => ?_) (by assumption) ?_; rotate_left; (focus ((try dsimp only at hSw); go_simp; first | done | exact rfl)); simp only [List.set]
                refine wpAnyH_ready (rs := [8]) (by kernel_rfl) (by simp) ?_
                refine AllReadyH.cons rfl (fun Kc hK => ?_) (AllReadyH.nil)
                go_simp
                go_at_call 62
                refine (ahead_any h0 h1 h2 a b c _).mono ?_
                rw [ha9]
                rintro e wy ⟨rfl, hb⟩
                refine hK.out _ _ ?_ (fun hHeld => ?_)
                · (first | assumption | exact rr6_start kr2 kr3 kr4 zr0 zr1 zr2 | exact rr6_drew (by assumption) | exact rr6_keep (by omega) (by omega) (by omega) (by omega) (by omega) (by omega) hb (by assumption) | fail)
                clear hK Kc
                refine step_read 9 99 rfl rfl (by kernel_rfl) (by kernel_rfl) (by kernel_rfl) (fun _ _ _ h => h) (by rfl) (v := ?_) (fun w hSw => ?_) (by assumption) ?_; rotate_left; (focus ((try dsimp only at hSw); go_simp; first | done | exact rfl)); simp only [List.set]
                refine wpAnyH_done (by kernel_rfl) ?_ _
                have HOTy : Hid (OutT q11 wy Y (outK (h0, h1, h2) (O.take u))) := Lib.hid (hR.out.below (rr6_out (by assumption)).2)
                clear hR
                clear kr0 kr1 kr2 kr3 kr4 jr0
                clear hp zr0 zr1 zr2
                have sXy := HOTy.out.size
                have s3y : q11.heap.size ≤ wy.heap.size := HOTy.out.1.size
                have ky0 : wy.cell? ⟨w.heap.size, 0, none⟩ = some (.slice ad k cp) := HOTy.out.keep (by omega) HC0.out
                have ky1 : wy.cell? ⟨w.heap.size + 1, 0, none⟩ = some (.slice none 0 0) := HOTy.out.keep (by omega) HC1.out
                have ky2 : wy.cell? ⟨X, 0, none⟩ = some (.int .i64 h0) := HOTy.out.keep (by omega) HC2.out
                have ky3 : wy.cell? ⟨X, 1, none⟩ = some (.int .i64 h1) := HOTy.out.keep (by omega) HC3.out
                have ky4 : wy.cell? ⟨X, 2, none⟩ = some (.int .i64 h2) := HOTy.out.keep (by omega) HC4.out
                have jy0 : wy.frozen? ⟨w.heap.size + 1, 0, none⟩ = false := HOTy.out.keepf (by omega) HJ0.out
                obtain ⟨rvy, hrvy, howny⟩ := HOTy.out.2.2.2
                obtain ⟨oay, ocy, hoay⟩ := own_slice howny
                subst hoay
                have hfXy := HOTy.out.2.2.1
                have Hwy := Lib.hid howny
                obtain ⟨mly, hmly⟩ : ∃ ml, ml = (outK (h0, h1, h2) (O.take u)).length := ⟨_, rfl⟩
                rw [← hmly] at hrvy Hwy
                have Hmly := Lib.hid hmly
                have hmby : mly ≤ 1000000 := by omega
                clear howny hmly
                have zy0 : wy.cell? ⟨g, u * 3, none⟩ = some (.int .i64 a) := HOTy.out.keep (by omega) HZ0.out
                have zy1 : wy.cell? ⟨g, u * 3 + 1, none⟩ = some (.int .i64 b) := HOTy.out.keep (by omega) HZ1.out
                have zy2 : wy.cell? ⟨g, u * 3 + 2, none⟩ = some (.int .i64 c) := HOTy.out.keep (by omega) HZ2.out
                have hgwy : g < wy.heap.size := by omega
                go_wp2_with fail
                go_region_law ((refine step_append_lies _ rfl _ _ 36 rfl (Y + 1) 43 iI (.agg #[.int .i64 0, .int .i64 0, .int .i64 0]) 3 24 Try.underlying36 I.out.1 I.out.2.1 I.out.2.2.1 I.out.2.2.2 rfl (by decide) _ mly (ints (flat (outK (h0, h1, h2) (O.take u)))) rfl (Hwy.out.drew.alloc _) ⟨wy.heap.size, 0, none⟩ 1 1 (ints [a, b, c]) rfl rfl (fun j u hj => cells_new _ [a, b, c] 43 rfl j u hj) (ints_one _) (by decide) (by unfold maxLen; omega) (by omega) (by simp; omega) _ rfl ?_; intro g4 cap4 w4 hown4 hgrow4 hat4 hlt4; obtain ⟨⟨uu, hc4⟩, hf4, hF4⟩ := OutT.app HOTy.out.drew (by rw [← Hmly.out]; exact Hwy.out.drew) hgrow4 (show mly + 1 = (outK (h0, h1, h2) (O.take u)).length + 1 by rw [Hmly.out]) hown4; have HF := Lib.hid hF4; clear hF4 hown4 hgrow4 hat4 hlt4))
                all_goals
                  go_wp2_with fail
                  go_roundw
                  case rel => exact ⟨u + 1, by omega, by rw [HPN.out], by go_num, by rw [HN.out]; exact HF⟩
                  case measure => simp [intOf]; omega
              | true =>
                have HN : Hid (outK (h0, h1, h2) (O.take (u + 1)) = (outK (h0, h1, h2) (O.take u) ++ [(h0, h1, h2)]) ++ [(a, b, c)]) := by show _ = _; rw [take_snoc3 Hrk.out]; exact outK_now hp ha9
                have HPN : Hid (putB (h0, h1, h2) (O.take (u + 1)) = true) := by show _ = _; rw [take_snoc3 Hrk.out, putB_snoc]; rw [show ah (h0, h1, h2) (a, b, c) = true from ha9, Bool.or_true]
                have Hp := Lib.hid hp
                go_wp2_with fail
                refine wp_region_held_drew (S := (fun w' => w'.cell? ⟨X, 0, none⟩ = some (.int .i64 h0) ∧ w'.cell? ⟨X, 1, none⟩ = some (.int .i64 h1) ∧ w'.cell? ⟨X, 2, none⟩ = some (.int .i64 h2) ∧ w'.cell? ⟨g, u * 3, none⟩ = some (.int .i64 a) ∧ w'.cell? ⟨g, u * 3 + 1, none⟩ = some (.int .i64 b) ∧ w'.cell? ⟨g, u * 3 + 2, none⟩ = some (.int .i64 c) ∧ wr.heap.size ≤ w'.heap.size ∧ Below wr.heap.size wr w')) (by kernel_rfl) ?_ (fun hHeld => ?_)
                · (first | assumption | exact rr6_start kr2 kr3 kr4 zr0 zr1 zr2 | exact rr6_drew (by assumption) | exact rr6_keep (by omega) (by omega) (by omega) (by omega) (by omega) (by omega) hb (by assumption) | fail)
                refine step_read 0 90 rfl rfl (by kernel_rfl) (by kernel_rfl) (by kernel_rfl) (fun _ _ _ h => h) (by rfl) (v := ?_) (fun w hSw => ?_) (by assumption) ?_; rotate_left; (focus ((try dsimp only at hSw); go_simp; first | done | exact rfl)); simp only [List.set]
                refine step_read 1 91 rfl rfl (by kernel_rfl) (by kernel_rfl) (by kernel_rfl) (fun _ _ _ h => h) (by rfl) (v := ?_) (fun w hSw => ?_) (by assumption) ?_; rotate_left; (focus ((try dsimp only at hSw); go_simp; first | done | exact rfl)); simp only [List.set]
                refine step_read 2 92 rfl rfl (by kernel_rfl) (by kernel_rfl) (by kernel_rfl) (fun _ _ _ h => h) (by rfl) (v := ?_) (fun w hSw => ?_) (by assumption) ?_; rotate_left; (focus ((try dsimp only at hSw); go_simp; first | done | exact rfl)); simp only [List.set]
                refine step_read 3 93 rfl rfl (by kernel_rfl) (by kernel_rfl) (by kernel_rfl) (fun _ _ _ h => h) (by rfl) (v := ?_) (fun w hSw => ?_) (by assumption) ?_; rotate_left; (focus ((try dsimp only at hSw); go_simp; first | done | exact rfl)); simp only [List.set]
                refine step_read 4 94 rfl rfl (by kernel_rfl) (by kernel_rfl) (by kernel_rfl) (fun _ _ _ h => h) (by rfl) (v := ?_) (fun w hSw => ?_) (by assumption) ?_; rotate_left; (focus ((try dsimp only at hSw); go_simp; first | done | exact rfl)); simp only [List.set]
                refine step_read 5 95 rfl rfl (by kernel_rfl) (by kernel_rfl) (by kernel_rfl) (fun _ _ _ h => h) (by rfl) (v := ?_) (fun w hSw => ?_) (by assumption) ?_; rotate_left; (focus ((try dsimp only at hSw); go_simp; first | done | exact rfl)); simp only [List.set]
                refine step_read 6 96 rfl rfl (by kernel_rfl) (by kernel_rfl) (by kernel_rfl) (fun _ _ _ h => h) (by rfl) (v := ?_) (fun w hSw => ?_) (by assumption) ?_; rotate_left; (focus ((try dsimp only at hSw); go_simp; first | done | exact rfl)); simp only [List.set]
                refine step_read 7 97 rfl rfl (by kernel_rfl) (by kernel_rfl) (by kernel_rfl) (fun _ _ _ h => h) (by rfl) (v := ?_) (fun w hSw => ?_) (by assumption) ?_; rotate_left; (focus ((try dsimp only at hSw); go_simp; first | done | exact rfl)); simp only [List.set]
                refine wpAnyH_ready (rs := [8]) (by kernel_rfl) (by simp) ?_
                refine AllReadyH.cons rfl (fun Kc hK => ?_) (AllReadyH.nil)
                go_simp
                go_at_call 62
                refine (ahead_any h0 h1 h2 a b c _).mono ?_
                rw [ha9]
                rintro e wy ⟨rfl, hb⟩
                refine hK.out _ _ ?_ (fun hHeld => ?_)
                · (first | assumption | exact rr6_start kr2 kr3 kr4 zr0 zr1 zr2 | exact rr6_drew (by assumption) | exact rr6_keep (by omega) (by omega) (by omega) (by omega) (by omega) (by omega) hb (by assumption) | fail)
                clear hK Kc
                refine step_read 9 99 rfl rfl (by kernel_rfl) (by kernel_rfl) (by kernel_rfl) (fun _ _ _ h => h) (by rfl) (v := ?_) (fun w hSw => ?_) (by assumption) ?_; rotate_left; (focus ((try dsimp only at hSw); go_simp; first | done | exact rfl)); simp only [List.set]
                refine wpAnyH_done (by kernel_rfl) ?_ _
                have HOTy : Hid (OutT q11 wy Y (outK (h0, h1, h2) (O.take u))) := Lib.hid (hR.out.below (rr6_out (by assumption)).2)
                clear hR
                clear kr0 kr1 kr2 kr3 kr4 jr0
                clear hp zr0 zr1 zr2
                have sXy := HOTy.out.size
                have s3y : q11.heap.size ≤ wy.heap.size := HOTy.out.1.size
                have ky0 : wy.cell? ⟨w.heap.size, 0, none⟩ = some (.slice ad k cp) := HOTy.out.keep (by omega) HC0.out
                have ky1 : wy.cell? ⟨w.heap.size + 1, 0, none⟩ = some (.slice none 0 0) := HOTy.out.keep (by omega) HC1.out
                have ky2 : wy.cell? ⟨X, 0, none⟩ = some (.int .i64 h0) := HOTy.out.keep (by omega) HC2.out
                have ky3 : wy.cell? ⟨X, 1, none⟩ = some (.int .i64 h1) := HOTy.out.keep (by omega) HC3.out
                have ky4 : wy.cell? ⟨X, 2, none⟩ = some (.int .i64 h2) := HOTy.out.keep (by omega) HC4.out
                have jy0 : wy.frozen? ⟨w.heap.size + 1, 0, none⟩ = false := HOTy.out.keepf (by omega) HJ0.out
                obtain ⟨rvy, hrvy, howny⟩ := HOTy.out.2.2.2
                obtain ⟨oay, ocy, hoay⟩ := own_slice howny
                subst hoay
                have hfXy := HOTy.out.2.2.1
                have Hwy := Lib.hid howny
                obtain ⟨mly, hmly⟩ : ∃ ml, ml = (outK (h0, h1, h2) (O.take u)).length := ⟨_, rfl⟩
                rw [← hmly] at hrvy Hwy
                have Hmly := Lib.hid hmly
                have hmby : mly ≤ 1000000 := by omega
                clear howny hmly
                go_wp2_with (at_builtin; refine wpList_append_lies _ rfl _ _ 36 rfl (Y + 1) 43 iI (.agg #[.int .i64 0, .int .i64 0, .int .i64 0]) 3 24 Try.underlying36 I.out.1 I.out.2.1 I.out.2.2.1 I.out.2.2.2 rfl (by decide) _ mly (ints (flat (outK (h0, h1, h2) (O.take u)))) rfl (Hwy.out.alloc _) ⟨wy.heap.size, 0, none⟩ 1 1 (ints [h0, h1, h2]) rfl rfl ?d0 (ints_one _) (by decide) ?d1 ?d2 ?d3 _ rfl ?_)
                case d0 => first | exact fun a_ u ha => cells_new _ [h0, h1, h2] 43 rfl a_ u ha | exact fun a_ u ha => by simpa [ints] using ha
                case d1 => unfold maxLen; omega
                case d2 => omega
                case d3 => first | omega | (simp; omega)
                intro g4 cap4 w4 hown4 hgrow4 hat4 hlt4
                obtain ⟨⟨uu, hc4⟩, hf4, hF4⟩ := OutT.app HOTy.out (by rw [← Hmly.out]; exact Hwy.out) hgrow4 (show mly + 1 = (outK (h0, h1, h2) (O.take u)).length + 1 by rw [Hmly.out]) hown4
                obtain ⟨wz, hnn⟩ : ∃ wz, wz = w4.setCell ⟨Y, 0, none⟩ (.slice (some ⟨g4, 0, none⟩) (mly + 1) cap4) := ⟨_, rfl⟩
                rw [← hnn] at hF4
                have HOTwz := Lib.hid hF4
                have HNN := Lib.hid hnn
                clear hF4 hnn hown4 hgrow4 hat4 hlt4
                go_upto_region 23 with fail
                rw [← HNN.out]
                clear hc4 hf4 HOTy ky0 ky1 ky2 ky3 ky4 jy0 hrvy hfXy Hwy Hmly hmby
                have hlz : (outK (h0, h1, h2) (O.take u) ++ [(h0, h1, h2)]).length ≤ M + 2 := by rw [List.length_append, List.length_singleton]; omega
                have sXz := HOTwz.out.size
                have s3z : q11.heap.size ≤ wz.heap.size := HOTwz.out.1.size
                have kz0 : wz.cell? ⟨w.heap.size, 0, none⟩ = some (.slice ad k cp) := HOTwz.out.keep (by omega) HC0.out
                have kz1 : wz.cell? ⟨w.heap.size + 1, 0, none⟩ = some (.slice none 0 0) := HOTwz.out.keep (by omega) HC1.out
                have kz2 : wz.cell? ⟨X, 0, none⟩ = some (.int .i64 h0) := HOTwz.out.keep (by omega) HC2.out
                have kz3 : wz.cell? ⟨X, 1, none⟩ = some (.int .i64 h1) := HOTwz.out.keep (by omega) HC3.out
                have kz4 : wz.cell? ⟨X, 2, none⟩ = some (.int .i64 h2) := HOTwz.out.keep (by omega) HC4.out
                have jz0 : wz.frozen? ⟨w.heap.size + 1, 0, none⟩ = false := HOTwz.out.keepf (by omega) HJ0.out
                obtain ⟨rvz, hrvz, hownz⟩ := HOTwz.out.2.2.2
                obtain ⟨oaz, ocz, hoaz⟩ := own_slice hownz
                subst hoaz
                have hfXz := HOTwz.out.2.2.1
                have Hwz := Lib.hid hownz
                obtain ⟨mlz, hmlz⟩ : ∃ ml, ml = (outK (h0, h1, h2) (O.take u) ++ [(h0, h1, h2)]).length := ⟨_, rfl⟩
                rw [← hmlz] at hrvz Hwz
                have Hmlz := Lib.hid hmlz
                have hmbz : mlz ≤ 1000000 := by omega
                clear hownz hmlz
                have zz0 : wz.cell? ⟨g, u * 3, none⟩ = some (.int .i64 a) := HOTwz.out.keep (by omega) HZ0.out
                have zz1 : wz.cell? ⟨g, u * 3 + 1, none⟩ = some (.int .i64 b) := HOTwz.out.keep (by omega) HZ1.out
                have zz2 : wz.cell? ⟨g, u * 3 + 2, none⟩ = some (.int .i64 c) := HOTwz.out.keep (by omega) HZ2.out
                have hgwz : g < wz.heap.size := by omega
                go_wp2_with fail
                go_region_law ((refine step_append_lies _ rfl _ _ 36 rfl (Y + 1) 43 iI (.agg #[.int .i64 0, .int .i64 0, .int .i64 0]) 3 24 Try.underlying36 I.out.1 I.out.2.1 I.out.2.2.1 I.out.2.2.2 rfl (by decide) _ mlz (ints (flat (outK (h0, h1, h2) (O.take u) ++ [(h0, h1, h2)]))) rfl (Hwz.out.drew.alloc _) ⟨wz.heap.size, 0, none⟩ 1 1 (ints [a, b, c]) rfl rfl (fun j u hj => cells_new _ [a, b, c] 43 rfl j u hj) (ints_one _) (by decide) (by unfold maxLen; omega) (by omega) (by simp; omega) _ rfl ?_; intro g4 cap4 w4 hown4 hgrow4 hat4 hlt4; obtain ⟨⟨uu, hc4⟩, hf4, hF4⟩ := OutT.app HOTwz.out.drew (by rw [← Hmlz.out]; exact Hwz.out.drew) hgrow4 (show mlz + 1 = (outK (h0, h1, h2) (O.take u) ++ [(h0, h1, h2)]).length + 1 by rw [Hmlz.out]) hown4; have HF := Lib.hid hF4; clear hF4 hown4 hgrow4 hat4 hlt4))
                all_goals
                  go_wp2_with fail
                  go_roundw
                  case rel => exact ⟨u + 1, by omega, by rw [HPN.out], by go_num, by rw [HN.out]; exact HF⟩
                  case measure => simp [intOf]; omega
          case neg =>
            have hge2 : ¬ ((u : Int) < (M : Int)) := by omega
            obtain rfl : u = M := by omega
            have hOt : O.take u = O := by rw [HM.out, List.take_length]
            rw [hOt] at hR hsl ⊢
            have hsf : insH (h0, h1, h2) O = addOut L key num := by unfold addOut; rw [HH.out, HOe.out]
            obtain ⟨Q, hQ⟩ : ∃ Q, Q = addOut L key num := ⟨_, rfl⟩
            have HQ := Lib.hid hQ
            go_upto_region 25 with fail
            clear kr0 kr1 kr2 kr3 kr4 jr0
            cases hp : putB (h0, h1, h2) O with
            | true =>
              have hM2 : outK (h0, h1, h2) O = Q := by rw [hQ, ← hsf]; exact outK_end_put hp
              rw [hM2] at hR
              have HR9 := Lib.hid hR.out
              clear hQ hM2 hsf hR hOt
              go_upto_region 27 with fail
              obtain ⟨ya, yc, hyc, hyr⟩ := HR9.out.take (by rw [HQ.out]; omega)
              obtain ⟨ml, hml⟩ : ∃ ml, ml = Q.length := ⟨_, rfl⟩
              have hml2 : ml ≤ 4 := by rw [hml, HQ.out]; exact hol
              rw [← hml] at hyc hyr
              have Hml := Lib.hid hml
              have HYR := Lib.hid hyr
              have HBr : Hid (Below w.heap.size w wr) := B11.out.trans (HR9.out.1.mono (by omega))
              have HLr : Hid (Row 3 wr lo hi (.slice ad k cp) k (flat L)) := R11_0.out.below HR9.out.1 (by omega)
              clear hml hyr
              have sXr := HR9.out.size
              have s3r : q11.heap.size ≤ wr.heap.size := HR9.out.1.size
              have kr0 : wr.cell? ⟨w.heap.size, 0, none⟩ = some (.slice ad k cp) := HR9.out.keep (by omega) HC0.out
              have kr1 : wr.cell? ⟨w.heap.size + 1, 0, none⟩ = some (.slice none 0 0) := HR9.out.keep (by omega) HC1.out
              have kr2 : wr.cell? ⟨X, 0, none⟩ = some (.int .i64 h0) := HR9.out.keep (by omega) HC2.out
              have kr3 : wr.cell? ⟨X, 1, none⟩ = some (.int .i64 h1) := HR9.out.keep (by omega) HC3.out
              have kr4 : wr.cell? ⟨X, 2, none⟩ = some (.int .i64 h2) := HR9.out.keep (by omega) HC4.out
              have jr0 : wr.frozen? ⟨w.heap.size + 1, 0, none⟩ = false := HR9.out.keepf (by omega) HJ0.out
              clear kr2 kr3 kr4
              cases hto : topB (addOut L key num) with
              | true =>
                obtain ⟨e2, e1⟩ := addB_yes ht ha hto
                have E1 := Lib.hid e1
                have E2 := Lib.hid e2
                clear e1 e2
                go_wp2_with fail
                go_at_call 25
                refine (stop_any (Y + 1) wr.heap.size ml _ Q _ Hml.out.symm HYR.out (Nat.le_refl _)).mono ?_
                rw [HQ.out, hto]
                rintro e v21 ⟨rfl, hb21⟩
                have sz21 : wr.heap.size ≤ v21.heap.size := hb21.size
                have st21 : Below wr.heap.size wr v21 := hb21
                have c21_0 : v21.cell? ⟨w.heap.size, 0, none⟩ = some (.slice ad k cp) := by rw [(bcell st21).1 _ _ (by omega)]; exact kr0
                have c21_1 : v21.cell? ⟨w.heap.size + 1, 0, none⟩ = some (.slice none 0 0) := by rw [(bcell st21).1 _ _ (by omega)]; exact kr1
                have c21_2 : v21.cell? ⟨Y, 0, none⟩ = some (.slice ya ml yc) := by rw [(bcell st21).1 _ _ (by omega)]; exact hyc
                have g21_0 : v21.frozen? ⟨w.heap.size + 1, 0, none⟩ = false := by rw [(bcell st21).2 _ _ (by omega)]; exact jr0
                have B21 : Hid (Below w.heap.size w v21) := HBr.out.trans (st21.mono (by omega))
                have R21_0 : Hid (Row 3 v21 (lo) (hi) (.slice ad k cp) k (flat L)) := HLr.out.below st21 (by omega)
                have R21_1 : Hid (Row 3 v21 ((Y + 1)) (wr.heap.size) (.slice ya ml yc) ml (flat Q)) := HYR.out.below st21 (by omega)
                have d21_0 : w.heap.size < v21.heap.size := by omega
                have e21_0 : w.heap.size ≠ v21.heap.size := by omega
                have d21_1 : w.heap.size + 1 < v21.heap.size := by omega
                have e21_1 : w.heap.size + 1 ≠ v21.heap.size := by omega
                clear kr0 kr1 hyc jr0 HBr st21 HLr HYR hb21
                have r0 : (v21.setCell ⟨w.heap.size + 1, 0, none⟩ (.slice ya ml yc)).cell? ⟨w.heap.size + 1, 0, none⟩ = some (.slice ya ml yc) := World.cell?_setCell_same' _ _ _ (by rw [c21_1]; rfl)
                have Hrow := Lib.hid ((R21_1.out.setCell (p := ⟨w.heap.size + 1, 0, none⟩) (.inl (by show w.heap.size + 1 < Y + 1; omega)) (.slice ya ml yc)).wide (lo' := w.heap.size) (hi' := (v21.setCell ⟨w.heap.size + 1, 0, none⟩ (.slice ya ml yc)).heap.size) (by omega) (by simp [World.setCell] <;> omega))
                go_wp2_with fail
                refine bodyPost_ret (v := .tuple #[.agg #[.slice ya ml yc], .bool true]) (by simp [results, Try.results44, go_sem, r0]) rfl ⟨_, by rw [E2.out], ?_, ?_⟩
                · rw [E1.out, ← HQ.out, ← Hml.out]; exact Hrow.out
                · exact B21.out.setCell (by show _ ≤ w.heap.size + 1; omega) _
              | false =>
                obtain ⟨e2, e1⟩ := addB_no (L := L) (.inr (.inr hto))
                have E1 := Lib.hid e1
                have E2 := Lib.hid e2
                clear e1 e2
                go_wp2_with fail
                go_at_call 25
                refine (stop_any (Y + 1) wr.heap.size ml _ Q _ Hml.out.symm HYR.out (Nat.le_refl _)).mono ?_
                rw [HQ.out, hto]
                rintro e v21 ⟨rfl, hb21⟩
                have sz21 : wr.heap.size ≤ v21.heap.size := hb21.size
                have st21 : Below wr.heap.size wr v21 := hb21
                have c21_0 : v21.cell? ⟨w.heap.size, 0, none⟩ = some (.slice ad k cp) := by rw [(bcell st21).1 _ _ (by omega)]; exact kr0
                have c21_1 : v21.cell? ⟨w.heap.size + 1, 0, none⟩ = some (.slice none 0 0) := by rw [(bcell st21).1 _ _ (by omega)]; exact kr1
                have c21_2 : v21.cell? ⟨Y, 0, none⟩ = some (.slice ya ml yc) := by rw [(bcell st21).1 _ _ (by omega)]; exact hyc
                have g21_0 : v21.frozen? ⟨w.heap.size + 1, 0, none⟩ = false := by rw [(bcell st21).2 _ _ (by omega)]; exact jr0
                have B21 : Hid (Below w.heap.size w v21) := HBr.out.trans (st21.mono (by omega))
                have R21_0 : Hid (Row 3 v21 (lo) (hi) (.slice ad k cp) k (flat L)) := HLr.out.below st21 (by omega)
                have R21_1 : Hid (Row 3 v21 ((Y + 1)) (wr.heap.size) (.slice ya ml yc) ml (flat Q)) := HYR.out.below st21 (by omega)
                have d21_0 : w.heap.size < v21.heap.size := by omega
                have e21_0 : w.heap.size ≠ v21.heap.size := by omega
                have d21_1 : w.heap.size + 1 < v21.heap.size := by omega
                have e21_1 : w.heap.size + 1 ≠ v21.heap.size := by omega
                clear kr0 kr1 hyc jr0 HBr st21 HLr HYR hb21
                go_wp2_with fail
                go_at_call 77
                refine (scopy_any lo hi k _ L _ hL R21_0.out (by omega)).mono ?_
                rintro e v22 ⟨rv3, rfl, hr3, hb22⟩
                have sz22 : v21.heap.size ≤ v22.heap.size := hb22.size
                have st22 : Below v21.heap.size v21 v22 := hb22
                have c22_0 : v22.cell? ⟨w.heap.size, 0, none⟩ = some (.slice ad k cp) := by rw [(bcell st22).1 _ _ (by omega)]; exact c21_0
                have c22_1 : v22.cell? ⟨w.heap.size + 1, 0, none⟩ = some (.slice none 0 0) := by rw [(bcell st22).1 _ _ (by omega)]; exact c21_1
                have c22_2 : v22.cell? ⟨Y, 0, none⟩ = some (.slice ya ml yc) := by rw [(bcell st22).1 _ _ (by omega)]; exact c21_2
                have g22_0 : v22.frozen? ⟨w.heap.size + 1, 0, none⟩ = false := by rw [(bcell st22).2 _ _ (by omega)]; exact g21_0
                have B22 : Hid (Below w.heap.size w v22) := B21.out.trans (st22.mono (by omega))
                have R22_0 : Hid (Row 3 v22 (lo) (hi) (.slice ad k cp) k (flat L)) := R21_0.out.below st22 (by omega)
                have R22_1 : Hid (Row 3 v22 ((Y + 1)) (wr.heap.size) (.slice ya ml yc) ml (flat Q)) := R21_1.out.below st22 (by omega)
                have d22_0 : w.heap.size < v22.heap.size := by omega
                have e22_0 : w.heap.size ≠ v22.heap.size := by omega
                have d22_1 : w.heap.size + 1 < v22.heap.size := by omega
                have e22_1 : w.heap.size + 1 ≠ v22.heap.size := by omega
                clear d21_0 e21_0 d21_1 e21_1 c21_0 c21_1 c21_2 g21_0 B21 st22 R21_0 R21_1 hb22
                obtain ⟨sa, sc, rfl⟩ := hr3.slice
                rw [hL] at hr3
                have HR3 := Lib.hid hr3
                clear hr3
                have r0 : (v22.setCell ⟨w.heap.size + 1, 0, none⟩ (.slice sa k sc)).cell? ⟨w.heap.size + 1, 0, none⟩ = some (.slice sa k sc) := World.cell?_setCell_same' _ _ _ (by rw [c22_1]; rfl)
                have Hrow := Lib.hid ((HR3.out.setCell (p := ⟨w.heap.size + 1, 0, none⟩) (.inl (by show w.heap.size + 1 < v21.heap.size; omega)) (.slice sa k sc)).wide (lo' := w.heap.size) (hi' := (v22.setCell ⟨w.heap.size + 1, 0, none⟩ (.slice sa k sc)).heap.size) (by omega) (by simp [World.setCell] <;> omega))
                go_wp2_with fail
                refine bodyPost_ret (v := .tuple #[.agg #[.slice sa k sc], .bool false]) (by simp [results, Try.results44, go_sem, r0]) rfl ⟨_, by rw [E2.out], ?_, ?_⟩
                · rw [E1.out, hL]; exact Hrow.out
                · exact B22.out.setCell (by show _ ≤ w.heap.size + 1; omega) _
            | false =>
              have hM2 : outK (h0, h1, h2) O ++ [(h0, h1, h2)] = Q := by rw [hQ, ← hsf]; exact outK_end_not hp
              clear hQ hsf hOt
              have Hp := Lib.hid hp
              go_upto_region 26 with fail
              clear hp
              have sXr := hR.out.size
              have s3r : q11.heap.size ≤ wr.heap.size := hR.out.1.size
              have kr0 : wr.cell? ⟨w.heap.size, 0, none⟩ = some (.slice ad k cp) := hR.out.keep (by omega) HC0.out
              have kr1 : wr.cell? ⟨w.heap.size + 1, 0, none⟩ = some (.slice none 0 0) := hR.out.keep (by omega) HC1.out
              have kr2 : wr.cell? ⟨X, 0, none⟩ = some (.int .i64 h0) := hR.out.keep (by omega) HC2.out
              have kr3 : wr.cell? ⟨X, 1, none⟩ = some (.int .i64 h1) := hR.out.keep (by omega) HC3.out
              have kr4 : wr.cell? ⟨X, 2, none⟩ = some (.int .i64 h2) := hR.out.keep (by omega) HC4.out
              have jr0 : wr.frozen? ⟨w.heap.size + 1, 0, none⟩ = false := hR.out.keepf (by omega) HJ0.out
              obtain ⟨rvr, hrvr, hownr⟩ := hR.out.2.2.2
              obtain ⟨oar, ocr, hoar⟩ := own_slice hownr
              subst hoar
              have hfXr := hR.out.2.2.1
              have Hwr := Lib.hid hownr
              obtain ⟨mlr, hmlr⟩ : ∃ ml, ml = (outK (h0, h1, h2) O).length := ⟨_, rfl⟩
              rw [← hmlr] at hrvr Hwr
              have Hmlr := Lib.hid hmlr
              have hmbr : mlr ≤ 1000000 := by omega
              clear hownr hmlr
              go_wp2_with (at_builtin; refine wpList_append_lies _ rfl _ _ 36 rfl (Y + 1) 43 iI (.agg #[.int .i64 0, .int .i64 0, .int .i64 0]) 3 24 Try.underlying36 I.out.1 I.out.2.1 I.out.2.2.1 I.out.2.2.2 rfl (by decide) _ mlr (ints (flat (outK (h0, h1, h2) O))) rfl (Hwr.out.alloc _) ⟨wr.heap.size, 0, none⟩ 1 1 (ints [h0, h1, h2]) rfl rfl ?d0 (ints_one _) (by decide) ?d1 ?d2 ?d3 _ rfl ?_)
              case d0 => first | exact fun a_ u ha => cells_new _ [h0, h1, h2] 43 rfl a_ u ha | exact fun a_ u ha => by simpa [ints] using ha
              case d1 => unfold maxLen; omega
              case d2 => omega
              case d3 => first | omega | (simp; omega)
              intro g4 cap4 w4 hown4 hgrow4 hat4 hlt4
              obtain ⟨⟨uu, hc4⟩, hf4, hF4⟩ := OutT.app hR.out (by rw [← Hmlr.out]; exact Hwr.out) hgrow4 (show mlr + 1 = (outK (h0, h1, h2) O).length + 1 by rw [Hmlr.out]) hown4
              obtain ⟨wz, hnn⟩ : ∃ wz, wz = w4.setCell ⟨Y, 0, none⟩ (.slice (some ⟨g4, 0, none⟩) (mlr + 1) cap4) := ⟨_, rfl⟩
              rw [← hnn] at hF4
              have HOTwz := Lib.hid hF4
              have HNN := Lib.hid hnn
              clear hF4 hnn hown4 hgrow4 hat4 hlt4
              go_upto_region 27 with fail
              rw [← HNN.out]
              rw [hM2] at HOTwz
              clear hc4 hf4 hR kr0 kr1 kr2 kr3 kr4 jr0 hrvr hfXr Hwr Hmlr hmbr hM2
              obtain ⟨ya, yc, hyc, hyr⟩ := HOTwz.out.take (by rw [HQ.out]; omega)
              obtain ⟨ml, hml⟩ : ∃ ml, ml = Q.length := ⟨_, rfl⟩
              have hml2 : ml ≤ 4 := by rw [hml, HQ.out]; exact hol
              rw [← hml] at hyc hyr
              have Hml := Lib.hid hml
              have HYR := Lib.hid hyr
              have HBz : Hid (Below w.heap.size w wz) := B11.out.trans (HOTwz.out.1.mono (by omega))
              have HLr : Hid (Row 3 wz lo hi (.slice ad k cp) k (flat L)) := R11_0.out.below HOTwz.out.1 (by omega)
              clear hml hyr
              have sXz := HOTwz.out.size
              have s3z : q11.heap.size ≤ wz.heap.size := HOTwz.out.1.size
              have kz0 : wz.cell? ⟨w.heap.size, 0, none⟩ = some (.slice ad k cp) := HOTwz.out.keep (by omega) HC0.out
              have kz1 : wz.cell? ⟨w.heap.size + 1, 0, none⟩ = some (.slice none 0 0) := HOTwz.out.keep (by omega) HC1.out
              have kz2 : wz.cell? ⟨X, 0, none⟩ = some (.int .i64 h0) := HOTwz.out.keep (by omega) HC2.out
              have kz3 : wz.cell? ⟨X, 1, none⟩ = some (.int .i64 h1) := HOTwz.out.keep (by omega) HC3.out
              have kz4 : wz.cell? ⟨X, 2, none⟩ = some (.int .i64 h2) := HOTwz.out.keep (by omega) HC4.out
              have jz0 : wz.frozen? ⟨w.heap.size + 1, 0, none⟩ = false := HOTwz.out.keepf (by omega) HJ0.out
              clear kz2 kz3 kz4
              cases hto : topB (addOut L key num) with
              | true =>
                obtain ⟨e2, e1⟩ := addB_yes ht ha hto
                have E1 := Lib.hid e1
                have E2 := Lib.hid e2
                clear e1 e2
                go_wp2_with fail
                go_at_call 25
                refine (stop_any (Y + 1) wz.heap.size ml _ Q _ Hml.out.symm HYR.out (Nat.le_refl _)).mono ?_
                rw [HQ.out, hto]
                rintro e v21 ⟨rfl, hb21⟩
                have sz21 : wz.heap.size ≤ v21.heap.size := hb21.size
                have st21 : Below wz.heap.size wz v21 := hb21
                have c21_0 : v21.cell? ⟨w.heap.size, 0, none⟩ = some (.slice ad k cp) := by rw [(bcell st21).1 _ _ (by omega)]; exact kz0
                have c21_1 : v21.cell? ⟨w.heap.size + 1, 0, none⟩ = some (.slice none 0 0) := by rw [(bcell st21).1 _ _ (by omega)]; exact kz1
                have c21_2 : v21.cell? ⟨Y, 0, none⟩ = some (.slice ya ml yc) := by rw [(bcell st21).1 _ _ (by omega)]; exact hyc
                have g21_0 : v21.frozen? ⟨w.heap.size + 1, 0, none⟩ = false := by rw [(bcell st21).2 _ _ (by omega)]; exact jz0
                have B21 : Hid (Below w.heap.size w v21) := HBz.out.trans (st21.mono (by omega))
                have R21_0 : Hid (Row 3 v21 (lo) (hi) (.slice ad k cp) k (flat L)) := HLr.out.below st21 (by omega)
                have R21_1 : Hid (Row 3 v21 ((Y + 1)) (wz.heap.size) (.slice ya ml yc) ml (flat Q)) := HYR.out.below st21 (by omega)
                have d21_0 : w.heap.size < v21.heap.size := by omega
                have e21_0 : w.heap.size ≠ v21.heap.size := by omega
                have d21_1 : w.heap.size + 1 < v21.heap.size := by omega
                have e21_1 : w.heap.size + 1 ≠ v21.heap.size := by omega
                clear kz0 kz1 hyc jz0 HBz st21 HLr HYR hb21
                have r0 : (v21.setCell ⟨w.heap.size + 1, 0, none⟩ (.slice ya ml yc)).cell? ⟨w.heap.size + 1, 0, none⟩ = some (.slice ya ml yc) := World.cell?_setCell_same' _ _ _ (by rw [c21_1]; rfl)
                have Hrow := Lib.hid ((R21_1.out.setCell (p := ⟨w.heap.size + 1, 0, none⟩) (.inl (by show w.heap.size + 1 < Y + 1; omega)) (.slice ya ml yc)).wide (lo' := w.heap.size) (hi' := (v21.setCell ⟨w.heap.size + 1, 0, none⟩ (.slice ya ml yc)).heap.size) (by omega) (by simp [World.setCell] <;> omega))
                go_wp2_with fail
                refine bodyPost_ret (v := .tuple #[.agg #[.slice ya ml yc], .bool true]) (by simp [results, Try.results44, go_sem, r0]) rfl ⟨_, by rw [E2.out], ?_, ?_⟩
                · rw [E1.out, ← HQ.out, ← Hml.out]; exact Hrow.out
                · exact B21.out.setCell (by show _ ≤ w.heap.size + 1; omega) _
              | false =>
                obtain ⟨e2, e1⟩ := addB_no (L := L) (.inr (.inr hto))
                have E1 := Lib.hid e1
                have E2 := Lib.hid e2
                clear e1 e2
                go_wp2_with fail
                go_at_call 25
                refine (stop_any (Y + 1) wz.heap.size ml _ Q _ Hml.out.symm HYR.out (Nat.le_refl _)).mono ?_
                rw [HQ.out, hto]
                rintro e v21 ⟨rfl, hb21⟩
                have sz21 : wz.heap.size ≤ v21.heap.size := hb21.size
                have st21 : Below wz.heap.size wz v21 := hb21
                have c21_0 : v21.cell? ⟨w.heap.size, 0, none⟩ = some (.slice ad k cp) := by rw [(bcell st21).1 _ _ (by omega)]; exact kz0
                have c21_1 : v21.cell? ⟨w.heap.size + 1, 0, none⟩ = some (.slice none 0 0) := by rw [(bcell st21).1 _ _ (by omega)]; exact kz1
                have c21_2 : v21.cell? ⟨Y, 0, none⟩ = some (.slice ya ml yc) := by rw [(bcell st21).1 _ _ (by omega)]; exact hyc
                have g21_0 : v21.frozen? ⟨w.heap.size + 1, 0, none⟩ = false := by rw [(bcell st21).2 _ _ (by omega)]; exact jz0
                have B21 : Hid (Below w.heap.size w v21) := HBz.out.trans (st21.mono (by omega))
                have R21_0 : Hid (Row 3 v21 (lo) (hi) (.slice ad k cp) k (flat L)) := HLr.out.below st21 (by omega)
                have R21_1 : Hid (Row 3 v21 ((Y + 1)) (wz.heap.size) (.slice ya ml yc) ml (flat Q)) := HYR.out.below st21 (by omega)
                have d21_0 : w.heap.size < v21.heap.size := by omega
                have e21_0 : w.heap.size ≠ v21.heap.size := by omega
                have d21_1 : w.heap.size + 1 < v21.heap.size := by omega
                have e21_1 : w.heap.size + 1 ≠ v21.heap.size := by omega
                clear kz0 kz1 hyc jz0 HBz st21 HLr HYR hb21
                go_wp2_with fail
                go_at_call 77
                refine (scopy_any lo hi k _ L _ hL R21_0.out (by omega)).mono ?_
                rintro e v22 ⟨rv3, rfl, hr3, hb22⟩
                have sz22 : v21.heap.size ≤ v22.heap.size := hb22.size
                have st22 : Below v21.heap.size v21 v22 := hb22
                have c22_0 : v22.cell? ⟨w.heap.size, 0, none⟩ = some (.slice ad k cp) := by rw [(bcell st22).1 _ _ (by omega)]; exact c21_0
                have c22_1 : v22.cell? ⟨w.heap.size + 1, 0, none⟩ = some (.slice none 0 0) := by rw [(bcell st22).1 _ _ (by omega)]; exact c21_1
                have c22_2 : v22.cell? ⟨Y, 0, none⟩ = some (.slice ya ml yc) := by rw [(bcell st22).1 _ _ (by omega)]; exact c21_2
                have g22_0 : v22.frozen? ⟨w.heap.size + 1, 0, none⟩ = false := by rw [(bcell st22).2 _ _ (by omega)]; exact g21_0
                have B22 : Hid (Below w.heap.size w v22) := B21.out.trans (st22.mono (by omega))
                have R22_0 : Hid (Row 3 v22 (lo) (hi) (.slice ad k cp) k (flat L)) := R21_0.out.below st22 (by omega)
                have R22_1 : Hid (Row 3 v22 ((Y + 1)) (wz.heap.size) (.slice ya ml yc) ml (flat Q)) := R21_1.out.below st22 (by omega)
                have d22_0 : w.heap.size < v22.heap.size := by omega
                have e22_0 : w.heap.size ≠ v22.heap.size := by omega
                have d22_1 : w.heap.size + 1 < v22.heap.size := by omega
                have e22_1 : w.heap.size + 1 ≠ v22.heap.size := by omega
                clear d21_0 e21_0 d21_1 e21_1 c21_0 c21_1 c21_2 g21_0 B21 st22 R21_0 R21_1 hb22
                obtain ⟨sa, sc, rfl⟩ := hr3.slice
                rw [hL] at hr3
                have HR3 := Lib.hid hr3
                clear hr3
                have r0 : (v22.setCell ⟨w.heap.size + 1, 0, none⟩ (.slice sa k sc)).cell? ⟨w.heap.size + 1, 0, none⟩ = some (.slice sa k sc) := World.cell?_setCell_same' _ _ _ (by rw [c22_1]; rfl)
                have Hrow := Lib.hid ((HR3.out.setCell (p := ⟨w.heap.size + 1, 0, none⟩) (.inl (by show w.heap.size + 1 < v21.heap.size; omega)) (.slice sa k sc)).wide (lo' := w.heap.size) (hi' := (v22.setCell ⟨w.heap.size + 1, 0, none⟩ (.slice sa k sc)).heap.size) (by omega) (by simp [World.setCell] <;> omega))
                go_wp2_with fail
                refine bodyPost_ret (v := .tuple #[.agg #[.slice sa k sc], .bool false]) (by simp [results, Try.results44, go_sem, r0]) rfl ⟨_, by rw [E2.out], ?_, ?_⟩
                · rw [E1.out, hL]; exact Hrow.out
                · exact B22.out.setCell (by show _ ≤ w.heap.size + 1; omega) _

theorem sadd_any (lo hi n : Nat) (v : Value) (L : List Hv) (key num : Int) (w : World) (hL : L.length = n) (hr : Row 3 w lo hi v n (flat L)) (hh : hi ≤ w.heap.size) : Calls Try.prog 44 #[.agg #[v], .int .i64 key, .int .i64 num] w (TabBPost (addL L key num) (addB L key num) w) := by
  cases ht : topB L with
  | true =>
    cases ha : adB key num with
    | true => exact sadd_way lo hi n v L key num w hL hr hh ht ha
    | false =>
      obtain ⟨e2, e1⟩ := addB_no (L := L) (k := key) (n := num) (.inr (.inl ha))
      rw [e1, e2]
      exact sadd_bad lo hi n v L key num w hL hr hh (.inr ha)
  | false =>
    obtain ⟨e2, e1⟩ := addB_no (L := L) (k := key) (n := num) (.inl ht)
    rw [e1, e2]
    exact sadd_bad lo hi n v L key num w hL hr hh (.inl ht)

end Go.Proofs.Ytophppnllkadoaa
