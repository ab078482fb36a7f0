/- FindLsa of both. -/
import Derived.Test.YtfpafjdakipccaaFf
namespace Go.Proofs.Ytfpafjdakipccaa
open Go.RowKit


theorem flo_len {D : List Ls} {x : Int} (h : dokB D = true) {l : Ls} (hl : dfind D x = some l) : l.o = x ∧ l.ok = true := by
  obtain ⟨h1, i, hi⟩ := dfind_some hl
  exact ⟨h1, (dokB_get h hi).1⟩

set_option maxRecDepth 100000 in
set_option maxHeartbeats 4000000 in
theorem ifind_yes (D : List Ls) (x : Int) (lo hi : Nat) (v : Value) (w : World) (hr : DRow w lo hi v D) (hh : hi ≤ w.heap.size) (hv : dokB D = true) :
    Calls Try.prog 23 #[.agg #[v], .int .i64 x] w fun e w' => ∃ ru rv, e = .returned (.tuple #[.agg #[.int .i64 (flv D x).o, .int .i64 (flv D x).s, .int .i64 (flv D x).g, ru, rv], .bool (flo D x).isSome]) ∧ LRow w' w.heap.size w'.heap.size ru rv (flv D x).K.length (flv D x).T.length (flat2 (flv D x).K) (flat (flv D x).T) ∧ Below w.heap.size w w' := by
  have HZV : Hid (∀ w : World, (zeroValue 33).run Try.prog w = .ok (.agg #[.int .i64 0, .int .i64 0, .int .i64 0, .slice none 0 0, .slice none 0 0]) w) := Lib.hid fun w => by simp [Try.zeroValue33]
  have Hv := Lib.hid hv
  obtain ⟨a, c, e⟩ := hr.slice
  subst e
  have R0 := Lib.hid hr
  obtain ⟨n, hn⟩ : ∃ n, n = D.length := ⟨_, rfl⟩
  rw [← hn] at R0 ⊢
  clear hr hn hv
  go_enter Try.func23, Try.ntmps23
  go_wp2_with fail
  go_at_call 20
  refine (idbok_any D lo hi _ _ (R0.out.below (B := w.heap.size) (by go_grown) (by omega)) (by first | omega | (simp; omega))).mono ?_
  rw [Hv.out]
  rintro e v1 ⟨rfl, hb1⟩
  have sz1 : w.heap.size + 2 ≤ v1.heap.size := by have hh := hb1.size; simp at hh; omega
  have st1 : Below w.heap.size w v1 := Below.trans (by go_grown) (hb1.mono (by simp <;> omega))
  have c1_0 : v1.cell? ⟨w.heap.size, 0, none⟩ = some (.slice a n c) := by rw [(bcell hb1).1 _ _ (by simp <;> omega), old_box (by simp <;> omega)]; first | (rw [new_at (by simp)]; rfl) | simp
  have c1_1 : v1.cell? ⟨w.heap.size + 1, 0, none⟩ = some (.int .i64 0) := by rw [(bcell hb1).1 _ _ (by simp)]; first | (rw [new_at (by simp)]; rfl) | simp
  have c1_2 : v1.cell? ⟨w.heap.size + 1, 1, none⟩ = some (.int .i64 0) := by rw [(bcell hb1).1 _ _ (by simp)]; first | (rw [new_at (by simp)]; rfl) | simp
  have c1_3 : v1.cell? ⟨w.heap.size + 1, 2, none⟩ = some (.int .i64 0) := by rw [(bcell hb1).1 _ _ (by simp)]; first | (rw [new_at (by simp)]; rfl) | simp
  have c1_4 : v1.cell? ⟨w.heap.size + 1, 3, none⟩ = some (.slice none 0 0) := by rw [(bcell hb1).1 _ _ (by simp)]; first | (rw [new_at (by simp)]; rfl) | simp
  have c1_5 : v1.cell? ⟨w.heap.size + 1, 4, none⟩ = some (.slice none 0 0) := by rw [(bcell hb1).1 _ _ (by simp)]; first | (rw [new_at (by simp)]; rfl) | simp
  have g1_0 : v1.frozen? ⟨w.heap.size + 1, 0, none⟩ = false := by rw [(bcell hb1).2 _ _ (by simp), new_frz (by simp)]
  have g1_1 : v1.frozen? ⟨w.heap.size + 1, 1, none⟩ = false := by rw [(bcell hb1).2 _ _ (by simp), new_frz (by simp)]
  have g1_2 : v1.frozen? ⟨w.heap.size + 1, 2, none⟩ = false := by rw [(bcell hb1).2 _ _ (by simp), new_frz (by simp)]
  have g1_3 : v1.frozen? ⟨w.heap.size + 1, 3, none⟩ = false := by rw [(bcell hb1).2 _ _ (by simp), new_frz (by simp)]
  have g1_4 : v1.frozen? ⟨w.heap.size + 1, 4, none⟩ = false := by rw [(bcell hb1).2 _ _ (by simp), new_frz (by simp)]
  have B1 : Hid (Below w.heap.size w v1) := st1
  have R1_0 : Hid (DRow v1 (lo) (hi) (.slice a n c)  D) := R0.out.below st1 (by omega)
  have d1_0 : w.heap.size < v1.heap.size := by omega
  have e1_0 : w.heap.size ≠ v1.heap.size := by omega
  have d1_1 : w.heap.size + 1 < v1.heap.size := by omega
  have e1_1 : w.heap.size + 1 ≠ v1.heap.size := by omega
  clear st1 R0 hb1
  go_wp2_with fail
  go_at_call 50
  refine (shelf_any D lo hi _ _ R1_0.out (by omega) Hv.out).mono ?_
  rintro e v2 ⟨rfl, hsh, hb2⟩
  have sz2 : v1.heap.size ≤ v2.heap.size := hb2.size
  have st2 : Below v1.heap.size v1 v2 := hb2
  have c2_0 : v2.cell? ⟨w.heap.size, 0, none⟩ = some (.slice a n c) := by rw [(bcell st2).1 _ _ (by omega)]; exact c1_0
  have c2_1 : v2.cell? ⟨w.heap.size + 1, 0, none⟩ = some (.int .i64 0) := by rw [(bcell st2).1 _ _ (by omega)]; exact c1_1
  have c2_2 : v2.cell? ⟨w.heap.size + 1, 1, none⟩ = some (.int .i64 0) := by rw [(bcell st2).1 _ _ (by omega)]; exact c1_2
  have c2_3 : v2.cell? ⟨w.heap.size + 1, 2, none⟩ = some (.int .i64 0) := by rw [(bcell st2).1 _ _ (by omega)]; exact c1_3
  have c2_4 : v2.cell? ⟨w.heap.size + 1, 3, none⟩ = some (.slice none 0 0) := by rw [(bcell st2).1 _ _ (by omega)]; exact c1_4
  have c2_5 : v2.cell? ⟨w.heap.size + 1, 4, none⟩ = some (.slice none 0 0) := by rw [(bcell st2).1 _ _ (by omega)]; exact c1_5
  have g2_0 : v2.frozen? ⟨w.heap.size + 1, 0, none⟩ = false := by rw [(bcell st2).2 _ _ (by omega)]; exact g1_0
  have g2_1 : v2.frozen? ⟨w.heap.size + 1, 1, none⟩ = false := by rw [(bcell st2).2 _ _ (by omega)]; exact g1_1
  have g2_2 : v2.frozen? ⟨w.heap.size + 1, 2, none⟩ = false := by rw [(bcell st2).2 _ _ (by omega)]; exact g1_2
  have g2_3 : v2.frozen? ⟨w.heap.size + 1, 3, none⟩ = false := by rw [(bcell st2).2 _ _ (by omega)]; exact g1_3
  have g2_4 : v2.frozen? ⟨w.heap.size + 1, 4, none⟩ = false := by rw [(bcell st2).2 _ _ (by omega)]; exact g1_4
  have B2 : Hid (Below w.heap.size w v2) := B1.out.trans (st2.mono (by omega))
  have R2_0 : Hid (DRow v2 (lo) (hi) (.slice a n c)  D) := R1_0.out.below st2 (by omega)
  have d2_0 : w.heap.size < v2.heap.size := by omega
  have e2_0 : w.heap.size ≠ v2.heap.size := by omega
  have d2_1 : w.heap.size + 1 < v2.heap.size := by omega
  have e2_1 : w.heap.size + 1 ≠ v2.heap.size := by omega
  clear d1_0 e1_0 d1_1 e1_1 c1_0 c1_1 c1_2 c1_3 c1_4 c1_5 g1_0 g1_1 g1_2 g1_3 g1_4 B1 st2 R1_0 hb2
  obtain ⟨sB, ff, sm, sf⟩ := hsh
  have SM := Lib.hid sm
  clear sm
  rcases sf x with ⟨e1, e2⟩ | ⟨l, u, y, H0, H1, e1, e2, r, hB⟩
  · have HFD : Hid (flo D x = none) := Lib.hid (by rw [flo_yes Hv.out]; exact e1)
    have HFX := Lib.hid e2
    have R1 : Hid (LRow v2 0 0 (.slice none 0 0) (.slice none 0 0) 0 0 (flat2 []) (flat [])) := Lib.hid (lrow_nil _ (Nat.le_refl _))
    clear sf e1 e2 sB
    go_wp2_with (at_lookup; go_loud (refine wpList_lookup_I _ rfl _ _ 82 true rfl 3 33 Try.underlying82 Try.underlying3 (.agg #[.int .i64 0, .int .i64 0, .int .i64 0, .slice none 0 0, .slice none 0 0]) (HZV.out _) (v1.heap.size + 1) ff rfl SM.out x rfl (.tuple #[.agg #[.int .i64 0, .int .i64 0, .int .i64 0, .slice none 0 0, .slice none 0 0], .bool false]) (by rw [HFX.out]; rfl) ?_))
    go_at_call 59
    refine (icopy_any 0 0 0 0 0 0 0 _ _ [] [] _ rfl rfl (R1.out.below (B := v2.heap.size) (by go_grown) (by omega)) (Nat.zero_le _) (by omega) (by omega)).mono ?_
    rintro e v3 ⟨ru, rv, rfl, hr1, hb3⟩
    have sz3 : v2.heap.size + 1 ≤ v3.heap.size := by have hh := hb3.size; simp at hh; omega
    have st3 : Below v2.heap.size v2 v3 := Below.trans (by go_grown) (hb3.mono (by simp))
    have c3_0 : v3.cell? ⟨w.heap.size, 0, none⟩ = some (.slice a n c) := by rw [(bcell st3).1 _ _ (by omega)]; exact c2_0
    have c3_1 : v3.cell? ⟨w.heap.size + 1, 0, none⟩ = some (.int .i64 0) := by rw [(bcell st3).1 _ _ (by omega)]; exact c2_1
    have c3_2 : v3.cell? ⟨w.heap.size + 1, 1, none⟩ = some (.int .i64 0) := by rw [(bcell st3).1 _ _ (by omega)]; exact c2_2
    have c3_3 : v3.cell? ⟨w.heap.size + 1, 2, none⟩ = some (.int .i64 0) := by rw [(bcell st3).1 _ _ (by omega)]; exact c2_3
    have c3_4 : v3.cell? ⟨w.heap.size + 1, 3, none⟩ = some (.slice none 0 0) := by rw [(bcell st3).1 _ _ (by omega)]; exact c2_4
    have c3_5 : v3.cell? ⟨w.heap.size + 1, 4, none⟩ = some (.slice none 0 0) := by rw [(bcell st3).1 _ _ (by omega)]; exact c2_5
    have c3_6 : v3.cell? ⟨v2.heap.size, 0, none⟩ = some (.int .i64 0) := by rw [(bcell hb3).1 _ _ (by simp)]; first | (rw [new_at (by simp)]; rfl) | simp
    have c3_7 : v3.cell? ⟨v2.heap.size, 1, none⟩ = some (.int .i64 0) := by rw [(bcell hb3).1 _ _ (by simp)]; first | (rw [new_at (by simp)]; rfl) | simp
    have c3_8 : v3.cell? ⟨v2.heap.size, 2, none⟩ = some (.int .i64 0) := by rw [(bcell hb3).1 _ _ (by simp)]; first | (rw [new_at (by simp)]; rfl) | simp
    have c3_9 : v3.cell? ⟨v2.heap.size, 3, none⟩ = some (.slice none 0 0) := by rw [(bcell hb3).1 _ _ (by simp)]; first | (rw [new_at (by simp)]; rfl) | simp
    have c3_10 : v3.cell? ⟨v2.heap.size, 4, none⟩ = some (.slice none 0 0) := by rw [(bcell hb3).1 _ _ (by simp)]; first | (rw [new_at (by simp)]; rfl) | simp
    have g3_0 : v3.frozen? ⟨w.heap.size + 1, 0, none⟩ = false := by rw [(bcell st3).2 _ _ (by omega)]; exact g2_0
    have g3_1 : v3.frozen? ⟨w.heap.size + 1, 1, none⟩ = false := by rw [(bcell st3).2 _ _ (by omega)]; exact g2_1
    have g3_2 : v3.frozen? ⟨w.heap.size + 1, 2, none⟩ = false := by rw [(bcell st3).2 _ _ (by omega)]; exact g2_2
    have g3_3 : v3.frozen? ⟨w.heap.size + 1, 3, none⟩ = false := by rw [(bcell st3).2 _ _ (by omega)]; exact g2_3
    have g3_4 : v3.frozen? ⟨w.heap.size + 1, 4, none⟩ = false := by rw [(bcell st3).2 _ _ (by omega)]; exact g2_4
    have B3 : Hid (Below w.heap.size w v3) := B2.out.trans (st3.mono (by omega))
    have R3_0 : Hid (LRow v3 (0) (0) (.slice none 0 0) (.slice none 0 0) 0 0 (flat2 []) (flat [])) := R1.out.below st3 (by omega)
    have R3_1 : Hid (LRow v3 (v2.heap.size + 1) (v3.heap.size) ru rv 0 0 (flat2 []) (flat [])) := Lib.hid (hr1.wide (by simp) (Nat.le_refl _))
    have d3_0 : w.heap.size < v3.heap.size := by omega
    have e3_0 : w.heap.size ≠ v3.heap.size := by omega
    have d3_1 : w.heap.size + 1 < v3.heap.size := by omega
    have e3_1 : w.heap.size + 1 ≠ v3.heap.size := by omega
    have d3_2 : v2.heap.size < v3.heap.size := by omega
    have e3_2 : v2.heap.size ≠ v3.heap.size := by omega
    clear d2_0 e2_0 d2_1 e2_1 c2_0 c2_1 c2_2 c2_3 c2_4 c2_5 g2_0 g2_1 g2_2 g2_3 g2_4 B2 st3 R1 hb3
    obtain ⟨ra, rc, sa, sc, rfl, rfl⟩ := R3_1.out.slice
    clear hr1
    go_wp2_with fail
    refine bodyPost_ret (v := .tuple #[.agg #[.int .i64 0, .int .i64 0, .int .i64 0, .slice ra 0 rc, .slice sa 0 sc], .bool false]) (by simp [results, Try.results23, go_sem, *]) rfl ⟨.slice ra 0 rc, .slice sa 0 sc, by unfold flv; rw [HFD.out]; rfl, ?_, ?_⟩
    · unfold flv
      rw [HFD.out]
      show LRow _ _ _ _ _ 0 0 (flat2 []) (flat [])
      exact ((((((R3_1.out.setCell (.inl (by simp <;> omega)) _).setCell (.inl (by simp <;> omega)) _).setCell (.inl (by simp <;> omega)) _).setCell (.inl (by simp <;> omega)) _).setCell (.inl (by simp <;> omega)) _).wide (by omega) (by simp [World.setCell] <;> omega))
    · exact (((((B3.out.setCell (by simp <;> omega) _).setCell (by simp <;> omega) _).setCell (by simp <;> omega) _).setCell (by simp <;> omega) _).setCell (by simp <;> omega) _)
  · have HFD : Hid (flo D x = some l) := Lib.hid (by rw [flo_yes Hv.out]; exact e1)
    have hbd := Ls.ok_bd (flo_len Hv.out e1).2
    have n1 : l.K.length ≤ 10 := hbd.2.2.2.2.2.2.1
    have n2 : l.T.length ≤ 6 := hbd.2.2.2.2.2.2.2
    obtain ⟨nk, hnk⟩ : ∃ q, q = l.K.length := ⟨_, rfl⟩
    obtain ⟨mk, hmk⟩ : ∃ q, q = l.T.length := ⟨_, rfl⟩
    rw [← hnk, ← hmk] at r
    rw [← hnk] at n1
    rw [← hmk] at n2
    have Hnk := Lib.hid hnk
    have Hmk := Lib.hid hmk
    obtain ⟨x1, y1, x2, y2, q1, q2⟩ := r.slice
    subst q1 q2
    have R1 := Lib.hid r
    have HFX := Lib.hid e2
    have hB2 : H1 ≤ v2.heap.size := by omega
    clear sf e1 e2 sB r hbd hnk hmk
    go_wp2_with (at_lookup; go_loud (refine wpList_lookup_I _ rfl _ _ 82 true rfl 3 33 Try.underlying82 Try.underlying3 (.agg #[.int .i64 0, .int .i64 0, .int .i64 0, .slice none 0 0, .slice none 0 0]) (HZV.out _) (v1.heap.size + 1) ff rfl SM.out x rfl (.tuple #[.agg #[.int .i64 l.o, .int .i64 l.s, .int .i64 l.g, .slice x1 nk y1, .slice x2 mk y2], .bool true]) (by rw [HFX.out]; rfl) ?_))
    go_at_call 59
    refine (icopy_any l.o l.s l.g H0 H1 nk mk _ _ l.K l.T _ Hnk.out.symm Hmk.out.symm (R1.out.below (B := v2.heap.size) (by go_grown) (by omega)) (by first | omega | (simp; omega)) (by omega) (by omega)).mono ?_
    rintro e v3 ⟨ru, rv, rfl, hr1, hb3⟩
    have sz3 : v2.heap.size + 1 ≤ v3.heap.size := by have hh := hb3.size; simp at hh; omega
    have st3 : Below v2.heap.size v2 v3 := Below.trans (by go_grown) (hb3.mono (by simp))
    have c3_0 : v3.cell? ⟨w.heap.size, 0, none⟩ = some (.slice a n c) := by rw [(bcell st3).1 _ _ (by omega)]; exact c2_0
    have c3_1 : v3.cell? ⟨w.heap.size + 1, 0, none⟩ = some (.int .i64 0) := by rw [(bcell st3).1 _ _ (by omega)]; exact c2_1
    have c3_2 : v3.cell? ⟨w.heap.size + 1, 1, none⟩ = some (.int .i64 0) := by rw [(bcell st3).1 _ _ (by omega)]; exact c2_2
    have c3_3 : v3.cell? ⟨w.heap.size + 1, 2, none⟩ = some (.int .i64 0) := by rw [(bcell st3).1 _ _ (by omega)]; exact c2_3
    have c3_4 : v3.cell? ⟨w.heap.size + 1, 3, none⟩ = some (.slice none 0 0) := by rw [(bcell st3).1 _ _ (by omega)]; exact c2_4
    have c3_5 : v3.cell? ⟨w.heap.size + 1, 4, none⟩ = some (.slice none 0 0) := by rw [(bcell st3).1 _ _ (by omega)]; exact c2_5
    have c3_6 : v3.cell? ⟨v2.heap.size, 0, none⟩ = some (.int .i64 l.o) := by rw [(bcell hb3).1 _ _ (by simp)]; first | (rw [new_at (by simp)]; rfl) | simp
    have c3_7 : v3.cell? ⟨v2.heap.size, 1, none⟩ = some (.int .i64 l.s) := by rw [(bcell hb3).1 _ _ (by simp)]; first | (rw [new_at (by simp)]; rfl) | simp
    have c3_8 : v3.cell? ⟨v2.heap.size, 2, none⟩ = some (.int .i64 l.g) := by rw [(bcell hb3).1 _ _ (by simp)]; first | (rw [new_at (by simp)]; rfl) | simp
    have c3_9 : v3.cell? ⟨v2.heap.size, 3, none⟩ = some (.slice x1 nk y1) := by rw [(bcell hb3).1 _ _ (by simp)]; first | (rw [new_at (by simp)]; rfl) | simp
    have c3_10 : v3.cell? ⟨v2.heap.size, 4, none⟩ = some (.slice x2 mk y2) := by rw [(bcell hb3).1 _ _ (by simp)]; first | (rw [new_at (by simp)]; rfl) | simp
    have g3_0 : v3.frozen? ⟨w.heap.size + 1, 0, none⟩ = false := by rw [(bcell st3).2 _ _ (by omega)]; exact g2_0
    have g3_1 : v3.frozen? ⟨w.heap.size + 1, 1, none⟩ = false := by rw [(bcell st3).2 _ _ (by omega)]; exact g2_1
    have g3_2 : v3.frozen? ⟨w.heap.size + 1, 2, none⟩ = false := by rw [(bcell st3).2 _ _ (by omega)]; exact g2_2
    have g3_3 : v3.frozen? ⟨w.heap.size + 1, 3, none⟩ = false := by rw [(bcell st3).2 _ _ (by omega)]; exact g2_3
    have g3_4 : v3.frozen? ⟨w.heap.size + 1, 4, none⟩ = false := by rw [(bcell st3).2 _ _ (by omega)]; exact g2_4
    have B3 : Hid (Below w.heap.size w v3) := B2.out.trans (st3.mono (by omega))
    have R3_0 : Hid (LRow v3 (H0) (H1) (.slice x1 nk y1) (.slice x2 mk y2) nk mk (flat2 l.K) (flat l.T)) := R1.out.below st3 (by omega)
    have R3_1 : Hid (LRow v3 (v2.heap.size + 1) (v3.heap.size) ru rv nk mk (flat2 l.K) (flat l.T)) := Lib.hid (hr1.wide (by simp) (Nat.le_refl _))
    have d3_0 : w.heap.size < v3.heap.size := by omega
    have e3_0 : w.heap.size ≠ v3.heap.size := by omega
    have d3_1 : w.heap.size + 1 < v3.heap.size := by omega
    have e3_1 : w.heap.size + 1 ≠ v3.heap.size := by omega
    have d3_2 : v2.heap.size < v3.heap.size := by omega
    have e3_2 : v2.heap.size ≠ v3.heap.size := by omega
    clear d2_0 e2_0 d2_1 e2_1 c2_0 c2_1 c2_2 c2_3 c2_4 c2_5 g2_0 g2_1 g2_2 g2_3 g2_4 B2 st3 R1 hb3
    obtain ⟨ra, rc, sa, sc, rfl, rfl⟩ := R3_1.out.slice
    clear hr1
    go_wp2_with fail
    refine bodyPost_ret (v := .tuple #[.agg #[.int .i64 l.o, .int .i64 l.s, .int .i64 l.g, .slice ra nk rc, .slice sa mk sc], .bool true]) (by simp [results, Try.results23, go_sem, *]) rfl ⟨.slice ra nk rc, .slice sa mk sc, by unfold flv; rw [HFD.out]; rfl, ?_, ?_⟩
    · unfold flv
      rw [HFD.out]
      show LRow _ _ _ _ _ l.K.length l.T.length (flat2 l.K) (flat l.T)
      rw [← Hnk.out, ← Hmk.out]
      exact ((((((R3_1.out.setCell (.inl (by simp <;> omega)) _).setCell (.inl (by simp <;> omega)) _).setCell (.inl (by simp <;> omega)) _).setCell (.inl (by simp <;> omega)) _).setCell (.inl (by simp <;> omega)) _).wide (by omega) (by simp [World.setCell] <;> omega))
    · exact (((((B3.out.setCell (by simp <;> omega) _).setCell (by simp <;> omega) _).setCell (by simp <;> omega) _).setCell (by simp <;> omega) _).setCell (by simp <;> omega) _)

theorem sfind_any (D : List Ls) (x : Int) (lo hi : Nat) (v : Value) (w : World) (hr : DRow w lo hi v D) (hh : hi ≤ w.heap.size) :
    Calls Try.prog 22 #[.agg #[v], .int .i64 x] w fun e w' => ∃ ru rv, e = .returned (.tuple #[.agg #[.int .i64 (flv D x).o, .int .i64 (flv D x).s, .int .i64 (flv D x).g, ru, rv], .bool (flo D x).isSome]) ∧ LRow w' w.heap.size w'.heap.size ru rv (flv D x).K.length (flv D x).T.length (flat2 (flv D x).K) (flat (flv D x).T) ∧ Below w.heap.size w w' := by
  cases hv : dokB D
  · have e : flo D x = none := flo_no hv
    unfold flv; rw [e]
    exact sfind_no D x lo hi v w hr hh hv
  · exact sfind_yes D x lo hi v w hr hh hv
theorem ifind_any (D : List Ls) (x : Int) (lo hi : Nat) (v : Value) (w : World) (hr : DRow w lo hi v D) (hh : hi ≤ w.heap.size) :
    Calls Try.prog 23 #[.agg #[v], .int .i64 x] w fun e w' => ∃ ru rv, e = .returned (.tuple #[.agg #[.int .i64 (flv D x).o, .int .i64 (flv D x).s, .int .i64 (flv D x).g, ru, rv], .bool (flo D x).isSome]) ∧ LRow w' w.heap.size w'.heap.size ru rv (flv D x).K.length (flv D x).T.length (flat2 (flv D x).K) (flat (flv D x).T) ∧ Below w.heap.size w w' := by
  cases hv : dokB D
  · have e : flo D x = none := flo_no hv
    unfold flv; rw [e]
    exact ifind_no D x lo hi v w hr hh hv
  · exact ifind_yes D x lo hi v w hr hh hv

end Go.Proofs.Ytfpafjdakipccaa
