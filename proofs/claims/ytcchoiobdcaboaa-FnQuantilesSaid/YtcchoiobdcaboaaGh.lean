/- The helpers of the laws over histograms. -/
import Derived.Test.YtcchoiobdcaboaaGi
import Derived.Test.YtcchoiobdcaboaaPa
namespace Go.Proofs.Ytcchoiobdcaboaa
open Go.RowKit


/-- A slice argument of numbers. -/
def TArg (w : World) (u : Value) (l : List Int) : Prop := ∃ Z, Arg 1 w u l.length Z ∧ (List.range (l.length * 1)).map Z = l
theorem TArg.below {w w' : World} {u : Value} {l : List Int} (h : TArg w u l) (hb : Below w.heap.size w w') : TArg w' u l := by
  obtain ⟨Z, h1, h2⟩ := h
  exact ⟨Z, h1.below hb, h2⟩
theorem TArg.slice {w : World} {v : Value} {D : List Int} (h : TArg w v D) : ∃ a c, v = .slice a D.length c := by
  obtain ⟨Z, h1, _⟩ := h
  exact h1.slice
theorem TArg.len {w : World} {v : Value} {D : List Int} (h : TArg w v D) : D.length ≤ maxLen := by
  obtain ⟨Z, h1, _⟩ := h
  exact h1.2.1
theorem TArg.i64 {w : World} {v : Value} {D : List Int} (h : TArg w v D) {i : Nat} {z : Int} (hz : D[i]? = some z) : I64 z := by
  obtain ⟨Z, h1, h2⟩ := h
  have hi : i < D.length := (List.getElem?_eq_some_iff.1 hz).1
  rw [← h2, List.getElem?_map, List.getElem?_range (by omega)] at hz
  obtain rfl := Option.some.inj hz
  exact h1.1 i (by omega)
theorem toIntS_T (v : Value) (D : List Int) (w : World) (hA : TArg w v D) (hd : D.length ≤ 1048576) :
    Calls Try.prog 38 #[v] w fun e w' => ∃ rv, e = .returned rv ∧ Row 1 w' w.heap.size w'.heap.size rv D.length D ∧ Below w.heap.size w w' := by
  obtain ⟨Z, h1, h2⟩ := hA
  have := toIntS_any v D.length Z w h1 hd
  rw [h2] at this
  exact this

set_option maxRecDepth 100000 in
set_option maxHeartbeats 4000000 in
theorem szHist_at (a : Option Addr) (n c : Nat) (l t : Int) (D : List Int) (w : World) (hA : TArg w (.slice a n c) D) (hd : (D.length : Int) ≤ l) (hl : l ≤ 1048576) :
    Calls Try.prog 29 #[.agg #[.slice a n c, .int .i64 t], .int .i64 l] w fun e w' => e = .returned (.int .i64 (l - (D.length : Int))) ∧ Below w.heap.size w w' := by
  have hm := hA.len
  obtain ⟨a', c', e⟩ := hA.slice
  simp only [Value.slice.injEq] at e
  obtain ⟨_, rfl, _⟩ := e
  clear hA
  obtain ⟨n, hn⟩ : ∃ n, n = D.length := ⟨_, rfl⟩
  rw [← hn] at hd hm ⊢
  clear hn
  obtain ⟨z, hz⟩ : ∃ z : Int, z = l - (n : Int) := ⟨_, rfl⟩
  have HZ := Lib.hid hz
  have hz0 : ¬ z < 0 := by omega
  rw [← hz]
  clear hz
  go_enter Try.func29, Try.ntmps29
  go_wp2_with fail
  go_at_call 55
  refine (szIntS_fit _ n _ l _ hm hl hd).mono ?_
  rw [← HZ.out]
  rintro e w3 ⟨rfl, rfl⟩
  go_wp2_with fail
  go_ret
  exact ⟨rfl, by go_grown⟩
set_option maxRecDepth 100000 in
set_option maxHeartbeats 4000000 in
theorem szHist_over (a : Option Addr) (n c : Nat) (l t : Int) (D : List Int) (w : World) (hA : TArg w (.slice a n c) D) (h0 : 0 ≤ l) (hd : l < (D.length : Int)) (hl : l ≤ 1048576) :
    Calls Try.prog 29 #[.agg #[.slice a n c, .int .i64 t], .int .i64 l] w fun e w' => e = .returned (.int .i64 (-1)) ∧ Below w.heap.size w w' := by
  have hm := hA.len
  obtain ⟨a', c', e⟩ := hA.slice
  simp only [Value.slice.injEq] at e
  obtain ⟨_, rfl, _⟩ := e
  clear hA
  obtain ⟨n, hn⟩ : ∃ n, n = D.length := ⟨_, rfl⟩
  rw [← hn] at hd hm ⊢
  clear hn
  have hm1 : (-1 : Int) < 0 := by omega
  go_enter Try.func29, Try.ntmps29
  go_wp2_with fail
  go_at_call 55
  refine (szIntS_big _ n _ l _ hm hl h0 hd).mono ?_
  rintro e w3 ⟨rfl, rfl⟩
  go_wp2_with fail
  go_ret
  exact ⟨rfl, by go_grown⟩
theorem szHist_fit (a : Option Addr) (n c : Nat) (t : Int) (D : List Int) (w : World) (hA : TArg w (.slice a n c) D) (hd : D.length ≤ 1048576) :
    Calls Try.prog 29 #[.agg #[.slice a n c, .int .i64 t], .int .i64 1048576] w fun e w' => e = .returned (.int .i64 (1048576 - (D.length : Int))) ∧ Below w.heap.size w w' :=
  szHist_at a n c 1048576 t D w hA (by omega) (by omega)
theorem szHist_big (a : Option Addr) (n c : Nat) (t : Int) (D : List Int) (w : World) (hA : TArg w (.slice a n c) D) (hd : 1048576 < D.length) :
    Calls Try.prog 29 #[.agg #[.slice a n c, .int .i64 t], .int .i64 1048576] w fun e w' => e = .returned (.int .i64 (-1)) ∧ Below w.heap.size w w' :=
  szHist_over a n c 1048576 t D w hA (by omega) (by omega) (by omega)

set_option maxRecDepth 100000 in
set_option maxHeartbeats 4000000 in
theorem toHist_any (v : Value) (t : Int) (n : Nat) (D : List Int) (w : World) (hA : TArg w v D) (hd : D.length ≤ 1048576) (hn : D.length = n) :
    Calls Try.prog 31 #[.agg #[v, .int .i64 t]] w fun e w' => ∃ rv, e = .returned (.agg #[rv, .int .i64 t]) ∧ Row 1 w' w.heap.size w'.heap.size rv n D ∧ Below w.heap.size w w' := by
  have HA := Lib.hid hA
  have HN := Lib.hid hn
  obtain ⟨a, c, e⟩ := hA.slice
  rw [hn] at e
  subst e
  clear hA hn
  go_enter Try.func31, Try.ntmps31
  go_wp2_with fail
  obtain ⟨q1, hq1⟩ : ∃ q, q = (((w.alloc (.cells #[.slice a n c, .int .i64 t] 39)).alloc (.cells #[.slice none 0 0, .int .i64 0] 27)).alloc (.cells #[.slice none 0 0, .int .i64 0] 27)) := ⟨_, rfl⟩
  have hb1 : Below w.heap.size w q1 := by rw [hq1]; go_grown
  have sz1 : w.heap.size + 3 ≤ q1.heap.size := by rw [hq1]; simp
  have c1_0 : q1.cell? ⟨w.heap.size, 0, none⟩ = some (.slice a n c) := by rw [hq1, old_box (by simp <;> omega), old_box (by simp <;> omega), new_at (by simp)]; rfl
  have c1_1 : q1.cell? ⟨w.heap.size, 1, none⟩ = some (.int .i64 t) := by rw [hq1, old_box (by simp <;> omega), old_box (by simp <;> omega), new_at (by simp)]; rfl
  have c1_2 : q1.cell? ⟨w.heap.size + 1, 0, none⟩ = some (.slice none 0 0) := by rw [hq1, old_box (by simp <;> omega), new_at (by simp)]; rfl
  have c1_3 : q1.cell? ⟨w.heap.size + 1, 1, none⟩ = some (.int .i64 0) := by rw [hq1, old_box (by simp <;> omega), new_at (by simp)]; rfl
  have c1_4 : q1.cell? ⟨w.heap.size + 1 + 1, 0, none⟩ = some (.slice none 0 0) := by rw [hq1, new_at (by simp)]; rfl
  have c1_5 : q1.cell? ⟨w.heap.size + 1 + 1, 1, none⟩ = some (.int .i64 0) := by rw [hq1, new_at (by simp)]; rfl
  have g1_0 : q1.frozen? ⟨w.heap.size + 1, 0, none⟩ = false := by rw [hq1, old_frz (by simp <;> omega), new_frz (by simp)]
  have g1_1 : q1.frozen? ⟨w.heap.size + 1, 1, none⟩ = false := by rw [hq1, old_frz (by simp <;> omega), new_frz (by simp)]
  have g1_2 : q1.frozen? ⟨w.heap.size + 1 + 1, 0, none⟩ = false := by rw [hq1, new_frz (by simp)]
  have g1_3 : q1.frozen? ⟨w.heap.size + 1 + 1, 1, none⟩ = false := by rw [hq1, new_frz (by simp)]
  have B1 : Hid (Below w.heap.size w q1) := Lib.hid hb1
  rw [← hq1]
  have d1_0 : w.heap.size < q1.heap.size := by omega
  have e1_0 : w.heap.size ≠ q1.heap.size := by omega
  have d1_1 : w.heap.size + 1 < q1.heap.size := by omega
  have e1_1 : w.heap.size + 1 ≠ q1.heap.size := by omega
  have d1_2 : w.heap.size + 1 + 1 < q1.heap.size := by omega
  have e1_2 : w.heap.size + 1 + 1 ≠ q1.heap.size := by omega
  clear hq1 hb1
  go_wp2_with fail
  go_at_call 38
  refine (toIntS_T _ D _ (HA.out.below B1.out) hd).mono ?_
  rintro e v2 ⟨rv, rfl, hr, hb2⟩
  have sz2 : q1.heap.size ≤ v2.heap.size := hb2.size
  have st2 : Below q1.heap.size q1 v2 := hb2
  have c2_0 : v2.cell? ⟨w.heap.size, 0, none⟩ = some (.slice a n c) := by rw [(bcell st2).1 _ _ (by omega)]; exact c1_0
  have c2_1 : v2.cell? ⟨w.heap.size, 1, none⟩ = some (.int .i64 t) := by rw [(bcell st2).1 _ _ (by omega)]; exact c1_1
  have c2_2 : v2.cell? ⟨w.heap.size + 1, 0, none⟩ = some (.slice none 0 0) := by rw [(bcell st2).1 _ _ (by omega)]; exact c1_2
  have c2_3 : v2.cell? ⟨w.heap.size + 1, 1, none⟩ = some (.int .i64 0) := by rw [(bcell st2).1 _ _ (by omega)]; exact c1_3
  have c2_4 : v2.cell? ⟨w.heap.size + 1 + 1, 0, none⟩ = some (.slice none 0 0) := by rw [(bcell st2).1 _ _ (by omega)]; exact c1_4
  have c2_5 : v2.cell? ⟨w.heap.size + 1 + 1, 1, none⟩ = some (.int .i64 0) := by rw [(bcell st2).1 _ _ (by omega)]; exact c1_5
  have g2_0 : v2.frozen? ⟨w.heap.size + 1, 0, none⟩ = false := by rw [(bcell st2).2 _ _ (by omega)]; exact g1_0
  have g2_1 : v2.frozen? ⟨w.heap.size + 1, 1, none⟩ = false := by rw [(bcell st2).2 _ _ (by omega)]; exact g1_1
  have g2_2 : v2.frozen? ⟨w.heap.size + 1 + 1, 0, none⟩ = false := by rw [(bcell st2).2 _ _ (by omega)]; exact g1_2
  have g2_3 : v2.frozen? ⟨w.heap.size + 1 + 1, 1, none⟩ = false := by rw [(bcell st2).2 _ _ (by omega)]; exact g1_3
  have B2 : Hid (Below w.heap.size w v2) := B1.out.trans (st2.mono (by omega))
  have d2_0 : w.heap.size < v2.heap.size := by omega
  have e2_0 : w.heap.size ≠ v2.heap.size := by omega
  have d2_1 : w.heap.size + 1 < v2.heap.size := by omega
  have e2_1 : w.heap.size + 1 ≠ v2.heap.size := by omega
  have d2_2 : w.heap.size + 1 + 1 < v2.heap.size := by omega
  have e2_2 : w.heap.size + 1 + 1 ≠ v2.heap.size := by omega
  clear d1_0 e1_0 d1_1 e1_1 d1_2 e1_2 c1_0 c1_1 c1_2 c1_3 c1_4 c1_5 g1_0 g1_1 g1_2 g1_3 B1 st2 hb2
  have hK : Row 1 v2 q1.heap.size v2.heap.size rv n D := by have := hr; rwa [HN.out] at this
  have HK := Lib.hid hK
  obtain ⟨ra, rc, rfl⟩ := hK.slice
  clear hK hr
  obtain ⟨w9, hw9⟩ : ∃ w9, w9 = ((((v2.setCell ⟨w.heap.size + 1 + 1, 0, none⟩ (.slice ra n rc)).setCell ⟨w.heap.size + 1 + 1, 1, none⟩ (.int .i64 t)).setCell ⟨w.heap.size + 1, 0, none⟩ (.slice ra n rc)).setCell ⟨w.heap.size + 1, 1, none⟩ (.int .i64 t)) := ⟨_, rfl⟩
  have hs9 : w9.heap.size = v2.heap.size := by rw [hw9]; simp [World.setCell]
  have Hrow : Hid (Row 1 w9 w.heap.size w9.heap.size (.slice ra n rc) n D) := by
    show Row _ _ _ _ _ _ _
    rw [hs9, hw9]
    exact ((((HK.out.setCell (p := ⟨w.heap.size + 1 + 1, 0, none⟩) (.inl (by show w.heap.size + 1 + 1 < _; omega)) _).setCell (p := ⟨w.heap.size + 1 + 1, 1, none⟩) (.inl (by show w.heap.size + 1 + 1 < _; omega)) _).setCell (p := ⟨w.heap.size + 1, 0, none⟩) (.inl (by show w.heap.size + 1 < _; omega)) _).setCell (p := ⟨w.heap.size + 1, 1, none⟩) (.inl (by show w.heap.size + 1 < _; omega)) _).wide (by omega) (Nat.le_refl _)
  have HB9 : Hid (Below w.heap.size w w9) := by
    show Below _ _ _
    rw [hw9]
    exact ((((B2.out.setCell (p := ⟨w.heap.size + 1 + 1, 0, none⟩) (by show _ ≤ w.heap.size + 1 + 1; omega) _).setCell (p := ⟨w.heap.size + 1 + 1, 1, none⟩) (by show _ ≤ w.heap.size + 1 + 1; omega) _).setCell (p := ⟨w.heap.size + 1, 0, none⟩) (by show _ ≤ w.heap.size + 1; omega) _).setCell (p := ⟨w.heap.size + 1, 1, none⟩) (by show _ ≤ w.heap.size + 1; omega) _)
  have r0 : w9.cell? ⟨w.heap.size + 1, 0, none⟩ = some (.slice ra n rc) := by rw [hw9, World.cell?_setCell_other _ _ _ _ (by simp)]; exact World.cell?_setCell_same' _ _ _ (by rw [World.cell?_setCell_other _ _ _ _ (by simp <;> omega), World.cell?_setCell_other _ _ _ _ (by simp <;> omega), c2_2]; rfl)
  have r1 : w9.cell? ⟨w.heap.size + 1, 1, none⟩ = some (.int .i64 t) := by rw [hw9]; exact World.cell?_setCell_same' _ _ _ (by rw [World.cell?_setCell_other _ _ _ _ (by simp), World.cell?_setCell_other _ _ _ _ (by simp <;> omega), World.cell?_setCell_other _ _ _ _ (by simp <;> omega), c2_3]; rfl)
  have hRX : w.heap.size + 1 ≠ w.heap.size + 1 + 1 := by omega
  clear hs9
  go_wp2_with fail
  rw [← hw9]
  refine bodyPost_ret (v := .agg #[.slice ra n rc, .int .i64 t]) (by simp [results, Try.results31, go_sem, r0, r1]) rfl ⟨_, rfl, Hrow.out, HB9.out⟩
set_option maxRecDepth 100000 in
set_option maxHeartbeats 4000000 in
theorem eqHist_same (t : Int) (D : List Int) (n lo hi lo' hi' : Nat) (v v' : Value) (w : World) (hr : Row 1 w lo hi v n D) (hr' : Row 1 w lo' hi' v' n D) (hh : hi ≤ w.heap.size) (hh' : hi' ≤ w.heap.size) :
    Calls Try.prog 33 #[.agg #[v, .int .i64 t], .agg #[v', .int .i64 t]] w fun e w' => e = .returned (.bool true) ∧ Below w.heap.size w w' := by
  have HR := Lib.hid hr
  have HR' := Lib.hid hr'
  obtain ⟨a, c, rfl⟩ := hr.slice
  obtain ⟨a', c', rfl⟩ := hr'.slice
  clear hr hr'
  go_enter Try.func33, Try.ntmps33
  go_wp2_with fail
  obtain ⟨q1, hq1⟩ : ∃ q, q = ((w.alloc (.cells #[.slice a n c, .int .i64 t] 27)).alloc (.cells #[(.slice a' n c'), .int .i64 t] 27)) := ⟨_, rfl⟩
  have hb1 : Below w.heap.size w q1 := by rw [hq1]; go_grown
  have sz1 : w.heap.size + 2 ≤ q1.heap.size := by rw [hq1]; simp
  have c1_0 : q1.cell? ⟨w.heap.size, 0, none⟩ = some (.slice a n c) := by rw [hq1, old_box (by simp <;> omega), new_at (by simp)]; rfl
  have c1_1 : q1.cell? ⟨w.heap.size, 1, none⟩ = some (.int .i64 t) := by rw [hq1, old_box (by simp <;> omega), new_at (by simp)]; rfl
  have c1_2 : q1.cell? ⟨w.heap.size + 1, 0, none⟩ = some ((.slice a' n c')) := by rw [hq1, new_at (by simp)]; rfl
  have c1_3 : q1.cell? ⟨w.heap.size + 1, 1, none⟩ = some (.int .i64 t) := by rw [hq1, new_at (by simp)]; rfl
  have B1 : Hid (Below w.heap.size w q1) := Lib.hid hb1
  rw [← hq1]
  have d1_0 : w.heap.size < q1.heap.size := by omega
  have e1_0 : w.heap.size ≠ q1.heap.size := by omega
  have d1_1 : w.heap.size + 1 < q1.heap.size := by omega
  have e1_1 : w.heap.size + 1 ≠ q1.heap.size := by omega
  clear hq1 hb1
  go_wp2_with fail
  go_at_call 39
  refine (eqIntS_same D n lo hi lo' hi' _ _ _ (HR.out.below B1.out hh) (HR'.out.below B1.out hh') (by omega) (by omega)).mono ?_
  rintro e v2 ⟨rfl, hb2⟩
  have sz2 : q1.heap.size ≤ v2.heap.size := hb2.size
  have st2 : Below q1.heap.size q1 v2 := hb2
  have c2_0 : v2.cell? ⟨w.heap.size, 0, none⟩ = some (.slice a n c) := by rw [(bcell st2).1 _ _ (by omega)]; exact c1_0
  have c2_1 : v2.cell? ⟨w.heap.size, 1, none⟩ = some (.int .i64 t) := by rw [(bcell st2).1 _ _ (by omega)]; exact c1_1
  have c2_2 : v2.cell? ⟨w.heap.size + 1, 0, none⟩ = some ((.slice a' n c')) := by rw [(bcell st2).1 _ _ (by omega)]; exact c1_2
  have c2_3 : v2.cell? ⟨w.heap.size + 1, 1, none⟩ = some (.int .i64 t) := by rw [(bcell st2).1 _ _ (by omega)]; exact c1_3
  have B2 : Hid (Below w.heap.size w v2) := B1.out.trans (st2.mono (by omega))
  have d2_0 : w.heap.size < v2.heap.size := by omega
  have e2_0 : w.heap.size ≠ v2.heap.size := by omega
  have d2_1 : w.heap.size + 1 < v2.heap.size := by omega
  have e2_1 : w.heap.size + 1 ≠ v2.heap.size := by omega
  clear d1_0 e1_0 d1_1 e1_1 c1_0 c1_1 c1_2 c1_3 B1 st2 hb2
  go_wp2_with fail
  go_ret
  exact ⟨rfl, B2.out⟩
set_option maxRecDepth 100000 in
set_option maxHeartbeats 4000000 in
theorem markHist_S (s K t : Int) (hs0 : 0 ≤ s) (hs1 : s ≤ 1000000000) (D : List Int) (n lo hi : Nat) (v : Value) (w : World) (hK : K = s + ((n * 1 : Nat) : Int)) (hr : Row 1 w lo hi v n D) (hh : hi ≤ w.heap.size) (hT : n ≤ 1100000) :
    Calls Try.prog 36 #[.agg #[v, .int .i64 t], .int .i64 s] w fun e w' => e = .returned (.int .i64 K) ∧ Row 1 w' lo hi v n (marks s (n * 1)) ∧ Turned lo hi w w' := by
  have HR := Lib.hid hr
  obtain ⟨a, c, rfl⟩ := hr.slice
  have HK := Lib.hid hK
  clear hr hK
  go_enter Try.func36, Try.ntmps36
  go_wp2_with fail
  go_at_call 40
  refine (markIntS_S s K hs0 hs1 D n lo hi _ _ HK.out (HR.out.below (B := w.heap.size) (by go_grown) hh) hT).mono ?_
  rintro e w3 ⟨rfl, hM, hO⟩
  have HM := Lib.hid (And.intro hM hO)
  clear hM hO
  go_wp2_with fail
  go_ret
  exact ⟨rfl, HM.out.1, HM.out.2.boxed⟩
set_option maxRecDepth 100000 in
set_option maxHeartbeats 4000000 in
theorem heldHist_K (K t : Int) (n lo hi : Nat) (v : Value) (w : World) (hK : K = 1 + ((n * 1 : Nat) : Int)) (hr : Row 1 w lo hi v n (marks 1 (n * 1))) (hh : hi ≤ w.heap.size) (hT : n ≤ 1100000) :
    Calls Try.prog 37 #[.agg #[v, .int .i64 t], .int .i64 1] w fun e w' => e = .returned (.int .i64 K) ∧ Below w.heap.size w w' := by
  have HR := Lib.hid hr
  obtain ⟨a, c, rfl⟩ := hr.slice
  have hK0 : ¬ K < 0 := by omega
  have HK := Lib.hid hK
  clear hr hK
  go_enter Try.func37, Try.ntmps37
  go_wp2_with fail
  go_at_call 58
  refine (heldIntS_K K n lo hi _ _ HK.out (HR.out.below (B := w.heap.size) (by go_grown) hh) hT).mono ?_
  rintro e w3 ⟨rfl, rfl⟩
  go_wp2_with fail
  go_ret
  exact ⟨rfl, by go_grown⟩

end Go.Proofs.Ytcchoiobdcaboaa
