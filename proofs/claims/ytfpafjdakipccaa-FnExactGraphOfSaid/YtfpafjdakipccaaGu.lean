/- Databases made, compared. -/
import Derived.Test.YtfpafjdakipccaaGt
import Derived.Test.YtfpafjdakipccaaGk
import Derived.Deep.RegionHeld3
import Derived.Handy
import Derived.WalkSmall
namespace Go.Proofs.Ytfpafjdakipccaa
open Go.RowKit
set_option maxHeartbeats 2000000 in
theorem toDb_any (v : Value) (D : List Ls) (w : World) (hA : DArg w v D) (hd : dtot D <= 1048576) :
    Calls Try.prog 19 #[.agg #[v]] w fun e w' => ∃ rv, e = .returned (.agg #[rv]) /\ DRow w' w.heap.size w'.heap.size rv D /\ Below w.heap.size w w' := by
  have HA := Lib.hid hA
  obtain ⟨a, c, rfl⟩ := hA.slice
  obtain ⟨n, hn⟩ : ∃ n, n = D.length := ⟨_, rfl⟩
  rw [<- hn] at HA ⊢
  have HN := Lib.hid hn
  clear hA hn
  go_enter Try.func19, Try.ntmps19
  go_wp2_with fail
  go_at_call 55
  refine (toLsaS_any _ D _ (HA.out.below (by go_grown)) hd).mono ?_
  rintro e v1 ⟨rv, rfl, hr, hb1⟩
  have sz1 : w.heap.size + 3 <= v1.heap.size := by have hh := hb1.size; simp at hh; omega
  have st1 : Below w.heap.size w v1 := Below.trans (by go_grown) (hb1.mono (by simp <;> omega))
  have c1_0 : v1.cell? ⟨w.heap.size, 0, none⟩ = some (.slice a n c) := by rw [(bcell hb1).1 _ _ (by simp <;> omega), old_box (by simp <;> omega), old_box (by simp <;> omega)]; first | (rw [new_at (by simp)]; rfl) | simp
  have c1_1 : v1.cell? ⟨w.heap.size + 1, 0, none⟩ = some (.slice none 0 0) := by rw [(bcell hb1).1 _ _ (by simp <;> omega), old_box (by simp <;> omega)]; first | (rw [new_at (by simp)]; rfl) | simp
  have c1_2 : v1.cell? ⟨w.heap.size + 1 + 1, 0, none⟩ = some (.slice none 0 0) := by rw [(bcell hb1).1 _ _ (by simp)]; first | (rw [new_at (by simp)]; rfl) | simp
  have g1_0 : v1.frozen? ⟨w.heap.size + 1, 0, none⟩ = false := by rw [(bcell hb1).2 _ _ (by simp <;> omega), old_frz (by simp <;> omega), new_frz (by simp)]
  have g1_1 : v1.frozen? ⟨w.heap.size + 1 + 1, 0, none⟩ = false := by rw [(bcell hb1).2 _ _ (by simp), new_frz (by simp)]
  have B1 : Hid (Below w.heap.size w v1) := st1
  have R1_0 : Hid (DRow v1 (w.heap.size + 1 + 1 + 1) (v1.heap.size) rv  D) := Lib.hid (hr.wide (by simp) (Nat.le_refl _))
  have d1_0 : w.heap.size < v1.heap.size := by omega
  have e1_0 : w.heap.size ≠ v1.heap.size := by omega
  have d1_1 : w.heap.size + 1 < v1.heap.size := by omega
  have e1_1 : w.heap.size + 1 ≠ v1.heap.size := by omega
  have d1_2 : w.heap.size + 1 + 1 < v1.heap.size := by omega
  have e1_2 : w.heap.size + 1 + 1 ≠ v1.heap.size := by omega
  clear st1 hb1
  obtain ⟨ra, rc, rfl⟩ := R1_0.out.slice
  clear hr
  rw [<- HN.out] at R1_0 ⊢
  go_wp2_with fail
  obtain ⟨q2, hq2⟩ : ∃ q, q = v1.setCell ⟨w.heap.size + 1 + 1, 0, none⟩ (.slice ra n rc) := ⟨_, rfl⟩
  have sz2 : v1.heap.size <= q2.heap.size := by rw [hq2]; simp [World.setCell]
  have szz2 : q2.heap.size <= v1.heap.size := by rw [hq2]; simp [World.setCell]
  have c2_0 : q2.cell? ⟨w.heap.size, 0, none⟩ = some (.slice a n c) := by rw [hq2, World.cell?_setCell_other _ _ _ _ (by simp <;> omega)]; exact c1_0
  have c2_1 : q2.cell? ⟨w.heap.size + 1, 0, none⟩ = some (.slice none 0 0) := by rw [hq2, World.cell?_setCell_other _ _ _ _ (by simp <;> omega)]; exact c1_1
  have c2_2 : q2.cell? ⟨w.heap.size + 1 + 1, 0, none⟩ = some (.slice ra n rc) := by rw [hq2]; exact World.cell?_setCell_same' _ _ _ (by rw [c1_2]; rfl)
  have g2_0 : q2.frozen? ⟨w.heap.size + 1, 0, none⟩ = false := by rw [hq2, World.frozen?_setCell]; exact g1_0
  have g2_1 : q2.frozen? ⟨w.heap.size + 1 + 1, 0, none⟩ = false := by rw [hq2, World.frozen?_setCell]; exact g1_1
  have B2 : Hid (Below w.heap.size w q2) := by have hh := B1.out.setCell (p := ⟨w.heap.size + 1 + 1, 0, none⟩) (by first | omega | (simp; done) | (simp; omega)) (.slice ra n rc); rw [<- hq2] at hh; exact Lib.hid hh
  have R2_0 : Hid (DRow q2 (w.heap.size + 1 + 1 + 1) (v1.heap.size) (.slice ra n rc)  D) := by have hh := R1_0.out.setCell (p := ⟨w.heap.size + 1 + 1, 0, none⟩) (by first | (left; omega) | (right; omega) | (left; simp <;> omega) | (right; simp <;> omega)) (.slice ra n rc); rw [<- hq2] at hh; exact Lib.hid hh
  rw [<- hq2]
  have d2_0 : w.heap.size < q2.heap.size := by omega
  have e2_0 : w.heap.size ≠ q2.heap.size := by omega
  have d2_1 : w.heap.size + 1 < q2.heap.size := by omega
  have e2_1 : w.heap.size + 1 ≠ q2.heap.size := by omega
  have d2_2 : w.heap.size + 1 + 1 < q2.heap.size := by omega
  have e2_2 : w.heap.size + 1 + 1 ≠ q2.heap.size := by omega
  clear hq2 d1_0 e1_0 d1_1 e1_1 d1_2 e1_2 c1_0 c1_1 c1_2 g1_0 g1_1 B1 R1_0
  go_wp2_with fail
  refine bodyPost_ret (v := .agg #[.slice ra n rc]) (by simp [results, Try.results19, go_sem, *]) rfl ⟨_, rfl, ?_, ?_⟩
  · exact ((R2_0.out.setCell (.inl (by simp <;> omega)) _).wide (by omega) (by simp [World.setCell]; omega))
  · exact (B2.out.setCell (by simp <;> omega) _)
structure ESt (w wr : World) (G G' lo hi lo' hi' k : Nat) (p : Ls) (u x u' x' : Value) : Prop where
  c0 : LC wr G (k * 5) p u x
  c1 : LC wr G' (k * 5) p u' x'
  r0 : LRow wr lo hi u x p.K.length p.T.length (flat2 p.K) (flat p.T)
  r1 : LRow wr lo' hi' u' x' p.K.length p.T.length (flat2 p.K) (flat p.T)
  l0 : hi <= wr.heap.size
  l1 : hi' <= wr.heap.size
set_option maxHeartbeats 4000000 in
theorem eqLsaS_same (D : List Ls) (lo hi lo' hi' : Nat) (v v' : Value) (w : World) (hr : DRow w lo hi v D) (hr' : DRow w lo' hi' v' D) (hh : hi <= w.heap.size) (hh' : hi' <= w.heap.size) :
    Calls Try.prog 57 #[v, v'] w fun e w' => e = .returned (.bool true) /\ Below w.heap.size w w' := by
  obtain ⟨a, c, us, xs, bs, rfl, X⟩ := hr
  obtain ⟨a', c', us', xs', bs', rfl, X'⟩ := hr'
  have hm := X.len
  obtain ⟨n, hn⟩ : ∃ n, n = D.length := ⟨_, rfl⟩
  rw [<- hn] at hm ⊢
  have HN := Lib.hid hn
  have HX := Lib.hid X
  have HX' := Lib.hid X'
  clear X X' hn
  go_enter Try.func57, Try.ntmps57
  go_wp2
  go_loopw [5] (fun i wr => ∃ k : Nat, k <= n /\ i = .int .i64 (k : Int) /\ Hid (Below w.heap.size w wr)) (fun i _ => n - (intOf i).toNat)
  case atStart => exact ⟨0, Nat.zero_le _, rfl, Below.refl _ _⟩
  case round =>
    obtain ⟨k, hk, rfl, hB⟩ := hrel
    by_cases hlt : k < n
    · obtain ⟨p, hp⟩ : ∃ p, D[k]? = some p := ⟨_, List.getElem?_eq_getElem (by have := HN.out; omega)⟩
      obtain ⟨G, rfl, g1, g2, g3, g4, _⟩ := HX.out.outer (by have := HN.out; omega)
      obtain ⟨G', rfl, g1', g2', g3', g4', _⟩ := HX'.out.outer (by have := HN.out; omega)
      have hsz := hB.out.size
      have hc := (g4 k p hp).below hB.out (by omega)
      have hc' := (g4' k p hp).below hB.out (by omega)
      obtain ⟨i1, i2, i3⟩ := HX.out.inner k p hp
      obtain ⟨j1, j2, j3⟩ := HX'.out.inner k p hp
      have R1 := Lib.hid (i1.below hB.out (by omega))
      have R2 := Lib.hid (j1.below hB.out (by omega))
      obtain ⟨x1, y1, x2, y2, e1, e2⟩ := i1.slice
      obtain ⟨x3, y3, x4, y4, e3, e4⟩ := j1.slice
      rw [e1, e2] at hc R1
      rw [e3, e4] at hc' R2
      obtain ⟨d0, d1, d2, d3, d4⟩ := hc
      obtain ⟨f0, f1, f2, f3, f4⟩ := hc'
      have hk0 : (0 : Int) <= (k : Int) := by omega
      have hk1 : (k : Int) < (n : Int) := by omega
      have hGw : G < wr.heap.size := by omega
      have hGw' : G' < wr.heap.size := by omega
      obtain ⟨H1, hH1⟩ : ∃ q, q = (bs k).2 := ⟨_, rfl⟩
      obtain ⟨H2, hH2⟩ : ∃ q, q = (bs' k).2 := ⟨_, rfl⟩
      have z1 : H1 <= wr.heap.size := by omega
      have z2 : H2 <= wr.heap.size := by omega
      rw [<- hH1] at R1
      rw [<- hH2] at R2
      clear g3 g3' g4 g4' i1 j1 i2 i3 j2 j3 e1 e2 e3 e4 hH1 hH2
      go_wp2_with fail
      go_region_held3 (fun w' => w'.cell? ⟨G, k * 5, none⟩ = some (.int .i64 p.o) /\ w'.cell? ⟨G, k * 5 + 1, none⟩ = some (.int .i64 p.s) /\ w'.cell? ⟨G, k * 5 + 2, none⟩ = some (.int .i64 p.g) /\ w'.cell? ⟨G, k * 5 + 3, none⟩ = some (.slice x1 p.K.length y1) /\ w'.cell? ⟨G, k * 5 + 4, none⟩ = some (.slice x2 p.T.length y2) /\ w'.cell? ⟨G', k * 5, none⟩ = some (.int .i64 p.o) /\ w'.cell? ⟨G', k * 5 + 1, none⟩ = some (.int .i64 p.s) /\ w'.cell? ⟨G', k * 5 + 2, none⟩ = some (.int .i64 p.g) /\ w'.cell? ⟨G', k * 5 + 3, none⟩ = some (.slice x3 p.K.length y3) /\ w'.cell? ⟨G', k * 5 + 4, none⟩ = some (.slice x4 p.T.length y4) /\ wr.heap.size <= w'.heap.size /\ Below wr.heap.size wr w') (first | assumption | exact rr10_start d0 d1 d2 d3 d4 f0 f1 f2 f3 f4 | exact rr10_drew (by assumption) | exact rr10_keep (by omega) (by omega) (by omega) (by omega) (by omega) (by omega) (by omega) (by omega) (by omega) (by omega) (by assumption) (by assumption))
        (first | (go_at_call 24; refine (eqLsa_same p.o p.s p.g (flat2 p.K) (flat p.T) p.K.length p.T.length _ _ _ _ _ _ _ _ _ (R1.out.below (rr10_out (by assumption)).2 z1) (R2.out.below (rr10_out (by assumption)).2 z2) (by have hq := (rr10_out (by assumption)).1; omega) (by have hq := (rr10_out (by assumption)).1; omega)).mono ?_; rintro e w9 ⟨rfl, hb⟩))
      have HE : Hid (Below w.heap.size w w9) := hB.out.trans ((rr10_out (by assumption)).2.mono (by omega))
      go_wp2_with fail
      go_roundw
      case rel => exact ⟨k + 1, by omega, by go_num, HE⟩
      case measure => simp [intOf]; omega
    · have hge : ¬ ((k : Int) < (n : Int)) := by omega
      go_wp2
      go_ret
      exact ⟨rfl, hB.out⟩
set_option maxHeartbeats 2000000 in
theorem eqDb_same (D : List Ls) (lo hi lo' hi' : Nat) (v v' : Value) (w : World) (hr : DRow w lo hi v D) (hr' : DRow w lo' hi' v' D) (hh : hi <= w.heap.size) (hh' : hi' <= w.heap.size) :
    Calls Try.prog 21 #[.agg #[v], .agg #[v']] w fun e w' => e = .returned (.bool true) /\ Below w.heap.size w w' := by
  obtain ⟨a, c, rfl⟩ := hr.slice
  obtain ⟨a', c', rfl⟩ := hr'.slice
  obtain ⟨n, hn⟩ : ∃ n, n = D.length := ⟨_, rfl⟩
  rw [<- hn] at hr hr' ⊢
  have R0 := Lib.hid hr
  have R1 := Lib.hid hr'
  clear hr hr' hn
  go_enter Try.func21, Try.ntmps21
  go_wp2_with fail
  go_at_call 57
  refine (eqLsaS_same D lo hi lo' hi' _ _ _ (R0.out.below (B := w.heap.size) (by go_grown) (by omega)) (R1.out.below (B := w.heap.size) (by go_grown) (by omega)) (by first | omega | (simp; omega)) (by first | omega | (simp; omega))).mono ?_
  rintro e v1 ⟨rfl, hb1⟩
  have sz1 : w.heap.size + 2 <= v1.heap.size := by have hh := hb1.size; simp at hh; omega
  have st1 : Below w.heap.size w v1 := Below.trans (by go_grown) (hb1.mono (by simp <;> omega))
  have c1_0 : v1.cell? ⟨w.heap.size, 0, none⟩ = some (.slice a n c) := by rw [(bcell hb1).1 _ _ (by simp <;> omega), old_box (by simp <;> omega)]; first | (rw [new_at (by simp)]; rfl) | simp
  have c1_1 : v1.cell? ⟨w.heap.size + 1, 0, none⟩ = some ((.slice a' n c')) := by rw [(bcell hb1).1 _ _ (by simp)]; first | (rw [new_at (by simp)]; rfl) | simp
  have B1 : Hid (Below w.heap.size w v1) := st1
  have R1_0 : Hid (DRow v1 (lo) (hi) (.slice a n c)  D) := R0.out.below st1 (by omega)
  have R1_1 : Hid (DRow v1 (lo') (hi') (.slice a' n c')  D) := R1.out.below st1 (by omega)
  have d1_0 : w.heap.size < v1.heap.size := by omega
  have e1_0 : w.heap.size ≠ v1.heap.size := by omega
  have d1_1 : w.heap.size + 1 < v1.heap.size := by omega
  have e1_1 : w.heap.size + 1 ≠ v1.heap.size := by omega
  clear st1 R0 R1 hb1
  go_wp2_with fail
  go_ret
  exact ⟨rfl, B1.out⟩
end Go.Proofs.Ytfpafjdakipccaa
