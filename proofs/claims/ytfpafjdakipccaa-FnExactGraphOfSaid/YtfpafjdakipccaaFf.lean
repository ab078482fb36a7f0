/- FindLsa of the specification. -/
import Derived.Test.YtfpafjdakipccaaMe
import Derived.Test.YtfpafjdakipccaaZ2
import Derived.Test.YtfpafjdakipccaaZ1
namespace Go.Proofs.Ytfpafjdakipccaa
open Go.RowKit
def flo (D : List Ls) (x : Int) : Option Ls := if dokB D = true then dfind D x else none
def flv (D : List Ls) (x : Int) : Ls := (flo D x).getD l0
theorem flo_no {D : List Ls} {x : Int} (h : dokB D = false) : flo D x = none := if_neg (by rw [h]; decide)
theorem flo_yes {D : List Ls} {x : Int} (h : dokB D = true) : flo D x = dfind D x := if_pos h
theorem lrow_nil (w : World) {lo hi : Nat} (hl : lo <= hi) : LRow w lo hi (.slice none 0 0) (.slice none 0 0) l0.K.length l0.T.length (flat2 l0.K) (flat l0.T) := ⟨lo, Nat.le_refl _, hl, Row.empty _ _ _ _ _ _, Row.empty _ _ _ _ _ _⟩
set_option maxRecDepth 100000 in
set_option maxHeartbeats 4000000 in
theorem sfind_no (D : List Ls) (x : Int) (lo hi : Nat) (v : Value) (w : World) (hr : DRow w lo hi v D) (hh : hi <= w.heap.size) (hv : dokB D = false) :
    Calls Try.prog 22 #[.agg #[v], .int .i64 x] w fun e w' => ∃ ru rv, e = .returned (.tuple #[.agg #[.int .i64 l0.o, .int .i64 l0.s, .int .i64 l0.g, ru, rv], .bool false]) /\ LRow w' w.heap.size w'.heap.size ru rv l0.K.length l0.T.length (flat2 l0.K) (flat l0.T) /\ Below w.heap.size w w' := by
  have Hv := Lib.hid hv
  obtain ⟨a, c, us, xs, bs, rfl, X⟩ := hr
  have hm := X.len
  have R0 : Hid (DRow w lo hi (.slice a D.length c) D) := Lib.hid ⟨a, c, us, xs, bs, rfl, X⟩
  obtain ⟨n, hn⟩ : ∃ n, n = D.length := ⟨_, rfl⟩
  rw [<- hn] at R0 hm ⊢
  clear X hn hv
  go_enter Try.func22, Try.ntmps22
  go_wp2_with fail
  go_at_call 14
  refine (sdbok_any D lo hi _ _ (R0.out.below (B := w.heap.size) (by go_grown) (by omega)) (by first | omega | (simp; omega))).mono ?_
  rw [Hv.out]
  rintro e v1 ⟨rfl, hb1⟩
  have sz1 : w.heap.size + 2 <= v1.heap.size := by have hh := hb1.size; simp at hh; omega
  have st1 : Below w.heap.size w v1 := Below.trans (by go_grown) (hb1.mono (by simp <;> omega))
  have c1_0 : v1.cell? ⟨w.heap.size, 0, none⟩ = some (.slice a n c) := by rw [(bcell hb1).1 _ _ (by simp <;> omega), old_box (by simp <;> omega)]; first | (rw [new_at (by simp)]; rfl) | simp
  have c1_1 : v1.cell? ⟨w.heap.size + 1, 0, none⟩ = some (.int .i64 0) := by rw [(bcell hb1).1 _ _ (by simp)]; first | (rw [new_at (by simp)]; rfl) | simp
  have c1_2 : v1.cell? ⟨w.heap.size + 1, 1, none⟩ = some (.int .i64 0) := by rw [(bcell hb1).1 _ _ (by simp)]; first | (rw [new_at (by simp)]; rfl) | simp
  have c1_3 : v1.cell? ⟨w.heap.size + 1, 2, none⟩ = some (.int .i64 0) := by rw [(bcell hb1).1 _ _ (by simp)]; first | (rw [new_at (by simp)]; rfl) | simp
  have c1_4 : v1.cell? ⟨w.heap.size + 1, 3, none⟩ = some (.slice none 0 0) := by rw [(bcell hb1).1 _ _ (by simp)]; first | (rw [new_at (by simp)]; rfl) | simp
  have c1_5 : v1.cell? ⟨w.heap.size + 1, 4, none⟩ = some (.slice none 0 0) := by rw [(bcell hb1).1 _ _ (by simp)]; first | (rw [new_at (by simp)]; rfl) | simp
  have g1_0 : v1.frozen? ⟨w.heap.size + 1, 0, none⟩ = false := by rw [(bcell hb1).2 _ _ (by simp), new_frz (by simp)]
  have g1_1 : v1.frozen? ⟨w.heap.size + 1, 1, none⟩ = false := by rw [(bcell hb1).2 _ _ (by simp), new_frz (by simp)]
  have g1_2 : v1.frozen? ⟨w.heap.size + 1, 2, none⟩ = false := by rw [(bcell hb1).2 _ _ (by simp), new_frz (by simp)]
  have g1_3 : v1.frozen? ⟨w.heap.size + 1, 3, none⟩ = false := by rw [(bcell hb1).2 _ _ (by simp), new_frz (by simp)]
  have g1_4 : v1.frozen? ⟨w.heap.size + 1, 4, none⟩ = false := by rw [(bcell hb1).2 _ _ (by simp), new_frz (by simp)]
  have B1 : Hid (Below w.heap.size w v1) := st1
  have R1_0 : Hid (DRow v1 (lo) (hi) (.slice a n c)  D) := R0.out.below st1 (by omega)
  have d1_0 : w.heap.size < v1.heap.size := by omega
  have e1_0 : w.heap.size ≠ v1.heap.size := by omega
  have d1_1 : w.heap.size + 1 < v1.heap.size := by omega
  have e1_1 : w.heap.size + 1 ≠ v1.heap.size := by omega
  clear st1 R0 hb1
  go_wp2_with fail
  refine bodyPost_ret (v := .tuple #[.agg #[.int .i64 0, .int .i64 0, .int .i64 0, .slice none 0 0, .slice none 0 0], .bool false]) (by simp [results, Try.results22, go_sem, *]) rfl ⟨_, _, rfl, ?_, ?_⟩
  · exact lrow_nil _ (by have := B1.out.size; simp [World.setCell]; omega)
  · exact (((((B1.out.setCell (by simp <;> omega) _).setCell (by simp <;> omega) _).setCell (by simp <;> omega) _).setCell (by simp <;> omega) _).setCell (by simp <;> omega) _)
set_option maxRecDepth 100000 in
set_option maxHeartbeats 4000000 in
theorem sfind_yes (D : List Ls) (x : Int) (lo hi : Nat) (v : Value) (w : World) (hr : DRow w lo hi v D) (hh : hi <= w.heap.size) (hv : dokB D = true) :
    Calls Try.prog 22 #[.agg #[v], .int .i64 x] w fun e w' => ∃ ru rv, e = .returned (.tuple #[.agg #[.int .i64 (flv D x).o, .int .i64 (flv D x).s, .int .i64 (flv D x).g, ru, rv], .bool (flo D x).isSome]) /\ LRow w' w.heap.size w'.heap.size ru rv (flv D x).K.length (flv D x).T.length (flat2 (flv D x).K) (flat (flv D x).T) /\ Below w.heap.size w w' := by
  have Hv := Lib.hid hv
  obtain ⟨a, c, us, xs, bs, rfl, X⟩ := hr
  have hm := X.len
  have R0 : Hid (DRow w lo hi (.slice a D.length c) D) := Lib.hid ⟨a, c, us, xs, bs, rfl, X⟩
  obtain ⟨n, hn⟩ : ∃ n, n = D.length := ⟨_, rfl⟩
  rw [<- hn] at R0 hm ⊢
  have HN := Lib.hid hn
  have HX := Lib.hid X
  clear X hn hv
  go_enter Try.func22, Try.ntmps22
  go_wp2_with fail
  go_at_call 14
  refine (sdbok_any D lo hi _ _ (R0.out.below (B := w.heap.size) (by go_grown) (by omega)) (by first | omega | (simp; omega))).mono ?_
  rw [Hv.out]
  rintro e v1 ⟨rfl, hb1⟩
  have sz1 : w.heap.size + 2 <= v1.heap.size := by have hh := hb1.size; simp at hh; omega
  have st1 : Below w.heap.size w v1 := Below.trans (by go_grown) (hb1.mono (by simp <;> omega))
  have c1_0 : v1.cell? ⟨w.heap.size, 0, none⟩ = some (.slice a n c) := by rw [(bcell hb1).1 _ _ (by simp <;> omega), old_box (by simp <;> omega)]; first | (rw [new_at (by simp)]; rfl) | simp
  have c1_1 : v1.cell? ⟨w.heap.size + 1, 0, none⟩ = some (.int .i64 0) := by rw [(bcell hb1).1 _ _ (by simp)]; first | (rw [new_at (by simp)]; rfl) | simp
  have c1_2 : v1.cell? ⟨w.heap.size + 1, 1, none⟩ = some (.int .i64 0) := by rw [(bcell hb1).1 _ _ (by simp)]; first | (rw [new_at (by simp)]; rfl) | simp
  have c1_3 : v1.cell? ⟨w.heap.size + 1, 2, none⟩ = some (.int .i64 0) := by rw [(bcell hb1).1 _ _ (by simp)]; first | (rw [new_at (by simp)]; rfl) | simp
  have c1_4 : v1.cell? ⟨w.heap.size + 1, 3, none⟩ = some (.slice none 0 0) := by rw [(bcell hb1).1 _ _ (by simp)]; first | (rw [new_at (by simp)]; rfl) | simp
  have c1_5 : v1.cell? ⟨w.heap.size + 1, 4, none⟩ = some (.slice none 0 0) := by rw [(bcell hb1).1 _ _ (by simp)]; first | (rw [new_at (by simp)]; rfl) | simp
  have g1_0 : v1.frozen? ⟨w.heap.size + 1, 0, none⟩ = false := by rw [(bcell hb1).2 _ _ (by simp), new_frz (by simp)]
  have g1_1 : v1.frozen? ⟨w.heap.size + 1, 1, none⟩ = false := by rw [(bcell hb1).2 _ _ (by simp), new_frz (by simp)]
  have g1_2 : v1.frozen? ⟨w.heap.size + 1, 2, none⟩ = false := by rw [(bcell hb1).2 _ _ (by simp), new_frz (by simp)]
  have g1_3 : v1.frozen? ⟨w.heap.size + 1, 3, none⟩ = false := by rw [(bcell hb1).2 _ _ (by simp), new_frz (by simp)]
  have g1_4 : v1.frozen? ⟨w.heap.size + 1, 4, none⟩ = false := by rw [(bcell hb1).2 _ _ (by simp), new_frz (by simp)]
  have B1 : Hid (Below w.heap.size w v1) := st1
  have R1_0 : Hid (DRow v1 (lo) (hi) (.slice a n c)  D) := R0.out.below st1 (by omega)
  have d1_0 : w.heap.size < v1.heap.size := by omega
  have e1_0 : w.heap.size ≠ v1.heap.size := by omega
  have d1_1 : w.heap.size + 1 < v1.heap.size := by omega
  have e1_1 : w.heap.size + 1 ≠ v1.heap.size := by omega
  clear st1 R0 hb1
  go_wp2
  go_loop [6] (fun i => ∃ k : Nat, k <= n /\ i = .int .i64 (k : Int) /\ Hid (∀ j l, j < k -> D[j]? = some l -> l.o ≠ x)) (fun i => n - (intOf i).toNat)
  case atStart => exact ⟨0, Nat.zero_le _, rfl, fun j l hj => absurd hj (Nat.not_lt_zero _)⟩
  case round =>
    obtain ⟨k, hk, rfl, HF⟩ := hrel
    by_cases hlt : k < n
    · obtain ⟨p, hp⟩ : ∃ p, D[k]? = some p := ⟨_, List.getElem?_eq_getElem (by have := HN.out; omega)⟩
      obtain ⟨G, rfl, g1, g2, _, g4, _⟩ := HX.out.outer (by have := HN.out; omega)
      have hc := (g4 k p hp).below B1.out (by omega)
      obtain ⟨i1, i2, i3⟩ := HX.out.inner k p hp
      have R1 := Lib.hid (i1.below B1.out (by omega))
      obtain ⟨x1, y1, x2, y2, e1, e2⟩ := i1.slice
      rw [e1, e2] at hc R1
      have hbd := Ls.ok_bd (dokB_get Hv.out hp).1
      obtain ⟨nk, hnk⟩ : ∃ q, q = p.K.length := ⟨_, rfl⟩
      obtain ⟨mk, hmk⟩ : ∃ q, q = p.T.length := ⟨_, rfl⟩
      rw [<- hnk, <- hmk] at hc R1
      have Hnk := Lib.hid hnk
      have Hmk := Lib.hid hmk
      have n1 : nk <= 10 := by rw [hnk]; exact hbd.2.2.2.2.2.2.1
      have n2 : mk <= 6 := by rw [hmk]; exact hbd.2.2.2.2.2.2.2
      obtain ⟨d1, d2, d3, d4, d5⟩ := hc
      have hk0 : (0 : Int) <= (k : Int) := by omega
      have hk1 : (k : Int) < (n : Int) := by omega
      obtain ⟨H0, hH0⟩ : ∃ q, q = (bs k).1 := ⟨_, rfl⟩
      obtain ⟨H1, hH1⟩ : ∃ q, q = (bs k).2 := ⟨_, rfl⟩
      have z1 : H1 <= v1.heap.size := by omega
      rw [<- hH0, <- hH1] at R1
      have Hp := Lib.hid hp
      clear i1 i2 i3 e1 e2 hH0 hH1 hnk hmk hp g4 hbd
      by_cases hx : p.o = x
      · have hfd : flo D x = some p := by rw [flo_yes Hv.out, <- hx]; exact dfind_at Hv.out Hp.out
        have HFD := Lib.hid hfd
        have hxb : (p.o == x) = true := by simp [hx]
        have HXX := Lib.hid hx
        clear hfd hx
        go_wp2_with fail
        go_at_call 58
        refine (scopy_any p.o p.s p.g H0 H1 nk mk _ _ p.K p.T _ Hnk.out.symm Hmk.out.symm R1.out z1 (by omega) (by omega)).mono ?_
        rintro e v2 ⟨ru, rv, rfl, hr1, hb2⟩
        have sz2 : v1.heap.size <= v2.heap.size := hb2.size
        have st2 : Below v1.heap.size v1 v2 := hb2
        have c2_0 : v2.cell? ⟨w.heap.size, 0, none⟩ = some (.slice (some ⟨G, 0, none⟩) n c) := by rw [(bcell st2).1 _ _ (by omega)]; exact c1_0
        have c2_1 : v2.cell? ⟨w.heap.size + 1, 0, none⟩ = some (.int .i64 0) := by rw [(bcell st2).1 _ _ (by omega)]; exact c1_1
        have c2_2 : v2.cell? ⟨w.heap.size + 1, 1, none⟩ = some (.int .i64 0) := by rw [(bcell st2).1 _ _ (by omega)]; exact c1_2
        have c2_3 : v2.cell? ⟨w.heap.size + 1, 2, none⟩ = some (.int .i64 0) := by rw [(bcell st2).1 _ _ (by omega)]; exact c1_3
        have c2_4 : v2.cell? ⟨w.heap.size + 1, 3, none⟩ = some (.slice none 0 0) := by rw [(bcell st2).1 _ _ (by omega)]; exact c1_4
        have c2_5 : v2.cell? ⟨w.heap.size + 1, 4, none⟩ = some (.slice none 0 0) := by rw [(bcell st2).1 _ _ (by omega)]; exact c1_5
        have g2_0 : v2.frozen? ⟨w.heap.size + 1, 0, none⟩ = false := by rw [(bcell st2).2 _ _ (by omega)]; exact g1_0
        have g2_1 : v2.frozen? ⟨w.heap.size + 1, 1, none⟩ = false := by rw [(bcell st2).2 _ _ (by omega)]; exact g1_1
        have g2_2 : v2.frozen? ⟨w.heap.size + 1, 2, none⟩ = false := by rw [(bcell st2).2 _ _ (by omega)]; exact g1_2
        have g2_3 : v2.frozen? ⟨w.heap.size + 1, 3, none⟩ = false := by rw [(bcell st2).2 _ _ (by omega)]; exact g1_3
        have g2_4 : v2.frozen? ⟨w.heap.size + 1, 4, none⟩ = false := by rw [(bcell st2).2 _ _ (by omega)]; exact g1_4
        have B2 : Hid (Below w.heap.size w v2) := B1.out.trans (st2.mono (by omega))
        have R2_0 : Hid (LRow v2 (v1.heap.size) (v2.heap.size) ru rv nk mk (flat2 p.K) (flat p.T)) := Lib.hid hr1
        have d2_0 : w.heap.size < v2.heap.size := by omega
        have e2_0 : w.heap.size ≠ v2.heap.size := by omega
        have d2_1 : w.heap.size + 1 < v2.heap.size := by omega
        have e2_1 : w.heap.size + 1 ≠ v2.heap.size := by omega
        clear d1_0 e1_0 d1_1 e1_1 c1_0 c1_1 c1_2 c1_3 c1_4 c1_5 g1_0 g1_1 g1_2 g1_3 g1_4 B1 st2 hb2
        obtain ⟨ra, rc, sa, sc, rfl, rfl⟩ := R2_0.out.slice
        clear hr1
        go_wp2_with fail
        refine bodyPost_ret (v := .tuple #[.agg #[.int .i64 p.o, .int .i64 p.s, .int .i64 p.g, .slice ra nk rc, .slice sa mk sc], .bool true]) (by simp [results, Try.results22, go_sem, *]) rfl ⟨.slice ra nk rc, .slice sa mk sc, by unfold flv; rw [HFD.out]; rfl, ?_, ?_⟩
        · unfold flv
          rw [HFD.out]
          show LRow _ _ _ _ _ p.K.length p.T.length (flat2 p.K) (flat p.T)
          rw [<- Hnk.out, <- Hmk.out]
          exact ((((((R2_0.out.setCell (.inl (by simp <;> omega)) _).setCell (.inl (by simp <;> omega)) _).setCell (.inl (by simp <;> omega)) _).setCell (.inl (by simp <;> omega)) _).setCell (.inl (by simp <;> omega)) _).wide (by omega) (by simp [World.setCell] <;> omega))
        · exact (((((B2.out.setCell (by simp <;> omega) _).setCell (by simp <;> omega) _).setCell (by simp <;> omega) _).setCell (by simp <;> omega) _).setCell (by simp <;> omega) _)
      · have hxb : (p.o == x) = false := by simp [hx]
        have HF2 : Hid (∀ j l, j < k + 1 -> D[j]? = some l -> l.o ≠ x) := Lib.hid fun j l hj hl => by
          by_cases e : j = k
          · subst e; rw [Hp.out] at hl; obtain rfl := Option.some.inj hl; exact hx
          · exact HF.out j l (by omega) hl
        clear hx
        go_wp2
        go_round
        case rel => exact ⟨k + 1, by omega, by go_num, HF2⟩
        case measure => simp [intOf]; omega
    · have hge : ¬ ((k : Int) < (n : Int)) := by omega
      have hfd : flo D x = none := by rw [flo_yes Hv.out]; exact dfind_none.2 fun i l hi => HF.out i l (by have := (List.getElem?_eq_some_iff.1 hi).1; have := HN.out; omega) hi
      have HFD := Lib.hid hfd
      clear hfd
      go_wp2
      refine bodyPost_ret (v := .tuple #[.agg #[.int .i64 0, .int .i64 0, .int .i64 0, .slice none 0 0, .slice none 0 0], .bool false]) (by simp [results, Try.results22, go_sem, *]) rfl ⟨.slice none 0 0, .slice none 0 0, by unfold flv; rw [HFD.out]; rfl, ?_, ?_⟩
      · unfold flv; rw [HFD.out]; exact lrow_nil _ (by have := B1.out.size; simp [World.setCell] <;> omega)
      · exact (((((B1.out.setCell (by simp <;> omega) _).setCell (by simp <;> omega) _).setCell (by simp <;> omega) _).setCell (by simp <;> omega) _).setCell (by simp <;> omega) _)
end Go.Proofs.Ytfpafjdakipccaa
