/- Walk of the model. -/
import Derived.Test.YtflhbfndfjkfgaaSf
import Derived.Test.YtflhbfndfjkfgaaOi
import Derived.Test.YtflhbfndfjkfgaaGi
namespace Go.Proofs.Ytflhbfndfjkfgaa
open Go.RowKit


theorem fineW_parts {D : List (List Rt)} {x a t : Int} (h : fineW D x a t = true) : fine D a = true ∧ 0 ≤ x ∧ x < D.length ∧ 0 ≤ t ∧ t ≤ 16 := by
  unfold fineW at h
  rw [Bool.and_eq_true, Bool.and_eq_true, inB_iff, inB_iff] at h
  exact ⟨h.1, by omega, by omega, by omega, by omega⟩
theorem walkV_yes {D : List (List Rt)} {x a t : Int} (h : fineW D x a t = true) : walkV D x a t = wlk D a t.toNat x.toNat := by
  unfold walkV
  exact if_pos (fineW_parts h)
theorem walkV_no {D : List (List Rt)} {x a t : Int} (h : fineW D x a t = false) : walkV D x a t = ([], 3) := by
  unfold walkV
  rw [if_neg]
  intro hh
  obtain ⟨h1, h2, h3, h4, h5⟩ := hh
  unfold fineW at h
  rw [h1, Bool.true_and, inB_true h2 (by omega), inB_true h4 h5] at h
  cases h
theorem own_one (w : World) (z : Int) : OwnI w (w.alloc (.cells #[.int .i64 z] 3)) (.slice (some ⟨w.heap.size, 0, none⟩) 1 1) 1 [z] :=
  ⟨(Below.refl _ _).alloc (Nat.le_refl _) _, ⟨rfl, .inr ⟨_, 1, #[.int .i64 z], rfl, Nat.le_refl _, heap_alloc_new w (.cells #[.int .i64 z] 3), Nat.le_refl _, by decide, rfl, by simp [ints]⟩⟩⟩
theorem OwnI.lower {w w1 wr : World} {v : Value} {n : Nat} {Z : List Int} (h : OwnI w1 wr v n Z) (b : Below w.heap.size w w1) : OwnI w wr v n Z := ⟨b.trans (h.below.mono b.size), by
  obtain ⟨h1, h2⟩ := h.row
  refine ⟨h1, ?_⟩
  rcases h2 with h | ⟨g, cap, cur, e, h3, h4⟩
  · exact .inl h
  · exact .inr ⟨g, cap, cur, e, Nat.le_trans b.size h3, h4⟩⟩
theorem walkV_fin {D : List (List Rt)} {x a t c : Int} {n : Nat} {Z : List Int} {e : Ending} {w w' : World} {u : Value} (he : e = .returned (.tuple #[u, .int .i64 c])) (h : walkV D x a t = (Z, c)) (ho : OwnI w w' u n Z) (hn : n = Z.length) (hl : n ≤ 1100000) :
    ∃ rv, e = .returned (.tuple #[rv, .int .i64 (walkV D x a t).2]) ∧ Row 1 w' w.heap.size w'.heap.size rv (walkV D x a t).1.length (walkV D x a t).1 ∧ Below w.heap.size w w' := by
  rw [h]
  subst hn
  exact ⟨u, he, ho.toRow hl, ho.below⟩
/-- How far the model's walk is. -/
structure WkS (D : List (List Rt)) (a : Int) (T x0 : Nat) (t x : Nat) (P : List Int) : Prop where
  eq : wlk D a T x0 = (P ++ (wlk D a t x).1, (wlk D a t x).2)
  lt : x < D.length
  len : P.length + t ≤ 16
theorem WkS.home {D : List (List Rt)} {a : Int} {T x0 t x : Nat} {P : List Int} (h : WkS D a T x0 t x P) (h1 : hopA D a x = 0) : wlk D a T x0 = (P ++ [(x : Int)], 0) := by
  rw [h.eq, wlk_home h1]
theorem WkS.none_ {D : List (List Rt)} {a : Int} {T x0 t x : Nat} {P : List Int} (h : WkS D a T x0 t x P) (h1 : hopA D a x ≠ 0) (h2 : hopA D a x < 0 ∨ (D.length : Int) < hopA D a x) : wlk D a T x0 = (P ++ [(x : Int)], 1) := by
  rw [h.eq, wlk_none h1 h2]
theorem WkS.loop {D : List (List Rt)} {a : Int} {T x0 x : Nat} {P : List Int} (h : WkS D a T x0 0 x P) (h1 : hopA D a x ≠ 0) (h2 : ¬ (hopA D a x < 0 ∨ (D.length : Int) < hopA D a x)) : wlk D a T x0 = (P ++ [(x : Int)], 2) := by
  rw [h.eq, wlk_loop h1 h2]
theorem WkS.step {D : List (List Rt)} {a : Int} {T x0 t x : Nat} {P : List Int} (h : WkS D a T x0 (t + 1) x P) (h1 : hopA D a x ≠ 0) (h2 : ¬ (hopA D a x < 0 ∨ (D.length : Int) < hopA D a x)) : WkS D a T x0 t (hopA D a x - 1).toNat (P ++ [(x : Int)]) := by
  refine ⟨?_, by omega, ?_⟩
  · rw [h.eq, wlk_step h1 h2, List.append_assoc]
    rfl
  · have := h.len
    simp only [List.length_append, List.length_cons, List.length_nil]
    omega
theorem WkS.start (D : List (List Rt)) (a : Int) {T x0 : Nat} (h : x0 < D.length) (ht : T ≤ 16) : WkS D a T x0 T x0 [] := ⟨by simp, h, by simp; exact ht⟩

set_option maxHeartbeats 1000000 in
theorem swalk_no (D : List (List Rt)) (lo hi : Nat) (v : Value) (x a t : Int) (w : World) (hr : TRow w lo hi v D) (hh : hi ≤ w.heap.size) (h : fineW D x a t = false) :
    Calls Try.prog 9 #[v, .int .i64 x, .int .i64 a, .int .i64 t] w fun e w' => ∃ rv, e = .returned (.tuple #[rv, .int .i64 (walkV D x a t).2]) ∧ Row 1 w' w.heap.size w'.heap.size rv (walkV D x a t).1.length (walkV D x a t).1 ∧ Below w.heap.size w w' := by
  have HF := sfine_any D lo hi v x a t w hr hh
  rw [h] at HF
  have HF := Lib.hid HF
  obtain ⟨ad, cp, rfl⟩ := hr.slice
  have hv := walkV_no h
  clear hr h
  go_enter Try.func9, Try.ntmps9
  go_wp2_with fail
  go_at_call 30
  refine HF.out.mono ?_
  rintro e w1 ⟨rfl, hb⟩
  go_wp2_with fail
  refine bodyPost_ret (v := .tuple #[.slice none 0 0, .int .i64 3]) (by simp [results, Try.results9, go_sem]) rfl ?_
  rw [hv]
  exact ⟨_, rfl, Row.empty _ _ _ _ _ _, hb⟩

set_option maxRecDepth 100000 in
set_option maxHeartbeats 4000000 in
theorem swalk_yes (D : List (List Rt)) (lo hi : Nat) (v : Value) (x a t : Int) (w : World) (hr : TRow w lo hi v D) (hh : hi ≤ w.heap.size) (h : fineW D x a t = true) :
    Calls Try.prog 9 #[v, .int .i64 x, .int .i64 a, .int .i64 t] w fun e w' => ∃ rv, e = .returned (.tuple #[rv, .int .i64 (walkV D x a t).2]) ∧ Row 1 w' w.heap.size w'.heap.size rv (walkV D x a t).1.length (walkV D x a t).1 ∧ Below w.heap.size w w' := by
  have HF := sfine_any D lo hi v x a t w hr hh
  rw [h] at HF
  have HF := Lib.hid HF
  obtain ⟨i39, hi3, hz0, hz1, hz2⟩ := info_parts Try.info3
  have I := Lib.hid (And.intro hi3 (And.intro hz0 (And.intro hz1 hz2)))
  have hV := Lib.hid (walkV_yes h)
  obtain ⟨hfn, hx0, hx1, ht0, ht1⟩ := fineW_parts h
  obtain ⟨X, rfl⟩ : ∃ X : Nat, x = (X : Int) := ⟨x.toNat, by omega⟩
  obtain ⟨T, rfl⟩ : ∃ T : Nat, t = (T : Int) := ⟨t.toNat, by omega⟩
  have HFN := Lib.hid hfn
  have hl10 := (fine_all hfn).2.1
  have HS0 : Hid (WkS D a T X T X []) := Lib.hid (WkS.start D a (by omega) (by omega))
  have hT : T ≤ 16 := by omega
  obtain ⟨ad, cp, us, bs, rfl, XX⟩ := hr
  have HX := Lib.hid XX
  obtain ⟨n, hn⟩ : ∃ n, n = D.length := ⟨_, rfl⟩
  have HN := Lib.hid hn
  rw [← hn] at hl10 HF ⊢
  have hw0 : Hid (Below w.heap.size w w) := Below.refl _ _
  rw [show ((X : Int)).toNat = X from rfl, show ((T : Int)).toNat = T from rfl] at hV
  have hXn : X < D.length := by omega
  clear h hfn XX hn hx0 hx1 ht0 ht1
  go_enter Try.func9, Try.ntmps9
  go_wp2_with fail
  go_at_call 30
  refine HF.out.mono ?_
  rintro e w1 ⟨rfl, hb1⟩
  have HB1 := Lib.hid hb1
  clear HF hb1
  go_wp2_with fail
  have HW0 : Hid (OwnI w (w1.alloc (.cells #[.int .i64 (X : Int)] 3)) (.slice (some ⟨w1.heap.size, 0, none⟩) 1 1) 1 [(X : Int)]) := Lib.hid ((own_one w1 (X : Int)).lower HB1.out)
  clear HB1
  go_loopw [3, 10, 11] (fun tt u at_ wr => ∃ (t x : Nat) (P : List Int), tt = .int .i64 (t : Int) ∧ at_ = .int .i64 (x : Int) ∧ Hid (WkS D a T X t x P) ∧ Hid (OwnI w wr u (P.length + 1) (P ++ [(x : Int)]))) (fun tt _ _ _ => (intOf tt).toNat)
  case atStart => exact ⟨T, X, [], rfl, rfl, HS0, HW0⟩
  case round =>
    clear HW0 HS0
    obtain ⟨t, x, P, rfl, rfl, HS, HO⟩ := hrel
    have hxl := HS.out.lt
    have hPl := HS.out.len
    obtain ⟨g, cap, rfl⟩ := HO.out.form (by omega)
    have hxn : x < n := by have := HN.out; omega
    obtain ⟨p, hp⟩ : ∃ p, D[x]? = some p := ⟨_, List.getElem?_eq_getElem hxl⟩
    have hB := Lib.hid HO.out.below
    obtain ⟨G, rfl, g1, g2, _, g4, _⟩ := HX.out.outer (by omega)
    have hsz := hB.out.size
    have d0 : wr.cell? ⟨G, x, none⟩ = some (us x) := by rw [hB.out.cell (p := ⟨G, x, none⟩) (show G < w.heap.size by omega)]; exact g4 x p hp
    obtain ⟨i1, i2, i3⟩ := HX.out.inner x p hp
    have R1 := Lib.hid (i1.below hB.out (by omega))
    obtain ⟨x1, y1, e1⟩ := i1.slice
    rw [e1] at d0 R1
    have hk0 : (0 : Int) ≤ (x : Int) := by omega
    have hk1 : (x : Int) < (n : Int) := by omega
    have hGw : G < wr.heap.size := by omega
    obtain ⟨H1, hH1⟩ : ∃ q, q = (bs x).2 := ⟨_, rfl⟩
    have z1 : H1 ≤ wr.heap.size := by omega
    rw [← hH1] at R1
    have hop : hopO (bestO p a) = hopA D a x := by unfold hopA; rw [List.getD_eq_getElem?_getD, hp]; rfl
    have hbd := hopA_bounds HFN.out hxl
    obtain ⟨h, hh⟩ : ∃ h, h = hopA D a x := ⟨_, rfl⟩
    rw [← hh] at hop hbd
    have HH := Lib.hid hh
    clear g4 i1 i2 i3 e1 hH1 hp hh hB hxl
    go_wp2_with fail
    go_at_call 31
    refine (shop_any _ _ p.length _ p a wr rfl R1.out z1).mono ?_
    rw [hop]
    rintro e w9 ⟨rfl, hb9⟩
    have HO9 : Hid (OwnI w w9 (.slice (some ⟨g, 0, none⟩) (P.length + 1) cap) (P.length + 1) (P ++ [(x : Int)])) := Lib.hid (HO.out.grow hb9)
    clear hb9 HO hop R1 d0
    by_cases q0 : h = 0
    · have HE : Hid (wlk D a T X = (P ++ [(x : Int)], 0)) := Lib.hid (HS.out.home (by rw [← HH.out]; exact q0))
      subst q0
      clear HH
      go_wp2_with fail
      refine bodyPost_ret (v := .tuple #[.slice (some ⟨g, 0, none⟩) (P.length + 1) cap, .int .i64 0]) (by simp [results, Try.results9, go_sem]) rfl ?_
      exact walkV_fin rfl (hV.out.trans HE.out) HO9.out (by simp) (by omega)
    · have r0 : (h == 0) = false := by simp [q0]
      by_cases q1 : h < 0
      · have HE : Hid (wlk D a T X = (P ++ [(x : Int)], 1)) := Lib.hid (HS.out.none_ (by rw [← HH.out]; exact q0) (.inl (by rw [← HH.out]; exact q1)))
        clear HH
        go_wp2_with fail
        refine bodyPost_ret (v := .tuple #[.slice (some ⟨g, 0, none⟩) (P.length + 1) cap, .int .i64 1]) (by simp [results, Try.results9, go_sem]) rfl ?_
        exact walkV_fin rfl (hV.out.trans HE.out) HO9.out (by simp) (by omega)
      · by_cases q2 : (n : Int) < h
        · have HE : Hid (wlk D a T X = (P ++ [(x : Int)], 1)) := Lib.hid (HS.out.none_ (by rw [← HH.out]; exact q0) (.inr (by rw [← HH.out, ← HN.out]; exact q2)))
          clear HH
          go_wp2_with fail
          refine bodyPost_ret (v := .tuple #[.slice (some ⟨g, 0, none⟩) (P.length + 1) cap, .int .i64 1]) (by simp [results, Try.results9, go_sem]) rfl ?_
          exact walkV_fin rfl (hV.out.trans HE.out) HO9.out (by simp) (by omega)
        · have HQ : Hid (¬ (hopA D a x < 0 ∨ (D.length : Int) < hopA D a x)) := Lib.hid (by rw [← HH.out, ← HN.out]; omega)
          have HQ0 : Hid (hopA D a x ≠ 0) := Lib.hid (by rw [← HH.out]; exact q0)
          rcases t with _ | t
          · have HE : Hid (wlk D a T X = (P ++ [(x : Int)], 2)) := Lib.hid (HS.out.loop HQ0.out HQ.out)
            clear HH HQ HQ0 HS
            go_wp2_with fail
            refine bodyPost_ret (v := .tuple #[.slice (some ⟨g, 0, none⟩) (P.length + 1) cap, .int .i64 2]) (by simp [results, Try.results9, go_sem]) rfl ?_
            exact walkV_fin rfl (hV.out.trans HE.out) HO9.out (by simp) (by omega)
          · have HS2 : Hid (WkS D a T X t (h - 1).toNat (P ++ [(x : Int)])) := Lib.hid (by rw [HH.out]; exact HS.out.step HQ0.out HQ.out)
            have r1 : (((t + 1 : Nat) : Int) == 0) = false := by simp; omega
            have e1 : IntKind.i64.wrap (((t + 1 : Nat) : Int) - 1) = (t : Int) := by rw [IntWalk.i64_in _ (by omega)]; omega
            obtain ⟨y, hy⟩ : ∃ y : Nat, h - 1 = (y : Int) := ⟨(h - 1).toNat, by omega⟩
            rw [hy] at HS2
            have e2 : IntKind.i64.wrap (h - 1) = (y : Int) := by rw [IntWalk.i64_in _ (by omega)]; exact hy
            have Hw := Lib.hid HO9.out.row
            have hP2 : P.length + 1 ≤ 17 := by omega
            have hs9 := HO9.out.below.size
            clear HH HQ HQ0 HS hy
            go_wp2_with (at_builtin; refine wpList_append_lies _ rfl _ _ 24 rfl w.heap.size 3 i39 (.int .i64 0) 1 8 Try.underlying24 I.out.1 I.out.2.1 I.out.2.2.1 I.out.2.2.2 rfl (by decide) _ (P.length + 1) (ints (P ++ [(x : Int)])) rfl (Hw.out.alloc _) ⟨w9.heap.size, 0, none⟩ 1 1 [.int .i64 (y : Int)] rfl rfl ?d0 (int_one _) (by decide) ?d1 ?d2 ?d3 _ rfl ?_)
            case d0 => exact fun j u hj => cell_one_new _ _ 3 rfl j u hj
            case d1 => unfold maxLen; omega
            case d2 => omega
            case d3 => simp; omega
            intro g4 cap4 w4 hown4 hgrow4 hat4 hlt4
            have HF : Hid (OwnI w w4 (.slice (some ⟨g4, 0, none⟩) (P.length + 1 + 1) cap4) (P.length + 1 + 1) (P ++ [(x : Int)] ++ [(y : Int)])) := Lib.hid ((HO9.out.grow ((Below.refl _ _).alloc (Nat.le_refl _) _)).app hgrow4 hown4)
            clear hown4 hgrow4 hat4 hlt4 Hw HO9
            go_wp2_with fail
            go_roundw
            case rel => exact ⟨t, y, P ++ [(x : Int)], rfl, rfl, HS2, by rw [List.length_append]; exact HF⟩
            case measure => simp [intOf]

theorem swalk_any (D : List (List Rt)) (lo hi : Nat) (v : Value) (x a t : Int) (w : World) (hr : TRow w lo hi v D) (hh : hi ≤ w.heap.size) :
    Calls Try.prog 9 #[v, .int .i64 x, .int .i64 a, .int .i64 t] w fun e w' => ∃ rv, e = .returned (.tuple #[rv, .int .i64 (walkV D x a t).2]) ∧ Row 1 w' w.heap.size w'.heap.size rv (walkV D x a t).1.length (walkV D x a t).1 ∧ Below w.heap.size w w' := by
  cases h : fineW D x a t with
  | true => exact swalk_yes D lo hi v x a t w hr hh h
  | false => exact swalk_no D lo hi v x a t w hr hh h

end Go.Proofs.Ytflhbfndfjkfgaa
