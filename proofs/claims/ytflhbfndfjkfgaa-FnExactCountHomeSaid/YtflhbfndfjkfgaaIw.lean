/- Walk of the program. -/
import Derived.Test.YtflhbfndfjkfgaaWw
import Derived.Test.YtflhbfndfjkfgaaSe
import Derived.BigQuiet
import Derived.Deep.QuietTactic
namespace Go.Proofs.Ytflhbfndfjkfgaa
open Go.RowKit


set_option maxHeartbeats 1000000 in
theorem iwalk_no0 (D : List (List Rt)) (lo hi : Nat) (v : Value) (x a t : Int) (w : World) (hr : TRow w lo hi v D) (hh : hi ≤ w.heap.size) (hf : fine D a = false) (hv : walkV D x a t = ([], 3)) :
    Calls Try.prog 11 #[v, .int .i64 x, .int .i64 a, .int .i64 t] w fun e w' => ∃ rv, e = .returned (.tuple #[rv, .int .i64 (walkV D x a t).2]) ∧ Row 1 w' w.heap.size w'.heap.size rv (walkV D x a t).1.length (walkV D x a t).1 ∧ Below w.heap.size w w' := by
  have HF := icar_any D lo hi v a w hr hh
  rw [hf] at HF
  have HF := Lib.hid HF
  obtain ⟨n, hn⟩ : ∃ n, n = D.length := ⟨_, rfl⟩
  obtain ⟨ad, cp, rfl⟩ := hr.slice
  rw [← hn] at HF ⊢
  clear hr hf hn
  go_enter Try.func11, Try.ntmps11
  go_wp2_with fail
  go_at_call 33
  refine HF.out.mono ?_
  rintro e w1 ⟨rfl, hb⟩
  go_wp2_with fail
  refine bodyPost_ret (v := .tuple #[.slice none 0 0, .int .i64 3]) (by simp [results, Try.results11, go_sem]) rfl ?_
  rw [hv]
  exact ⟨_, rfl, Row.empty _ _ _ _ _ _, hb⟩

set_option maxHeartbeats 1000000 in
theorem iwalk_no1 (D : List (List Rt)) (lo hi : Nat) (v : Value) (x a t : Int) (w : World) (hr : TRow w lo hi v D) (hh : hi ≤ w.heap.size) (hf : fine D a = true) (hx : x < 0) (hv : walkV D x a t = ([], 3)) :
    Calls Try.prog 11 #[v, .int .i64 x, .int .i64 a, .int .i64 t] w fun e w' => ∃ rv, e = .returned (.tuple #[rv, .int .i64 (walkV D x a t).2]) ∧ Row 1 w' w.heap.size w'.heap.size rv (walkV D x a t).1.length (walkV D x a t).1 ∧ Below w.heap.size w w' := by
  have HF := icar_any D lo hi v a w hr hh
  rw [hf] at HF
  have HF := Lib.hid HF
  obtain ⟨n, hn⟩ : ∃ n, n = D.length := ⟨_, rfl⟩
  obtain ⟨ad, cp, rfl⟩ := hr.slice
  rw [← hn] at HF ⊢
  clear hr hf hn
  go_enter Try.func11, Try.ntmps11
  go_wp2_with fail
  go_at_call 33
  refine HF.out.mono ?_
  rintro e w1 ⟨rfl, hb⟩
  go_wp2_with fail
  refine bodyPost_ret (v := .tuple #[.slice none 0 0, .int .i64 3]) (by simp [results, Try.results11, go_sem]) rfl ?_
  rw [hv]
  exact ⟨_, rfl, Row.empty _ _ _ _ _ _, hb⟩

set_option maxHeartbeats 1000000 in
theorem iwalk_no2 (D : List (List Rt)) (lo hi : Nat) (v : Value) (x a t : Int) (w : World) (hr : TRow w lo hi v D) (hh : hi ≤ w.heap.size) (hf : fine D a = true) (hx0 : ¬ x < 0) (hx : (D.length : Int) ≤ x) (hv : walkV D x a t = ([], 3)) :
    Calls Try.prog 11 #[v, .int .i64 x, .int .i64 a, .int .i64 t] w fun e w' => ∃ rv, e = .returned (.tuple #[rv, .int .i64 (walkV D x a t).2]) ∧ Row 1 w' w.heap.size w'.heap.size rv (walkV D x a t).1.length (walkV D x a t).1 ∧ Below w.heap.size w w' := by
  have HF := icar_any D lo hi v a w hr hh
  rw [hf] at HF
  have HF := Lib.hid HF
  obtain ⟨n, hn⟩ : ∃ n, n = D.length := ⟨_, rfl⟩
  obtain ⟨ad, cp, rfl⟩ := hr.slice
  rw [← hn] at HF hx ⊢
  clear hr hf hn
  go_enter Try.func11, Try.ntmps11
  go_wp2_with fail
  go_at_call 33
  refine HF.out.mono ?_
  rintro e w1 ⟨rfl, hb⟩
  go_wp2_with fail
  refine bodyPost_ret (v := .tuple #[.slice none 0 0, .int .i64 3]) (by simp [results, Try.results11, go_sem]) rfl ?_
  rw [hv]
  exact ⟨_, rfl, Row.empty _ _ _ _ _ _, hb⟩

set_option maxHeartbeats 1000000 in
theorem iwalk_no3 (D : List (List Rt)) (lo hi : Nat) (v : Value) (x a t : Int) (w : World) (hr : TRow w lo hi v D) (hh : hi ≤ w.heap.size) (hf : fine D a = true) (hx0 : ¬ x < 0) (hx : ¬ (D.length : Int) ≤ x) (ht : t < 0) (hv : walkV D x a t = ([], 3)) :
    Calls Try.prog 11 #[v, .int .i64 x, .int .i64 a, .int .i64 t] w fun e w' => ∃ rv, e = .returned (.tuple #[rv, .int .i64 (walkV D x a t).2]) ∧ Row 1 w' w.heap.size w'.heap.size rv (walkV D x a t).1.length (walkV D x a t).1 ∧ Below w.heap.size w w' := by
  have HF := icar_any D lo hi v a w hr hh
  rw [hf] at HF
  have HF := Lib.hid HF
  obtain ⟨n, hn⟩ : ∃ n, n = D.length := ⟨_, rfl⟩
  obtain ⟨ad, cp, rfl⟩ := hr.slice
  rw [← hn] at HF hx ⊢
  clear hr hf hn
  go_enter Try.func11, Try.ntmps11
  go_wp2_with fail
  go_at_call 33
  refine HF.out.mono ?_
  rintro e w1 ⟨rfl, hb⟩
  go_wp2_with fail
  refine bodyPost_ret (v := .tuple #[.slice none 0 0, .int .i64 3]) (by simp [results, Try.results11, go_sem]) rfl ?_
  rw [hv]
  exact ⟨_, rfl, Row.empty _ _ _ _ _ _, hb⟩

set_option maxHeartbeats 1000000 in
theorem iwalk_no4 (D : List (List Rt)) (lo hi : Nat) (v : Value) (x a t : Int) (w : World) (hr : TRow w lo hi v D) (hh : hi ≤ w.heap.size) (hf : fine D a = true) (hx0 : ¬ x < 0) (hx : ¬ (D.length : Int) ≤ x) (ht0 : ¬ t < 0) (ht : 16 < t) (hv : walkV D x a t = ([], 3)) :
    Calls Try.prog 11 #[v, .int .i64 x, .int .i64 a, .int .i64 t] w fun e w' => ∃ rv, e = .returned (.tuple #[rv, .int .i64 (walkV D x a t).2]) ∧ Row 1 w' w.heap.size w'.heap.size rv (walkV D x a t).1.length (walkV D x a t).1 ∧ Below w.heap.size w w' := by
  have HF := icar_any D lo hi v a w hr hh
  rw [hf] at HF
  have HF := Lib.hid HF
  obtain ⟨n, hn⟩ : ∃ n, n = D.length := ⟨_, rfl⟩
  obtain ⟨ad, cp, rfl⟩ := hr.slice
  rw [← hn] at HF hx ⊢
  clear hr hf hn
  go_enter Try.func11, Try.ntmps11
  go_wp2_with fail
  go_at_call 33
  refine HF.out.mono ?_
  rintro e w1 ⟨rfl, hb⟩
  go_wp2_with fail
  refine bodyPost_ret (v := .tuple #[.slice none 0 0, .int .i64 3]) (by simp [results, Try.results11, go_sem]) rfl ?_
  rw [hv]
  exact ⟨_, rfl, Row.empty _ _ _ _ _ _, hb⟩

theorem pk_new {w w1 : World} (hb : Below w.heap.size w w1) (tv : Value) (a : Int) (T x0 : Nat) : PkS w ((w1.alloc (.cells #[.int .i64 (x0 : Int)] 3)).alloc (.cells #[tv, .int .i64 a, .int .i64 (T : Int), .slice (some ⟨w1.heap.size, 0, none⟩) 1 1] 60)) (w1.heap.size + 1) w1.heap.size 1 tv a T 1 [(x0 : Int)] where
  own := ((own_one w1 (x0 : Int)).lower hb).grow ((Below.refl _ _).alloc (Nat.le_refl _) _)
  lo := by have := hb.size; omega
  hi := by simp
  ne := by omega
  c0 := by rw [show w1.heap.size + 1 = (w1.alloc (.cells #[.int .i64 (x0 : Int)] 3)).heap.size by simp]; simp
  c1 := by rw [show w1.heap.size + 1 = (w1.alloc (.cells #[.int .i64 (x0 : Int)] 3)).heap.size by simp]; simp
  c2 := by rw [show w1.heap.size + 1 = (w1.alloc (.cells #[.int .i64 (x0 : Int)] 3)).heap.size by simp]; simp
  c3 := by rw [show w1.heap.size + 1 = (w1.alloc (.cells #[.int .i64 (x0 : Int)] 3)).heap.size by simp]; simp
  frz o := by rw [show w1.heap.size + 1 = (w1.alloc (.cells #[.int .i64 (x0 : Int)] 3)).heap.size by simp]; simp

set_option maxRecDepth 100000 in
set_option maxHeartbeats 4000000 in
theorem iwalk_yes (D : List (List Rt)) (lo hi : Nat) (v : Value) (x a t : Int) (w : World) (hr : TRow w lo hi v D) (hh : hi ≤ w.heap.size) (h : fineW D x a t = true) :
    Calls Try.prog 11 #[v, .int .i64 x, .int .i64 a, .int .i64 t] w fun e w' => ∃ rv, e = .returned (.tuple #[rv, .int .i64 (walkV D x a t).2]) ∧ Row 1 w' w.heap.size w'.heap.size rv (walkV D x a t).1.length (walkV D x a t).1 ∧ Below w.heap.size w w' := by
  have HF := icar_any D lo hi v a w hr hh
  have hV := Lib.hid (walkV_yes h)
  obtain ⟨hfn, hx0, hx1, ht0, ht1⟩ := fineW_parts h
  rw [hfn] at HF
  have HF := Lib.hid HF
  obtain ⟨X, rfl⟩ : ∃ X : Nat, x = (X : Int) := ⟨x.toNat, by omega⟩
  obtain ⟨T, rfl⟩ : ∃ T : Nat, t = (T : Int) := ⟨t.toNat, by omega⟩
  rw [show ((X : Int)).toNat = X from rfl, show ((T : Int)).toNat = T from rfl] at hV
  have hXD : X < D.length := by omega
  have hT : T ≤ 16 := by omega
  have HPW : Hid (∀ (w1 : World), Below w.heap.size w w1 → Calls Try.prog 34 #[.pointer (some ⟨w1.heap.size + 1, 0, none⟩)] ((w1.alloc (.cells #[.int .i64 (X : Int)] 3)).alloc (.cells #[v, .int .i64 a, .int .i64 (T : Int), .slice (some ⟨w1.heap.size, 0, none⟩) 1 1] 60)) fun e w' => ∃ sa sc n, e = .returned (.agg #[.slice sa n sc, .int .i64 (wlk D a T X).2]) ∧ OwnI w w' (.slice sa n sc) n (wlk D a T X).1 ∧ n ≤ 17) :=
    Lib.hid (fun w1 hb => pwalk_any D lo hi v a w _ _ _ 1 T X hr hh hfn hXD hT (pk_new hb v a T X))
  obtain ⟨n, hn⟩ : ∃ n, n = D.length := ⟨_, rfl⟩
  obtain ⟨ad, cp, rfl⟩ := hr.slice
  rw [← hn] at HF HPW hx1 ⊢
  have r0 : ¬ (X : Int) < 0 := by omega
  have r1 : ¬ (n : Int) ≤ (X : Int) := by omega
  have r2 : ¬ (T : Int) < 0 := by omega
  have r3 : ¬ (16 : Int) < (T : Int) := by omega
  clear hr hfn hn h hx0 hx1 ht0 ht1
  go_enter Try.func11, Try.ntmps11
  go_wp2_with fail
  go_at_call 33
  refine HF.out.mono ?_
  rintro e w1 ⟨rfl, hb⟩
  have HB := Lib.hid hb
  clear hb HF
  go_wp2_with fail
  go_at_call 34
  refine (HPW.out w1 HB.out).mono ?_
  rintro e w2 ⟨sa, sc, n2, rfl, ho, hn2⟩
  have HO := Lib.hid ho
  obtain ⟨cd, hcd⟩ : ∃ c, c = (wlk D a T X).2 := ⟨_, rfl⟩
  rw [← hcd]
  have HC := Lib.hid hcd
  clear ho hcd HPW
  go_wp2_with fail
  go_quiet (fail)
  go_wp2_with fail
  refine bodyPost_ret (v := .tuple #[.slice sa n2 sc, .int .i64 cd]) (by simp [results, Try.results11, go_sem]) rfl ?_
  have hn3 : n2 = (wlk D a T X).1.length := by have h := HO.out.row.1; rw [ints_len] at h; omega
  exact walkV_fin rfl (show walkV D (X : Int) a (T : Int) = ((wlk D a T X).1, cd) by rw [hV.out, HC.out]) ((HO.out.grow ((Below.refl _ _).alloc (Nat.le_refl _) _)).drewN _) hn3 (by omega)

theorem iwalk_any (D : List (List Rt)) (lo hi : Nat) (v : Value) (x a t : Int) (w : World) (hr : TRow w lo hi v D) (hh : hi ≤ w.heap.size) :
    Calls Try.prog 11 #[v, .int .i64 x, .int .i64 a, .int .i64 t] w fun e w' => ∃ rv, e = .returned (.tuple #[rv, .int .i64 (walkV D x a t).2]) ∧ Row 1 w' w.heap.size w'.heap.size rv (walkV D x a t).1.length (walkV D x a t).1 ∧ Below w.heap.size w w' := by
  cases h : fineW D x a t with
  | true => exact iwalk_yes D lo hi v x a t w hr hh h
  | false =>
    have hv := walkV_no h
    cases hf : fine D a with
    | false => exact iwalk_no0 D lo hi v x a t w hr hh hf hv
    | true =>
      unfold fineW at h
      rw [hf, Bool.true_and] at h
      by_cases h1 : x < 0
      · exact iwalk_no1 D lo hi v x a t w hr hh hf h1 hv
      · by_cases h2 : (D.length : Int) ≤ x
        · exact iwalk_no2 D lo hi v x a t w hr hh hf h1 h2 hv
        · rw [inB_true (by omega) (by omega), Bool.true_and] at h
          by_cases h3 : t < 0
          · exact iwalk_no3 D lo hi v x a t w hr hh hf h1 h2 h3 hv
          · by_cases h4 : 16 < t
            · exact iwalk_no4 D lo hi v x a t w hr hh hf h1 h2 h3 h4 hv
            · rw [inB_true (by omega) (by omega)] at h
              cases h

end Go.Proofs.Ytflhbfndfjkfgaa
