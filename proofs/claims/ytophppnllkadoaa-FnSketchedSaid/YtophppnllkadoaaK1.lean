/- Which sketches are valid: the program. -/
import Derived.Test.YtophppnllkadoaaKb
namespace Go.Proofs.Ytophppnllkadoaa
open Go.RowKit

/-- The sum of a list. -/
def sumL : List Int → Int
  | [] => 0
  | x :: l => x + sumL l
theorem sumL_snoc : ∀ (l : List Int) (x : Int), sumL (l ++ [x]) = sumL l + x
  | [], x => by simp [sumL]
  | y :: l, x => by show y + sumL (l ++ [x]) = y + sumL l + x; rw [sumL_snoc l x]; omega
theorem sumL_take {l : List Int} {k : Nat} {x : Int} (h : l[k]? = some x) : sumL (l.take (k + 1)) = sumL (l.take k) + x := by rw [take_snoc3 h, sumL_snoc]
theorem sumL_nonneg : ∀ {l : List Int}, (∀ x ∈ l, 0 ≤ x) → 0 ≤ sumL l
  | [], _ => Int.le_refl _
  | x :: l, h => by
    have h1 := h x List.mem_cons_self
    have h2 := sumL_nonneg (l := l) fun y hy => h y (List.mem_cons_of_mem _ hy)
    show 0 ≤ x + sumL l
    omega
theorem sumL_mem : ∀ {l : List Int}, (∀ x ∈ l, 0 ≤ x) → ∀ x ∈ l, x ≤ sumL l
  | [], _, x, hx => by simp at hx
  | y :: l, h, x, hx => by
    have h1 := h y List.mem_cons_self
    have h2 : ∀ z ∈ l, 0 ≤ z := fun z hz => h z (List.mem_cons_of_mem _ hz)
    have h3 := sumL_nonneg h2
    show x ≤ y + sumL l
    rcases List.mem_cons.1 hx with rfl | hx
    · omega
    · have := sumL_mem h2 x hx; omega
/-- A row of a sketch of total t. -/
def RowP (l : List Int) (t : Int) : Prop := (∀ x ∈ l, 0 ≤ x) ∧ sumL l = t
theorem RowP.le {l : List Int} {t : Int} (h : RowP l t) {k : Nat} {x : Int} (hx : l[k]? = some x) : 0 ≤ x ∧ x ≤ t := by
  have hm := List.mem_of_getElem? hx
  exact ⟨h.1 x hm, by rw [← h.2]; exact sumL_mem h.1 x hm⟩
/-- What the program's adding up answers. -/
def auP : List Int → Int → Bool
  | [], t => decide (t = 0)
  | x :: l, t => decide (0 ≤ x) && (decide (x ≤ t) && auP l (t - x))
theorem auP_iff : ∀ (l : List Int) (t : Int), auP l t = true ↔ RowP l t
  | [], t => by
    unfold auP RowP
    rw [decide_eq_true_iff]
    exact ⟨fun h => ⟨fun x hx => by simp at hx, h.symm⟩, fun h => h.2.symm⟩
  | x :: l, t => by
    unfold auP
    rw [Bool.and_eq_true, Bool.and_eq_true, decide_eq_true_iff, decide_eq_true_iff, auP_iff l (t - x)]
    constructor
    · rintro ⟨h1, _, h3, h4⟩
      exact ⟨fun y hy => (List.mem_cons.1 hy).elim (fun e => e ▸ h1) (h3 y), by show x + sumL l = t; omega⟩
    · rintro ⟨h1, h2⟩
      have h0 := h1 x List.mem_cons_self
      have h3 : ∀ y ∈ l, 0 ≤ y := fun y hy => h1 y (List.mem_cons_of_mem _ hy)
      have h4 := sumL_nonneg h3
      have h5 : x + sumL l = t := h2
      exact ⟨h0, by omega, h3, by omega⟩
/-- Whether a sketch is valid: its total and its rows. -/
def SkP (t : Int) (D : List (List Int)) : Prop := D.length = 4 ∧ t ≤ 1000000000000 ∧ ∀ (i : Nat) (l : List Int), D[i]? = some l → l.length = 16 ∧ RowP l t
noncomputable def skB (t : Int) (D : List (List Int)) : Bool := @decide (SkP t D) (Classical.propDecidable _)
theorem skB_iff {t : Int} {D : List (List Int)} : skB t D = true ↔ SkP t D := by unfold skB; exact @decide_eq_true_iff _ (Classical.propDecidable _)
theorem skB_no {t : Int} {D : List (List Int)} (h : ¬ SkP t D) : skB t D = false := by rw [Bool.eq_false_iff, ne_eq, skB_iff]; exact h
theorem SkP.tot {t : Int} {D : List (List Int)} (h : SkP t D) : 0 ≤ t := by
  obtain ⟨l, hl⟩ : ∃ l, D[0]? = some l := ⟨_, List.getElem?_eq_getElem (by rw [h.1]; decide)⟩
  obtain ⟨_, h1, h2⟩ := h.2.2 0 l hl
  rw [← h2]
  exact sumL_nonneg h1
theorem skB_len {t : Int} {D : List (List Int)} (h : D.length ≠ 4) : skB t D = false := skB_no fun s => h s.1
theorem skB_big {t : Int} {D : List (List Int)} (h : 1000000000000 < t) : skB t D = false := skB_no fun s => by have := s.2.1; omega
theorem skB_neg {t : Int} {D : List (List Int)} (h : t < 0) : skB t D = false := skB_no fun s => by have := s.tot; omega
theorem skB_row {t : Int} {D : List (List Int)} {i : Nat} {l : List Int} (hl : D[i]? = some l) (h : ¬ (l.length = 16 ∧ RowP l t)) : skB t D = false := skB_no fun s => h (s.2.2 i l hl)
theorem sumL_lt {l : List Int} {t : Int} (h : ∀ x ∈ l, 0 ≤ x ∧ x ≤ t) : 0 ≤ sumL l ∧ sumL l ≤ (l.length : Int) * t := by
  induction l with
  | nil => exact ⟨Int.le_refl _, by simp [sumL]⟩
  | cons x l ih =>
    have h1 := h x List.mem_cons_self
    have h2 := ih fun y hy => h y (List.mem_cons_of_mem _ hy)
    show 0 ≤ x + sumL l ∧ x + sumL l ≤ ((l.length + 1 : Nat) : Int) * t
    push_cast
    rw [Int.add_mul]
    omega

theorem KRow.len {w : World} {lo hi n : Nat} {v : Value} {D : List (List Int)} (h : KRow w lo hi v n D) : n ≤ 1100000 := by rw [← h.2]; exact h.1.len
theorem KRow.cell {w : World} {lo hi n c : Nat} {a : Option Addr} {D : List (List Int)} (h : KRow w lo hi (.slice a n c) n D) {i : Nat} {l : List Int} (hl : D[i]? = some l) :
    ∃ (G : Nat) (x : Option Addr) (y : Nat), a = some ⟨G, 0, none⟩ ∧ lo ≤ G ∧ G < hi ∧ w.cell? ⟨G, i, none⟩ = some (.slice x l.length y) ∧ Row 1 w lo hi (.slice x l.length y) l.length l := by
  obtain ⟨⟨a', c', us, bs, e, X⟩, hn⟩ := h
  simp only [Value.slice.injEq] at e
  obtain ⟨rfl, _, _⟩ := e
  obtain ⟨G, g0, g1, g2, g3, g4, g5⟩ := X.outer (by have := lt_of_at hl; omega)
  obtain ⟨r1, r2, r3⟩ := X.inner i l hl
  obtain ⟨x, y, e⟩ := r1.slice
  have hc := g4 i l hl
  rw [e] at hc r1
  exact ⟨G, x, y, g0, g1, g2, hc, r1.wide r2 r3⟩
theorem row1_cell {w : World} {lo hi n c : Nat} {a : Option Addr} {l : List Int} (h : Row 1 w lo hi (.slice a n c) n l) {i : Nat} {x : Int} (hx : l[i]? = some x) : ∃ g, a = some ⟨g, 0, none⟩ ∧ lo ≤ g ∧ g < hi ∧ w.cell? ⟨g, i, none⟩ = some (.int .i64 x) := by
  rcases h with ⟨h0, ⟨e, _⟩ | ⟨g, cap, e, h1, h2, _, h4, _⟩⟩
  · have := lt_of_at hx; omega
  · simp only [Value.slice.injEq] at e
    exact ⟨g, e.1, h1, h2, h4 _ _ hx⟩

set_option maxRecDepth 100000 in
set_option maxHeartbeats 4000000 in
theorem aut_any (lo hi n c : Nat) (a : Option Addr) (l : List Int) (t : Int) (w : World) (hr : Row 1 w lo hi (.slice a n c) n l) (ht : t ≤ 1000000000000) (ht2 : -9223372036854775808 ≤ t) :
    Calls Try.prog 65 #[.slice a n c, .int .i64 t] w fun e w' => e = .returned (.bool (auP l t)) ∧ w = w' := by
  have hn : l.length = n := by have := hr.1; omega
  have hm : n ≤ 1100000 := by obtain ⟨_, _, _, h, _⟩ := hr.opened; exact h
  have HN := Lib.hid hn
  have HR := Lib.hid hr
  clear hn hr
  go_enter Try.func65, Try.ntmps65
  go_wp2
  go_loopw [1, 9] (fun s i wr => ∃ (k : Nat) (z : Int), k ≤ n ∧ i = .int .i64 (k : Int) ∧ s = .int .i64 z ∧ z ≤ 1000000000000 ∧ -9223372036854775808 ≤ z ∧ Hid (auP l t = auP (l.drop k) z) ∧ w = wr) (fun _ i _ => n - (intOf i).toNat)
  case atStart => exact ⟨0, t, Nat.zero_le _, rfl, rfl, ht, ht2, rfl, rfl⟩
  case round =>
    clear ht ht2
    obtain ⟨k, z, hk, rfl, rfl, hz1, hz2, hE, rfl⟩ := hrel
    by_cases hlt : k < n
    case neg =>
      obtain rfl : k = n := by omega
      have hge : ¬ ((k : Int) < (k : Int)) := by omega
      have he : Hid (auP l t = decide (z = 0)) := by show _ = _; rw [hE.out, List.drop_eq_nil_of_le (by rw [HN.out]; exact Nat.le_refl _)]; rfl
      clear hE
      by_cases h0 : z = 0
      · have hb : (z == 0) = true := by simp [h0]
        have hd : decide (z = 0) = true := decide_eq_true h0
        clear h0
        go_wp2
        go_ret
        exact ⟨by rw [he.out, hd]; rfl, rfl⟩
      · have hb : (z == 0) = false := by simp [h0]
        have hd : decide (z = 0) = false := decide_eq_false h0
        clear h0
        go_wp2
        go_ret
        exact ⟨by rw [he.out, hd]; rfl, rfl⟩
    case pos =>
    obtain ⟨x, hx⟩ : ∃ x, l[k]? = some x := ⟨_, List.getElem?_eq_getElem (by rw [HN.out]; exact hlt)⟩
    obtain ⟨g, rfl, _, _, c0⟩ := row1_cell HR.out hx
    have hd : Hid (auP l t = (decide (0 ≤ x) && (decide (x ≤ z) && auP (l.drop (k + 1)) (z - x)))) := by
      show _ = _
      rw [hE.out, List.drop_eq_getElem_cons (by rw [HN.out]; exact hlt)]
      have : l[k]'(by rw [HN.out]; exact hlt) = x := by rw [List.getElem?_eq_getElem (by rw [HN.out]; exact hlt)] at hx; exact Option.some.inj hx
      rw [this]
      rfl
    have q0 : (0 : Int) ≤ (k : Int) := by omega
    have q1 : (k : Int) < (n : Int) := by omega
    clear hx hE
    by_cases h1 : x < 0
    · have d1 : decide (x < 0) = true := decide_eq_true h1
      have he : Hid (auP l t = false) := by show _ = _; rw [hd.out, decide_eq_false (show ¬ 0 ≤ x by omega)]; rfl
      clear hd
      go_wp2
      go_ret
      exact ⟨by rw [he.out]; rfl, rfl⟩
    have d1 : decide (x < 0) = false := decide_eq_false h1
    by_cases h2 : z < x
    · have d2 : decide (z < x) = true := decide_eq_true h2
      have he : Hid (auP l t = false) := by show _ = _; rw [hd.out, decide_eq_false (show ¬ x ≤ z by omega)]; simp
      clear hd
      go_wp2
      go_ret
      exact ⟨by rw [he.out]; rfl, rfl⟩
    have d2 : decide (z < x) = false := decide_eq_false h2
    have he : Hid (auP l t = auP (l.drop (k + 1)) (z - x)) := by show _ = _; rw [hd.out, decide_eq_true (show 0 ≤ x by omega), decide_eq_true (show x ≤ z by omega)]; rfl
    have wz : IntKind.i64.wrap (z - x) = z - x := IntWalk.i64_in _ (by omega)
    clear hd
    go_wp2
    go_roundw
    case rel => exact ⟨k + 1, z - x, by omega, by go_num, rfl, by omega, by omega, he, by first | rfl | trivial⟩
    case measure => simp [intOf]; omega

set_option maxRecDepth 100000 in
set_option maxHeartbeats 4000000 in
theorem iskok_any (lo hi n : Nat) (v : Value) (t : Int) (D : List (List Int)) (w : World) (hr : KRow w lo hi v n D) (hh : hi ≤ w.heap.size) (ht : I64 t) : Calls Try.prog 33 #[.agg #[v, .int .i64 t]] w fun e w' => e = .returned (.bool (skB t D)) ∧ Below w.heap.size w w' := by
  obtain ⟨ad, cp, rfl⟩ := hr.slice
  have hm := hr.len
  have HD := Lib.hid hr.2
  have HR := Lib.hid hr
  obtain ⟨ht1, ht2⟩ := ht
  clear hr
  by_cases h4 : n = 4
  case neg =>
    have hb : ((n : Int) != 4) = true := by simp; omega
    have Hno : Hid (skB t D = false) := skB_len (by rw [HD.out]; exact h4)
    clear h4
    go_enter Try.func33, Try.ntmps33
    go_wp2
    go_ret
    exact ⟨by rw [Hno.out]; rfl, by go_grown⟩
  case pos =>
  subst h4
  by_cases hbig : (1000000000000 : Int) < t
  case pos =>
    have d0 : decide ((1000000000000 : Int) < t) = true := decide_eq_true hbig
    have Hno : Hid (skB t D = false) := skB_big hbig
    go_enter Try.func33, Try.ntmps33
    go_wp2
    go_ret
    exact ⟨by rw [Hno.out]; rfl, by go_grown⟩
  case neg =>
  have d0 : decide ((1000000000000 : Int) < t) = false := decide_eq_false hbig
  go_enter Try.func33, Try.ntmps33
  go_wp2_with fail
  obtain ⟨q11, hq11⟩ : ∃ q, q = (w.alloc (.cells #[.slice ad 4 cp, .int .i64 t] 28)) := ⟨_, rfl⟩
  have hb11 : Below w.heap.size w q11 := by rw [hq11]; go_grown
  have sz11 : w.heap.size + 1 ≤ q11.heap.size := by rw [hq11]; simp
  have c11_0 : q11.cell? ⟨w.heap.size, 0, none⟩ = some (.slice ad 4 cp) := by rw [hq11, new_at (by simp)]; rfl
  have c11_1 : q11.cell? ⟨w.heap.size, 1, none⟩ = some (.int .i64 t) := by rw [hq11, new_at (by simp)]; rfl
  have B11 : Hid (Below w.heap.size w q11) := Lib.hid hb11
  rw [← hq11]
  have d11_0 : w.heap.size < q11.heap.size := by omega
  have e11_0 : w.heap.size ≠ q11.heap.size := by omega
  clear hq11 hb11
  have HC0 := Lib.hid c11_0
  have HC1 := Lib.hid c11_1
  have RQ : Hid (KRow q11 lo hi (.slice ad 4 cp) 4 D) := HR.out.below B11.out hh
  go_loopw [17] (fun i wr => ∃ k : Nat, k ≤ 4 ∧ i = .int .i64 (k : Int) ∧ Hid (∀ (j : Nat) (l : List Int), j < k → D[j]? = some l → l.length = 16 ∧ RowP l t) ∧ q11 = wr) (fun i _ => 4 - (intOf i).toNat)
  case atStart => exact ⟨0, Nat.zero_le _, rfl, fun j l hj => absurd hj (Nat.not_lt_zero _), by first | rfl | trivial⟩
  case round =>
    obtain ⟨k, hk, rfl, hF, rfl⟩ := hrel
    by_cases hlt : k < 4
    case neg =>
      obtain rfl : k = 4 := by omega
      have Hy : Hid (skB t D = true) := skB_iff.2 ⟨HD.out, by omega, fun i l hl => hF.out i l (by have := lt_of_at hl; rw [HD.out] at this; exact this) hl⟩
      go_wp2
      go_ret
      exact ⟨by rw [Hy.out]; rfl, B11.out⟩
    case pos =>
    obtain ⟨l, hl⟩ : ∃ l, D[k]? = some l := ⟨_, List.getElem?_eq_getElem (by rw [HD.out]; exact hlt)⟩
    obtain ⟨G, x, y, rfl, _, hG, d1, hrow⟩ := RQ.out.cell hl
    have q0 : (0 : Int) ≤ (k : Int) := by omega
    have q1 : (k : Int) < 4 := by omega
    have HL := Lib.hid hl
    obtain ⟨m, hm9⟩ : ∃ m, m = l.length := ⟨_, rfl⟩
    rw [← hm9] at d1 hrow
    have HM := Lib.hid hm9
    have HRow := Lib.hid hrow
    clear hl hm9 hrow
    by_cases h16 : m = 16
    case neg =>
      have hb : ((m : Int) != 16) = true := by simp; omega
      have Hno : Hid (skB t D = false) := skB_row HL.out (by rw [← HM.out]; exact fun h => h16 h.1)
      clear h16
      go_wp2_with fail
      go_ret
      exact ⟨by rw [Hno.out]; rfl, B11.out⟩
    case pos =>
    subst h16
    cases ha : auP l t with
    | false =>
      have Hno : Hid (skB t D = false) := skB_row HL.out (fun h => by rw [(auP_iff l t).2 h.2] at ha; simp at ha)
      go_wp2_with fail
      go_at_call 65
      refine (aut_any lo hi 16 y x l t _ HRow.out (by omega) ht1).mono ?_
      rw [ha]
      rintro e w' ⟨rfl, rfl⟩
      go_wp2_with fail
      go_ret
      exact ⟨by rw [Hno.out]; rfl, B11.out⟩
    | true =>
      have HF : Hid (∀ (j : Nat) (l : List Int), j < k + 1 → D[j]? = some l → l.length = 16 ∧ RowP l t) := fun j l' hj hl' => by
        by_cases e : j = k
        · subst e; rw [HL.out] at hl'; obtain rfl := Option.some.inj hl'; exact ⟨HM.out.symm, (auP_iff l t).1 ha⟩
        · exact hF.out j l' (by omega) hl'
      clear hF
      go_wp2_with fail
      go_at_call 65
      refine (aut_any lo hi 16 y x l t _ HRow.out (by omega) ht1).mono ?_
      rw [ha]
      rintro e w' ⟨rfl, rfl⟩
      go_wp2_with fail
      go_roundw
      case rel => exact ⟨k + 1, by omega, by go_num, HF, by first | rfl | trivial⟩
      case measure => simp [intOf]; omega

end Go.Proofs.Ytophppnllkadoaa
