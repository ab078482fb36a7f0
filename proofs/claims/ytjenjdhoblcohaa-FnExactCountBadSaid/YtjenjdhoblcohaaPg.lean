/- All orders of a list, by the program. -/
import Derived.Test.YtjenjdhoblcohaaOa
import Derived.Test.YtjenjdhoblcohaaOi
import Derived.Test.YtjenjdhoblcohaaW25
import Derived.Test.YtjenjdhoblcohaaLm
import Derived.Test.YtjenjdhoblcohaaAs
import Derived.Test.YtjenjdhoblcohaaGc
namespace Go.Proofs.Ytjenjdhoblcohaa
open Go.RowKit

/-- All orders of n things. -/
def ordF : Nat → List Int → List (List Int)
  | 0, _ => [[]]
  | n + 1, l => (List.range (n + 1)).flatMap fun i => (ordF n (l.eraseIdx i)).map fun o => l.getD i 0 :: o
/-- Whether a packet loops. -/
def loopy (d : Int) (h : List Int) : Bool := !(loopsL h d).isEmpty
/-- Whether a packet loops at any time while the nodes of an order are updated. -/
def anyP (A : List Int) (d : Int) : List Int → List Int → Bool
  | h, [] => loopy d h
  | h, x :: o => loopy d h || anyP A d (upd1 A h x) o
def sumR : Nat → (Nat → Int) → Int
  | 0, _ => 0
  | k + 1, f => sumR k f + f k
/-- The number of bad orders, counted as the model does. -/
def badC (A : List Int) (d : Int) : Nat → List Int → List Int → Bool → Int
  | 0, h, _, b => if (b || loopy d h) = true then 1 else 0
  | n + 1, h, l, b => sumR (n + 1) fun i => badC A d n (upd1 A h (l.getD i 0)) (l.eraseIdx i) (b || loopy d h)
theorem filter_flatMap (p : List Int → Bool) (f : Nat → List (List Int)) : ∀ k, ((((List.range k).flatMap f).filter p).length : Int) = sumR k fun i => (((f i).filter p).length : Int)
  | 0 => rfl
  | k + 1 => by
    rw [List.range_succ, List.flatMap_append, List.filter_append, List.length_append]
    push_cast
    rw [filter_flatMap p f k]
    simp [sumR]
theorem sumR_congr {f g : Nat → Int} : ∀ k, (∀ i, i < k → f i = g i) → sumR k f = sumR k g
  | 0, _ => rfl
  | k + 1, h => by show _ + _ = _ + _; rw [sumR_congr k (fun i hi => h i (by omega)), h k (by omega)]
theorem badC_count (A : List Int) (d : Int) : ∀ (n : Nat) (h l : List Int) (b : Bool), badC A d n h l b = (((ordF n l).filter fun o => b || anyP A d h o).length : Int)
  | 0, h, l, b => by
    show (if (b || loopy d h) = true then (1 : Int) else 0) = ((([[]] : List (List Int)).filter fun o => b || anyP A d h o).length : Int)
    cases e : (b || loopy d h) <;> simp [List.filter, anyP, e]
  | n + 1, h, l, b => by
    show sumR (n + 1) _ = ((((List.range (n + 1)).flatMap fun i => (ordF n (l.eraseIdx i)).map fun o => l.getD i 0 :: o).filter fun o => b || anyP A d h o).length : Int)
    rw [filter_flatMap]
    refine sumR_congr _ fun i _ => ?_
    rw [badC_count A d n, List.filter_map, List.length_map]
    congr 2
    congr 1
    funext o
    show (b || loopy d h || anyP A d (upd1 A h (l.getD i 0)) o) = (b || (loopy d h || anyP A d (upd1 A h (l.getD i 0)) o))
    rw [Bool.or_assoc]
theorem sumR_bound {f : Nat → Int} {m : Int} : ∀ k, (∀ i, i < k → 0 ≤ f i ∧ f i ≤ m) → 0 ≤ sumR k f ∧ sumR k f ≤ (k : Int) * m
  | 0, _ => ⟨Int.le_refl _, by simp [sumR]⟩
  | k + 1, h => by
    have h1 := sumR_bound k (fun i hi => h i (by omega))
    have h2 := h k (by omega)
    show 0 ≤ sumR k f + f k ∧ sumR k f + f k ≤ _
    push_cast
    rw [Int.add_mul, Int.one_mul]
    omega
def powS : Nat → Int
  | 0 => 1
  | n + 1 => 7 * powS n
theorem powS_pos : ∀ n, 1 ≤ powS n
  | 0 => Int.le_refl _
  | n + 1 => by have := powS_pos n; show 1 ≤ 7 * powS n; omega
theorem badC_bound (A : List Int) (d : Int) : ∀ (n : Nat), n ≤ 6 → ∀ (h l : List Int) (b : Bool), 0 ≤ badC A d n h l b ∧ badC A d n h l b ≤ powS n
  | 0, _, h, l, b => by
    show 0 ≤ (if (b || loopy d h) = true then (1 : Int) else 0) ∧ (if (b || loopy d h) = true then (1 : Int) else 0) ≤ 1
    split <;> omega
  | n + 1, hn, h, l, b => by
    have := sumR_bound (m := powS n) (n + 1) (fun i _ => badC_bound A d n (by omega) (upd1 A h (l.getD i 0)) (l.eraseIdx i) (b || loopy d h))
    refine ⟨this.1, Int.le_trans this.2 ?_⟩
    show ((n + 1 : Nat) : Int) * powS n ≤ 7 * powS n
    exact Int.mul_le_mul_of_nonneg_right (by omega) (by have := powS_pos n; omega)
theorem powS_six : powS 6 = 117649 := by decide
theorem powS_mono : ∀ n, n ≤ 6 → powS n ≤ 117649 := by
  intro n hn
  have : n = 0 ∨ n = 1 ∨ n = 2 ∨ n = 3 ∨ n = 4 ∨ n = 5 ∨ n = 6 := by omega
  rcases this with rfl | rfl | rfl | rfl | rfl | rfl | rfl <;> decide
theorem badC_part (A : List Int) (d : Int) {n : Nat} (hn : n ≤ 5) (h l : List Int) (b : Bool) {k : Nat} (hk : k ≤ 6) : 0 ≤ sumR k (fun i => badC A d n (upd1 A h (l.getD i 0)) (l.eraseIdx i) b) ∧ sumR k (fun i => badC A d n (upd1 A h (l.getD i 0)) (l.eraseIdx i) b) ≤ 1000000 := by
  have h1 := sumR_bound (m := 117649) k (fun i _ => by
    have h1 := badC_bound A d n (by omega) (upd1 A h (l.getD i 0)) (l.eraseIdx i) b
    have h2 := powS_mono n (by omega)
    exact ⟨h1.1, Int.le_trans h1.2 h2⟩)
  refine ⟨h1.1, Int.le_trans h1.2 ?_⟩
  omega
/-- The first loop of an order is none just where no packet ever loops. -/
theorem anyP_iff (A : List Int) (d : Int) : ∀ (o h : List Int), anyP A d h o = true ↔ ∃ k, k ≤ o.length ∧ loopy d ((o.take k).foldl (upd1 A) h) = true
  | [], h => ⟨fun e => ⟨0, Nat.le_refl _, e⟩, fun ⟨k, _, e⟩ => by
    have e' : loopy d h = true := by simpa using e
    exact e'⟩
  | x :: o, h => by
    show (loopy d h || anyP A d (upd1 A h x) o) = true ↔ _
    rw [Bool.or_eq_true, anyP_iff A d o]
    constructor
    · rintro (e | ⟨k, hk, e⟩)
      · exact ⟨0, Nat.zero_le _, e⟩
      · exact ⟨k + 1, by simp; omega, by simpa using e⟩
    · rintro ⟨k, hk, e⟩
      cases k with
      | zero => exact .inl e
      | succ k => exact .inr ⟨k, by simp at hk; omega, by simpa using e⟩
theorem fst_any (A B : List Int) (d : Int) (o : List Int) : (fstK (fun k => loopy d ((o.take k).foldl (upd1 A) B)) (o.length + 1) (o.length + 1) ≠ -1) ↔ anyP A d B o = true := by
  rw [anyP_iff, Ne, fstK_none _ _ _ (Nat.le_refl _)]
  constructor
  · intro h
    apply Classical.byContradiction
    intro hn
    refine h fun k _ hk => ?_
    cases e : loopy d ((o.take k).foldl (upd1 A) B) with
    | false => rfl
    | true => exact absurd ⟨k, by omega, e⟩ hn
  · rintro ⟨k, hk, e⟩ h
    rw [h k (by omega) (by omega)] at e
    cases e
theorem ordF_len : ∀ (n : Nat) (l : List Int), l.length = n → ∀ o ∈ ordF n l, o.length = n
  | 0, _, _, o, ho => by
    have : o = [] := by simpa [ordF] using ho
    rw [this]; rfl
  | n + 1, l, hl, o, ho => by
    obtain ⟨i, hi, ho⟩ := List.mem_flatMap.1 ho
    obtain ⟨o', ho', rfl⟩ := List.mem_map.1 ho
    have hi' := List.mem_range.1 hi
    rw [List.length_cons, ordF_len n (l.eraseIdx i) (by rw [List.length_eraseIdx]; split <;> omega) o' ho']

theorem grown_own {w0 w wr : World} {v v' : Value} {n m : Nat} {Z A : List Int} (h : OwnI w0 w v n Z) (hg : w.grownBy wr v.ownBlock) (hr : wr.ownsRow w0.heap.size 3 1 v' (n + m) (ints Z ++ ints A)) : OwnI w0 wr v' (n + m) (Z ++ A) := by
  have b := h.below
  have hs := b.size
  refine ⟨⟨hg.os.trans b.os, hg.tape.trans b.tape, hg.output.trans b.output, Nat.le_trans hs hg.size, fun k hk => (hg.block k (by omega) (fun e => ?_)).trans (b.block k hk)⟩, by rw [show ints (Z ++ A) = ints Z ++ ints A by simp [ints]]; exact hr⟩
  have := (h.row.lt k e.symm).1
  omega
/-- What a slice of numbers, somewhere in memory, holds. -/
def SrcI (w : World) (p : Option Addr) (m : Nat) (A : List Int) : Prop := A.length = m ∧ (0 < m → ∃ g o, p = some ⟨g, o, none⟩ ∧ g < w.heap.size ∧ ∀ q z, A[q]? = some z → w.cell? ⟨g, o + q, none⟩ = some (.int .i64 z))
theorem SrcI.grow {w w' : World} {p : Option Addr} {m : Nat} {A : List Int} (h : SrcI w p m A) (b : Below w.heap.size w w') : SrcI w' p m A :=
  ⟨h.1, fun hm => by
    obtain ⟨g, o, h1, h2, h3⟩ := h.2 hm
    exact ⟨g, o, h1, Nat.lt_of_lt_of_le h2 b.size, fun q z hz => by rw [b.cell (p := ⟨g, o + q, none⟩) h2]; exact h3 q z hz⟩⟩
theorem append_zero (w : World) (t ty : TypeId) (base : Nat) (e : TypeId) (i : TypeInfo) (size : Nat) (ht : Try.prog.underlying t = some (.slice e)) (hi : Try.prog.info? e = some i) (v : Value) (n : Nat) (xs : List Value) (hown : w.ownsRow base e size v n xs) (p : Option Addr) (c : Nat) :
    (Builtin.append_ #[t, t] ty #[v, .slice p 0 c]).run Try.prog w = .ok v w := by
  rcases hown.2 with ⟨rfl, rfl⟩ | ⟨g, cap, cur, rfl, _, _, hnc, _⟩
  · cases p <;> simp [Builtin.append_, run_underlying ht, sizeOf, typeInfo, hi, Builtin.lenOf, Builtin.firstCells, loadCells, loadCellsFrom]
  · cases p <;> simp [Builtin.append_, run_underlying ht, sizeOf, typeInfo, hi, Builtin.lenOf, Builtin.firstCells, hnc, storeCells, loadCells, loadCellsFrom]
theorem wpList_append_gen {ops : Array Oper} {rest : List Oper} {o : Oper} {a : Act} {Q : Exit → Act → World → Prop} (w0 w : World) (hgd : o.guard = none) (s x : Operand)
    (ho : o.op = .call { callee := .builtin .append, args := #[s, x], argTypes := #[33, 33] }) (v : Value) (n : Nat) (Z : List Int) (hs : a.eval s = v) (hO : OwnI w0 w v n Z) (p : Option Addr) (m c : Nat) (A : List Int) (hx : a.eval x = .slice p m c) (hS : SrcI w p m A) (hb : n + m ≤ 2000)
    (h : ∀ v' w', OwnI w0 w' v' (n + m) (Z ++ A) → wpList Try.prog ops Q rest (a.put o.dst v') w') : wpList Try.prog ops Q (o :: rest) a w := by
  obtain ⟨i3, hi, hz0, hz1, hz2⟩ := info_parts Try.info3
  by_cases hm : m = 0
  · subst hm
    have hA : A = [] := List.eq_nil_of_length_eq_zero hS.1
    subst hA
    refine wpList_plain hgd fun K hK => ?_
    have hrun := append_zero w 33 o.type w0.heap.size 3 i3 1 Try.underlying33 hi v n (ints Z) hO.row p c
    unfold Oper.wp
    simp [execOp, ho, resolve, invoke, builtin, hs, hx, hrun, Result.andThen]
    exact hK _ _ (h v w (by simpa using hO))
  · obtain ⟨g, of_, rfl, hg, hcell⟩ := hS.2 (by omega)
    have hlA := hS.1
    refine wpList_append_lies w hgd s x 33 ho w0.heap.size 3 i3 (.int .i64 0) 1 8 Try.underlying33 hi hz0 hz1 hz2 rfl (by decide) v n (ints Z) hs hO.row ⟨g, of_, none⟩ m c (ints A) hx (by simp [ints]; omega) (fun j u hj => ?_) (fun u hu => ?_) (by omega) (by unfold maxLen; omega) (by omega) hO.below.size _ rfl (fun g4 cap4 w4 h1 h2 _ _ => h _ _ (grown_own hO h2 h1))
    · have hj' : j < A.length := by have := (List.getElem?_eq_some_iff.1 hj).1; simpa [ints] using this
      have e : A[j]? = some (A[j]'hj') := List.getElem?_eq_getElem _
      rw [ints_at' e] at hj
      rw [← Option.some.inj hj]
      have ea : ((⟨g, of_, none⟩ : Addr).add j) = ⟨g, of_ + j, none⟩ := by
        unfold Addr.add
        split
        · rename_i h0; subst h0; rfl
        · rfl
      rw [ea]
      exact hcell j _ e
    · unfold ints at hu
      obtain ⟨z, _, rfl⟩ := List.mem_map.1 hu
      rfl

set_option maxRecDepth 100000 in
set_option maxHeartbeats 4000000 in
theorem grow0_any (w : World) : Calls Try.prog 112 #[.slice none 0 0, .int .i64 0] w fun e w' => e = .returned (.slice none 0 0) ∧ w = w' := by
  go_enter Try.func112, Try.ntmps112
  go_wp2
  go_ret
  exact ⟨rfl, rfl⟩
/-- Room for n numbers. -/
theorem growN_any (n : Nat) (w : World) (hn : n ≤ 2000) : Calls Try.prog 112 #[.slice none 0 0, .int .i64 (n : Int)] w fun e w' => ∃ rv, e = .returned rv ∧ OwnI w w' rv 0 [] := by
  by_cases h : n = 0
  · subst h
    exact (grow0_any w).mono fun e w' ⟨h1, h2⟩ => ⟨_, h1, by subst h2; exact OwnI.nil w⟩
  · exact (grow_any n w (by omega) (by omega)).mono fun e w' ⟨G, h1, h2, h3, _⟩ => ⟨_, h1, h3, h2⟩

set_option maxRecDepth 100000 in
set_option maxHeartbeats 4000000 in
theorem concatG_any (B : Nat) (pa pb : Option Addr) (na ca nb cb : Nat) (A Y : List Int) (w : World) (hB : B < w.heap.size) (hn : na + nb ≤ 1000) (c0 : w.cell? ⟨B, 0, none⟩ = some (.slice pa na ca)) (c1 : w.cell? ⟨B, 1, none⟩ = some (.slice pb nb cb)) (hA : SrcI w pa na A) (hY : SrcI w pb nb Y) :
    Calls Try.prog 93 #[.slice (some ⟨B, 0, none⟩) 2 2] w fun e w' => ∃ rv, e = .returned rv ∧ OwnI w w' rv (na + nb) (A ++ Y) := by
  have HA := Lib.hid hA
  have HY := Lib.hid hY
  have C0 := Lib.hid c0
  have C1 := Lib.hid c1
  clear hA hY
  have q3 : decide ((na : Int) < 0) = false := decide_eq_false (by omega)
  have q4 : decide ((na : Int) + (nb : Int) < 0) = false := decide_eq_false (by omega)
  go_enter Try.func93, Try.ntmps93
  go_wp2
  go_loop [3, 5, 11] (fun s _ i => ∃ k : Nat, k ≤ 2 ∧ i = .int .i64 (k : Int) ∧ ((k = 0 ∧ s = .int .i64 0) ∨ (k = 1 ∧ s = .int .i64 (na : Int)) ∨ (k = 2 ∧ s = .int .i64 ((na : Int) + (nb : Int))))) (fun _ _ i => 2 - (intOf i).toNat)
  case atStart => exact ⟨0, by omega, rfl, .inl ⟨rfl, rfl⟩⟩
  case round =>
    obtain ⟨k, hk, rfl, hs⟩ := hrel
    rcases hs with ⟨rfl, rfl⟩ | ⟨rfl, rfl⟩ | ⟨rfl, rfl⟩
    · go_wp2
      go_round
      case rel => exact ⟨1, by omega, by go_num, .inr (.inl ⟨rfl, by go_num⟩)⟩
      case measure => simp [intOf]
    · go_wp2
      go_round
      case rel => exact ⟨2, by omega, by go_num, .inr (.inr ⟨rfl, by go_num⟩)⟩
      case measure => simp [intOf]
    · have hgr := growN_any (na + nb) w (by omega)
      rw [show ((na + nb : Nat) : Int) = (na : Int) + (nb : Int) by omega] at hgr
      have HGr := Lib.hid hgr
      clear hgr q3 q4
      go_wp2_with fail
      go_at_call 112
      refine (HGr.out).mono ?_
      rintro e w1 ⟨rv, rfl, hO⟩
      have HO1 := Lib.hid hO
      clear hO HGr c0 c1
      go_wp2_with fail
      go_loopw [6, 8, 27] (fun v _ i wr => (i = .int .i64 0 ∧ Hid (OwnI w wr v 0 [])) ∨ (i = .int .i64 1 ∧ Hid (OwnI w wr v na A)) ∨ (i = .int .i64 2 ∧ Hid (OwnI w wr v (na + nb) (A ++ Y)))) (fun _ _ i _ => 2 - (intOf i).toNat)
      case atStart => exact .inl ⟨rfl, HO1⟩
      case round =>
        clear HO1
        rcases hrel with ⟨rfl, hO⟩ | ⟨rfl, hO⟩ | ⟨rfl, hO⟩
        · have c0 : wr.cell? ⟨B, 0, none⟩ = some (.slice pa na ca) := by rw [hO.out.below.cell (p := ⟨B, 0, none⟩) hB]; exact C0.out
          have HS := Lib.hid (HA.out.grow hO.out.below)
          go_wp2_with (at_builtin; refine wpList_append_gen w _ rfl _ _ rfl _ 0 [] rfl hO.out pa na ca A rfl HS.out (by omega) ?_)
          intro v4 w4 hO4
          have HO4 : Hid (OwnI w w4 v4 na A) := hO4
          clear hO4 hO HS c0
          go_wp2_with fail
          go_roundw
          case rel => exact .inr (.inl ⟨by go_num, HO4⟩)
          case measure => simp [intOf]
        · have c1 : wr.cell? ⟨B, 1, none⟩ = some (.slice pb nb cb) := by rw [hO.out.below.cell (p := ⟨B, 1, none⟩) hB]; exact C1.out
          have HS := Lib.hid (HY.out.grow hO.out.below)
          go_wp2_with (at_builtin; refine wpList_append_gen w _ rfl _ _ rfl _ na A rfl hO.out pb nb cb Y rfl HS.out (by omega) ?_)
          intro v4 w4 hO4
          have HO4 := Lib.hid hO4
          clear hO4 hO HS c1
          go_wp2_with fail
          go_roundw
          case rel => exact .inr (.inr ⟨by go_num, HO4⟩)
          case measure => simp [intOf]
        · go_wp2_with fail
          go_ret
          exact ⟨_, rfl, hO.out⟩

/-- Rows of rows, each with room for its elements. -/
def SSl (w wr : World) (v : Value) (OO : List (List Int)) : Prop := ∃ vs bs, SSt w wr v OO.length (fun i => OO.getD i []) vs bs ∧ ∀ i, i < OO.length → capOk (vs i) (OO.getD i []).length
theorem SSt.congr {w wr : World} {v : Value} {k : Nat} {Z1 Z2 : Nat → List Int} {vs : Nat → Value} {bs : Nat → Nat × Nat} (h : SSt w wr v k Z1 vs bs) (e : ∀ i, i < k → Z1 i = Z2 i) : SSt w wr v k Z2 vs bs :=
  ⟨h.below, h.row, fun i hi => by rw [← e i hi]; exact h.inner i hi, h.apart, h.far⟩
theorem SSl.grow {w wr w2 : World} {v : Value} {OO : List (List Int)} (h : SSl w wr v OO) (b : Below wr.heap.size wr w2) : SSl w w2 v OO := by
  obtain ⟨vs, bs, h1, h2⟩ := h
  exact ⟨vs, bs, h1.grow b, h2⟩
theorem SSl.nil (w : World) : SSl w w (.slice none 0 0) [] :=
  ⟨fun _ => .slice none 0 0, fun _ => (0, 0), ⟨Below.refl _ _, World.ownsRow_nil _ _ _ _, fun i hi => absurd hi (Nat.not_lt_zero _), fun i j _ hj => absurd hj (Nat.not_lt_zero _), fun b e => by cases e⟩, fun i hi => absurd hi (Nat.not_lt_zero _)⟩
theorem SSl.below {w wr : World} {v : Value} {OO : List (List Int)} (h : SSl w wr v OO) : Below w.heap.size w wr := by
  obtain ⟨vs, bs, h1, _⟩ := h
  exact h1.below
theorem SSl.form {w wr : World} {v : Value} {OO : List (List Int)} (h : SSl w wr v OO) : ∃ a c, v = .slice a OO.length c := by
  obtain ⟨vs, bs, h1, _⟩ := h
  exact own_slice h1.row
theorem SSl.lt {w wr : World} {v : Value} {OO : List (List Int)} (h : SSl w wr v OO) : ∀ b, v.ownBlock = some b → b < wr.heap.size := by
  obtain ⟨vs, bs, h1, _⟩ := h
  exact fun b hb => (h1.row.lt b hb).2
/-- One order alone: of nothing. -/
theorem SSl.one (w : World) : SSl w (w.alloc (.cells #[.slice none 0 0] 33)) (.slice (some ⟨w.heap.size, 0, none⟩) 1 1) [[]] :=
  ⟨fun _ => .slice none 0 0, fun _ => (w.heap.size + 1, w.heap.size + 1), ⟨(Below.refl _ _).alloc (Nat.le_refl _) _, World.ownsRow_lit w #[.slice none 0 0] 1 (Nat.le_refl _) (by unfold maxLen; omega) rfl,
    fun i hi => ⟨by
      have e : i = 0 := by simp at hi; omega
      subst e
      exact Row.empty 1 _ _ _ _ _, by show w.heap.size ≤ w.heap.size + 1; omega, by simp⟩, fun i j hij hj => by simp at hj; omega, fun b e i hi => by
      have e' : w.heap.size = b := by simpa [Value.ownBlock] using e
      show ¬ (w.heap.size + 1 ≤ b ∧ b < w.heap.size + 1)
      omega⟩, fun i hi => by
    have e : i = 0 := by simp at hi; omega
    subst e
    exact ⟨none, 0, rfl, Nat.le_refl _⟩⟩
theorem getD_snoc (OO : List (List Int)) (o : List Int) {i : Nat} (h : i < OO.length) : (OO ++ [o]).getD i [] = OO.getD i [] := by
  rw [List.getD_eq_getElem?_getD, List.getElem?_append_left h, ← List.getD_eq_getElem?_getD]
theorem getD_last (OO : List (List Int)) (o : List Int) : (OO ++ [o]).getD OO.length [] = o := by simp
/-- One order more. -/
theorem SSl.app {w wr w2 w3 w4 : World} {v v' : Value} {g : Nat} {OO : List (List Int)} {o : List Int} {vs : Nat → Value} {bs : Nat → Nat × Nat} {dv : Value} (h : SSt w wr v OO.length (fun i => OO.getD i []) vs bs) (hc : ∀ i, i < OO.length → capOk (vs i) (OO.getD i []).length) (b2 : Below wr.heap.size wr w2) (hd : Row 1 w2 wr.heap.size w2.heap.size dv o.length o) (hdc : capOk dv o.length) (b3 : Below w2.heap.size w2 w3)
    (hg : w3.grownBy w4 v.ownBlock) (hv : v'.ownBlock = some g) (hat : v.ownBlock = some g ∨ w3.heap.size ≤ g) (hr : w4.ownsRow w.heap.size 33 1 v' (OO.length + 1) ((List.range OO.length).map vs ++ [dv])) : SSl w w4 v' (OO ++ [o]) := by
  have h' : SSt w wr v OO.length (fun i => (OO ++ [o]).getD i []) vs bs := h.congr (fun i hi => (getD_snoc OO o hi).symm)
  have s2 := b2.size
  have s3 := b3.size
  have s4 := hg.size
  have b23 : Below wr.heap.size wr w3 := b2.trans (b3.mono s2)
  have h3 := h'.grow b23
  have hlt : ∀ b, v.ownBlock = some b → w.heap.size ≤ b ∧ b < wr.heap.size := fun b e => h.row.lt b e
  have el : (OO ++ [o]).length = OO.length + 1 := by simp
  refine ⟨fun i => if i = OO.length then dv else vs i, fun i => if i = OO.length then (wr.heap.size, w2.heap.size) else bs i, ?_, fun i hi => ?_⟩
  · rw [el]
    refine ⟨?_, ?_, fun i hi => ?_, fun i j hij hj => ?_, fun b e i hi => ?_⟩
    · have hb := h3.below
      exact ⟨hg.os.trans hb.os, hg.tape.trans hb.tape, hg.output.trans hb.output, Nat.le_trans hb.size s4, fun x hx => (hg.block x (by have := hb.size; omega) (fun e => by have := (hlt x e.symm).1; omega)).trans (hb.block x hx)⟩
    · rw [range_map_snoc]
      exact hr
    · by_cases e : i = OO.length
      · subst e
        simp only [if_true, getD_last]
        exact ⟨(hd.below b3 (Nat.le_refl _)).grown hg (by omega) (fun b e => by have := (hlt b e).2; omega), by have := h.below.size; omega, by omega⟩
      · simp only [if_neg e]
        obtain ⟨h1, h2, h4⟩ := h3.inner i (by omega)
        exact ⟨h1.grown hg h4 (fun b e2 => h.far b e2 i (by omega)), h2, by omega⟩
    · by_cases e : j = OO.length
      · subst e
        rw [if_neg (show ¬ i = OO.length by omega), if_pos rfl]
        exact (h.inner i hij).2.2
      · rw [if_neg (show ¬ i = OO.length by omega), if_neg e]
        exact h.apart i j hij (by omega)
    · rw [hv] at e
      cases e
      by_cases e : i = OO.length
      · subst e
        simp only [if_true]
        rcases hat with hat | hat
        · have := (hlt _ hat).2; omega
        · omega
      · simp only [if_neg e]
        rcases hat with hat | hat
        · exact h.far _ hat i (by omega)
        · have := (h.inner i (by omega)).2.2; omega
  · rw [el] at hi
    by_cases e : i = OO.length
    · subst e
      simp only [if_true, getD_last]
      exact hdc
    · simp only [if_neg e]
      rw [getD_snoc _ _ (by omega)]
      exact hc i (by omega)
/-- What lies between two sizes stays. -/
def KeptB (lo hi : Nat) (a b : World) : Prop := hi ≤ b.heap.size ∧ ∀ q, lo ≤ q → q < hi → b.heap[q]? = a.heap[q]?
theorem KeptB.row {lo hi l h n : Nat} {a b : World} {v : Value} {Z : List Int} (k : KeptB lo hi a b) (r : Row 1 a l h v n Z) (h1 : lo ≤ l) (h2 : h ≤ hi) : Row 1 b l h v n Z := by
  obtain ⟨h0, r⟩ := r
  refine ⟨h0, ?_⟩
  rcases r with r | ⟨g, cap, e, g1, g2, g3, g4, g5⟩
  · exact .inl r
  · refine .inr ⟨g, cap, e, g1, g2, g3, fun q z hz => ?_, fun o => ?_⟩
    · rw [World.cell?_of_block (w := a) (a := ⟨g, q, none⟩) (k.2 g (by omega) (by omega))]; exact g4 q z hz
    · rw [World.frozen?_of_block (w := a) (a := ⟨g, o, none⟩) (k.2 g (by omega) (by omega))]; exact g5 o
theorem KeptB.cell {lo hi g q : Nat} {a b : World} (k : KeptB lo hi a b) (h1 : lo ≤ g) (h2 : g < hi) : b.cell? ⟨g, q, none⟩ = a.cell? ⟨g, q, none⟩ := World.cell?_of_block (w := a) (a := ⟨g, q, none⟩) (k.2 g h1 h2)
theorem KeptB.below {lo hi : Nat} {a b c : World} (k : KeptB lo hi a b) (h : Below b.heap.size b c) : KeptB lo hi a c := ⟨Nat.le_trans k.1 h.size, fun q h1 h2 => (h.block q (by have := k.1; omega)).trans (k.2 q h1 h2)⟩
theorem KeptB.grown {lo hi : Nat} {a b c : World} {r : Option Nat} (k : KeptB lo hi a b) (h : b.grownBy c r) (hr : ∀ x, r = some x → ¬ (lo ≤ x ∧ x < hi)) : KeptB lo hi a c :=
  ⟨Nat.le_trans k.1 h.size, fun q h1 h2 => (h.block q (by have := k.1; omega) (fun e => hr q e.symm ⟨h1, h2⟩)).trans (k.2 q h1 h2)⟩
theorem KeptB.refl (lo : Nat) (a : World) : KeptB lo a.heap.size a a := ⟨Nat.le_refl _, fun _ _ _ => rfl⟩
/-- An order, as it lies. -/
theorem SSl.get {w wr : World} {v : Value} {OO : List (List Int)} (h : SSl w wr v OO) {j : Nat} (hj : j < OO.length) : ∃ G cap pj cj lo hi, v = .slice (some ⟨G, 0, none⟩) OO.length cap ∧ w.heap.size ≤ G ∧ G < wr.heap.size ∧ wr.cell? ⟨G, j, none⟩ = some (.slice pj (OO.getD j []).length cj) ∧ (OO.getD j []).length ≤ cj ∧ Row 1 wr lo hi (.slice pj (OO.getD j []).length cj) (OO.getD j []).length (OO.getD j []) ∧ w.heap.size ≤ lo ∧ hi ≤ wr.heap.size := by
  obtain ⟨vs, bs, h1, h2⟩ := h
  obtain ⟨G, cap, rfl, hG, hlt⟩ := h1.row.form (by omega)
  obtain ⟨r1, r2, r3⟩ := h1.inner j hj
  obtain ⟨pj, cj, e, hc⟩ := h2 j hj
  have hcell : wr.cell? ⟨G, j, none⟩ = some (vs j) := by
    rw [h1.row.cellAt _ (by omega)]
    simp [hj]
  rw [e] at hcell r1
  exact ⟨G, cap, pj, cj, _, _, rfl, hG, hlt, hcell, hc, r1, r2, r3⟩
theorem new_at' {w : World} {b o : Nat} {cs : Array Value} {t : TypeId} (h : b = w.heap.size) : (w.alloc (.cells cs t)).cell? ⟨b, o, none⟩ = cs[o]? := by subst h; exact cell_of_row _ _ _ _ _ _ (heap_alloc_new _ _)
theorem capOk_le {a : Option Addr} {n c : Nat} (h : capOk (.slice a n c) n) : n ≤ c := by
  obtain ⟨_, _, e, h⟩ := h
  cases e
  exact h
theorem OwnI.cap {w wr : World} {v : Value} {n : Nat} {Z : List Int} (h : OwnI w wr v n Z) : capOk v n := by
  rcases h.row.2 with ⟨rfl, rfl⟩ | ⟨g, cap, cur, rfl, _, _, hnc, _⟩
  · exact ⟨none, 0, rfl, Nat.le_refl _⟩
  · exact ⟨_, _, rfl, hnc⟩
theorem Row.src {w : World} {lo hi n m c : Nat} {a : Option Addr} {Z : List Int} (h : Row 1 w lo hi (.slice a n c) m Z) (hh : hi ≤ w.heap.size) : SrcI w a m Z := by
  obtain ⟨h0, h⟩ := h
  refine ⟨by omega, fun hm => ?_⟩
  rcases h with ⟨h, _⟩ | ⟨g, cap, e, h1, h2, h3, h4, h5⟩
  · omega
  · cases e
    exact ⟨g, 0, rfl, by omega, fun q z hz => by rw [Nat.zero_add]; exact h4 q z hz⟩
/-- The orders that begin with one of the first i. -/
def preO (n : Nat) (l : List Int) (i : Nat) : List (List Int) := (List.range i).flatMap fun i => (ordF n (l.eraseIdx i)).map fun o => l.getD i 0 :: o
theorem ordF_num (n : Nat) (hn : n ≤ 6) (l : List Int) : ((ordF n l).length : Int) ≤ powS n := by
  have h := badC_bound [] 0 n hn [] l true
  rw [badC_count] at h
  have e : ((ordF n l).filter fun o => true || anyP [] 0 [] o) = ordF n l := List.filter_eq_self.2 (fun o _ => by simp)
  rw [e] at h
  exact h.2
theorem preO_succ (n : Nat) (l : List Int) (i : Nat) : preO n l (i + 1) = preO n l i ++ (ordF n (l.eraseIdx i)).map fun o => l.getD i 0 :: o := by
  unfold preO
  rw [List.range_succ, List.flatMap_append]
  simp

theorem preO_num (n : Nat) (l : List Int) (hn : n ≤ 6) : ∀ k, ((preO n l k).length : Int) ≤ (k : Int) * 117649
  | 0 => by simp [preO]
  | k + 1 => by
    have h1 := preO_num n l hn k
    have h2 := ordF_num n hn (l.eraseIdx k)
    have h3 := powS_mono n hn
    rw [preO_succ, List.length_append, List.length_map]
    push_cast
    omega

set_option maxRecDepth 100000 in
set_option maxHeartbeats 4000000 in
theorem ord_any : ∀ (n : Nat) (lo hi : Nat) (sv : Value) (l : List Int) (w : World), n ≤ 6 → l.length = n → capOk sv n → Row 1 w lo hi sv n l → hi ≤ w.heap.size → Calls Try.prog 68 #[sv] w fun e w' => ∃ rv, e = .returned rv ∧ SSl w w' rv (ordF n l)
  | 0, lo, hi, sv, l, w, _, hl, hcap, hr, hh => by
    obtain ⟨a, c, rfl⟩ := hr.slice
    have HS := Lib.hid (SSl.one w)
    clear hr hcap
    go_enter Try.func68, Try.ntmps68
    go_wp2_with fail
    go_ret
    exact ⟨_, rfl, HS.out⟩
  | n + 1, lo, hi, sv, l, w, hn, hl, hcap, hr, hh => by
    obtain ⟨g, oc, rfl, hg1, hg2, hcell⟩ := row_cells (by omega) hr
    have hoc := capOk_le hcap
    have HR := Lib.hid hr
    have HL := Lib.hid hl
    have HC := Lib.hid hcell
    obtain ⟨iS, hi', hz0, hz1, hz2⟩ := info_parts Try.info33
    have I := Lib.hid (And.intro hi' (And.intro hz0 (And.intro hz1 hz2)))
    have IH := Lib.hid (ord_any n)
    clear hr hl hcell hcap hi' hz0 hz1 hz2
    have q9 : ((((n + 1 : Nat) : Int)) == 0) = false := by simp; omega
    obtain ⟨m, hm⟩ : ∃ m, m = n + 1 := ⟨_, rfl⟩
    rw [← hm] at q9 HR hoc ⊢
    have HM := Lib.hid hm
    have hm7 : m ≤ 7 := by omega
    clear hm
    go_enter Try.func68, Try.ntmps68
    go_wp2_with fail
    go_loopw [3, 4, 5, 6, 8, 15] (fun v _ _ _ _ i wr => ∃ k : Nat, k ≤ m ∧ i = .int .i64 (k : Int) ∧ Hid (SSl w wr v (preO n l k))) (fun _ _ _ _ _ i _ => m - (intOf i).toNat)
    case atStart => exact ⟨0, Nat.zero_le _, rfl, Lib.hid (SSl.nil w)⟩
    case round =>
      obtain ⟨k, hk, rfl, hS⟩ := hrel
      obtain ⟨va, vc, hv⟩ := hS.out.form
      subst hv
      have hswr := hS.out.below.size
      by_cases hlt : k < m
      · have q0 : (k : Int) < (m : Int) := by omega
        have q1 : (0 : Int) ≤ (k : Int) := by omega
        obtain ⟨x, hx⟩ : ∃ x, l[k]? = some x := ⟨l[k]'(by rw [HL.out]; have := HM.out; omega), List.getElem?_eq_getElem _⟩
        have z0 : wr.cell? ⟨g, k, none⟩ = some (.int .i64 x) := by rw [hS.out.below.cell (p := ⟨g, k, none⟩) (by show g < _; omega)]; exact HC.out k x hx
        have HX := Lib.hid hx
        have q2 : k ≤ oc := by omega
        have q3 : (k : Int) ≤ (oc : Int) := by omega
        have q4 : k + 1 ≤ m := by omega
        have q5 : (k : Int) + 1 ≤ (m : Int) := by omega
        have q6 : IntKind.i64.wrap ((k : Int) + 1) = (k : Int) + 1 := by rw [IntKind.wrap_i64]; omega
        clear hx
        go_wp2_with fail
        refine wp_region_held_drew (S := (fun w' => Hid (Below wr.heap.size wr w'))) (by kernel_rfl) ?_ (fun hHeld => ?_)
        · exact Lib.hid (Below.refl _ _).drew
        refine step_read 0 20 rfl rfl (by kernel_rfl) (by kernel_rfl) (by kernel_rfl) (fun _ _ _ h => h) (by rfl) (v := ?_) (fun w hSw => ?_) (by assumption) ?_; rotate_left; (focus ((try dsimp only at hSw); go_simp; first | done | exact rfl)); simp only [List.set]
        refine step_read 1 21 rfl rfl (by kernel_rfl) (by kernel_rfl) (by kernel_rfl) (fun _ _ _ h => h) (by rfl) (v := ?_) (fun w hSw => ?_) (by assumption) ?_; rotate_left; (focus ((try dsimp only at hSw); go_simp; first | done | exact rfl)); simp only [List.set]
        refine step_read 2 22 rfl rfl (by kernel_rfl) (by kernel_rfl) (by kernel_rfl) (fun _ _ _ h => h) (by rfl) (v := ?_) (fun w hSw => ?_) (by assumption) ?_; rotate_left; (focus ((try dsimp only at hSw); go_simp; first | done | exact rfl)); simp only [List.set]
        refine step_read 3 23 rfl rfl (by kernel_rfl) (by kernel_rfl) (by kernel_rfl) (fun _ _ _ h => h) (by rfl) (v := ?_) (fun w hSw => ?_) (by assumption) ?_; rotate_left; (focus ((try dsimp only at hSw); go_simp; first | done | exact rfl)); simp only [List.set]
        refine step_read 4 24 rfl rfl (by kernel_rfl) (by kernel_rfl) (by kernel_rfl) (fun _ _ _ h => h) (by rfl) (v := ?_) (fun w hSw => ?_) (by assumption) ?_; rotate_left; (focus ((try dsimp only at hSw); go_simp; first | done | exact rfl)); simp only [List.set]
        refine step_read 5 25 rfl rfl (by kernel_rfl) (by kernel_rfl) (by kernel_rfl) (fun _ _ _ h => h) (by rfl) (v := ?_) (fun w hSw => ?_) (by assumption) ?_; rotate_left; (focus ((try dsimp only at hSw); go_simp; first | done | exact rfl)); simp only [List.set]
        refine step_read 6 26 rfl rfl (by kernel_rfl) (by kernel_rfl) (by kernel_rfl) (fun _ _ _ h => h) (by rfl) (v := ?_) (fun w hSw => ?_) (by assumption) ?_; rotate_left; (focus ((try dsimp only at hSw); go_simp; first | done | exact rfl)); simp only [List.set]
        refine wpAnyH_ready (rs := [7]) (by kernel_rfl) (by simp) ?_
        refine AllReadyH.cons rfl (fun Kc hK => ?_) (AllReadyH.nil)
        go_simp
        refine hK.out _ _ ?_ (fun hHeld => ?_)
        · exact Lib.hid (hHeld.out.alloc hHeld.out.size _)
        clear hK Kc
        refine wpAnyH_ready (rs := [8]) (by kernel_rfl) (by simp) ?_
        refine AllReadyH.cons rfl (fun Kc hK => ?_) (AllReadyH.nil)
        go_simp
        have HBW := hHeld
        have hsW : (wr.alloc (.cells #[.slice (some ⟨g, 0, none⟩) k oc, .slice (if oc = k + 1 then some ⟨g, 0, none⟩ else some ⟨g, k + 1, none⟩) (m - (k + 1)) (oc - (k + 1))] 33)).drew.heap.size = wr.heap.size + 1 := by show (wr.alloc _).heap.size = _; simp
        have HCW : Hid (∀ q z, l[q]? = some z → (wr.alloc (.cells #[.slice (some ⟨g, 0, none⟩) k oc, .slice (if oc = k + 1 then some ⟨g, 0, none⟩ else some ⟨g, k + 1, none⟩) (m - (k + 1)) (oc - (k + 1))] 33)).drew.cell? ⟨g, q, none⟩ = some (.int .i64 z)) := fun q z hz => by
          rw [HBW.out.cell (p := ⟨g, q, none⟩) (by show g < _; omega), hS.out.below.cell (p := ⟨g, q, none⟩) (by show g < _; omega)]
          exact HC.out q z hz
        go_at_call 93
        refine (concatG_any wr.heap.size (some ⟨g, 0, none⟩) (if oc = k + 1 then some ⟨g, 0, none⟩ else some ⟨g, k + 1, none⟩) k oc (m - (k + 1)) (oc - (k + 1)) (l.take k) (l.drop (k + 1)) _ (by omega) (by omega) (by show (wr.alloc _).cell? _ = _; simp) (by show (wr.alloc _).cell? _ = _; simp) ⟨by rw [List.length_take, HL.out]; have := HM.out; omega, fun _ => ⟨g, 0, rfl, by omega, fun q z hz => by
            rw [Nat.zero_add]
            rw [List.getElem?_take] at hz
            split at hz
            · exact HCW.out q z hz
            · cases hz⟩⟩ ⟨by rw [List.length_drop, HL.out]; have := HM.out; omega, fun hp => ⟨g, k + 1, by rw [if_neg (by omega)], by omega, fun q z hz => by
            rw [List.getElem?_drop] at hz
            exact HCW.out _ z hz⟩⟩).mono ?_
        rintro e u1 ⟨rv, rfl, hO⟩
        rw [show k + (m - (k + 1)) = n by have := HM.out; omega, ← List.eraseIdx_eq_take_drop_succ] at hO
        obtain ⟨ra, rc, hrv⟩ := own_slice hO.row
        subst hrv
        have HO := Lib.hid hO
        have HBu : Hid (Below wr.heap.size wr u1) := hHeld.out.trans (hO.below.mono (by omega))
        have HSu := Lib.hid (hS.out.grow HBu.out)
        have hsu1 : wr.heap.size < u1.heap.size := by have := hO.below.size; omega
        clear hHeld hO HBW HCW
        refine hK.out _ _ ?_ (fun hHeld => ?_)
        · exact HBu
        clear hK Kc
        refine step_read 9 6 rfl rfl (by kernel_rfl) (by kernel_rfl) (by kernel_rfl) (fun _ _ _ h => h) (by rfl) (v := ?_) (fun w hSw => ?_) (by assumption) ?_; rotate_left; (focus ((try dsimp only at hSw); go_simp; first | done | exact rfl)); simp only [List.set]
        refine wpAnyH_done (by kernel_rfl) ?_ _
        clear hHeld
        generalize (if oc = k + 1 then (some (⟨g, 0, none⟩ : Addr)) else some ⟨g, k + 1, none⟩) = pb
        have hrest : (l.eraseIdx k).length = n := by rw [List.length_eraseIdx]; have h1 : l.length = n + 1 := HL.out; have h2 : m = n + 1 := HM.out; split <;> omega
        have HO2 := Lib.hid (IH.out u1.heap.size u1.heap.size)
        go_wp2_with fail
        go_at_call 68
        refine (IH.out _ _ _ (l.eraseIdx k) u1 (by omega) hrest HO.out.cap (HO.out.toRow (by omega)) (Nat.le_refl _)).mono ?_
        rintro e u2 ⟨sv, rfl, hsub⟩
        obtain ⟨sa, sc, hsv⟩ := hsub.form
        subst hsv
        have HSUB := Lib.hid hsub
        have HSu2 := Lib.hid (HSu.out.grow hsub.below)
        have hsu2 := hsub.below.size
        have HXD : Hid (l.getD k 0 = x) := by show _ = _; rw [List.getD_eq_getElem?_getD, HX.out]; rfl
        have HP := Lib.hid (preO_succ n l k)
        obtain ⟨OO, hOO⟩ : ∃ OO, OO = ordF n (l.eraseIdx k) := ⟨_, rfl⟩
        rw [← hOO] at HSUB HP ⊢
        have HOO := Lib.hid hOO
        have hOOb : OO.length ≤ 200000 := by
          have h2 := ordF_num n (by omega) (l.eraseIdx k)
          have h3 := powS_mono n (by omega)
          rw [hOO]
          omega
        obtain ⟨PP, hPP⟩ : ∃ PP, PP = preO n l k := ⟨_, rfl⟩
        rw [← hPP] at HSu2 HP ⊢
        have HPP := Lib.hid hPP
        have HAP : Hid (∀ b, Value.ownBlock (.slice va PP.length vc) = some b → ¬ (u1.heap.size ≤ b ∧ b < u2.heap.size)) := fun b hb => by
          have := hS.out.lt b (by rw [← hPP]; exact hb)
          omega
        clear hsub hOO hPP HSu HO HO2 z0
        go_wp2_with fail
        go_loopw [3, 8, 32] (fun v _ j wr3 => ∃ q : Nat, q ≤ OO.length ∧ j = .int .i64 (q : Int) ∧ Hid (SSl w wr3 v (PP ++ (OO.take q).map fun o => l.getD k 0 :: o)) ∧ Hid (KeptB u1.heap.size u2.heap.size u2 wr3) ∧ Hid (∀ b, v.ownBlock = some b → ¬ (u1.heap.size ≤ b ∧ b < u2.heap.size))) (fun _ _ j _ => OO.length - (intOf j).toNat)
        case atStart => exact ⟨0, Nat.zero_le _, rfl, by rw [List.take_zero, List.map_nil, List.append_nil]; exact HSu2, KeptB.refl _ _, HAP⟩
        case round =>
          clear HSu2 HAP
          obtain ⟨q, hq, rfl, hS3, hK3, hA3⟩ := hrel
          obtain ⟨ta, tc, htv⟩ := hS3.out.form
          subst htv
          by_cases hql : q < OO.length
          · have p0 : (q : Int) < (OO.length : Int) := by omega
            have p1 : (0 : Int) ≤ (q : Int) := by omega
            obtain ⟨G, cap, pj, cj, lo1, hi1, hsv, hG1, hG2, hcj, hcc, hrj, hl1, hh1⟩ := HSUB.out.get hql
            cases hsv
            have HT : Hid ((OO.take (q + 1)).map (fun o => l.getD k 0 :: o) = (OO.take q).map (fun o => l.getD k 0 :: o) ++ [l.getD k 0 :: OO.getD q []]) := by
              show _ = _
              rw [List.take_add_one, List.getElem?_eq_getElem hql, List.map_append]
              rw [List.getD_eq_getElem?_getD (l := OO), List.getElem?_eq_getElem hql]
              rfl
            have HOL : Hid ((OO.getD q []).length = n) := by
              show _ = _
              refine ordF_len n (l.eraseIdx k) hrest _ ?_
              rw [← HOO.out, List.getD_eq_getElem?_getD, List.getElem?_eq_getElem hql]
              exact List.getElem_mem _
            obtain ⟨o, ho⟩ : ∃ o, o = OO.getD q [] := ⟨_, rfl⟩
            rw [← ho] at hcj hcc hrj HT HOL
            rw [HOL.out] at hcj hcc
            have z1 : wr.cell? ⟨G, q, none⟩ = some (.slice pj n cj) := by rw [hK3.out.cell hG1 hG2]; exact hcj
            have HRj : Hid (Row 1 wr lo1 hi1 (.slice pj n cj) n o) := by have := hK3.out.row hrj hl1 hh1; rw [HOL.out] at this; exact this
            have hsz3 := hK3.out.1
            have hsw3 := hS3.out.below.size
            clear ho hcj hrj
            have HB12 : Hid (Below wr.heap.size wr ((wr.alloc (.cells #[.int .i64 x] 3)).alloc (.cells #[.slice (some ⟨wr.heap.size, 0, none⟩) 1 1, .slice pj n cj] 33))) := by show Below _ _ _; go_grown
            go_wp2_with fail
            obtain ⟨y1, hy1⟩ : ∃ y1, y1 = ((wr.alloc (.cells #[.int .i64 x] 3)).alloc (.cells #[.slice (some ⟨wr.heap.size, 0, none⟩) 1 1, .slice pj n cj] 33)) := ⟨_, rfl⟩
            have hsy : y1.heap.size = wr.heap.size + 1 + 1 := by rw [hy1]; simp
            have e0 : y1.cell? ⟨wr.heap.size + 1, 0, none⟩ = some (.slice (some ⟨wr.heap.size, 0, none⟩) 1 1) := by rw [hy1]; exact ((new_at' (by simp)).trans rfl)
            have e1 : y1.cell? ⟨wr.heap.size + 1, 1, none⟩ = some (.slice pj n cj) := by rw [hy1]; exact ((new_at' (by simp)).trans rfl)
            have e2 : y1.cell? ⟨wr.heap.size, 0, none⟩ = some (.int .i64 x) := by rw [hy1, old_box (by simp)]; simp
            rw [← hy1] at HB12 ⊢
            clear hy1
            go_at_call 93
            refine (concatG_any (wr.heap.size + 1) (some ⟨wr.heap.size, 0, none⟩) pj 1 1 n cj [x] o y1 (by omega) (by omega) e0 e1 ⟨rfl, fun _ => ⟨wr.heap.size, 0, rfl, by omega, fun i z hz => by
              cases i with
              | zero => rw [← Option.some.inj hz]; exact e2
              | succ i => cases hz⟩⟩ ((HRj.out.below HB12.out (by omega)).src (by omega))).mono ?_
            rintro e y2 ⟨dv, rfl, hO⟩
            obtain ⟨da, dc, hdv⟩ := own_slice hO.row
            subst hdv
            have hb2 : Below wr.heap.size wr y2 := HB12.out.trans (hO.below.mono (by omega))
            have HB2 := Lib.hid hb2
            have hsy2 := hO.below.size
            have hcl : (x :: o).length = 1 + n := by rw [List.length_cons, HOL.out]; omega
            have HD : Hid (Row 1 y2 wr.heap.size y2.heap.size (.slice da (1 + n) dc) (x :: o).length (x :: o)) := by
              show Row _ _ _ _ _ _ _
              rw [hcl]
              exact (hO.toRow (by omega)).wide (by omega) (Nat.le_refl _)
            have HDC : Hid (capOk (.slice da (1 + n) dc) (x :: o).length) := by show capOk _ _; rw [hcl]; exact hO.cap
            obtain ⟨vs, bs, hSt, hcaps⟩ := hS3.out
            have HSt := Lib.hid hSt
            have HCaps := Lib.hid hcaps
            have Hw := Lib.hid (hSt.grow hb2).row
            obtain ⟨K, hKK⟩ : ∃ K, K = (PP ++ (OO.take q).map fun o => l.getD k 0 :: o).length := ⟨_, rfl⟩
            have HKK := Lib.hid hKK
            have hK1000 : K ≤ 2000000 := by
              have h1 := preO_num n l (by omega) k
              have h2 := ordF_num n (by omega) (l.eraseIdx k)
              have h3 := powS_mono n (by omega)
              have h4 : PP.length = (preO n l k).length := by rw [HPP.out]
              have h5 : OO.length = (ordF n (l.eraseIdx k)).length := by rw [HOO.out]
              have h6 : (k : Int) * 117649 ≤ 7 * 117649 := by omega
              rw [hKK, List.length_append, List.length_map, List.length_take]
              omega
            rw [← hKK] at Hw HSt ⊢
            clear hKK hSt hcaps hO hb2 e0 e1 e2 hcl z1 HRj
            go_wp2_with (at_builtin; refine wpList_append_lies _ rfl _ _ 73 rfl w.heap.size 33 iS (.slice none 0 0) 1 24 Try.underlying73 I.out.1 I.out.2.1 I.out.2.2.1 I.out.2.2.2 rfl (by decide) _ K ((List.range K).map vs) rfl (Hw.out.alloc _) ⟨y2.heap.size, 0, none⟩ 1 1 [.slice da (1 + n) dc] rfl rfl ?d0 (slice_one _ _ _) (by decide) ?d1 ?d2 ?d3 _ rfl ?_)
            case d0 => exact fun j u hj => cell_one_new _ _ 33 rfl j u hj
            case d1 => unfold maxLen; omega
            case d2 => omega
            case d3 => simp; omega
            intro g4 cap4 w4 hown4 hgrow4 hat4 hlt4
            have hK' : (PP ++ (OO.take q).map fun o => l.getD k 0 :: o).length = K := HKK.out.symm
            have HF : Hid (SSl w w4 (.slice (some ⟨g4, 0, none⟩) (K + 1) cap4) (PP ++ (OO.take (q + 1)).map fun o => l.getD k 0 :: o)) := by
              rw [HT.out, ← List.append_assoc, HXD.out]
              rw [HXD.out] at hK' HSt
              refine SSl.app (v := .slice ta K tc) (vs := vs) (bs := bs) (g := g4) (by rw [hK']; exact HSt.out) (by have := HCaps.out; rw [HXD.out] at this; exact this) HB2.out HD.out HDC.out ((Below.refl _ _).alloc (Nat.le_refl _) (.cells #[.slice da (1 + n) dc] 33)) hgrow4 rfl (hat4.imp id (fun e => by rw [e]; simp)) (by rw [hK']; exact hown4)
            have hgk := hgrow4.size
            have HK4 : Hid (KeptB u1.heap.size u2.heap.size u2 w4) := (((hK3.out.below HB2.out).below ((Below.refl _ _).alloc (Nat.le_refl _) (.cells #[.slice da (1 + n) dc] 33)))).grown hgrow4 (fun b hb => hA3.out b (by rw [hK']; exact hb))
            have HA4 : Hid (∀ b, Value.ownBlock (.slice (some ⟨g4, 0, none⟩) (K + 1) cap4) = some b → ¬ (u1.heap.size ≤ b ∧ b < u2.heap.size)) := fun b hb => by
              have e : g4 = b := by simpa [Value.ownBlock] using hb
              subst e
              rcases hat4 with h | h
              · exact hA3.out g4 (by rw [hK']; exact h)
              · have : y2.heap.size ≤ g4 := by rw [h]; first | omega | (simp; omega)
                have := HB2.out.size
                omega
            have hlen : K + 1 = (PP ++ (OO.take (q + 1)).map fun o => l.getD k 0 :: o).length := by rw [HT.out, ← List.append_assoc, List.length_append, hK']; rfl
            clear hown4 hgrow4 hat4 hlt4 hS3 hK3 hA3 Hw HSt hK'
            go_wp2_with fail
            go_roundw
            case rel => exact ⟨q + 1, by omega, by go_num, HF, HK4, HA4⟩
            case measure => simp [intOf]; omega
          · obtain rfl : q = OO.length := by omega
            have hge : ¬ ((OO.length : Int) < (OO.length : Int)) := by omega
            have HN : Hid (SSl w wr (.slice ta (PP ++ (OO.take OO.length).map fun o => l.getD k 0 :: o).length tc) (preO n l (k + 1))) := by
              have e : preO n l (k + 1) = PP ++ (OO.take OO.length).map fun o => l.getD k 0 :: o := by rw [HP.out, List.take_length]
              rw [e]
              exact hS3
            clear hS3
            go_wp2_with fail
            go_roundw
            case rel => exact ⟨k + 1, by omega, by go_num, HN⟩
            case measure => simp [intOf]; omega
      · obtain rfl : k = m := by omega
        have hge : ¬ ((k : Int) < (k : Int)) := by omega
        have HE : Hid (SSl w wr (.slice va (preO n l k).length vc) (ordF k l)) := by
          have e : ordF k l = preO n l k := by rw [HM.out]; rfl
          rw [e]
          exact hS.out
        go_wp2_with fail
        go_ret
        exact ⟨_, rfl, HE.out⟩

end Go.Proofs.Ytjenjdhoblcohaa
