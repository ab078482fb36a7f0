/- Rows of rows: what they are, and how the law copies, compares and marks them. -/
import Derived.Test.YtnaifkmganngfaaGr
import Derived.Test.YtnaifkmganngfaaMt
import Derived.Test.YtnaifkmganngfaaGo0
import Derived.Test.YtnaifkmganngfaaGk
import Derived.Deep.DeepCutAuto
namespace Go.Proofs.Ytnaifkmganngfaa
open Go.RowKit




/-- Of the old blocks none has turned but such as lie from lo on and below hi. -/
structure Tur (lo hi : Nat) (w w' : World) : Prop where
  os : w'.os = w.os
  tape : w'.tape = w.tape
  output : w'.output = w.output
  size : w.heap.size ≤ w'.heap.size
  block : ∀ b, b < w.heap.size → b < lo ∨ hi ≤ b → w'.heap[b]? = w.heap[b]?
theorem Tur.of {lo hi : Nat} {w w' : World} (h : Turned lo hi w w') : Tur lo hi w w' := by
  obtain ⟨g, he, hg⟩ := h
  refine ⟨he.1, he.2.1, he.2.2.1, he.2.2.2.1, fun b hb hd => he.2.2.2.2 b hb (by omega)⟩
theorem Tur.refl (lo hi : Nat) (w : World) : Tur lo hi w w := ⟨rfl, rfl, rfl, Nat.le_refl _, fun _ _ _ => rfl⟩
theorem Tur.trans {lo hi lo1 hi1 lo2 hi2 : Nat} {a b c : World} (h : Tur lo1 hi1 a b) (h' : Tur lo2 hi2 b c) (l1 : lo ≤ lo1) (l2 : lo ≤ lo2) (u1 : hi1 ≤ hi) (u2 : hi2 ≤ hi) : Tur lo hi a c :=
  ⟨h'.os.trans h.os, h'.tape.trans h.tape, h'.output.trans h.output, Nat.le_trans h.size h'.size, fun k hk hd => (h'.block k (Nat.lt_of_lt_of_le hk h.size) (by omega)).trans (h.block k hk (by omega))⟩
theorem Tur.cell {lo hi b o : Nat} {w w' : World} (h : Tur lo hi w w') (hb : b < w.heap.size) (hg : b < lo ∨ hi ≤ b) : w'.cell? ⟨b, o, none⟩ = w.cell? ⟨b, o, none⟩ := World.cell?_of_block (w := w) (a := ⟨b, o, none⟩) (h.block b hb hg)
theorem Tur.frozen {lo hi b o : Nat} {w w' : World} (h : Tur lo hi w w') (hb : b < w.heap.size) (hg : b < lo ∨ hi ≤ b) : w'.frozen? ⟨b, o, none⟩ = w.frozen? ⟨b, o, none⟩ := World.frozen?_of_block (w := w) (a := ⟨b, o, none⟩) (h.block b hb hg)
theorem Tur.row {k lo hi lo' hi' n : Nat} {w w' : World} {v : Value} {Z : List Int} (h : Tur lo hi w w') (hr : Row k w lo' hi' v n Z) (hh : hi' ≤ w.heap.size) (hd : hi' ≤ lo ∨ hi ≤ lo') : Row k w' lo' hi' v n Z := by
  obtain ⟨h0, hr⟩ := hr
  refine ⟨h0, ?_⟩
  rcases hr with hr | ⟨b, cap, rfl, h1, h2, h3, h4, h5⟩
  · exact .inl hr
  · exact .inr ⟨b, cap, rfl, h1, h2, h3, fun q z hz => by rw [h.cell (by omega) (by omega)]; exact h4 q z hz, fun o => by rw [h.frozen (by omega) (by omega)]; exact h5 o⟩
theorem Tur.below {lo hi B : Nat} {w w' : World} (h : Tur lo hi w w') (hB : B ≤ lo) (hw : B ≤ w.heap.size) : Below B w w' := ⟨h.os, h.tape, h.output, h.size, fun k hk => h.block k (by omega) (by omega)⟩
theorem Row.move {k : Nat} {w w' : World} {lo hi n : Nat} {v : Value} {Z : List Int} (h : Row k w lo hi v n Z) (hk : ∀ b, lo ≤ b → b < hi → w'.heap[b]? = w.heap[b]?) : Row k w' lo hi v n Z := by
  obtain ⟨h0, h⟩ := h
  refine ⟨h0, ?_⟩
  rcases h with h | ⟨b, cap, rfl, h1, h2, h3, h4, h5⟩
  · exact .inl h
  · have hb := hk b h1 h2
    refine .inr ⟨b, cap, rfl, h1, h2, h3, fun q z hz => ?_, fun o => ?_⟩
    · rw [World.cell?_of_block (w := w) (a := ⟨b, q, none⟩) hb]; exact h4 q z hz
    · rw [World.frozen?_of_block (w := w) (a := ⟨b, o, none⟩) hb]; exact h5 o

/-- A table of the argument: its slice. -/
def RArg (w : World) (u : Value) (l : List Rw) : Prop := ∃ Z, Arg 5 w u l.length Z ∧ (List.range (l.length * 5)).map Z = flat l
theorem RArg.below {w w' : World} {u : Value} {l : List Rw} (h : RArg w u l) (hb : Below w.heap.size w w') : RArg w' u l := by
  obtain ⟨Z, h1, h2⟩ := h
  exact ⟨Z, h1.below hb, h2⟩
/-- A slice argument of tables. -/
def TArg (w : World) (v : Value) (D : List (List Rw)) : Prop :=
  D.length ≤ maxLen ∧ ((D = [] ∧ ∃ a c, v = .slice a 0 c) ∨
  ∃ b off cap, v = .slice (some ⟨b, off, none⟩) D.length cap ∧ b < w.heap.size ∧ ∃ us : Nat → Value, ∀ i l, D[i]? = some l → w.cell? ⟨b, off + i, none⟩ = some (us i) ∧ RArg w (us i) l)
theorem TArg.below {w w' : World} {v : Value} {D : List (List Rw)} (h : TArg w v D) (hb : Below w.heap.size w w') : TArg w' v D := by
  obtain ⟨h1, h⟩ := h
  refine ⟨h1, ?_⟩
  rcases h with h | ⟨b, off, cap, rfl, h2, us, h3⟩
  · exact .inl h
  · have := hb.size
    exact .inr ⟨b, off, cap, rfl, by omega, us, fun i l hi => ⟨by rw [hb.cell (p := ⟨b, off + i, none⟩) h2]; exact (h3 i l hi).1, (h3 i l hi).2.below hb⟩⟩
theorem TArg.slice {w : World} {v : Value} {D : List (List Rw)} (h : TArg w v D) : ∃ a c, v = .slice a D.length c := by
  rcases h.2 with ⟨rfl, a, c, rfl⟩ | ⟨b, off, cap, rfl, _⟩
  · exact ⟨a, c, rfl⟩
  · exact ⟨_, cap, rfl⟩
theorem TArg.opened {w : World} {v : Value} {D : List (List Rw)} (h : TArg w v D) : ∃ a c, v = .slice a D.length c ∧ (0 < D.length → ∃ b off, a = some ⟨b, off, none⟩ ∧ b < w.heap.size ∧ ∃ us : Nat → Value, ∀ i l, D[i]? = some l → w.cell? ⟨b, off + i, none⟩ = some (us i) ∧ RArg w (us i) l) := by
  rcases h.2 with ⟨rfl, a, c, rfl⟩ | ⟨b, off, cap, rfl, h2, h3⟩
  · exact ⟨a, c, rfl, fun h => absurd h (by simp)⟩
  · exact ⟨_, cap, rfl, fun _ => ⟨b, off, rfl, h2, h3⟩⟩

/-- The tables D in block G from its first cell on, their slices at us, each in a part bs of memory of its own. -/
structure TSt (w : World) (lo hi : Nat) (a : Option Addr) (D : List (List Rw)) (us : Nat → Value) (bs : Nat → Nat × Nat) : Prop where
  len : D.length ≤ 1100000
  outer : 0 < D.length → ∃ G, a = some ⟨G, 0, none⟩ ∧ lo ≤ G ∧ G < hi ∧ (∀ o, w.frozen? ⟨G, o, none⟩ = false) ∧ (∀ i l, D[i]? = some l → w.cell? ⟨G, i, none⟩ = some (us i)) ∧ ∀ i, i < D.length → G < (bs i).1 ∨ (bs i).2 ≤ G
  inner : ∀ i l, D[i]? = some l → Row 5 w (bs i).1 (bs i).2 (us i) l.length (flat l) ∧ lo ≤ (bs i).1 ∧ (bs i).2 ≤ hi
  apart : ∀ i j, i < j → j < D.length → (bs i).2 ≤ (bs j).1
/-- A slice of tables that share no memory. -/
def TRow (w : World) (lo hi : Nat) (v : Value) (D : List (List Rw)) : Prop := ∃ a c us bs, v = .slice a D.length c ∧ TSt w lo hi a D us bs
theorem TSt.move {w w' : World} {lo hi : Nat} {a : Option Addr} {D : List (List Rw)} {us : Nat → Value} {bs : Nat → Nat × Nat} (h : TSt w lo hi a D us bs) (hk : ∀ b, lo ≤ b → b < hi → w'.heap[b]? = w.heap[b]?) : TSt w' lo hi a D us bs where
  len := h.len
  outer hn := by
    obtain ⟨G, h1, h2, h3, h4, h5, h6⟩ := h.outer hn
    have hb := hk G h2 h3
    exact ⟨G, h1, h2, h3, fun o => by rw [World.frozen?_of_block (w := w) (a := ⟨G, o, none⟩) hb]; exact h4 o, fun i l hi' => by rw [World.cell?_of_block (w := w) (a := ⟨G, i, none⟩) hb]; exact h5 i l hi', h6⟩
  inner i l hi' := by
    obtain ⟨r1, h2, h3⟩ := h.inner i l hi'
    exact ⟨r1.move fun b x y => hk b (by omega) (by omega), h2, h3⟩
  apart := h.apart
theorem TRow.move {w w' : World} {lo hi : Nat} {v : Value} {D : List (List Rw)} (h : TRow w lo hi v D) (hk : ∀ b, lo ≤ b → b < hi → w'.heap[b]? = w.heap[b]?) : TRow w' lo hi v D := by
  obtain ⟨a, c, us, bs, e, h⟩ := h
  exact ⟨a, c, us, bs, e, h.move hk⟩
theorem TRow.below {w w' : World} {B lo hi : Nat} {v : Value} {D : List (List Rw)} (h : TRow w lo hi v D) (hb : Below B w w') (hB : hi ≤ B) : TRow w' lo hi v D := h.move fun b _ hb' => hb.block b (by omega)
theorem TRow.drewN {w : World} {lo hi : Nat} {v : Value} {D : List (List Rw)} (h : TRow w lo hi v D) (q : Nat) : TRow (w.drewN q) lo hi v D := h.move fun _ _ _ => rfl
theorem TRow.setCell {w : World} {lo hi : Nat} {v : Value} {D : List (List Rw)} (h : TRow w lo hi v D) {p : Addr} (hp : p.block < lo ∨ hi ≤ p.block) (u : Value) : TRow (w.setCell p u) lo hi v D := h.move fun b h1 h2 => Below.heap_setCell _ _ _ _ (by omega)
theorem TRow.wide {w : World} {lo hi lo' hi' : Nat} {v : Value} {D : List (List Rw)} (h : TRow w lo hi v D) (hl : lo' ≤ lo) (hh : hi ≤ hi') : TRow w lo' hi' v D := by
  obtain ⟨a, c, us, bs, e, h⟩ := h
  refine ⟨a, c, us, bs, e, h.len, fun hn => ?_, fun i l hi' => ?_, h.apart⟩
  · obtain ⟨G, h1, h2, h3, h4⟩ := h.outer hn
    exact ⟨G, h1, by omega, by omega, h4⟩
  · obtain ⟨h1, h2, h3⟩ := h.inner i l hi'
    exact ⟨h1, by omega, by omega⟩
theorem TRow.slice {w : World} {lo hi : Nat} {v : Value} {D : List (List Rw)} (h : TRow w lo hi v D) : ∃ a c, v = .slice a D.length c := by
  obtain ⟨a, c, _, _, e, _⟩ := h
  exact ⟨a, c, e⟩
theorem TRow.len {w : World} {lo hi : Nat} {v : Value} {D : List (List Rw)} (h : TRow w lo hi v D) : D.length ≤ 1100000 := by
  obtain ⟨_, _, _, _, _, h⟩ := h
  exact h.len
theorem TRow.empty (w : World) (lo hi : Nat) (a : Option Addr) (c : Nat) : TRow w lo hi (.slice a 0 c) [] :=
  ⟨a, c, fun _ => .bool true, fun _ => (0, 0), rfl, Nat.zero_le _, fun h => absurd h (Nat.lt_irrefl _), fun i l h => by simp at h, fun i j _ h => absurd h (Nat.not_lt_zero _)⟩
theorem Tur.trow {lo hi lo' hi' : Nat} {w w' : World} {v : Value} {D : List (List Rw)} (h : Tur lo hi w w') (hr : TRow w lo' hi' v D) (hh : hi' ≤ w.heap.size) (hd : hi' ≤ lo ∨ hi ≤ lo') : TRow w' lo' hi' v D := hr.move fun b h1 h2 => h.block b (by omega) (by omega)

/-- How many tables and routes there are. -/
def rtot : List (List Rw) → Nat
  | [] => 0
  | l :: D => l.length + rtot D
def ttot (D : List (List Rw)) : Nat := D.length + rtot D
theorem rtot_app : ∀ A B : List (List Rw), rtot (A ++ B) = rtot A + rtot B
  | [], B => by simp [rtot]
  | l :: A, B => by show l.length + rtot (A ++ B) = l.length + rtot A + rtot B; rw [rtot_app A B]; omega
theorem take_snoc3 {D : List (List Rw)} {k : Nat} {p : List Rw} (h : D[k]? = some p) : D.take (k + 1) = D.take k ++ [p] := by
  rw [List.take_add_one, h]; rfl
theorem rtot_snoc {D : List (List Rw)} {k : Nat} {p : List Rw} (h : D[k]? = some p) : rtot (D.take (k + 1)) = rtot (D.take k) + p.length := by
  rw [take_snoc3 h, rtot_app]; simp [rtot]
theorem rtot_take_le : ∀ (D : List (List Rw)) (k : Nat), rtot (D.take k) ≤ rtot D
  | [], k => by simp
  | l :: D, 0 => by simp [rtot]
  | l :: D, k + 1 => by show l.length + rtot (D.take k) ≤ l.length + rtot D; have := rtot_take_le D k; omega
theorem rtot_at_le {D : List (List Rw)} {k : Nat} {p : List Rw} (h : D[k]? = some p) : rtot (D.take k) + p.length ≤ rtot D := by
  rw [← rtot_snoc h]; exact rtot_take_le _ _



/-- How much is left. -/
def szt (l : Int) (n : Nat) (D : List (List Rw)) (k : Nat) (z : Int) : Prop := z = l - (n : Int) - (rtot (D.take k) : Int) ∧ 0 ≤ z ∧ z ≤ 1048576

set_option maxHeartbeats 2400000 in
theorem szRowSS_fit (v : Value) (D : List (List Rw)) (l : Int) (w : World) (hA : TArg w v D) (h0 : (ttot D : Int) ≤ l) (h1 : l ≤ 1048576) :
    Calls Try.prog 42 #[v, .int .i64 l] w fun e w' => e = .returned (.int .i64 (l - (ttot D : Int))) ∧ Below w.heap.size w w' := by
  obtain ⟨a, c, rfl, hop⟩ := hA.opened
  have hm := hA.1
  unfold ttot at h0 ⊢
  obtain ⟨n, hn⟩ : ∃ n, n = D.length := ⟨_, rfl⟩
  rw [← hn] at hm h0 hop ⊢
  have HN := Lib.hid hn
  have HO := Lib.hid hop
  have q : (n : Int) ≤ l := by omega
  have q0 : ¬ (l - (n : Int) < 0) := by omega
  have q9 : (n : Int) ≤ 9223372036854775807 := by omega
  have q8 : -9223372036854775808 ≤ l := by omega
  have H0 := Lib.hid h0
  clear hA hop hn hm h0
  go_enter Try.func42, Try.ntmps42
  go_wp2
  go_loopw [1, 5] (fun q i wr => ∃ (k : Nat) (z : Int), k ≤ n ∧ i = .int .i64 (k : Int) ∧ q = .int .i64 z ∧ szt l n D k z ∧ Hid (Below w.heap.size w wr)) (fun _ i _ => n - (intOf i).toNat)
  case atStart => exact ⟨0, _, Nat.zero_le _, rfl, rfl, ⟨by simp [rtot], by omega, by omega⟩, Below.refl _ _⟩
  case round =>
    obtain ⟨k, z, hk, rfl, rfl, hz, hB⟩ := hrel
    obtain ⟨hz1, hz2, hz3⟩ := hz
    have HZ := Lib.hid hz1
    clear hz1
    by_cases hlt : k < n
    · obtain ⟨p, hp⟩ : ∃ p, D[k]? = some p := ⟨_, List.getElem?_eq_getElem (by have := HN.out; omega)⟩
      obtain ⟨b, off, rfl, hb, us, hel⟩ := HO.out (by omega)
      obtain ⟨hc, Z, hL, f1⟩ := hel k p hp
      have d0 : wr.cell? ⟨b, off + k, none⟩ = some (us k) := by rw [hB.out.cell (p := ⟨b, off + k, none⟩) hb]; exact hc
      have y1 := hL.2.1
      obtain ⟨u1, c1, hu⟩ := hL.slice
      have e1 := rtot_snoc hp
      have e2 := rtot_at_le hp
      rw [hu] at d0
      obtain ⟨nk, hnk⟩ : ∃ q, q = p.length := ⟨_, rfl⟩
      rw [← hnk] at d0 e1 e2 y1
      have q0 : (0 : Int) ≤ (k : Int) := by omega
      have q1 : (k : Int) < (n : Int) := by omega
      have hsz := hB.out.size
      have hbl : b < wr.heap.size := by omega
      have E1 := Lib.hid e1
      have E2 := Lib.hid e2
      have hmm : (-1 : Int) < 0 := by omega
      clear f1 hel hc hL hu e1 e2 hnk hp Z
      have q5 : ¬ (z - (nk : Int) < 0) := by have h0 := H0.out; have h1 := HZ.out; have h2 := E2.out; omega
      have q6 : szt l n D (k + 1) (z - (nk : Int)) := by have h0 := H0.out; have h1 := HZ.out; have h2 := E2.out; have h3 := E1.out; exact ⟨by omega, by omega, by omega⟩
      have Q6 := Lib.hid q6
      clear q6 E1 E2
      go_wp2_with fail
      go_at_call 62
      refine (szRowS_any u1 nk c1 z _ y1 hz2 hz3).mono ?_
      rw [if_neg (show ¬ (z - (nk : Int) < 0) by omega)]
      rintro e w9 ⟨rfl, hb9⟩
      have HB9 : Hid (Below w.heap.size w w9) := hB.out.trans (hb9.mono (by omega))
      clear hb9
      go_wp2
      go_roundw
      case rel => exact ⟨k + 1, _, by omega, by go_num, rfl, Q6.out, HB9⟩
      case measure => simp [intOf]; omega
    · have hge : ¬ ((k : Int) < (n : Int)) := by omega
      go_wp2
      go_ret
      exact ⟨ret_int (by have h1 := HZ.out; have h2 := HN.out; rw [show k = D.length by omega, List.take_length] at h1; push_cast; omega), hB.out⟩

set_option maxHeartbeats 2400000 in
theorem szRowSS_big (v : Value) (D : List (List Rw)) (l : Int) (w : World) (hA : TArg w v D) (h2 : 0 ≤ l) (h0 : l < (ttot D : Int)) (h1 : l ≤ 1048576) :
    Calls Try.prog 42 #[v, .int .i64 l] w fun e w' => e = .returned (.int .i64 (-1)) ∧ Below w.heap.size w w' := by
  obtain ⟨a, c, rfl, hop⟩ := hA.opened
  have hm := hA.1
  unfold ttot at h0
  obtain ⟨n, hn⟩ : ∃ n, n = D.length := ⟨_, rfl⟩
  rw [← hn] at hm h0 hop ⊢
  have HN := Lib.hid hn
  have HO := Lib.hid hop
  unfold maxLen at hm
  have q9 : (n : Int) ≤ 9223372036854775807 := by omega
  have H0 := Lib.hid h0
  clear hA hop hn h0
  by_cases q : l - (n : Int) < 0
  · go_enter Try.func42, Try.ntmps42
    go_wp2
    go_ret
    exact ⟨rfl, Below.refl _ _⟩
  go_enter Try.func42, Try.ntmps42
  go_wp2
  go_loopw [1, 5] (fun q i wr => ∃ (k : Nat) (z : Int), k ≤ n ∧ i = .int .i64 (k : Int) ∧ q = .int .i64 z ∧ szt l n D k z ∧ Hid (Below w.heap.size w wr)) (fun _ i _ => n - (intOf i).toNat)
  case atStart => exact ⟨0, _, Nat.zero_le _, rfl, rfl, ⟨by simp [rtot], by omega, by omega⟩, Below.refl _ _⟩
  case round =>
    obtain ⟨k, z, hk, rfl, rfl, hz, hB⟩ := hrel
    obtain ⟨hz1, hz2, hz3⟩ := hz
    have HZ := Lib.hid hz1
    clear hz1
    by_cases hlt : k < n
    · obtain ⟨p, hp⟩ : ∃ p, D[k]? = some p := ⟨_, List.getElem?_eq_getElem (by have := HN.out; omega)⟩
      obtain ⟨b, off, rfl, hb, us, hel⟩ := HO.out (by omega)
      obtain ⟨hc, Z, hL, f1⟩ := hel k p hp
      have d0 : wr.cell? ⟨b, off + k, none⟩ = some (us k) := by rw [hB.out.cell (p := ⟨b, off + k, none⟩) hb]; exact hc
      have y1 := hL.2.1
      obtain ⟨u1, c1, hu⟩ := hL.slice
      have e1 := rtot_snoc hp
      have e2 := rtot_at_le hp
      rw [hu] at d0
      obtain ⟨nk, hnk⟩ : ∃ q, q = p.length := ⟨_, rfl⟩
      rw [← hnk] at d0 e1 e2 y1
      have q0 : (0 : Int) ≤ (k : Int) := by omega
      have q1 : (k : Int) < (n : Int) := by omega
      have hsz := hB.out.size
      have hbl : b < wr.heap.size := by omega
      have E1 := Lib.hid e1
      have E2 := Lib.hid e2
      have hmm : (-1 : Int) < 0 := by omega
      clear f1 hel hc hL hu e1 e2 hnk hp Z
      go_wp2_with fail
      go_at_call 62
      refine (szRowS_any u1 nk c1 z _ y1 hz2 hz3).mono ?_
      by_cases q5 : z - (nk : Int) < 0
      · rw [if_pos (show z - (nk : Int) < 0 by omega)]
        rintro e w9 ⟨rfl, hb9⟩
        have HB9 : Hid (Below w.heap.size w w9) := hB.out.trans (hb9.mono (by omega))
        clear hb9
        go_wp2
        go_ret
        exact ⟨rfl, HB9.out⟩
      · have q6 : szt l n D (k + 1) (z - (nk : Int)) := by have h1 := HZ.out; have h2 := E2.out; have h3 := E1.out; exact ⟨by omega, by omega, by omega⟩
        have Q6 := Lib.hid q6
        clear q6 E1 E2
        rw [if_neg (show ¬ (z - (nk : Int) < 0) by omega)]
        rintro e w9 ⟨rfl, hb9⟩
        have HB9 : Hid (Below w.heap.size w w9) := hB.out.trans (hb9.mono (by omega))
        clear hb9
        go_wp2
        go_roundw
        case rel => exact ⟨k + 1, _, by omega, by go_num, rfl, Q6.out, HB9⟩
        case measure => simp [intOf]; omega
    · exfalso
      have h1 := HZ.out
      have h2 := HN.out
      have h3 := H0.out
      rw [show k = D.length by omega, List.take_length] at h1
      push_cast at h3
      omega



theorem Try.info54 : (Try.prog.info? 54).map (fun i => (i.zero, i.size, i.bytes)) = some (some (.slice none 0 0), 1, 24) := by kernel_rfl

/-- Block G, new since w, of N cells, holds the first k tables of D. -/
structure TPart (w wr : World) (G N k : Nat) (D : List (List Rw)) (us : Nat → Value) (bs : Nat → Nat × Nat) : Prop where
  below : Below w.heap.size w wr
  lo : w.heap.size ≤ G
  hi : G < wr.heap.size
  frz : ∀ o, wr.frozen? ⟨G, o, none⟩ = false
  some_ : ∀ j, j < N → ∃ u, wr.cell? ⟨G, j, none⟩ = some u
  done_ : ∀ i l, i < k → D[i]? = some l → wr.cell? ⟨G, i, none⟩ = some (us i) ∧ Row 5 wr (bs i).1 (bs i).2 (us i) l.length (flat l) ∧ G < (bs i).1 ∧ (bs i).2 ≤ wr.heap.size
  apart : ∀ i j, i < j → j < k → (bs i).2 ≤ (bs j).1
  last : ∀ i, i < k → (bs i).2 ≤ wr.heap.size
theorem TPart.below' {w wr w2 : World} {G N k : Nat} {D : List (List Rw)} {us : Nat → Value} {bs : Nat → Nat × Nat} (h : TPart w wr G N k D us bs) (hb : Below wr.heap.size wr w2) : TPart w w2 G N k D us bs where
  below := chain h.below hb
  lo := h.lo
  hi := Nat.lt_of_lt_of_le h.hi hb.size
  frz o := by rw [hb.frozen (p := ⟨G, o, none⟩) h.hi]; exact h.frz o
  some_ j hj := by rw [hb.cell (p := ⟨G, j, none⟩) h.hi]; exact h.some_ j hj
  done_ i l hi hl := by
    obtain ⟨h1, h2, h3, h4⟩ := h.done_ i l hi hl
    exact ⟨by rw [hb.cell (p := ⟨G, i, none⟩) h.hi]; exact h1, h2.below hb h4, h3, Nat.le_trans h4 hb.size⟩
  apart := h.apart
  last i hi := Nat.le_trans (h.last i hi) hb.size
theorem TPart.put {w wr : World} {G N k s : Nat} {D : List (List Rw)} {us : Nat → Value} {bs : Nat → Nat × Nat} {l : List Rw} {u : Value} (h : TPart w wr G N k D us bs) (hl : D[k]? = some l) (hN : k < N)
    (hr : Row 5 wr s wr.heap.size u l.length (flat l)) (hG : G < s) (hs : ∀ i, i < k → (bs i).2 ≤ s) :
    TPart w (wr.setCell ⟨G, k, none⟩ u) G N (k + 1) D (fun i => if i = k then u else us i) (fun i => if i = k then (s, wr.heap.size) else bs i) where
  below := h.below.setCell h.lo _
  lo := h.lo
  hi := by simp [World.setCell]; exact h.hi
  frz o := by rw [World.frozen?_setCell]; exact h.frz o
  some_ j hj := by
    by_cases e : j = k
    · subst e
      obtain ⟨u0, e0⟩ := h.some_ j hj
      exact ⟨u, World.cell?_setCell_same' _ _ _ (by rw [e0]; rfl)⟩
    · obtain ⟨u0, e0⟩ := h.some_ j hj
      exact ⟨u0, by rw [World.cell?_setCell_other _ _ _ _ (by simp)]; exact e0⟩
  done_ i l' hi hl' := by
    have hm : ∀ b, G < b → (wr.setCell ⟨G, k, none⟩ u).heap[b]? = wr.heap[b]? := fun b hb => Below.heap_setCell _ _ _ _ (show b ≠ G by omega)
    have hz : (wr.setCell ⟨G, k, none⟩ u).heap.size = wr.heap.size := by simp [World.setCell]
    rw [hz]
    by_cases e : i = k
    · subst e
      obtain rfl : l = l' := by rw [hl] at hl'; exact Option.some.inj hl'
      obtain ⟨u0, e0⟩ := h.some_ i hN
      simp only [if_pos]
      exact ⟨World.cell?_setCell_same' _ _ _ (by rw [e0]; rfl), hr.move fun b hb _ => hm b (by omega), hG, Nat.le_refl _⟩
    · simp only [if_neg e]
      obtain ⟨h1, r1, h3, h4⟩ := h.done_ i l' (by omega) hl'
      exact ⟨by rw [World.cell?_setCell_other _ _ _ _ (by simp)]; exact h1, r1.move fun b hb _ => hm b (by omega), h3, h4⟩
  apart i j hij hj := by
    by_cases e : j = k
    · subst e
      simp only [if_neg (show ¬ i = j by omega), if_pos]
      exact hs i hij
    · simp only [if_neg (show ¬ i = k by omega), if_neg e]
      exact h.apart i j hij (by omega)
  last i hi := by
    have hz : (wr.setCell ⟨G, k, none⟩ u).heap.size = wr.heap.size := by simp [World.setCell]
    rw [hz]
    by_cases e : i = k
    · simp only [if_pos e]; exact Nat.le_refl _
    · simp only [if_neg e]; exact h.last i (by omega)
/-- Some such. -/
def TPartE (w wr : World) (G N k : Nat) (D : List (List Rw)) : Prop := ∃ us bs, TPart w wr G N k D us bs
theorem TPartE.start {w w1 : World} {n cap : Nat} {D : List (List Rw)} {xs : List Value} (h : w1.ownsRow w.heap.size 54 1 (.slice (some ⟨w.heap.size, 0, none⟩) n cap) n xs) (hg : w.grownBy w1 none) : TPartE w w1 w.heap.size (n * 1) 0 D := by
  refine ⟨fun _ => .bool true, fun _ => (0, 0), (Below.refl _ _).grown hg (Nat.le_refl _) (fun k hk => by cases hk), Nat.le_refl _, (h.lt w.heap.size rfl).2, fun o => h.frozenAt o, fun j hj => ?_, fun i l hi => absurd hi (Nat.not_lt_zero _), fun i j _ hj => absurd hj (Nat.not_lt_zero _), fun i hi => absurd hi (Nat.not_lt_zero _)⟩
  have hl : j < xs.length := by rw [h.1]; exact hj
  exact ⟨xs[j], by rw [h.cellAt j hj]; exact List.getElem?_eq_getElem hl⟩
theorem TPartE.row {w wr : World} {G N cap : Nat} {D : List (List Rw)} (h : TPartE w wr G N D.length D) (hn : D.length ≤ 1100000) : TRow wr w.heap.size wr.heap.size (.slice (some ⟨G, 0, none⟩) D.length cap) D := by
  obtain ⟨us, bs, h⟩ := h
  refine ⟨_, cap, us, bs, rfl, hn, fun h0 => ⟨G, rfl, h.lo, h.hi, h.frz, fun i l hl => (h.done_ i l (List.getElem?_eq_some_iff.1 hl).1 hl).1, fun i hi => ?_⟩, fun i l hl => ?_, h.apart⟩
  · have := (h.done_ i _ hi (List.getElem?_eq_getElem hi)).2.2.1
    exact .inl this
  · obtain ⟨h1, h2, h3, h4⟩ := h.done_ i l (List.getElem?_eq_some_iff.1 hl).1 hl
    have := h.lo
    exact ⟨h2, by omega, h4⟩

set_option maxHeartbeats 2400000 in
theorem toRowSS_any (v : Value) (D : List (List Rw)) (w : World) (hA : TArg w v D) (hd : ttot D ≤ 1048576) :
    Calls Try.prog 43 #[v] w fun e w' => ∃ rv, e = .returned rv ∧ TRow w' w.heap.size w'.heap.size rv D ∧ Below w.heap.size w w' := by
  obtain ⟨a, c, rfl, hop⟩ := hA.opened
  obtain ⟨i39, hi, hz0, hz1, hz2⟩ := info_parts Try.info54
  have hm := hA.1
  unfold ttot at hd
  obtain ⟨n, hn⟩ : ∃ n, n = D.length := ⟨_, rfl⟩
  rw [← hn] at hm hd hop ⊢
  have HN := Lib.hid hn
  have HO := Lib.hid hop
  have HD := Lib.hid hd
  have hnn : n ≤ 1048576 := by omega
  clear hA hop hn hd
  go_enter Try.func43, Try.ntmps43
  go_wp2_with (at_make; refine wpList_make_full _ rfl _ _ 26 rfl w.heap.size 54 i39 (.slice none 0 0) 1 Try.underlying26 hi hz0 hz1 .i64 .i64 _ _ n rfl rfl rfl rfl ?b2 ?b3 ?b4 ?_)
  case b2 => rw [hz2]; omega
  case b3 => unfold maxLen; omega
  case b4 => exact Nat.le_refl _
  intro w1 hown hgr
  have HF : Hid (TPartE w w1 w.heap.size (n * 1) 0 D) := Lib.hid (TPartE.start hown hgr)
  clear hi hz0 hz1 hz2 hown hgr
  go_wp2
  go_loopw [4] (fun i wr => ∃ j : Nat, j ≤ n ∧ i = .int .i64 (j : Int) ∧ Hid (TPartE w wr w.heap.size (n * 1) j D)) (fun i _ => n - (intOf i).toNat)
  case atStart => exact ⟨0, Nat.zero_le _, rfl, HF⟩
  case round =>
    obtain ⟨k, hk, rfl, hF⟩ := hrel
    by_cases hlt : k < n
    · have hjk : k < n * 1 := by omega
      obtain ⟨p, hp⟩ : ∃ p, D[k]? = some p := ⟨_, List.getElem?_eq_getElem (by have := HN.out; omega)⟩
      obtain ⟨b, off, rfl, hb, us, hel⟩ := HO.out (by omega)
      obtain ⟨us2, bs, hP⟩ := hF.out
      obtain ⟨hc, Z, hL, f1⟩ := hel k p hp
      have hB := Lib.hid hP.below
      have d0 : wr.cell? ⟨b, off + k, none⟩ = some (us k) := by rw [hB.out.cell (p := ⟨b, off + k, none⟩) hb]; exact hc
      have HL : Hid (Arg 5 wr (us k) p.length Z) := Lib.hid (hL.below hB.out)
      obtain ⟨u1, c1, hu⟩ := hL.slice
      have e2 := rtot_at_le hp
      rw [hu] at d0 HL
      have HP := Lib.hid hP
      have hp1 : p.length ≤ 1048576 := by have := HD.out; omega
      have HK := Lib.hid f1
      have Hp := Lib.hid hp
      obtain ⟨nk, hnk⟩ : ∃ q, q = p.length := ⟨_, rfl⟩
      rw [← hnk] at d0 HL hp1 HK
      have Hnk := Lib.hid hnk
      have q0 : (0 : Int) ≤ (k : Int) := by omega
      have q1 : (k : Int) < (n : Int) := by omega
      have hGw := hP.hi
      have hsz := hB.out.size
      clear hel hc hL hu e2 hnk hp hP f1 hF
      go_wp2_with fail
      go_at_call 63
      refine (toRowS_any _ nk Z wr HL.out hp1).mono ?_
      rintro e w2 ⟨ru, rfl, hr, hb2⟩
      rw [HK.out, Hnk.out] at hr
      have HR := Lib.hid hr
      have HP2 := HP.out.below' hb2
      have hz2 := hb2.size
      obtain ⟨w5, hw5⟩ : ∃ q, q = w2.setCell ⟨w.heap.size, k, none⟩ ru := ⟨_, rfl⟩
      have HS : Hid (TPartE w w5 w.heap.size (n * 1) (k + 1) D) := Lib.hid (by rw [hw5]; exact ⟨_, _, HP2.put Hp.out hjk hr hGw (fun i hi => HP.out.last i hi)⟩)
      obtain ⟨v0, e0⟩ := HP2.some_ k (by omega)
      have g0 := HP2.frz k
      obtain ⟨x1, y1, rfl⟩ := HR.out.slice
      have HW := Lib.hid hw5
      clear hw5 HP2 hr hb2 HR d0
      go_wp2
      rw [show w2.setCell ⟨w.heap.size, k, none⟩ (.slice x1 p.length y1) = w5 from HW.out.symm]
      go_roundw
      case rel => exact ⟨k + 1, by omega, by go_num, HS⟩
      case measure => simp [intOf]; omega
    · have hge : ¬ ((k : Int) < (n : Int)) := by omega
      obtain rfl : k = n := by omega
      go_wp2
      go_ret
      have hF2 := hF.out
      refine ⟨_, rfl, ?_, hF2.choose_spec.choose_spec.below⟩
      rw [HN.out] at hF2 ⊢
      exact hF2.row (by have := HN.out; omega)



set_option maxHeartbeats 4000000 in
theorem eqRowSS_same (D : List (List Rw)) (lo hi lo' hi' : Nat) (v v' : Value) (w : World) (hr : TRow w lo hi v D) (hr' : TRow w lo' hi' v' D) (hh : hi ≤ w.heap.size) (hh' : hi' ≤ w.heap.size) :
    Calls Try.prog 46 #[v, v'] w fun e w' => e = .returned (.bool true) ∧ Below w.heap.size w w' := by
  obtain ⟨a, c, us, bs, rfl, X⟩ := hr
  obtain ⟨a', c', us', bs', rfl, X'⟩ := hr'
  have hm := X.len
  obtain ⟨n, hn⟩ : ∃ n, n = D.length := ⟨_, rfl⟩
  rw [← hn] at hm ⊢
  have HN := Lib.hid hn
  have HX := Lib.hid X
  have HX' := Lib.hid X'
  clear X X' hn
  go_enter Try.func46, Try.ntmps46
  go_wp2
  go_loopw [5] (fun i wr => ∃ k : Nat, k ≤ n ∧ i = .int .i64 (k : Int) ∧ Hid (Below w.heap.size w wr)) (fun i _ => n - (intOf i).toNat)
  case atStart => exact ⟨0, Nat.zero_le _, rfl, Below.refl _ _⟩
  case round =>
    obtain ⟨k, hk, rfl, hB⟩ := hrel
    by_cases hlt : k < n
    · obtain ⟨p, hp⟩ : ∃ p, D[k]? = some p := ⟨_, List.getElem?_eq_getElem (by have := HN.out; omega)⟩
      obtain ⟨G, rfl, g1, g2, g3, g4, _⟩ := HX.out.outer (by have := HN.out; omega)
      obtain ⟨G', rfl, g1', g2', g3', g4', _⟩ := HX'.out.outer (by have := HN.out; omega)
      have hsz := hB.out.size
      have d0 : wr.cell? ⟨G, k, none⟩ = some (us k) := by rw [hB.out.cell (p := ⟨G, k, none⟩) (show G < w.heap.size by omega)]; exact g4 k p hp
      have f0 : wr.cell? ⟨G', k, none⟩ = some (us' k) := by rw [hB.out.cell (p := ⟨G', k, none⟩) (show G' < w.heap.size by omega)]; exact g4' k p hp
      obtain ⟨i1, i2, i3⟩ := HX.out.inner k p hp
      obtain ⟨j1, j2, j3⟩ := HX'.out.inner k p hp
      have R1 := Lib.hid (i1.below hB.out (by omega))
      have R2 := Lib.hid (j1.below hB.out (by omega))
      obtain ⟨x1, y1, e1⟩ := i1.slice
      obtain ⟨x3, y3, e3⟩ := j1.slice
      rw [e1] at d0 R1
      rw [e3] at f0 R2
      have hk0 : (0 : Int) ≤ (k : Int) := by omega
      have hk1 : (k : Int) < (n : Int) := by omega
      have hGw : G < wr.heap.size := by omega
      have hGw' : G' < wr.heap.size := by omega
      obtain ⟨H1, hH1⟩ : ∃ q, q = (bs k).2 := ⟨_, rfl⟩
      obtain ⟨H2, hH2⟩ : ∃ q, q = (bs' k).2 := ⟨_, rfl⟩
      have z1 : H1 ≤ wr.heap.size := by omega
      have z2 : H2 ≤ wr.heap.size := by omega
      rw [← hH1] at R1
      rw [← hH2] at R2
      clear g3 g3' g4 g4' i1 j1 i2 i3 j2 j3 e1 e3 hH1 hH2
      go_wp2_with fail
      go_region_held3 (fun w' => w'.cell? ⟨G, k, none⟩ = some (.slice x1 p.length y1) ∧ w'.cell? ⟨G', k, none⟩ = some (.slice x3 p.length y3) ∧ wr.heap.size ≤ w'.heap.size ∧ Below wr.heap.size wr w') (first | assumption | exact rr2_start d0 f0 | exact rr2_drew (by assumption) | exact rr2_keep (by omega) (by omega) (by assumption) (by assumption))
        (first | (go_at_call 65; refine (eqRowS_same (flat p) p.length _ _ _ _ _ _ _ (R1.out.below (rr2_out (by assumption)).2 z1) (R2.out.below (rr2_out (by assumption)).2 z2) (by have hq := (rr2_out (by assumption)).1; omega) (by have hq := (rr2_out (by assumption)).1; omega)).mono ?_; rintro e w9 ⟨rfl, hb⟩))
      have HE : Hid (Below w.heap.size w w9) := hB.out.trans ((rr2_out (by assumption)).2.mono (by omega))
      go_wp2_with fail
      go_roundw
      case rel => exact ⟨k + 1, by omega, by go_num, HE⟩
      case measure => simp [intOf]; omega
    · have hge : ¬ ((k : Int) < (n : Int)) := by omega
      go_wp2
      go_ret
      exact ⟨rfl, hB.out⟩

set_option maxRecDepth 100000 in
set_option maxHeartbeats 4000000 in
theorem markRowSS_K (K : Int) (D : List (List Rw)) (lo hi : Nat) (v : Value) (w : World) (hK : K = 1 + ((rtot D * 5 : Nat) : Int)) (hr : TRow w lo hi v D) (hh : hi ≤ w.heap.size) (hT : rtot D ≤ 1100000) :
    Calls Try.prog 47 #[v, .int .i64 1] w fun e w' => e = .returned (.int .i64 K) ∧ Tur lo hi w w' := by
  subst hK
  obtain ⟨a, c, us, bs, rfl, X⟩ := hr
  have hm := X.len
  obtain ⟨n, hn⟩ : ∃ n, n = D.length := ⟨_, rfl⟩
  rw [← hn] at hm ⊢
  have HN := Lib.hid hn
  have HX := Lib.hid X
  have HM := Lib.hid hT
  have A0 : Hid (∀ i l, 0 ≤ i → D[i]? = some l → Row 5 w (bs i).1 (bs i).2 (us i) l.length (flat l) ∧ ∃ G, a = some ⟨G, 0, none⟩ ∧ w.cell? ⟨G, i, none⟩ = some (us i)) := Lib.hid (fun i l _ hl => by
    have hil := (List.getElem?_eq_some_iff.1 hl).1
    obtain ⟨G, g0, g1, g2, g3, g4, g5⟩ := X.outer (by omega)
    exact ⟨(X.inner i l hl).1, G, g0, g4 i l hl⟩)
  clear X hn hT
  go_enter Try.func47, Try.ntmps47
  go_wp2
  go_loopw [1, 5] (fun q i wr => ∃ (k : Nat) (z : Int), k ≤ n ∧ i = .int .i64 (k : Int) ∧ q = .int .i64 z ∧ Hid (z = 1 + ((rtot (D.take k) * 5 : Nat) : Int)) ∧ Hid (∀ i l, k ≤ i → D[i]? = some l → Row 5 wr (bs i).1 (bs i).2 (us i) l.length (flat l) ∧ ∃ G, a = some ⟨G, 0, none⟩ ∧ wr.cell? ⟨G, i, none⟩ = some (us i)) ∧ Hid (Tur lo hi w wr)) (fun _ i _ => n - (intOf i).toNat)
  case atStart => exact ⟨0, _, Nat.zero_le _, rfl, rfl, rfl, A0, Tur.refl _ _ _⟩
  case round =>
    clear A0
    obtain ⟨k, z, hk, rfl, rfl, HZ, hX, hT2⟩ := hrel
    by_cases hlt : k < n
    · have hkl : k < D.length := by have := HN.out; omega
      obtain ⟨p, hp⟩ : ∃ p, D[k]? = some p := ⟨_, List.getElem?_eq_getElem hkl⟩
      obtain ⟨R0, G, rfl, d0⟩ := hX.out k p (Nat.le_refl _) hp
      obtain ⟨G2, g0, g1, g2, g3, g4, g5⟩ := HX.out.outer (by omega)
      obtain rfl : G = G2 := by simpa using g0
      obtain ⟨_, i2, i3⟩ := HX.out.inner k p hp
      have hms := rtot_snoc hp
      have hml := rtot_at_le hp
      have hz : z = 1 + ((rtot (D.take k) * 5 : Nat) : Int) := HZ.out
      have hM := HM.out
      have z0 : 0 ≤ z := by omega
      have z1 : z ≤ 1000000000 := by omega
      have z2 : p.length ≤ 1100000 := by omega
      have hsz := hT2.out.size
      have hkz : (0 : Int) ≤ (k : Int) := by omega
      have hkn : (k : Int) < (n : Int) := by omega
      have hGw : G < wr.heap.size := by omega
      have HR0 := Lib.hid R0
      obtain ⟨x1, y1, e1⟩ := R0.slice
      rw [e1] at d0 HR0
      have E1 := Lib.hid e1
      have HH : Hid (∀ i l, k < i → D[i]? = some l → (Row 5 wr (bs i).1 (bs i).2 (us i) l.length (flat l) ∧ wr.cell? ⟨G, i, none⟩ = some (us i)) ∧ ((bs k).2 ≤ (bs i).1 ∧ (bs i).2 ≤ wr.heap.size)) := Lib.hid (fun i l hi hl => by
        have hil := (List.getElem?_eq_some_iff.1 hl).1
        obtain ⟨r1, G3, g6, g7⟩ := hX.out i l (by omega) hl
        obtain rfl : G = G3 := by simpa using g6
        have := (HX.out.inner i l hl).2.2
        exact ⟨⟨r1, g7⟩, HX.out.apart k i hi hil, by omega⟩)
      have g5k := g5 k hkl
      have hz3 : z + ((p.length * 5 : Nat) : Int) = 1 + ((rtot (D.take (k + 1)) * 5 : Nat) : Int) := by rw [hms, hz]; push_cast; omega
      have HZ3 := Lib.hid hz3
      have HG5 := Lib.hid g5k
      have HI2 := Lib.hid i2
      have HI3 := Lib.hid i3
      obtain ⟨np, hnp⟩ : ∃ q, q = p.length := ⟨_, rfl⟩
      rw [← hnp] at d0 HR0 z2 HZ3
      have HP := Lib.hid hp
      clear g0 g3 g4 g5 hms hml hz hM R0 e1 hX g5k hz3 i2 i3 hnp hp
      go_wp2_with fail
      go_at_call 66
      refine (markRowS_any z (flat p) np _ _ _ wr z0 z1 z2 HR0.out).mono ?_
      rintro e w9 ⟨rfl, _, ht9⟩
      have T9 := Tur.of ht9
      have HT9 : Hid (Tur lo hi w w9) := Lib.hid (hT2.out.trans T9 (Nat.le_refl _) HI2.out (Nat.le_refl _) HI3.out)
      have HA9 : Hid (∀ i l, k + 1 ≤ i → D[i]? = some l → Row 5 w9 (bs i).1 (bs i).2 (us i) l.length (flat l) ∧ ∃ G', some (⟨G, 0, none⟩ : Addr) = some ⟨G', 0, none⟩ ∧ w9.cell? ⟨G', i, none⟩ = some (us i)) := Lib.hid (fun i l hi hl => by
        obtain ⟨⟨r1, c1⟩, a1, a2⟩ := HH.out i l (by omega) hl
        have hg := HG5.out
        exact ⟨T9.row r1 a2 (.inr a1), G, rfl, by rw [T9.cell hGw hg]; exact c1⟩)
      clear ht9 T9 HH HG5 HI2 HI3
      go_wp2_with fail
      go_roundw
      case rel => exact ⟨k + 1, _, by omega, by go_num, rfl, HZ3, HA9, HT9⟩
      case measure => simp [intOf]; omega
    · have hge : ¬ ((k : Int) < (n : Int)) := by omega
      go_wp2_with fail
      go_ret
      exact ⟨ret_int (by have h1 := HZ.out; have h2 := HN.out; rw [show k = D.length by omega, List.take_length] at h1; exact h1), hT2.out⟩

end Go.Proofs.Ytnaifkmganngfaa
