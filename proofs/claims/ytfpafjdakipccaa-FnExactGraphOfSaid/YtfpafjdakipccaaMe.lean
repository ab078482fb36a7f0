/- Shelves of advertisements. -/
import Derived.Test.YtfpafjdakipccaaDi
import Derived.Test.YtfpafjdakipccaaMp
namespace Go.Proofs.Ytfpafjdakipccaa
open Go.RowKit
def dfind (D : List Ls) (x : Int) : Option Ls := D.find? fun l => l.o == x
theorem dfind_snoc (A : List Ls) (p : Ls) (x : Int) : dfind (A ++ [p]) x = (dfind A x).or (if p.o = x then some p else none) := by
  unfold dfind
  rw [List.find?_append]
  congr 1
  by_cases h : p.o = x
  · rw [if_pos h]; simp [h]
  · rw [if_neg h]; simp [h]
theorem dfind_some {D : List Ls} {x : Int} {l : Ls} (h : dfind D x = some l) : l.o = x /\ ∃ i : Nat, D[i]? = some l := by
  unfold dfind at h
  have h1 := List.find?_some h
  have h2 := List.mem_of_find?_eq_some h
  exact ⟨by simpa using h1, List.mem_iff_getElem?.1 h2⟩
theorem dfind_none {D : List Ls} {x : Int} : dfind D x = none ↔ ∀ (i : Nat) (l : Ls), D[i]? = some l -> l.o ≠ x := by
  unfold dfind
  rw [List.find?_eq_none]
  constructor
  · intro h i l hi
    have := h l (List.mem_of_getElem? hi)
    simpa using this
  · intro h l hl
    obtain ⟨i, hi⟩ := List.mem_iff_getElem?.1 hl
    simpa using h i l hi
theorem dokB_lt {D : List Ls} (h : dokB D = true) : ∀ (j i : Nat) (p q : Ls), i < j -> D[i]? = some p -> D[j]? = some q -> p.o < q.o
  | 0, i, p, q, hij, _, _ => absurd hij (Nat.not_lt_zero _)
  | j + 1, i, p, q, hij, hp, hq => by
    have hl := (List.getElem?_eq_some_iff.1 hq).1
    have hm : D[j]? = some (D[j]'(by omega)) := List.getElem?_eq_getElem _
    have := dokB_at h hl
    rw [dchk_prev hq hm, Bool.and_eq_true, decide_eq_true_iff] at this
    by_cases e : i = j
    · subst e
      rw [hm] at hp
      obtain rfl := Option.some.inj hp
      exact this.2
    · have := dokB_lt h j i p _ (by omega) hp hm
      omega
theorem dfind_at {D : List Ls} (h : dokB D = true) {i : Nat} {l : Ls} (hi : D[i]? = some l) : dfind D l.o = some l := by
  cases hf : dfind D l.o with
  | none => exact absurd rfl (dfind_none.1 hf i l hi)
  | some l' =>
    obtain ⟨h1, j, hj⟩ := dfind_some hf
    rcases Nat.lt_trichotomy i j with e | e | e
    · have := dokB_lt h j i _ _ e hi hj; omega
    · subst e; rw [hi] at hj; exact hj.symm
    · have := dokB_lt h i j _ _ e hj hi; omega
theorem take_at {D : List Ls} {k i : Nat} {l : Ls} (h : (D.take k)[i]? = some l) : i < k /\ D[i]? = some l := by
  have hl := (List.getElem?_eq_some_iff.1 h).1
  rw [List.length_take] at hl
  rw [List.getElem?_take, if_pos (by omega)] at h
  exact ⟨by omega, h⟩
theorem dfind_fresh {D : List Ls} (h : dokB D = true) {k : Nat} {p : Ls} (hp : D[k]? = some p) : dfind (D.take k) p.o = none :=
  dfind_none.2 fun i l hi => by
    obtain ⟨h1, h2⟩ := take_at hi
    have := dokB_lt h k i l p h1 h2 hp
    omega
def putF (F : Int -> Option Ls) (l : Ls) : Int -> Option Ls := fun y => if y = l.o then some l else F y
theorem dfind_next {D : List Ls} (h : dokB D = true) {k : Nat} {p : Ls} (hp : D[k]? = some p) : putF (dfind (D.take k)) p = dfind (D.take (k + 1)) := by
  funext y
  rw [take_snocD hp, dfind_snoc]
  unfold putF
  by_cases e : y = p.o
  · subst e; rw [if_pos rfl, if_pos rfl, dfind_fresh h hp]; rfl
  · rw [if_neg e, if_neg (fun q => e q.symm)]; simp
def lsv (l : Ls) (u y : Value) : Value := .agg #[.int .i64 l.o, .int .i64 l.s, .int .i64 l.g, u, y]
def Shelf (w : World) (m B : Nat) (F : Int -> Option Ls) : Prop :=
  B <= m /\ ∃ f, MapI w m f /\ ∀ x, (F x = none /\ f x = none) ∨ ∃ l u y lo hi, F x = some l /\ f x = some (lsv l u y) /\ LRow w lo hi u y l.K.length l.T.length (flat2 l.K) (flat l.T) /\ hi <= B
theorem Shelf.lt {w : World} {m B : Nat} {F : Int -> Option Ls} (h : Shelf w m B F) : m < w.heap.size := by
  obtain ⟨_, f, h1, _⟩ := h
  exact h1.lt
theorem LRow.move {w w' : World} {lo hi n m : Nat} {u v : Value} {Y Z : List Int} (h : LRow w lo hi u v n m Y Z) (hk : ∀ b, b < hi -> w'.heap[b]? = w.heap[b]?) : LRow w' lo hi u v n m Y Z := by
  obtain ⟨mid, m1, m2, r1, r2⟩ := h
  exact ⟨mid, m1, m2, r1.move fun b _ hb => hk b (by omega), r2.move fun b _ hb => hk b hb⟩
theorem Shelf.move {w w' : World} {m B : Nat} {F : Int -> Option Ls} (h : Shelf w m B F) (hk : ∀ b, b <= m -> w'.heap[b]? = w.heap[b]?) : Shelf w' m B F := by
  obtain ⟨h0, f, h1, h2⟩ := h
  refine ⟨h0, f, h1.move (hk m (Nat.le_refl _)), fun x => ?_⟩
  rcases h2 x with h3 | ⟨l, u, y, lo, hi, e1, e2, r, hB⟩
  · exact .inl h3
  · exact .inr ⟨l, u, y, lo, hi, e1, e2, r.move fun b hb => hk b (by omega), hB⟩
theorem Shelf.below {w w' : World} {m B Bb : Nat} {F : Int -> Option Ls} (h : Shelf w m B F) (hb : Below Bb w w') (hm : m < Bb) : Shelf w' m B F := h.move fun b hb' => hb.block b (by omega)
theorem Shelf.made {w : World} {B : Nat} (hB : B <= w.heap.size) : Shelf (w.alloc (.map #[] 0)) w.heap.size B (fun _ => none) := ⟨hB, _, MapI.made w, fun _ => .inl ⟨rfl, rfl⟩⟩
theorem Shelf.put {w w' : World} {m B lo hi : Nat} {F : Int -> Option Ls} {f : Int -> Option Value} {l : Ls} {u y : Value} (hB : B <= m)
    (h2 : ∀ x, (F x = none /\ f x = none) ∨ ∃ l u y lo hi, F x = some l /\ f x = some (lsv l u y) /\ LRow w lo hi u y l.K.length l.T.length (flat2 l.K) (flat l.T) /\ hi <= B)
    (hm : MapI w' m (putM f l.o (lsv l u y))) (ho : Only m w w') (hr : LRow w lo hi u y l.K.length l.T.length (flat2 l.K) (flat l.T)) (hh : hi <= B) : Shelf w' m B (putF F l) := by
  refine ⟨hB, _, hm, fun x => ?_⟩
  unfold putF putM
  by_cases e : x = l.o
  · rw [if_pos e, if_pos e]
    exact .inr ⟨l, u, y, lo, hi, rfl, rfl, hr.move fun b hb => ho.2.2.2.2 b (by omega), hh⟩
  · rw [if_neg e, if_neg e]
    rcases h2 x with h3 | ⟨l', u', y', lo', hi', e1, e2, r, hB'⟩
    · exact .inl h3
    · exact .inr ⟨l', u', y', lo', hi', e1, e2, r.move fun b hb => ho.2.2.2.2 b (by omega), hB'⟩
theorem only_below {m B : Nat} {w w' : World} (h : Only m w w') (hB : B <= m) : Below B w w' := h.below hB
structure ShRel (w wr : World) (v : Value) (D : List Ls) (k : Nat) : Prop where
  cell : wr.cell? ⟨w.heap.size, 0, none⟩ = some v
  size : w.heap.size < wr.heap.size
  below : Below w.heap.size w wr
  shelf : Shelf wr (w.heap.size + 1) w.heap.size (dfind (D.take k))
set_option maxHeartbeats 4000000 in
theorem shelf_any (D : List Ls) (lo hi : Nat) (v : Value) (w : World) (hr : DRow w lo hi v D) (hh : hi <= w.heap.size) (hv : dokB D = true) :
    Calls Try.prog 50 #[.agg #[v]] w fun e w' => e = .returned (.map (some (w.heap.size + 1))) /\ Shelf w' (w.heap.size + 1) w.heap.size (dfind D) /\ Below w.heap.size w w' := by
  have HV := Lib.hid hv
  obtain ⟨a, c, us, xs, bs, rfl, X⟩ := hr
  have hm := X.len
  obtain ⟨n, hn⟩ : ∃ n, n = D.length := ⟨_, rfl⟩
  rw [<- hn] at hm ⊢
  have HN := Lib.hid hn
  have HX := Lib.hid X
  clear X hn hv
  have hmk : ∀ w : World, (Instr.makeMap 82 none).run Try.prog w = .ok (.map (some w.heap.size)) (w.alloc (.map #[] 0)) := fun w => run_makeMap _ w
  go_enter Try.func50, Try.ntmps50
  go_wp2
  have HS : Hid (ShRel w ((w.alloc (.cells #[.slice a n c] 26)).alloc (.map #[] 0)) (.slice a n c) D 0) := Lib.hid ⟨by rw [old_box (by simp)]; exact new_box _ _ _, by simp <;> omega, by go_grown, by
    have := Shelf.made (w := w.alloc (.cells #[.slice a n c] 26)) (B := w.heap.size) (by simp)
    have e : (w.alloc (.cells #[.slice a n c] 26)).heap.size = w.heap.size + 1 := by simp
    rw [e] at this
    exact this⟩
  clear hmk
  go_loopw [10] (fun i wr => ∃ k : Nat, k <= n /\ i = .int .i64 (k : Int) /\ Hid (ShRel w wr (.slice a n c) D k)) (fun i _ => n - (intOf i).toNat)
  case atStart => exact ⟨0, Nat.zero_le _, rfl, HS⟩
  case round =>
    clear HS
    obtain ⟨k, hk, rfl, hR⟩ := hrel
    by_cases hlt : k < n
    · skip
      obtain ⟨p, hp⟩ : ∃ p, D[k]? = some p := ⟨_, List.getElem?_eq_getElem (by have := HN.out; omega)⟩
      obtain ⟨G, rfl, g1, g2, _, g4, _⟩ := HX.out.outer (by have := HN.out; omega)
      have hc := (g4 k p hp).below hR.out.below (by omega)
      obtain ⟨i1, i2, i3⟩ := HX.out.inner k p hp
      have R1 := Lib.hid (i1.below hR.out.below (by omega))
      obtain ⟨x1, y1, x2, y2, e1, e2⟩ := i1.slice
      rw [e1, e2] at hc R1
      obtain ⟨nk, hnk⟩ : ∃ q, q = p.K.length := ⟨_, rfl⟩
      obtain ⟨mk, hmk⟩ : ∃ q, q = p.T.length := ⟨_, rfl⟩
      rw [<- hnk, <- hmk] at hc R1
      have Hnk := Lib.hid hnk
      have Hmk := Lib.hid hmk
      obtain ⟨d1, d2, d3, d4, d5⟩ := hc
      have d0 := hR.out.cell
      have hsz := hR.out.size
      have hk0 : (0 : Int) <= (k : Int) := by omega
      have hk1 : (k : Int) < (n : Int) := by omega
      have hGw : G < wr.heap.size := by omega
      obtain ⟨H0, hH0⟩ : ∃ q, q = (bs k).1 := ⟨_, rfl⟩
      obtain ⟨H1, hH1⟩ : ∃ q, q = (bs k).2 := ⟨_, rfl⟩
      have z1 : H1 <= wr.heap.size := by omega
      rw [<- hH0, <- hH1] at R1
      have Hp := Lib.hid hp
      have HH1 := Lib.hid hH1
      clear i1 i2 i3 e1 e2 hH0 hH1 hnk hmk hp
      have Hbd := Ls.ok_bd (dokB_get HV.out Hp.out).1
      have o0 := Hbd.1
      have o9 := Hbd.2.1
      obtain ⟨sB, f, sm, sf⟩ := hR.out.shelf
      have SM := Lib.hid sm
      have SF := Lib.hid sf
      have sl := sm.lt
      have zH : H1 <= w.heap.size := by have h := (HX.out.inner k p Hp.out).2.2; have h2 := HH1.out; omega
      clear Hbd sm sf g4
      go_wp2_with (at_mapUpdate; refine wpList_mapUpdate_I _ rfl _ _ _ 82 rfl 3 33 Try.underlying82 Try.underlying3 (w.heap.size + 1) f rfl (SM.out.move (Below.heap_alloc _ _ _ sl)) p.o rfl o0 o9 _ rfl ?_; intro w9 hm9 ho9)
      have HE : Hid (ShRel w w9 (.slice (some ⟨G, 0, none⟩) n c) D (k + 1)) := Lib.hid (by
        have hg : Below wr.heap.size wr (wr.alloc (.cells #[.int .i64 p.o, .int .i64 p.s, .int .i64 p.g, .slice x1 nk y1, .slice x2 mk y2] 33)) := by go_grown
        have hb9 := only_below ho9 (B := w.heap.size + 1) (Nat.le_refl _)
        have hz9 : (wr.alloc (.cells #[.int .i64 p.o, .int .i64 p.s, .int .i64 p.g, .slice x1 nk y1, .slice x2 mk y2] 33)).heap.size = w9.heap.size := ho9.2.2.2.1.symm
        refine ⟨?_, ?_, (hR.out.below.trans (hg.mono (by omega))).trans (hb9.mono (by omega)), ?_⟩
        · rw [hb9.cell (p := ⟨w.heap.size, 0, none⟩) (by show w.heap.size < _; omega), hg.cell (p := ⟨w.heap.size, 0, none⟩) hsz]; exact d0
        · rw [<- hz9]; simp; omega
        · rw [<- dfind_next HV.out Hp.out]
          refine Shelf.put sB (fun x => ?_) hm9 ho9 (lo := H0) (hi := H1) ?_ zH
          · rcases SF.out x with h3 | ⟨l, u, y, lo2, hi2, e1, e2, r, hB⟩
            · exact .inl h3
            · exact .inr ⟨l, u, y, lo2, hi2, e1, e2, r.below hg (by omega), hB⟩
          · have hr1 := R1.out.below hg z1
            rw [Hnk.out, Hmk.out] at hr1 ⊢
            exact hr1)
      clear hm9 ho9
      go_wp2
      go_roundw
      case rel => exact ⟨k + 1, by omega, by go_num, HE⟩
      case measure => simp [intOf]; omega
    · have hge : ¬ ((k : Int) < (n : Int)) := by omega
      have d0 := hR.out.cell
      have HZ : Hid (Shelf wr (w.heap.size + 1) w.heap.size (dfind D)) := Lib.hid (by have h := hR.out.shelf; rw [show k = D.length by have := HN.out; omega, List.take_length] at h; exact h)
      go_wp2
      go_ret
      exact ⟨rfl, HZ.out, hR.out.below⟩
end Go.Proofs.Ytfpafjdakipccaa
