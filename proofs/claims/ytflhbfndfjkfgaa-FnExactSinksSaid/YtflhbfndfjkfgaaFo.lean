/- A step of a packet. -/
import Derived.Test.YtflhbfndfjkfgaaIe
import Derived.Test.YtflhbfndfjkfgaaOi
import Derived.Test.YtflhbfndfjkfgaaGi
namespace Go.Proofs.Ytflhbfndfjkfgaa
open Go.RowKit


/-- A packet in memory, at X: the tables' slice, the address, how far it may go on, its way Q in block g. -/
structure PkS (w wr : World) (X g cap : Nat) (tv : Value) (a : Int) (t n : Nat) (Q : List Int) : Prop where
  own : OwnI w wr (.slice (some ⟨g, 0, none⟩) n cap) n Q
  lo : w.heap.size ≤ X
  hi : X < wr.heap.size
  ne : g ≠ X
  c0 : wr.cell? ⟨X, 0, none⟩ = some tv
  c1 : wr.cell? ⟨X, 1, none⟩ = some (.int .i64 a)
  c2 : wr.cell? ⟨X, 2, none⟩ = some (.int .i64 (t : Int))
  c3 : wr.cell? ⟨X, 3, none⟩ = some (.slice (some ⟨g, 0, none⟩) n cap)
  frz : ∀ o, wr.frozen? ⟨X, o, none⟩ = false
theorem PkS.grow {w wr w2 : World} {X g cap : Nat} {tv : Value} {a : Int} {t n : Nat} {Q : List Int} (h : PkS w wr X g cap tv a t n Q) (b : Below wr.heap.size wr w2) : PkS w w2 X g cap tv a t n Q where
  own := h.own.grow b
  lo := h.lo
  hi := Nat.lt_of_lt_of_le h.hi b.size
  ne := h.ne
  c0 := by rw [b.cell (p := ⟨X, 0, none⟩) h.hi]; exact h.c0
  c1 := by rw [b.cell (p := ⟨X, 1, none⟩) h.hi]; exact h.c1
  c2 := by rw [b.cell (p := ⟨X, 2, none⟩) h.hi]; exact h.c2
  c3 := by rw [b.cell (p := ⟨X, 3, none⟩) h.hi]; exact h.c3
  frz o := by rw [b.frozen (p := ⟨X, o, none⟩) h.hi]; exact h.frz o
/-- What a step leaves as it was. -/
def Oth (X g : Nat) (wr w' : World) : Prop := wr.heap.size ≤ w'.heap.size ∧ ∀ b, b < wr.heap.size → b ≠ X → b ≠ g → w'.heap[b]? = wr.heap[b]?
theorem own_set {w wr : World} {X g cap n : Nat} {Q : List Int} (h : OwnI w wr (.slice (some ⟨g, 0, none⟩) n cap) n Q) (hX : w.heap.size ≤ X) (hne : g ≠ X) (o : Nat) (u : Value) : OwnI w (wr.setCell ⟨X, o, none⟩ u) (.slice (some ⟨g, 0, none⟩) n cap) n Q :=
  ⟨h.below.setCell (p := ⟨X, o, none⟩) hX _, h.row.kept (row := some X) ⟨rfl, rfl, rfl, by simp [World.setCell], fun j hj hne' => Below.heap_setCell _ _ _ _ (fun e => hne' (by rw [e]))⟩ (by simp [Value.ownBlock]; omega)⟩
theorem PkS.dec {w wr : World} {X g cap : Nat} {tv : Value} {a : Int} {t n : Nat} {Q : List Int} (h : PkS w wr X g cap tv a (t + 1) n Q) : PkS w (wr.setCell ⟨X, 2, none⟩ (.int .i64 (t : Int))) X g cap tv a t n Q where
  own := own_set h.own h.lo h.ne 2 _
  lo := h.lo
  hi := by simp [World.setCell]; exact h.hi
  ne := h.ne
  c0 := by rw [World.cell?_setCell_other _ _ _ _ (by simp)]; exact h.c0
  c1 := by rw [World.cell?_setCell_other _ _ _ _ (by simp)]; exact h.c1
  c2 := World.cell?_setCell_same' _ _ _ (by rw [h.c2]; rfl)
  c3 := by rw [World.cell?_setCell_other _ _ _ _ (by simp)]; exact h.c3
  frz o := by rw [World.frozen?_setCell]; exact h.frz o
/-- One more node on the way: appended, stored. -/
theorem PkS.app {w wr w4 : World} {X g cap g4 cap4 H : Nat} {tv : Value} {a z : Int} {t n : Nat} {Q : List Int} (h : PkS w wr X g cap tv a t n Q) (hg : wr.grownBy w4 (Value.slice (some ⟨g, 0, none⟩) n cap).ownBlock) (hr : w4.ownsRow w.heap.size 3 1 (.slice (some ⟨g4, 0, none⟩) (n + 1) cap4) (n + 1) (ints Q ++ [.int .i64 z]))
    (h4 : (Value.slice (some ⟨g, 0, none⟩) n cap).ownBlock = some g4 ∨ g4 = H) (hH : H = wr.heap.size) : PkS w (w4.setCell ⟨X, 3, none⟩ (.slice (some ⟨g4, 0, none⟩) (n + 1) cap4)) X g4 cap4 tv a t (n + 1) (Q ++ [z]) := by
  have hXg : some X ≠ (Value.slice (some ⟨g, 0, none⟩) n cap).ownBlock := by simp [Value.ownBlock]; exact fun e => h.ne e.symm
  have hb := hg.block X h.hi hXg
  have hne : g4 ≠ X := by
    rcases h4 with e | e
    · simp [Value.ownBlock] at e; have := h.ne; omega
    · have := h.hi; omega
  have cc : ∀ o, w4.cell? ⟨X, o, none⟩ = wr.cell? ⟨X, o, none⟩ := fun o => World.cell?_of_block (w := wr) (a := ⟨X, o, none⟩) hb
  have ho := h.own.app hg hr
  exact {
    own := own_set ho h.lo hne 3 _
    lo := h.lo
    hi := by simp [World.setCell]; exact Nat.lt_of_lt_of_le h.hi hg.size
    ne := hne
    c0 := by rw [World.cell?_setCell_other _ _ _ _ (by simp), cc]; exact h.c0
    c1 := by rw [World.cell?_setCell_other _ _ _ _ (by simp), cc]; exact h.c1
    c2 := by rw [World.cell?_setCell_other _ _ _ _ (by simp), cc]; exact h.c2
    c3 := World.cell?_setCell_same' _ _ _ (by rw [cc, h.c3]; rfl)
    frz := fun o => by rw [World.frozen?_setCell, World.frozen?_of_block (w := wr) (a := ⟨X, o, none⟩) hb]; exact h.frz o }
theorem Oth.of_below {X g : Nat} {wr w' : World} (h : Below wr.heap.size wr w') : Oth X g wr w' := ⟨h.size, fun b hb _ _ => h.block b hb⟩
theorem Oth.trans {X g : Nat} {a b c : World} (h : Oth X g a b) (h' : Oth X g b c) : Oth X g a c := ⟨Nat.le_trans h.1 h'.1, fun k hk h1 h2 => (h'.2 k (Nat.lt_of_lt_of_le hk h.1) h1 h2).trans (h.2 k hk h1 h2)⟩
theorem Oth.set {X g : Nat} {wr w' : World} (h : Oth X g wr w') (o : Nat) (u : Value) : Oth X g wr (w'.setCell ⟨X, o, none⟩ u) := ⟨by simp [World.setCell]; exact h.1, fun k hk h1 h2 => (Below.heap_setCell _ _ _ _ h1).trans (h.2 k hk h1 h2)⟩
theorem Oth.app {X g n cap : Nat} {wr w4 : World} (h : wr.grownBy w4 (Value.slice (some ⟨g, 0, none⟩) n cap).ownBlock) : Oth X g wr w4 := ⟨h.size, fun k hk _ h2 => h.block k hk (by simp [Value.ownBlock]; exact h2)⟩
/-- What a step of the packet comes to. -/
def FwdPost (w wr : World) (X g cap : Nat) (tv : Value) (D : List (List Rt)) (a : Int) (t x n : Nat) (Q : List Int) (e : Ending) (w' : World) : Prop :=
  (∃ c : Int, wlk D a t x = ([(x : Int)], c) ∧ e = .panicked [{ v := .iface 62 (.agg #[.slice (some ⟨g, 0, none⟩) n cap, .int .i64 c]), recovered := false }] ∧ Below wr.heap.size wr w') ∨
  (∃ t' y g' cap' : Nat, t = t' + 1 ∧ (y : Int) = hopA D a x - 1 ∧ hopA D a x ≠ 0 ∧ ¬ (hopA D a x < 0 ∨ (D.length : Int) < hopA D a x) ∧ e = .returned (.tuple #[]) ∧ PkS w w' X g' cap' tv a t' (n + 1) (Q ++ [(y : Int)]) ∧ Oth X g wr w' ∧ (g' = g ∨ wr.heap.size ≤ g'))

set_option maxRecDepth 100000 in
set_option maxHeartbeats 4000000 in
theorem fwd_any (D : List (List Rt)) (lo hi : Nat) (tv : Value) (a : Int) (w wr : World) (X g cap t x q m : Nat) (Q : List Int) (hr : TRow w lo hi tv D) (hh : hi ≤ w.heap.size) (hf : fine D a = true) (hx : x < D.length) (hq : q + t ≤ 16) (hQ : Q[q]? = some (x : Int)) (hm : m = q + 1) (h : PkS w wr X g cap tv a t m Q) :
    Calls Try.prog 53 #[.pointer (some ⟨X, 0, none⟩)] wr fun e w' => FwdPost w wr X g cap tv D a t x m Q e w' := by
  obtain ⟨i39, hi3, hz0, hz1, hz2⟩ := info_parts Try.info3
  have I := Lib.hid (And.intro hi3 (And.intro hz0 (And.intro hz1 hz2)))
  have hl10 := (fine_all hf).2.1
  have hbd := hopA_bounds hf hx
  obtain ⟨ad, cp, us, bs, rfl, XX⟩ := hr
  obtain ⟨G, rfl, g1, g2, _, g4, _⟩ := XX.outer (by omega)
  obtain ⟨p, hp⟩ : ∃ p, D[x]? = some p := ⟨_, List.getElem?_eq_getElem hx⟩
  have hB := h.own.below
  have hsz := hB.size
  have d0 : wr.cell? ⟨G, x, none⟩ = some (us x) := by rw [hB.cell (p := ⟨G, x, none⟩) (show G < w.heap.size by omega)]; exact g4 x p hp
  obtain ⟨i1, i2, i3⟩ := XX.inner x p hp
  have R1 := Lib.hid (i1.below hB (by omega))
  obtain ⟨x1, y1, e1⟩ := i1.slice
  rw [e1] at d0 R1
  obtain ⟨H1, hH1⟩ : ∃ q, q = (bs x).2 := ⟨_, rfl⟩
  have z1 : H1 ≤ wr.heap.size := by omega
  rw [← hH1] at R1
  have hop : hopO (bestO p a) = hopA D a x := by unfold hopA; rw [List.getD_eq_getElem?_getD, hp]; rfl
  obtain ⟨n, hn⟩ : ∃ n, n = D.length := ⟨_, rfl⟩
  have HN := Lib.hid hn
  rw [← hn] at hl10 hx h ⊢
  obtain ⟨k, hk⟩ : ∃ k, k = hopA D a x := ⟨_, rfl⟩
  rw [← hk] at hop hbd
  have HH := Lib.hid hk
  have f0 : wr.cell? ⟨g, q, none⟩ = some (.int .i64 (x : Int)) := h.own.at (by omega) hQ
  have hgl := h.own.lt.2
  have hXl := h.hi
  obtain ⟨c0, c1, c3⟩ := And.intro h.c0 (And.intro h.c1 h.c3)
  have hx0 : (0 : Int) ≤ (x : Int) := by omega
  have hx1 : (x : Int) < (n : Int) := by omega
  have hq0 : (0 : Int) ≤ (q : Int) := by omega
  have hq1 : (q : Int) < (m : Int) := by omega
  have eq1 : IntKind.i64.wrap ((m : Int) - 1) = (q : Int) := by rw [IntWalk.i64_in _ (by omega)]; omega
  have hGw : G < wr.heap.size := by omega
  have HK := Lib.hid h
  have HMq := Lib.hid hm
  clear hm g4 i1 i2 i3 e1 hH1 hp hk hB XX hn h hi3 hz0 hz1 hz2
  go_enter Try.func53, Try.ntmps53
  go_wp2_with fail
  go_region_held3 (fun w' => w'.cell? ⟨X, 0, none⟩ = some (.slice (some ⟨G, 0, none⟩) n cp) ∧ w'.cell? ⟨X, 1, none⟩ = some (.int .i64 a) ∧ w'.cell? ⟨X, 3, none⟩ = some (.slice (some ⟨g, 0, none⟩) m cap) ∧ w'.cell? ⟨g, q, none⟩ = some (.int .i64 (x : Int)) ∧ w'.cell? ⟨G, x, none⟩ = some (.slice x1 p.length y1) ∧ wr.heap.size ≤ w'.heap.size ∧ Below wr.heap.size wr w') (first | assumption | exact rr5_start c0 c1 c3 f0 d0 | exact rr5_drew (by assumption) | exact rr5_keep (by omega) (by omega) (by omega) (by omega) (by omega) (by assumption) (by assumption))
    (first | (go_at_call 69; refine (ihop_any _ _ p.length _ p a _ rfl (R1.out.below (rr5_out (by assumption)).2 z1) (by have hq := (rr5_out (by assumption)).1; omega)).mono ?_; rw [hop]; rintro e w9 ⟨rfl, hb⟩))
  have hb9 : Below wr.heap.size wr w9 := (rr5_out (by assumption)).2
  have HB9 := Lib.hid hb9
  have HK9 := Lib.hid (HK.out.grow hb9)
  obtain ⟨_, _, b0, _, b3⟩ := And.intro trivial (And.intro trivial (And.intro HK9.out.c0 (And.intro trivial HK9.out.c3)))
  have b2 := HK9.out.c2
  have hX9 := HK9.out.hi
  have bf := HK9.out.frz 2
  clear hb9 hb R1 HK c0 c1 c3 f0 d0
  by_cases q0 : k = 0
  · have HE : Hid (wlk D a t x = ([(x : Int)], 0)) := Lib.hid (wlk_home (by rw [← HH.out]; exact q0))
    subst q0
    clear HH
    go_wp2_with fail
    go_at_call 70
    refine (iend_any X _ _ _ _ _ b3).mono ?_
    rintro e w1 ⟨rfl, rfl⟩
    go_wp2_with fail
    exact ⟨rfl, .inl ⟨0, HE.out, rfl, HB9.out⟩⟩
  have r0 : (k == 0) = false := by simp [q0]
  by_cases q1 : k < 0
  · have HE : Hid (wlk D a t x = ([(x : Int)], 1)) := Lib.hid (wlk_none (by rw [← HH.out]; exact q0) (.inl (by rw [← HH.out]; exact q1)))
    obtain rfl : k = -1 := by omega
    clear HH
    go_wp2_with fail
    go_at_call 70
    refine (iend_any X _ _ _ _ _ b3).mono ?_
    rintro e w1 ⟨rfl, rfl⟩
    go_wp2_with fail
    exact ⟨rfl, .inl ⟨1, HE.out, rfl, HB9.out⟩⟩
  have r1 : (k == -1) = false := by simp; omega
  by_cases q2 : (n : Int) < k
  · have HE : Hid (wlk D a t x = ([(x : Int)], 1)) := Lib.hid (wlk_none (by rw [← HH.out]; exact q0) (.inr (by rw [← HH.out, ← HN.out]; exact q2)))
    clear HH
    go_wp2_with fail
    go_at_call 70
    refine (iend_any X _ _ _ _ _ b3).mono ?_
    rintro e w1 ⟨rfl, rfl⟩
    go_wp2_with fail
    exact ⟨rfl, .inl ⟨1, HE.out, rfl, HB9.out⟩⟩
  have HQ : Hid (¬ (hopA D a x < 0 ∨ (D.length : Int) < hopA D a x)) := Lib.hid (by rw [← HH.out, ← HN.out]; omega)
  have HQ0 : Hid (hopA D a x ≠ 0) := Lib.hid (by rw [← HH.out]; exact q0)
  rcases t with _ | t
  · have HE : Hid (wlk D a 0 x = ([(x : Int)], 2)) := Lib.hid (wlk_loop HQ0.out HQ.out)
    clear HH HQ HQ0
    go_wp2_with fail
    go_at_call 70
    refine (iend_any X _ _ _ _ _ b3).mono ?_
    rintro e w1 ⟨rfl, rfl⟩
    go_wp2_with fail
    exact ⟨rfl, .inl ⟨2, HE.out, rfl, HB9.out⟩⟩
  obtain ⟨y, hy⟩ : ∃ y : Nat, k - 1 = (y : Int) := ⟨(k - 1).toNat, by omega⟩
  have HY : Hid ((y : Int) = hopA D a x - 1) := Lib.hid (by rw [← hy, HH.out])
  have r2 : (((t + 1 : Nat) : Int) == 0) = false := by simp; omega
  have e1 : IntKind.i64.wrap (((t + 1 : Nat) : Int) - 1) = (t : Int) := by rw [IntWalk.i64_in _ (by omega)]; omega
  have e2 : IntKind.i64.wrap (k - 1) = (y : Int) := by rw [IntWalk.i64_in _ (by omega)]; exact hy
  obtain ⟨t1, ht1⟩ : ∃ q : Nat, q = t + 1 := ⟨_, rfl⟩
  rw [← ht1] at r2 e1 b2
  have HKv : Hid (PkS w (w9.setCell ⟨X, 2, none⟩ (.int .i64 (t : Int))) X g cap (.slice (some ⟨G, 0, none⟩) n cp) a t m Q) := Lib.hid (by rw [ht1] at *; exact HK9.out.dec)
  have HO2 : Hid (Oth X g wr (w9.setCell ⟨X, 2, none⟩ (.int .i64 (t : Int)))) := Lib.hid ((Oth.of_below HB9.out).set 2 _)
  have Hw := Lib.hid HKv.out.own.row
  have hs9 := HKv.out.own.below.size
  have hz9 : (w9.setCell ⟨X, 2, none⟩ (.int .i64 (t : Int))).heap.size = w9.heap.size := by simp [World.setCell]
  rw [hz9] at hs9
  have hm9 : m ≤ 17 := by have := HMq.out; omega
  have HZ9 := Lib.hid hz9
  have HG9 : Hid (Below (w9.setCell ⟨X, 2, none⟩ (.int .i64 (t : Int))).heap.size (w9.setCell ⟨X, 2, none⟩ (.int .i64 (t : Int))) ((w9.setCell ⟨X, 2, none⟩ (.int .i64 (t : Int))).alloc (.cells #[.int .i64 (y : Int)] 3))) := Lib.hid ((Below.refl _ _).alloc (Nat.le_refl _) _)
  have HKa := Lib.hid (HKv.out.grow HG9.out)
  have HOa := Lib.hid (HO2.out.trans (Oth.of_below (X := X) (g := g) HG9.out))
  clear HH hy HK9 ht1 hz9 HKv HO2
  go_wp2_with (at_builtin; refine wpList_append_lies _ rfl _ _ 24 rfl w.heap.size 3 i39 (.int .i64 0) 1 8 Try.underlying24 I.out.1 I.out.2.1 I.out.2.2.1 I.out.2.2.2 rfl (by decide) _ m (ints Q) rfl (Hw.out.alloc _) ⟨w9.heap.size, 0, none⟩ 1 1 [.int .i64 (y : Int)] rfl rfl ?d0 (int_one _) (by decide) ?d1 ?d2 ?d3 _ rfl ?_)
  case d1 => unfold maxLen; omega
  case d2 => omega
  case d3 => first | omega | (simp; omega)
  intro g4 cap4 w4 hown4 hgrow4 hat4 hlt4
  have hXa : X < w4.heap.size := Nat.lt_of_lt_of_le HKa.out.hi hgrow4.size
  have hba := hgrow4.block X HKa.out.hi (by simp [Value.ownBlock]; have := HKa.out.ne; omega)
  have p3 : w4.cell? ⟨X, 3, none⟩ = some (.slice (some ⟨g, 0, none⟩) m cap) := by rw [World.cell?_of_block (w := (w9.setCell ⟨X, 2, none⟩ (.int .i64 (t : Int))).alloc (.cells #[.int .i64 (y : Int)] 3)) (a := ⟨X, 3, none⟩) hba]; exact HKa.out.c3
  have pf : w4.frozen? ⟨X, 3, none⟩ = false := by rw [World.frozen?_of_block (w := (w9.setCell ⟨X, 2, none⟩ (.int .i64 (t : Int))).alloc (.cells #[.int .i64 (y : Int)] 3)) (a := ⟨X, 3, none⟩) hba]; exact HKa.out.frz 3
  have HF := Lib.hid (HKa.out.app hgrow4 hown4 hat4 (by simp))
  have HOf := Lib.hid ((HOa.out.trans (Oth.app (X := X) hgrow4)).set 3 (.slice (some ⟨g4, 0, none⟩) (m + 1) cap4))
  have HG4 : Hid (g4 = g ∨ wr.heap.size ≤ g4) := Lib.hid (by
    rcases hat4 with e | e
    · simp [Value.ownBlock] at e; exact .inl e.symm
    · have h1 := HB9.out.size; exact .inr (by omega))
  clear hba hown4 hgrow4 hat4 HKa HOa Hw HG9
  go_wp2_with fail
  first | (refine bodyPost_ret (results_none rfl _ _ _) rfl ?_) | go_end0
  exact .inr ⟨t, y, g4, cap4, rfl, HY.out, HQ0.out, HQ.out, rfl, HF.out, HOf.out, HG4.out⟩

end Go.Proofs.Ytflhbfndfjkfgaa
