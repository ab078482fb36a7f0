/- The table of the blocks that are marked as a whole: what the loops of l01Blocks keep. -/
import Derived.Test.YtpfeekdmeloakaaCm
import Derived.Test.YtpfeekdmeloakaaMh
import Derived.Test.YtpfeekdmeloakaaCl
namespace Go.Proofs.Ytpfeekdmeloakaa
open Go.RowKit

/-- Row m of the table lies in block F's cell m. -/
def Lvl (wr : World) (F : Nat) (f : Nat → Bool) (m : Nat) : Prop :=
  ∃ g, g ≠ F ∧ g < wr.heap.size ∧ wr.cell? ⟨F, m, none⟩ = some (.slice (some ⟨g, 0, none⟩) (2 ^ m) (2 ^ m)) ∧ ∀ i, i < 2 ^ m → wr.cell? ⟨g, i, none⟩ = some (.bool (fullB f (16 - m) i))
/-- The rows from n on are there. -/
def Tab (w wr : World) (F : Nat) (f : Nat → Bool) (n : Nat) : Prop :=
  Below w.heap.size w wr ∧ w.heap.size ≤ F ∧ F < wr.heap.size ∧ (∀ o, wr.frozen? ⟨F, o, none⟩ = false) ∧ (∀ m, m ≤ 16 → ∃ u, wr.cell? ⟨F, m, none⟩ = some u) ∧ ∀ m, n ≤ m → m ≤ 16 → Lvl wr F f m
theorem Lvl.below {wr w2 : World} {F : Nat} {f : Nat → Bool} {m : Nat} (h : Lvl wr F f m) (hF : F < wr.heap.size) (hb : Below wr.heap.size wr w2) : Lvl w2 F f m := by
  obtain ⟨g, h1, h2, h3, h4⟩ := h
  have := hb.size
  exact ⟨g, h1, by omega, by rw [hb.cell (p := ⟨F, m, none⟩) hF]; exact h3, fun i hi => by rw [hb.cell (p := ⟨g, i, none⟩) h2]; exact h4 i hi⟩
theorem Tab.below {w wr w2 : World} {F : Nat} {f : Nat → Bool} {n : Nat} (h : Tab w wr F f n) (hb : Below wr.heap.size wr w2) : Tab w w2 F f n := by
  obtain ⟨h1, h2, h3, h4, h5, h6⟩ := h
  have := hb.size
  exact ⟨chain h1 hb, h2, by omega, fun o => by rw [hb.frozen (p := ⟨F, o, none⟩) h3]; exact h4 o, fun m hm => by rw [hb.cell (p := ⟨F, m, none⟩) h3]; exact h5 m hm, fun m h hm => (h6 m h hm).below h3 hb⟩
/-- One more row. -/
theorem Tab.put {w wr : World} {F g : Nat} {f : Nat → Bool} {n : Nat} (h : Tab w wr F f (n + 1)) (hn : n ≤ 16) (hg : g ≠ F) (hl : g < wr.heap.size)
    (hc : ∀ i, i < 2 ^ n → wr.cell? ⟨g, i, none⟩ = some (.bool (fullB f (16 - n) i))) : Tab w (wr.setCell ⟨F, n, none⟩ (.slice (some ⟨g, 0, none⟩) (2 ^ n) (2 ^ n))) F f n := by
  obtain ⟨h1, h2, h3, h4, h5, h6⟩ := h
  refine ⟨h1.setCell h2 _, h2, by simpa [World.setCell] using h3, fun o => by simp [h4], fun m hm => ?_, fun m hm hm' => ?_⟩
  · by_cases e : m = n
    · subst e; obtain ⟨u, hu⟩ := h5 m hm; exact ⟨_, World.cell?_setCell_same' _ _ _ (by rw [hu]; rfl)⟩
    · rw [World.cell?_setCell_other _ _ _ _ (by simp <;> omega)]; exact h5 m hm
  · by_cases e : m = n
    · subst e
      obtain ⟨u, hu⟩ := h5 m hm'
      exact ⟨g, hg, by simpa [World.setCell] using hl, World.cell?_setCell_same' _ _ _ (by rw [hu]; rfl), fun i hi => by rw [World.cell?_setCell_other _ _ _ _ (by simp <;> omega)]; exact hc i hi⟩
    · obtain ⟨g', q1, q2, q3, q4⟩ := h6 m (by omega) hm'
      exact ⟨g', q1, by simpa [World.setCell] using q2, by rw [World.cell?_setCell_other _ _ _ _ (by simp <;> omega)]; exact q3, fun i hi => by rw [World.cell?_setCell_other _ _ _ _ (by simp <;> omega)]; exact q4 i hi⟩

/-- A row of bools that is being filled: block g, new since w, of N cells. -/
def FillB (w wr : World) (g N q : Nat) (F : Nat → Bool) : Prop :=
  Below w.heap.size w wr ∧ w.heap.size ≤ g ∧ g < wr.heap.size ∧ (∀ o, wr.frozen? ⟨g, o, none⟩ = false) ∧ (∀ j, j < q → wr.cell? ⟨g, j, none⟩ = some (.bool (F j))) ∧ ∀ j, j < N → ∃ u, wr.cell? ⟨g, j, none⟩ = some u
theorem FillB.one {w wr : World} {g N q : Nat} {F : Nat → Bool} {u : Bool} (h : FillB w wr g N q F) (hq : q < N) (hu : u = F q) : FillB w (wr.setCell ⟨g, q, none⟩ (.bool u)) g N (q + 1) F := by
  subst hu
  obtain ⟨h1, h2, h3, h4, h5, h6⟩ := h
  have hin : ∀ j, j < N → ∃ u, (wr.setCell ⟨g, q, none⟩ (.bool (F q))).cell? ⟨g, j, none⟩ = some u := fun j hj => by
    by_cases e : j = q
    · subst e; obtain ⟨u, hu⟩ := h6 j hj; exact ⟨_, World.cell?_setCell_same' _ _ _ (by rw [hu]; rfl)⟩
    · rw [World.cell?_setCell_other _ _ _ _ (by simp <;> omega)]; exact h6 j hj
  refine ⟨h1.setCell h2 _, h2, by simpa [World.setCell] using h3, fun o => by simp [h4], fun j hj => ?_, hin⟩
  by_cases e : j = q
  · subst e; obtain ⟨u, hu⟩ := h6 j hq; exact World.cell?_setCell_same' _ _ _ (by rw [hu]; rfl)
  · rw [World.cell?_setCell_other _ _ _ _ (by simp <;> omega)]; exact h5 j (by omega)
theorem FillB.start {w w1 : World} {e : TypeId} {n cap : Nat} {F : Nat → Bool} {xs : List Value} (h : w1.ownsRow w.heap.size e 1 (.slice (some ⟨w.heap.size, 0, none⟩) n cap) n xs) (hg : w.grownBy w1 none) : FillB w w1 w.heap.size n 0 F := by
  refine ⟨(Below.refl _ _).grown hg (Nat.le_refl _) (fun k hk => by cases hk), Nat.le_refl _, (h.lt w.heap.size rfl).2, fun o => h.frozenAt o, fun j hj => absurd hj (Nat.not_lt_zero _), fun j hj => ?_⟩
  have hl : j < xs.length := by rw [h.1]; omega
  exact ⟨xs[j], by rw [h.cellAt j (by omega)]; exact List.getElem?_eq_getElem hl⟩
theorem FillB.drewN {w wr : World} {g N q : Nat} {F : Nat → Bool} (h : FillB w wr g N q F) (k : Nat) : FillB w (wr.drewN k) g N q F := by
  obtain ⟨h1, h2⟩ := h
  exact ⟨⟨h1.os, h1.tape, h1.output, h1.size, h1.block⟩, h2⟩
theorem Try.info94 : (Try.prog.info? 94).map (fun i => (i.zero, i.size, i.bytes)) = some (some (.slice none 0 0), 1, 24) := by kernel_rfl

theorem pw (m : Nat) (h : m ≤ 16) : psz (m : Int) = ((2 ^ (16 - m) : Nat) : Int) := by
  unfold psz
  rw [show (16 - (m : Int)).toNat = 16 - m by omega]
  push_cast
  rfl
/-- A block that is aligned is marked as a whole where the table says so. -/
theorem allM_full (f : Nat → Bool) (a m : Nat) (hm : m ≤ 16) (hal : (a : Int) % psz (m : Int) = 0) : AllM f (a : Int) (m : Int) ↔ fullB f (16 - m) (a / 2 ^ (16 - m)) = true := by
  rw [fullB_iff]
  unfold AllM
  rw [pw m hm] at hal ⊢
  have hp : 0 < 2 ^ (16 - m) := Nat.two_pow_pos _
  generalize 2 ^ (16 - m) = P at *
  have hal' : a % P = 0 := by exact_mod_cast hal
  have e : a / P * P = a := by have := Nat.div_add_mod a P; rw [hal', Nat.add_zero, Nat.mul_comm] at this; exact this
  rw [Nat.add_mul, e, Nat.one_mul]
  exact ⟨fun h x h1 h2 => h x (by omega) (by omega), fun h x h1 h2 => h x (by omega) (by omega)⟩
end Go.Proofs.Ytpfeekdmeloakaa
