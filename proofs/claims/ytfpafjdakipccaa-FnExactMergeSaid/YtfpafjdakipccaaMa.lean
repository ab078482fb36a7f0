/- What is merged. -/
import Derived.Test.YtfpafjdakipccaaSi
namespace Go.Proofs.Ytfpafjdakipccaa
open Go.RowKit
theorem ltot_16 : ∀ D : List Ls, (∀ l ∈ D, l.tot <= 16) -> ltot D <= 16 * D.length
  | [], _ => Nat.le_refl _
  | a :: r, h => by
    have h1 := ltot_16 r (fun l hl => h l (by simp [hl]))
    have h2 := h a (by simp)
    simp only [ltot, List.length_cons]
    omega
theorem dtot_ok {D : List Ls} (h : dokB D = true) : dtot D <= 1048576 := by
  have h1 := dokB_len h
  have h2 := ltot_16 D fun l hl => by
    obtain ⟨_, _, _, _, _, _, h3, h4⟩ := Ls.ok_bd (dokB_mem h hl)
    unfold Ls.tot
    omega
  rw [dtot_eq]
  omega
def mg (A B : List Ls) (k : Nat) : List Ls := (B.take k).foldl inst A
theorem mg_zero (A B : List Ls) : mg A B 0 = A := by unfold mg; rw [List.take_zero]; rfl
theorem mg_snoc {A B : List Ls} {k : Nat} {p : Ls} (h : B[k]? = some p) : mg A B (k + 1) = inst (mg A B k) p := by
  unfold mg; rw [take_snocD h, List.foldl_append]; rfl
theorem fold_ok : ∀ (L D : List Ls), dokB D = true -> dokB (L.foldl inst D) = true
  | [], _, h => h
  | a :: r, D, h => fold_ok r (inst D a) (inst_ok h a)
theorem mg_ok {A : List Ls} (h : dokB A = true) (B : List Ls) (k : Nat) : dokB (mg A B k) = true := fold_ok _ _ h
def merg (A B : List Ls) : List Ls := if dokB A = true /\ dokB B = true then B.foldl inst A else A
def mokB (A B : List Ls) : Bool := dokB A && dokB B
theorem merg_no {A B : List Ls} (h : dokB A = false ∨ dokB B = false) : merg A B = A := if_neg fun q => by
  rcases h with h | h
  · rw [h] at q; cases q.1
  · rw [h] at q; cases q.2
theorem merg_mg {A B : List Ls} {k : Nat} (h1 : dokB A = true) (h2 : dokB B = true) (hk : B.length <= k) : mg A B k = merg A B := by
  unfold merg mg; rw [if_pos ⟨h1, h2⟩, List.take_of_length_le hk]
theorem put_inst {D : List Ls} {l : Ls} (h : dokB D = true) (hl : l.ok = true) (hc : codeF (dfind D l.o) l = 0) : putF (dfind D) l = dfind (inst D l) := by
  rw [inst_yes ((icode_ok h hl).trans hc), dfind_put h hl]
theorem same_inst {D : List Ls} {l : Ls} (h : dokB D = true) (hl : l.ok = true) (hc : codeF (dfind D l.o) l ≠ 0) : inst D l = D := inst_no (by rw [icode_ok h hl]; exact hc)
def MerPost (A B : List Ls) (w : World) (e : Ending) (w' : World) : Prop := ∃ rv, e = .returned (.tuple #[.agg #[rv], .bool (mokB A B)]) /\ DRow w' w.heap.size w'.heap.size rv (merg A B) /\ Below w.heap.size w w'
theorem merP {A B : List Ls} {w w' : World} {e : Ending} (rv : Value) (h1 : e = .returned (.tuple #[.agg #[rv], .bool (mokB A B)])) (h2 : DRow w' w.heap.size w'.heap.size rv (merg A B)) (h3 : Below w.heap.size w w') : MerPost A B w e w' := ⟨rv, h1, h2, h3⟩
structure Mg3 (w wr : World) (va vb : Value) : Prop where
  c0 : wr.cell? ⟨w.heap.size, 0, none⟩ = some va
  c1 : wr.cell? ⟨w.heap.size + 1, 0, none⟩ = some vb
  r : wr.cell? ⟨w.heap.size + 2, 0, none⟩ = some (.slice none 0 0)
  f : wr.frozen? ⟨w.heap.size + 2, 0, none⟩ = false
  size : w.heap.size + 3 <= wr.heap.size
  below : Below w.heap.size w wr
theorem Mg3.next {w wr w2 : World} {va vb : Value} (h : Mg3 w wr va vb) (hb : Below (w.heap.size + 3) wr w2) : Mg3 w w2 va vb :=
  ⟨by rw [hb.cell (p := ⟨w.heap.size, 0, none⟩) (by show w.heap.size < _; omega)]; exact h.c0,
   by rw [hb.cell (p := ⟨w.heap.size + 1, 0, none⟩) (by show w.heap.size + 1 < _; omega)]; exact h.c1,
   by rw [hb.cell (p := ⟨w.heap.size + 2, 0, none⟩) (by show w.heap.size + 2 < _; omega)]; exact h.r,
   by rw [hb.frozen (p := ⟨w.heap.size + 2, 0, none⟩) (by show w.heap.size + 2 < _; omega)]; exact h.f,
   Nat.le_trans h.size hb.size, h.below.trans (hb.mono (by omega))⟩
end Go.Proofs.Ytfpafjdakipccaa
