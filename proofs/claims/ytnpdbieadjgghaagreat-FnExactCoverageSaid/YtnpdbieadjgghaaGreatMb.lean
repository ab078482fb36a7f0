/- Plain mathematics of distances: rounds over the edges come to what the trails cost. It imports no program. -/
import Derived.Test.YtnpdbieadjgghaaGreatMd
namespace Go.Proofs.YtnpdbieadjgghaaGreat

/-- One edge looked at: d is a table of distances. -/
def relax (d : Int → Int) (e : Ed) : Int → Int := if d e.1 < Far ∧ d e.1 + e.2.2 < d e.2.1 then fun x => if x = e.2.1 then d e.1 + e.2.2 else d x else d
def relaxAll (L : List Ed) (d : Int → Int) : Int → Int := L.foldl relax d
def start (s : Int) : Int → Int := fun x => if x = s then 0 else Far
def rounds (L : List Ed) (s : Int) : Nat → Int → Int
  | 0 => start s
  | k + 1 => relaxAll L (rounds L s k)
theorem relax_le (d : Int → Int) (e : Ed) (x : Int) : relax d e x ≤ d x := by
  unfold relax
  split
  · rename_i h
    show (if x = e.2.1 then d e.1 + e.2.2 else d x) ≤ d x
    split
    · rename_i hx; subst hx; omega
    · exact Int.le_refl _
  · exact Int.le_refl _
theorem relax_at (d : Int → Int) (e : Ed) (h : d e.1 < Far) : relax d e e.2.1 ≤ d e.1 + e.2.2 := by
  unfold relax
  by_cases hlt : d e.1 + e.2.2 < d e.2.1
  · rw [if_pos ⟨h, hlt⟩]; simp
  · rw [if_neg (fun hh => hlt hh.2)]; omega
theorem foldl_le : ∀ (L : List Ed) (d : Int → Int) (x : Int), L.foldl relax d x ≤ d x
  | [], _, _ => Int.le_refl _
  | e :: L, d, x => Int.le_trans (foldl_le L (relax d e) x) (relax_le d e x)
/-- After a round every edge out of a node that was reached has been counted. -/
theorem foldl_edge : ∀ (L : List Ed) (d : Int → Int) {e : Ed}, e ∈ L → d e.1 < Far → L.foldl relax d e.2.1 ≤ d e.1 + e.2.2
  | [], _, _, h, _ => by cases h
  | f :: L, d, e, h, hd => by
    rw [List.foldl_cons]
    rcases List.mem_cons.1 h with rfl | h
    · exact Int.le_trans (foldl_le L _ _) (relax_at d e hd)
    · have h1 := relax_le d f e.1
      have := foldl_edge L (relax d f) h (by omega)
      omega
/-- What stands in the table is what some trail costs, or Far. -/
def Sound (L : List Ed) (s : Int) (d : Int → Int) : Prop := ∀ x, d x = Far ∨ ∃ t, IsTr L s t ∧ lastN t = x ∧ t.1 = d x
theorem start_sound (L : List Ed) (s : Int) : Sound L s (start s) := fun x => by
  unfold start
  by_cases h : x = s
  · subst h; right; exact ⟨(0, [x]), .one, by simp [lastN], by simp⟩
  · left; rw [if_neg h]
theorem relax_sound {N : Int} {L : List Ed} {s : Int} (hG : gok N L = true) {d : Int → Int} (h : Sound L s d) {e : Ed} (he : e ∈ L) : Sound L s (relax d e) := fun x => by
  unfold relax
  split
  · rename_i hh
    by_cases hx : x = e.2.1
    · right
      rcases h e.1 with h1 | ⟨t, h1, h2, h3⟩
      · omega
      · have hc := cst_mem hG he
        have hne : cst L (lastN t) e.2.1 ≠ Far := by rw [h2, hc]; have := gok_mem hG he; unfold Far; omega
        exact ⟨extT L t e.2.1, .ext t _ h1 hne, by rw [lastN_ext, hx], by show t.1 + cst L (lastN t) e.2.1 = (if x = e.2.1 then d e.1 + e.2.2 else d x); rw [if_pos hx, h2, hc, h3]⟩
    · have e1 : (fun x => if x = e.2.1 then d e.1 + e.2.2 else d x) x = d x := if_neg hx
      rw [e1]; exact h x
  · exact h x
theorem foldl_sound {N : Int} {L : List Ed} {s : Int} (hG : gok N L = true) : ∀ (M : List Ed) (d : Int → Int), (∀ e ∈ M, e ∈ L) → Sound L s d → Sound L s (M.foldl relax d)
  | [], _, _, h => h
  | e :: M, d, hM, h => foldl_sound hG M (relax d e) (fun f hf => hM f (List.mem_cons_of_mem _ hf)) (relax_sound hG h (hM e (List.mem_cons_self)))
theorem rounds_sound {N : Int} {L : List Ed} {s : Int} (hG : gok N L = true) : ∀ k, Sound L s (rounds L s k)
  | 0 => start_sound L s
  | k + 1 => foldl_sound hG L _ (fun _ h => h) (rounds_sound hG k)
theorem rounds_le (L : List Ed) (s : Int) (x : Int) : ∀ k, rounds L s (k + 1) x ≤ rounds L s k x := fun _ => foldl_le L _ x
theorem rounds_mono (L : List Ed) (s : Int) (x : Int) (j : Nat) : ∀ k, j ≤ k → rounds L s k x ≤ rounds L s j x
  | 0, h => by obtain rfl : j = 0 := by omega
               exact Int.le_refl _
  | k + 1, h => by
    by_cases e : j = k + 1
    · subst e; exact Int.le_refl _
    · exact Int.le_trans (rounds_le L s x k) (rounds_mono L s x j k (by omega))
/-- After k rounds no trail of at most k + 1 nodes, none dearer than Far, is cheaper. -/
theorem rounds_trail {N : Int} {L : List Ed} {s : Int} (hG : gok N L = true) {t : Tr} (ht : IsTr L s t) : ∀ k, t.2.length ≤ k + 1 → t.1 < Far → rounds L s k (lastN t) ≤ t.1 := by
  induction ht with
  | one => intro k _ _; exact Int.le_trans (rounds_mono L s _ 0 k (Nat.zero_le _)) (by simp [rounds, start, lastN])
  | ext t y h hc ih =>
    intro k hk hF
    have hk' : t.2.length + 1 ≤ k + 1 := by have : (extT L t y).2.length = t.2.length + 1 := by simp [extT]
                                            omega
    have hpos : 0 < t.2.length := by
      cases h with
      | one => simp
      | ext => simp [extT]
    obtain ⟨j, rfl⟩ : ∃ j, k = j + 1 := ⟨k - 1, by omega⟩
    have hb := (cst_bound hG (lastN t) y).1
    have hF' : t.1 + cst L (lastN t) y < Far := hF
    have h1 := ih j (by omega) (by omega)
    rcases cst_cases hG (lastN t) y with ⟨h2, _⟩ | ⟨e, he, h3, h4, h5⟩
    · exact absurd h2 hc
    · have := foldl_edge L (rounds L s j) he (by rw [h3]; omega)
      rw [lastN_ext]
      show relaxAll L (rounds L s j) y ≤ t.1 + cst L (lastN t) y
      unfold relaxAll
      rw [h3, h4] at this
      rw [h5]
      omega
end Go.Proofs.YtnpdbieadjgghaaGreat
