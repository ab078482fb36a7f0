/- Plain mathematics of covers: the greedy cover of a range and the cover by halving are one list. It imports no program. -/
import Derived.Test.YtgdnfglhlpnooaaMa
namespace Go.Proofs.Ytgdnfglhlpnooaa

theorem psz_dvd (m k : Int) (h0 : 0 ≤ m) (h : m ≤ k) (h1 : k ≤ 16) : psz k ∣ psz m := by
  unfold psz
  have e : (16 - m).toNat = (16 - k).toNat + (k - m).toNat := by omega
  rw [e, Int.pow_add]
  exact ⟨_, rfl⟩
theorem psz_half (n : Int) (h0 : 0 ≤ n) (h1 : n < 16) : psz n = psz (n + 1) + psz (n + 1) := by
  unfold psz
  have e : (16 - n).toNat = (16 - (n + 1)).toNat + 1 := by omega
  rw [e, Int.pow_succ]; omega
theorem psz_lt (m k : Int) (h0 : 0 ≤ m) (h : m < k) (h1 : k ≤ 16) : psz k < psz m := by
  have a := psz_half m h0 (by omega)
  have b := psz_pos (m + 1) (by omega) (by omega)
  have c := Int.le_of_dvd (by omega) (psz_dvd (m + 1) k (by omega) (by omega) h1)
  omega
/-- Two multiples of a size that differ lie that size apart. -/
theorem apart_le (x y s : Int) (hx : x % s = 0) (hy : y % s = 0) (h : x < y) : x + s ≤ y := by
  have hd : s ∣ y - x := Int.dvd_sub (Int.dvd_of_emod_eq_zero hy) (Int.dvd_of_emod_eq_zero hx)
  have := Int.le_of_dvd (by omega) hd
  omega
theorem align_down (x m k : Int) (h0 : 0 ≤ m) (h : m ≤ k) (h1 : k ≤ 16) (hx : x % psz m = 0) : x % psz k = 0 :=
  Int.emod_eq_zero_of_dvd (Int.dvd_trans (psz_dvd m k h0 h h1) (Int.dvd_of_emod_eq_zero hx))

/-- n is the length of the greatest block that begins at a and ends at to or before. -/
def IsLvl (a to n : Int) : Prop := 0 ≤ n ∧ n ≤ 16 ∧ a % psz n = 0 ∧ a + psz n - 1 ≤ to ∧ ∀ m, 0 ≤ m → m < n → ¬ (a % psz m = 0 ∧ a + psz m - 1 ≤ to)
theorem IsLvl.uniq {a to n m : Int} (h : IsLvl a to n) (h' : IsLvl a to m) : n = m := by
  obtain ⟨h0, _, h2, h3, h4⟩ := h
  obtain ⟨h0', _, h2', h3', h4'⟩ := h'
  rcases Int.lt_trichotomy n m with h | h | h
  · exact absurd ⟨h2, h3⟩ (h4' n h0 h)
  · exact h
  · exact absurd ⟨h2', h3'⟩ (h4 m h0' h)

/-- L is the greedy cover of a..to. -/
def Greedy (to : Int) : Int → List (Int × Int) → Prop
  | a, [] => to < a
  | a, p :: L => a ≤ to ∧ p.1 = a ∧ IsLvl a to p.2 ∧ Greedy to (a + psz p.2) L
theorem Greedy.uniq {to : Int} : ∀ {a : Int} {L M : List (Int × Int)}, Greedy to a L → Greedy to a M → L = M
  | _, [], [], _, _ => rfl
  | _, [], _ :: _, h, h' => by have h1 : to < _ := h; have := h'.1; omega
  | _, _ :: _, [], h, h' => by have h1 : to < _ := h'; have := h.1; omega
  | a, (x, n) :: L, (y, m) :: M, h, h' => by
    obtain ⟨_, e1, l1, g1⟩ := h
    obtain ⟨_, e2, l2, g2⟩ := h'
    simp only at e1 e2 l1 l2 g1 g2
    obtain rfl := l1.uniq l2
    rw [e1, e2, Greedy.uniq g1 g2]

/-- The greedy steps from s on, L so far, have come to a. -/
def Reach (to : Int) : Int → List (Int × Int) → Int → Prop
  | s, [], a => s = a
  | s, p :: L, a => s ≤ to ∧ p.1 = s ∧ IsLvl s to p.2 ∧ Reach to (s + psz p.2) L a
theorem Reach.snoc {to a n : Int} (ha : a ≤ to) (hn : IsLvl a to n) : ∀ {s : Int} {L : List (Int × Int)}, Reach to s L a → Reach to s (L ++ [(a, n)]) (a + psz n)
  | s, [], h => by obtain rfl : s = a := h; exact ⟨ha, rfl, hn, rfl⟩
  | s, _ :: _, ⟨h1, h2, h3, h4⟩ => ⟨h1, h2, h3, h4.snoc ha hn⟩
theorem Reach.greedy {to a : Int} (ha : to < a) : ∀ {s : Int} {L : List (Int × Int)}, Reach to s L a → Greedy to s L
  | s, [], h => by obtain rfl : s = a := h; exact ha
  | s, _ :: _, ⟨h1, h2, h3, h4⟩ => ⟨h1, h2, h3, h4.greedy ha⟩
theorem Reach.len {to a : Int} : ∀ {s : Int} {L : List (Int × Int)}, Reach to s L a → s + (L.length : Int) ≤ a
  | s, [], h => by obtain rfl : s = a := h; simp
  | s, p :: L, ⟨_, _, h3, h4⟩ => by
    have h5 := h4.len
    have := psz_pos p.2 h3.1 h3.2.1
    simp only [List.length_cons]
    omega

/-- The cover of from..to by halving the block at net of length n; d bounds the depth. -/
def tree (fr to : Int) : Nat → Int → Int → List (Int × Int)
  | 0, _, _ => []
  | d + 1, net, n => if net + psz n - 1 < fr ∨ to < net then [] else if fr ≤ net ∧ net + psz n - 1 ≤ to then [(net, n)] else tree fr to d net (n + 1) ++ tree fr to d (net + psz (n + 1)) (n + 1)

/-- Greedy steps within the lower half of a block that is not wanted as a whole go on into the upper half. -/
theorem Greedy.join (net n hi : Int) (hn0 : 0 ≤ n) (hn : n < 16) (hal : net % psz n = 0) (hhi : hi ≤ net + psz n - 1) :
    ∀ (L0 L1 : List (Int × Int)) (a : Int), net ≤ a → a ≤ net + psz (n + 1) → ¬ (a = net ∧ hi = net + psz n - 1) → Greedy (net + psz (n + 1) - 1) a L0 → net + psz (n + 1) ≤ hi → Greedy hi (net + psz (n + 1)) L1 → Greedy hi a (L0 ++ L1)
  | [], L1, a, _, ha, _, h0, _, h1 => by
    have h2 : net + psz (n + 1) - 1 < a := h0
    obtain rfl : a = net + psz (n + 1) := by omega
    exact h1
  | (x, m) :: L0, L1, a, ha0, _, hw, h0, hmid, h1 => by
    obtain ⟨g1, g2, ⟨l0, l1, l2, l3, l4⟩, g4⟩ := h0
    simp only at g2 l0 l1 l2 l3 l4 g4
    have hp := psz_pos m l0 l1
    refine ⟨by omega, g2, ⟨l0, l1, l2, by show a + psz m - 1 ≤ hi; omega, fun k hk0 hk hbad => ?_⟩, Greedy.join net n hi hn0 hn hal hhi L0 L1 (a + psz m) (by omega) (by omega) (fun h => by omega) g4 hmid h1⟩
    obtain ⟨hb1, hb2⟩ := hbad
    have hno := l4 k hk0 hk
    have hcross : ¬ (a + psz k - 1 ≤ net + psz (n + 1) - 1) := fun h => hno ⟨hb1, h⟩
    by_cases hkn : n + 1 ≤ k
    · have hmidal : (net + psz (n + 1)) % psz k = 0 := by
        refine Int.emod_eq_zero_of_dvd (Int.dvd_add (Int.dvd_of_emod_eq_zero (align_down net n k hn0 (by omega) (by omega) hal)) (psz_dvd (n + 1) k (by omega) hkn (by omega)))
      have := apart_le a (net + psz (n + 1)) (psz k) hb1 hmidal (by omega)
      omega
    · have hak : a % psz n = 0 := align_down a k n hk0 (by omega) (by omega) hb1
      have hhalf := psz_half n hn0 hn
      have hpp := psz_pos (n + 1) (by omega) (by omega)
      have hnet : a = net := by
        rcases Int.lt_or_eq_of_le ha0 with h | h
        · have := apart_le net a (psz n) hal hak h
          omega
        · exact h.symm
      have hkle : psz k ≤ psz n := by omega
      have hkn2 : k = n := by
        rcases Int.lt_or_eq_of_le (show k ≤ n by omega) with h | h
        · have := psz_lt k n hk0 h (by omega)
          omega
        · exact h
      subst hkn2
      exact hw ⟨hnet, by omega⟩

theorem tree_greedy (fr to : Int) (hft : fr ≤ to) : ∀ (d : Nat) (net n : Int), (d : Int) = 17 - n → 0 ≤ n → n ≤ 16 → net % psz n = 0 → ∀ lo hi : Int, lo = max fr net → hi = min to (net + psz n - 1) →
    (lo ≤ hi → Greedy hi lo (tree fr to d net n)) ∧ (hi < lo → tree fr to d net n = [])
  | 0, net, n, hd, h0, h1, _, _, _, _, _ => by omega
  | d + 1, net, n, hd, h0, h1, hal, lo, hi, hlo, hhi => by
    have hp := psz_pos n h0 h1
    unfold tree
    by_cases c1 : net + psz n - 1 < fr ∨ to < net
    · rw [if_pos c1]
      exact ⟨fun h => by omega, fun _ => rfl⟩
    · rw [if_neg c1]
      by_cases c2 : fr ≤ net ∧ net + psz n - 1 ≤ to
      · rw [if_pos c2]
        obtain rfl : lo = net := by omega
        obtain rfl : hi = lo + psz n - 1 := by omega
        refine ⟨fun _ => ⟨by omega, rfl, ⟨h0, h1, hal, by simp only; omega, fun m hm0 hm hbad => ?_⟩, by show _ < _; simp only; omega⟩, fun h => by omega⟩
        have := psz_lt m n hm0 hm h1
        omega
      · rw [if_neg c2]
        have hn16 : n < 16 := by
          rcases Int.lt_or_eq_of_le h1 with h | h
          · exact h
          · exfalso
            subst h
            have : psz 16 = 1 := by decide
            omega
        have hhalf := psz_half n h0 hn16
        have hpp := psz_pos (n + 1) (by omega) (by omega)
        have hal0 := align_down net n (n + 1) h0 (by omega) (by omega) hal
        have hal1 : (net + psz (n + 1)) % psz (n + 1) = 0 := by rw [Int.add_emod_right]; exact hal0
        obtain ⟨a1, a2⟩ := tree_greedy fr to hft d net (n + 1) (by omega) (by omega) (by omega) hal0 _ _ rfl rfl
        obtain ⟨b1, b2⟩ := tree_greedy fr to hft d (net + psz (n + 1)) (n + 1) (by omega) (by omega) (by omega) hal1 _ _ rfl rfl
        refine ⟨fun hle => ?_, fun h => by omega⟩
        by_cases k1 : hi < net + psz (n + 1)
        · rw [b2 (by omega), List.append_nil]
          have := a1 (by omega)
          rw [show min to (net + psz (n + 1) - 1) = hi by omega, show max fr net = lo by omega] at this
          exact this
        · by_cases k2 : net + psz (n + 1) ≤ lo
          · rw [a2 (by omega), List.nil_append]
            have := b1 (by omega)
            rw [show min to (net + psz (n + 1) + psz (n + 1) - 1) = hi by omega, show max fr (net + psz (n + 1)) = lo by omega] at this
            exact this
          · have g0 := a1 (by omega)
            have g1 := b1 (by omega)
            rw [show min to (net + psz (n + 1) - 1) = net + psz (n + 1) - 1 by omega, show max fr net = lo by omega] at g0
            rw [show min to (net + psz (n + 1) + psz (n + 1) - 1) = hi by omega, show max fr (net + psz (n + 1)) = net + psz (n + 1) by omega] at g1
            exact Greedy.join net n hi h0 hn16 hal (by omega) _ _ lo (by omega) (by omega) (by omega) g0 (by omega) g1

theorem tree_cover (fr to : Int) (h0 : 0 ≤ fr) (h1 : fr ≤ to) (h2 : to ≤ 65535) : Greedy to fr (tree fr to 17 0 0) := by
  have hz : psz 0 = 65536 := by decide
  have h := (tree_greedy fr to h1 17 0 0 (by omega) (by omega) (by omega) (by rw [hz]; rfl) _ _ rfl rfl).1 (by omega)
  rw [show min to (0 + psz 0 - 1) = to by omega, show max fr 0 = fr by omega] at h
  exact h

end Go.Proofs.Ytgdnfglhlpnooaa
