/- Whether an advertisement links to a node: the program. -/
import Derived.Test.YtfpafjdakipccaaEg
import Derived.Test.YtfpafjdakipccaaGx
import Derived.Test.YtfpafjdakipccaaRows
import Derived.WalkSpells
import Derived.WalkLawsBesides
import Derived.BigQuiet
import Derived.Deep.QuietTactic
import Derived.Deep.RegionHeld3
import Derived.WalkSmall
import Derived.Handy
namespace Go.Proofs.Ytfpafjdakipccaa
open Go.RowKit


/-- Whether a list of links leads to y. -/
def anyTo (K : List Lk) (y : Int) : Bool := K.any fun k => k.1 == y
theorem anyTo_yes {K : List Lk} {y : Int} {j : Nat} {r : Lk} (h : K[j]? = some r) (hr : (r.1 == y) = true) : anyTo K y = true := by
  unfold anyTo; rw [List.any_eq_true]; exact ⟨r, List.mem_of_getElem? h, hr⟩
theorem anyTo_no {K : List Lk} {y : Int} (h : ∀ (j : Nat) (r : Lk), j < K.length → K[j]? = some r → (r.1 == y) = false) : anyTo K y = false := by
  unfold anyTo; rw [List.any_eq_false]; intro r hr
  obtain ⟨j, hj⟩ := List.getElem?_of_mem hr
  rw [h j r (List.getElem?_eq_some_iff.1 hj).1 hj]; simp
theorem says_find {D : List Ls} {x y : Int} : says D x y = anyTo ((dfind D x).getD l0).K y := by
  unfold says
  cases dfind D x with
  | none => rfl
  | some l => rfl
set_option maxHeartbeats 1000000 in
theorem clos_any (p : Nat) (a b y : Int) (w : World) (hp : p < w.heap.size) (h0 : w.cell? ⟨p, 0, none⟩ = some (.int .i64 y)) :
    Calls Try.prog 106 #[.agg #[.int .i64 a, .int .i64 b], .pointer (some ⟨p, 0, none⟩)] w fun e w' => e = .returned (.bool (a == y)) ∧ Below w.heap.size w w' := by
  have k0 : (w.alloc (.cells #[.int .i64 a, .int .i64 b] 75)).cell? ⟨p, 0, none⟩ = some (.int .i64 y) := by rw [old_box hp]; exact h0
  have n0 : p ≠ w.heap.size := by omega
  go_enter Try.func106, Try.ntmps106
  go_wp2
  go_ret
  exact ⟨rfl, by go_grown⟩
def IdxPost (K : List Lk) (y : Int) (w : World) (e : Ending) (w' : World) : Prop := ∃ r : Int, e = .returned (.int .i64 r) ∧ decide (0 ≤ r) = anyTo K y ∧ Below w.heap.size w w'
theorem idxP {K : List Lk} {y : Int} {w w' : World} {e : Ending} (r : Int) (h1 : e = .returned (.int .i64 r)) (h2 : decide (0 ≤ r) = anyTo K y) (h3 : Below w.heap.size w w') : IdxPost K y w e w' := ⟨r, h1, h2, h3⟩
set_option maxRecDepth 100000 in
set_option maxHeartbeats 2000000 in
theorem index_any (p n : Nat) (ad : Option Addr) (cp : Nat) (K : List Lk) (y : Int) (w : World) (hK : K.length = n) (hn : n ≤ 1000000) (hp : p < w.heap.size) (h0 : w.cell? ⟨p, 0, none⟩ = some (.int .i64 y))
    (hc : 0 < n → ∃ g, ad = some ⟨g, 0, none⟩ ∧ g < w.heap.size ∧ ∀ q z, (flat2 K)[q]? = some z → w.cell? ⟨g, q, none⟩ = some (.int .i64 z)) :
    Calls Try.prog 131 #[.slice ad n cp, .func (.func 106) #[] #[.pointer (some ⟨p, 0, none⟩)]] w fun e w' => IdxPost K y w e w' := by
  have HL := Lib.hid hK
  have HC := Lib.hid hc
  clear hK hc
  go_enter Try.func131, Try.ntmps131
  go_wp2
  go_loopw [8] (fun i wr => ∃ k : Nat, k ≤ n ∧ i = .int .i64 (k : Int) ∧ Hid (∀ (j : Nat) (e : Lk), j < k → K[j]? = some e → (e.1 == y) = false) ∧ Hid (Below w.heap.size w wr)) (fun i _ => n - (intOf i).toNat)
  case atStart => exact ⟨0, Nat.zero_le _, rfl, fun j e hj => absurd hj (Nat.not_lt_zero _), Below.refl _ _⟩
  case round =>
    obtain ⟨k, hk, rfl, hF, hB⟩ := hrel
    by_cases hlt : k < n
    · obtain ⟨g, rfl, hg, hcell⟩ := HC.out (by omega)
      obtain ⟨r, hrk⟩ : ∃ r, K[k]? = some r := ⟨K[k]'(by rw [HL.out]; exact hlt), List.getElem?_eq_getElem _⟩
      obtain ⟨a, b⟩ := r
      obtain ⟨r0, r1⟩ := flat2_at K k _ hrk
      have z0 : wr.cell? ⟨g, k * 2, none⟩ = some (.int .i64 a) := by rw [hB.out.cell (p := ⟨g, k * 2, none⟩) hg]; exact hcell _ _ r0
      have z1 : wr.cell? ⟨g, k * 2 + 1, none⟩ = some (.int .i64 b) := by rw [hB.out.cell (p := ⟨g, k * 2 + 1, none⟩) hg]; exact hcell _ _ r1
      have HK := Lib.hid hrk
      have k0 : wr.cell? ⟨p, 0, none⟩ = some (.int .i64 y) := by rw [hB.out.cell (p := ⟨p, 0, none⟩) hp]; exact h0
      have hpw : p < wr.heap.size := Nat.lt_of_lt_of_le hp hB.out.size
      have q0 : (0 : Int) ≤ (k : Int) := by omega
      have q1 : (k : Int) < (n : Int) := by omega
      clear r0 r1 hrk hcell
      by_cases hP : (a == y) = true
      · go_wp2_with fail
        go_at_call 106
        refine (clos_any p a b y wr hpw k0).mono ?_
        rw [hP]
        rintro e w2 ⟨rfl, hb⟩
        have hB2 := chain hB.out hb
        have HI : Hid (decide ((0 : Int) ≤ (k : Int)) = anyTo K y) := Lib.hid (by rw [anyTo_yes HK.out hP]; exact decide_eq_true q0)
        clear hb
        go_wp2_with fail
        go_ret
        exact idxP _ rfl HI.out hB2
      · rw [Bool.not_eq_true] at hP
        have HF : Hid (∀ (j : Nat) (e : Lk), j < k + 1 → K[j]? = some e → (e.1 == y) = false) := fun j e hj he => by
          by_cases ej : j = k
          · subst ej; rw [HK.out] at he; obtain rfl := Option.some.inj he; exact hP
          · exact hF.out j e (by omega) he
        go_wp2_with fail
        go_at_call 106
        refine (clos_any p a b y wr hpw k0).mono ?_
        rw [hP]
        rintro e w2 ⟨rfl, hb⟩
        have hB2 := Lib.hid (chain hB.out hb)
        clear hb hF hB
        go_wp2_with fail
        go_roundw
        case rel => exact ⟨k + 1, by omega, by go_num, HF, hB2⟩
        case measure => simp [intOf]; omega
    · have hge : ¬ ((k : Int) < (n : Int)) := by omega
      have HI : Hid (decide ((0 : Int) ≤ -1) = anyTo K y) := Lib.hid (by rw [anyTo_no fun j r hj hr => hF.out j r (by have := HL.out; omega) hr]; rfl)
      clear hF
      go_wp2
      go_ret
      exact idxP _ rfl HI.out hB.out
set_option maxHeartbeats 2000000 in
theorem contains_any (p n : Nat) (ad : Option Addr) (cp : Nat) (K : List Lk) (y : Int) (w : World) (hK : K.length = n) (hn : n ≤ 1000000) (hp : p < w.heap.size) (h0 : w.cell? ⟨p, 0, none⟩ = some (.int .i64 y))
    (hc : 0 < n → ∃ g, ad = some ⟨g, 0, none⟩ ∧ g < w.heap.size ∧ ∀ q z, (flat2 K)[q]? = some z → w.cell? ⟨g, q, none⟩ = some (.int .i64 z)) :
    Calls Try.prog 105 #[.slice ad n cp, .func (.func 106) #[] #[.pointer (some ⟨p, 0, none⟩)]] w fun e w' => e = .returned (.bool (anyTo K y)) ∧ Below w.heap.size w w' := by
  have H := Lib.hid (index_any p n ad cp K y w hK hn hp h0 hc)
  clear hK hn h0 hc
  go_enter Try.func105, Try.ntmps105
  go_wp2_with fail
  go_at_call 131
  refine H.out.mono ?_
  rintro e w2 ⟨r, rfl, hI, hb⟩
  have HI := Lib.hid hI
  have HB := Lib.hid hb
  clear hI hb
  go_wp2_with fail
  go_ret
  exact ⟨by rw [HI.out]; rfl, HB.out⟩
set_option maxRecDepth 100000 in
set_option maxHeartbeats 2000000 in
theorem linksTo_any (l : Ls) (y : Int) (lo hi : Nat) (u x : Value) (w : World) (hr : LRow w lo hi u x l.K.length l.T.length (flat2 l.K) (flat l.T)) (hh : hi ≤ w.heap.size) (hn : l.K.length ≤ 1000000) :
    Calls Try.prog 82 #[.agg #[.int .i64 l.o, .int .i64 l.s, .int .i64 l.g, u, x], .int .i64 y] w fun e w' => e = .returned (.bool (anyTo l.K y)) ∧ Below w.heap.size w w' := by
  obtain ⟨u1, e1, u2, e2, q1, q2⟩ := hr.slice
  subst q1 q2
  obtain ⟨a', c', ev, hpos, hcell⟩ := hr.fst.opened
  obtain ⟨rfl, rfl⟩ : a' = u1 ∧ c' = e1 := by simpa using ev.symm
  have HC := Lib.hid hcell
  clear ev hcell hr
  obtain ⟨n, hnl⟩ : ∃ n, n = l.K.length := ⟨_, rfl⟩
  rw [← hnl] at HC hn ⊢
  have HN := Lib.hid hnl
  clear hnl
  go_enter Try.func82, Try.ntmps82
  go_wp2_with fail
  go_at_call 105
  refine (contains_any (w.heap.size + 1) n _ _ l.K y _ HN.out.symm hn (by simp) (by rw [new_at (by simp)]; rfl) (fun h => ?_)).mono ?_
  · obtain ⟨g, h1, h2, h3⟩ := HC.out h
    refine ⟨g, h1, by simp; omega, fun q z hz => ?_⟩
    rw [old_box (by simp; omega), old_box (by omega)]
    exact h3 q z hz
  rintro e w2 ⟨rfl, hb⟩
  have HB : Hid (Below w.heap.size w w2) := Lib.hid (Below.trans (by go_grown) (hb.mono (by simp <;> omega)))
  clear hb
  go_wp2_with fail
  go_ret
  exact ⟨rfl, HB.out⟩

end Go.Proofs.Ytfpafjdakipccaa
