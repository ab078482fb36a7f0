/- Cover of the model as contracts. -/
import Derived.Test.YtegffibamkaeiabSo
namespace Go.Proofs.Ytegffibamkaeiab
open Go.RowKit

def badB (fr to : Int) : Bool := !(inB fr 0 65535) || !(inB to 0 65535) || decide (to < fr)

set_option maxHeartbeats 1000000 in
theorem spcover_no (fr to : Int) (w : World) (h : badB fr to = true) :
    Calls Try.prog 7 #[.int .i64 fr, .int .i64 to] w fun e w' => e = .returned (.tuple #[.slice none 0 0, .bool false]) ∧ Below w.heap.size w w' := by
  unfold badB at h
  by_cases ha : inB fr 0 65535 = true
  · by_cases hb : inB to 0 65535 = true
    · have hd : to < fr := by simpa [ha, hb] using h
      clear h
      go_enter Try.func7, Try.ntmps7
      go_wp2_with (go_at_call 25; refine (addr_any _ _).mono ?_; rintro e w' ⟨rfl, rfl⟩)
      go_ret2
      exact ⟨rfl, by go_grown⟩
    · rw [Bool.not_eq_true] at hb
      clear h
      go_enter Try.func7, Try.ntmps7
      go_wp2_with (go_at_call 25; refine (addr_any _ _).mono ?_; rintro e w' ⟨rfl, rfl⟩)
      go_ret2
      exact ⟨rfl, by go_grown⟩
  · rw [Bool.not_eq_true] at ha
    clear h
    go_enter Try.func7, Try.ntmps7
    go_wp2_with (go_at_call 25; refine (addr_any _ _).mono ?_; rintro e w' ⟨rfl, rfl⟩)
    go_ret2
    exact ⟨rfl, by go_grown⟩

/-- What stands at the head of the outer loop's rounds. -/
def CovRel (fr to : Int) (w wr : World) (v : Value) (L : List (Int × Int)) (a : Int) : Prop :=
  Reach to fr L a ∧ a ≤ to + 1 ∧ wr.ownsRow w.heap.size 39 2 v L.length (vals L) ∧ Below w.heap.size w wr

/-- No length below n will do at a. -/
def NoLvl (a to n : Int) : Prop := ∀ m, 0 ≤ m → m < n → ¬ (a % psz m = 0 ∧ a + psz m - 1 ≤ to)
theorem lvl16 {x to n : Int} (h0 : 0 ≤ n) (h1 : n ≤ 16) (hx : x ≤ to) (h : ¬ (x % psz n = 0 ∧ x + psz n - 1 ≤ to)) : n < 16 := by
  rcases Int.lt_or_eq_of_le h1 with h2 | h2
  · exact h2
  · subst h2
    have e : psz 16 = 1 := by decide
    exact absurd ⟨by rw [e]; exact Int.emod_one x, by omega⟩ h
theorem own_empty (w : World) : (w.alloc (.cells #[] 39)).ownsRow w.heap.size 39 2 (.slice (some ⟨w.heap.size, 0, none⟩) 0 0) 0 [] :=
  World.ownsRow_made w #[] 0 (Nat.le_refl _) (Nat.zero_le _) rfl
theorem NoLvl.step {a to n : Int} (h : NoLvl a to n) (hn : ¬ (a % psz n = 0 ∧ a + psz n - 1 ≤ to)) : NoLvl a to (n + 1) := fun m h0 h1 => by
  rcases Int.lt_or_eq_of_le (show m ≤ n by omega) with h2 | h2
  · exact h m h0 h2
  · exact h2 ▸ hn
theorem CovRel.drewN {fr to : Int} {w wr : World} {v : Value} {L : List (Int × Int)} {a : Int} (h : CovRel fr to w wr v L a) (q : Nat) : CovRel fr to w (wr.drewN q) v L a :=
  ⟨h.1, h.2.1, h.2.2.1, below_drewN h.2.2.2 q⟩

theorem own_snoc {w1 : World} {B : Nat} {v : Value} {L : List (Int × Int)} {x n : Int} (h : w1.ownsRow B 39 2 v (L.length + 1) (vals L ++ [.int .i64 x, .int .i64 n])) : w1.ownsRow B 39 2 v (L ++ [(x, n)]).length (vals (L ++ [(x, n)])) := by
  rw [vals_app, List.length_append]; exact h
theorem own_grown {w wr w1 : World} {v : Value} {k : Nat} {xs : List Value} {o : Obj} (hb : Below w.heap.size w wr) (hown : wr.ownsRow w.heap.size 39 2 v k xs) (hg : (wr.alloc o).grownBy w1 v.ownBlock) : Below w.heap.size w w1 :=
  (hb.alloc hb.size o).grown hg (by have := hb.size; simp; omega) (fun k hk => (hown.lt k hk).1)

def SomeRow (w : World) (L : List (Int × Int)) (e : Ending) (w' : World) : Prop := ∃ v, e = .returned (.tuple #[v, .bool true]) ∧ Row w' w.heap.size w'.heap.size v L ∧ Below w.heap.size w w'

set_option maxHeartbeats 2000000 in
theorem spcover_yes (fr to : Int) (w : World) (h0 : 0 ≤ fr) (h1 : fr ≤ to) (h2 : to ≤ 65535) :
    Calls Try.prog 7 #[.int .i64 fr, .int .i64 to] w (SomeRow w (tree fr to 17 0 0)) := by
  have ia := inB_true h0 (show fr ≤ 65535 by omega)
  have ib := inB_true (show 0 ≤ to by omega) h2
  have hlt : ¬ (to < fr) := by omega
  obtain ⟨i39, hi, hz0, hz1, hz2⟩ := info_parts Try.info39
  have Hi := Lib.hid (And.intro hi (And.intro hz0 (And.intro hz1 hz2)))
  clear hi hz0 hz1 hz2
  go_enter Try.func7, Try.ntmps7
  go_wp2_with (go_at_call 25; refine (addr_any _ _).mono ?_; rintro e w' ⟨rfl, rfl⟩)
  clear ia ib hlt
  go_loopw [6, 7] (fun v a wr => ∃ (x : Int) (L : List (Int × Int)), a = .int .i64 x ∧ CovRel fr to w wr v L x) (fun _ a _ => (to + 1 - intOf a).toNat)
  case atStart => exact ⟨fr, [], rfl, rfl, by omega, own_empty w, by go_grown⟩
  case round =>
    obtain ⟨x, L, rfl, hR⟩ := hrel
    have hlen := hR.1.len
    have hx0 : fr ≤ x := by omega
    have hxle := hR.2.1
    by_cases hc : x ≤ to
    · have HR := Lib.hid hR
      clear hR
      have hll : L.length ≤ 65536 := by omega
      clear hlen
      go_wp2
      go_loopw [8] (fun v wi => ∃ n : Int, 0 ≤ n ∧ n ≤ 16 ∧ v = .int .i64 n ∧ NoLvl x to n ∧ Hid (CovRel fr to w wi u6 L x)) (fun v _ => (16 - intOf v).toNat)
      case atStart => exact ⟨0, by omega, by omega, rfl, fun m h0 h1 => by omega, HR⟩
      case round =>
        obtain ⟨n, hn0, hn1, rfl, hno, HC⟩ := hrel
        have hp := psz_pos n hn0 hn1
        have hq := psz_le n hn0 hn1
        have hz : ¬ (psz n = 0) := by omega
        have ht : x.tmod (psz n) = x % psz n := Int.tmod_eq_emod_of_nonneg (by omega)
        have e1 : IntKind.i64.wrap (x + psz n) = x + psz n := IntWalk.i64_in _ (by omega)
        have e2 : IntKind.i64.wrap (x + psz n - 1) = x + psz n - 1 := IntWalk.i64_in _ (by omega)
        have Hno := Lib.hid hno
        clear hno
        by_cases hal : x % psz n = 0
        · have hb : (x % psz n != 0) = false := by simp [hal]
          by_cases hfit : x + psz n - 1 ≤ to
          · have hd : decide (to < x + psz n - 1) = false := decide_eq_false (by omega)
            have HL := Lib.hid (show IsLvl x to n from ⟨hn0, hn1, hal, hfit, Hno.out⟩)
            clear hal
            obtain ⟨hR1, hR2, hown, hbel⟩ := HC.out
            obtain ⟨hi, hz0, hz1, hz2⟩ := Hi.out
            have hsz := hbel.size
            have HR1 := Lib.hid hR1
            clear hR1 HC HR
            go_wp2_with (first | (go_at_call 26; refine (spsize_any _ _ hn0 hn1).mono ?_; rintro e w' ⟨rfl, rfl⟩) | (at_builtin; refine wpList_append_own _ rfl _ _ 22 rfl w.heap.size 39 i39 (.agg #[.int .i64 0, .int .i64 0]) 2 16 Try.under22 hi hz0 hz1 hz2 rfl (by decide) _ _ _ rfl (hown.alloc _) ⟨wr.heap.size, 0, none⟩ 1 1 [.int .i64 x, .int .i64 n] rfl rfl ?c1 ?c2 ?c3 ?c4 ?c5 ?_))
            case c1 => exact fun j u hj => cell_two_new wr (.int .i64 x) (.int .i64 n) 39 j u hj
            case c2 => intro u hu; simp at hu; rcases hu with rfl | rfl <;> rfl
            case c3 => unfold maxLen; omega
            case c4 => omega
            case c5 => simp; omega
            intro v' w1 hown1 hgrow1 _
            go_wp2_with (go_at_call 26; refine (spsize_any _ _ hn0 hn1).mono ?_; rintro e w' ⟨rfl, rfl⟩)
            go_roundw
            case rel => exact ⟨x + psz n, L ++ [(x, n)], by go_num, HR1.out.snoc hc HL.out, by omega, own_snoc hown1, own_grown hbel hown hgrow1⟩
            case measure => simp [intOf]; omega
          · have hd : decide (to < x + psz n - 1) = true := decide_eq_true (by omega)
            have hn16 := lvl16 hn0 hn1 hc (fun h => hfit h.2)
            have HN := Lib.hid (Hno.out.step (fun h => hfit h.2))
            clear hal
            go_wp2_with (go_at_call 26; refine (spsize_any _ _ hn0 hn1).mono ?_; rintro e w' ⟨rfl, rfl⟩)
            go_roundw
            case rel => exact ⟨n + 1, by omega, by omega, by go_num, HN.out, HC⟩
            case measure => simp [intOf]; omega
        · have hb : (x % psz n != 0) = true := by simp [hal]
          have hn16 := lvl16 hn0 hn1 hc (fun h => hal h.1)
          have HN := Lib.hid (Hno.out.step (fun h => hal h.1))
          clear hal
          go_wp2_with (go_at_call 26; refine (spsize_any _ _ hn0 hn1).mono ?_; rintro e w' ⟨rfl, rfl⟩)
          go_roundw
          case rel => exact ⟨n + 1, by omega, by omega, by go_num, HN.out, HC⟩
          case measure => simp [intOf]; omega
    · have hfin : L = tree fr to 17 0 0 := (hR.1.greedy (by omega)).uniq (tree_cover fr to h0 h1 h2)
      have Hf := Lib.hid hfin
      have hrow := row_of_own hR.2.2.1 (by omega)
      have hbel := hR.2.2.2
      have Hr := Lib.hid hrow
      clear hfin hrow hR hlen
      go_wp2
      go_ret2
      exact ⟨_, rfl, Hf.out ▸ Hr.out, hbel⟩

end Go.Proofs.Ytegffibamkaeiab
