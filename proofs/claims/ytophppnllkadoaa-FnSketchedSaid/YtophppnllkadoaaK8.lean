/- A row copied. -/
import Derived.Test.YtophppnllkadoaaK7
import Derived.Test.YtophppnllkadoaaK3
namespace Go.Proofs.Ytophppnllkadoaa
open Go.RowKit


theorem take_snoc1 {l : List Int} {k : Nat} {z : Int} (h : l[k]? = some z) : l.take (k + 1) = l.take k ++ [z] := by rw [List.take_add_one, h]; rfl
set_option maxRecDepth 100000 in
set_option maxHeartbeats 4000000 in
theorem lcp_any (lo hi n : Nat) (v : Value) (l : List Int) (w : World) (hr : Row 1 w lo hi v n l) (hh : hi ≤ w.heap.size) :
    Calls Try.prog 94 #[v] w fun e w' => ∃ rv, e = .returned rv ∧ Row 1 w' w.heap.size w'.heap.size rv n l ∧ Below w.heap.size w w' := by
  have hl : l.length = n := by have := hr.1; omega
  obtain ⟨ad, cp, rfl, hn, hc⟩ := hr.opened
  have HC := Lib.hid hc
  have HL := Lib.hid hl
  obtain ⟨iI, hi0, hz0, hz1, hz2⟩ := info_parts Try.info3q
  have I := Lib.hid (And.intro hi0 (And.intro hz0 (And.intro hz1 hz2)))
  clear hi0 hz0 hz1 hz2 hr hc hl
  go_enter Try.func94, Try.ntmps94
  go_wp2_with fail
  go_loopw [3, 4] (fun s i wr => ∃ (k : Nat) (ka : Option Addr) (kc : Nat), k ≤ n ∧ i = .int .i64 (k : Int) ∧ s = .slice ka k kc ∧ Hid (OwnR 3 1 w wr (.slice ka k kc) k (l.take k))) (fun _ i _ => n - (intOf i).toNat)
  case atStart => exact ⟨0, _, _, Nat.zero_le _, rfl, rfl, OwnR.lit0 3 1 w⟩
  case round =>
    obtain ⟨k, ka, kc, hk, rfl, rfl, hK⟩ := hrel
    have hsz := hK.out.below.size
    by_cases hlt : k < n
    case neg =>
      have hge : ¬ ((k : Int) < (n : Int)) := by omega
      obtain rfl : k = n := by omega
      have HE : Hid (Row 1 wr w.heap.size wr.heap.size (.slice ka k kc) k l) := by
        have := hK.out.toRow hn
        rw [List.take_of_length_le (by rw [HL.out]; exact Nat.le_refl _)] at this
        exact this
      have HB := Lib.hid hK.out.below
      clear hK
      go_wp2_with fail
      go_ret
      exact ⟨_, rfl, HE.out, HB.out⟩
    case pos =>
    obtain ⟨g, rfl, hg, hcell⟩ := HC.out (by omega)
    obtain ⟨z, hz⟩ : ∃ z, l[k]? = some z := ⟨_, List.getElem?_eq_getElem (by rw [HL.out]; exact hlt)⟩
    have z0 : wr.cell? ⟨g, k, none⟩ = some (.int .i64 z) := by rw [hK.out.below.cell (p := ⟨g, k, none⟩) (by show g < _; omega)]; exact hcell _ _ hz
    have HZ := Lib.hid (take_snoc1 hz)
    have q0 : (0 : Int) ≤ (k : Int) := by omega
    have q1 : (k : Int) < (n : Int) := by omega
    clear hcell hz HC
    go_wp2_with (at_builtin; refine wpList_append_lies _ rfl _ _ 41 rfl w.heap.size 3 iI (.int .i64 0) 1 8 Try.underlying41 I.out.1 I.out.2.1 I.out.2.2.1 I.out.2.2.2 rfl (by decide) _ k (ints (l.take k)) rfl (hK.out.row.alloc _) ⟨wr.heap.size, 0, none⟩ 1 1 (ints [z]) rfl rfl ?d0 (ints_one _) (by decide) ?d1 ?d2 ?d3 _ rfl ?_)
    case d0 => exact fun j u hj => cells_new _ [z] 3 rfl j u hj
    case d1 => unfold maxLen; omega
    case d2 => omega
    case d3 => simp; omega
    intro g4 cap4 w4 hown4 hgrow4 hat4 hlt4
    have HF : Hid (OwnR 3 1 w w4 (.slice (some ⟨g4, 0, none⟩) (k + 1) cap4) (k + 1) (l.take (k + 1))) := by
      show OwnR _ _ _ _ _ _ _
      rw [HZ.out]
      exact (hK.out.grow ((Below.refl _ _).alloc (Nat.le_refl _) _)).app hgrow4 hown4
    clear hown4 hgrow4 hat4 hlt4 hK
    go_wp2_with fail
    go_roundw
    case rel => exact ⟨k + 1, _, _, by omega, by go_num, rfl, HF⟩
    case measure => simp [intOf]; omega

end Go.Proofs.Ytophppnllkadoaa
