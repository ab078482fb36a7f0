/- The clone of a row of prefixes, as a contract on rows. -/
import Derived.Test.YtpfeekdmeloakaaCp
import Derived.Maps.AppendAt
import Derived.Lib.LazyBuf
namespace Go.Proofs.Ytpfeekdmeloakaa
open Go.RowKit

def ints (Z : List Int) : List Value := Z.map fun z => .int .i64 z
theorem ints_app (Y Z : List Int) : ints (Y ++ Z) = ints Y ++ ints Z := by simp [ints]
theorem ints_len (Z : List Int) : (ints Z).length = Z.length := by simp [ints]
theorem ints_at {Z : List Int} {q : Nat} {z : Int} (h : Z[q]? = some z) : (ints Z)[q]? = some (.int .i64 z) := by simp [ints, h]
theorem ints_of {Z : List Int} {q : Nat} {u : Value} (h : (ints Z)[q]? = some u) : ∃ z, Z[q]? = some z ∧ u = .int .i64 z := by
  unfold ints at h
  rw [List.getElem?_map] at h
  cases hz : Z[q]? with
  | none => rw [hz] at h; cases h
  | some z => rw [hz] at h; exact ⟨z, rfl, (Option.some.inj h).symm⟩
theorem ints_one (Z : List Int) : ∀ u ∈ ints Z, u.oneCell' = true := by
  intro u hu
  unfold ints at hu
  obtain ⟨z, _, rfl⟩ := List.mem_map.1 hu
  rfl
theorem add_none (g j : Nat) : (⟨g, 0, none⟩ : Addr).add j = ⟨g, j, none⟩ := by unfold Addr.add; split <;> simp_all

theorem own_slice {w : World} {b0 n k : Nat} {e : TypeId} {v : Value} {xs : List Value} (h : w.ownsRow b0 e k v n xs) : ∃ a c, v = .slice a n c := by
  rcases h.2 with ⟨rfl, h2⟩ | ⟨g, cap, cur, rfl, _⟩
  · exact ⟨none, 0, by rw [h2]⟩
  · exact ⟨_, cap, rfl⟩
theorem own_empty (w : World) (e : TypeId) (k : Nat) : (w.alloc (.cells #[] e)).ownsRow w.heap.size e k (.slice (some ⟨w.heap.size, 0, none⟩) 0 0) 0 [] := by
  refine ⟨by simp, .inr ⟨w.heap.size, 0, #[], rfl, Nat.le_refl _, ?_, Nat.le_refl _, Nat.zero_le _, by simp, by simp⟩⟩
  unfold World.alloc
  simp
theorem row_of_own {w : World} {base n k : Nat} {e : TypeId} {v : Value} {Z : List Int} (h : w.ownsRow base e k v n (ints Z)) (hl : n ≤ 1100000) : Row k w base w.heap.size v n Z := by
  have hlt := h.lt
  have hcells := fun g hg => h.cells (g := g) hg
  obtain ⟨h1, h2⟩ := h
  rw [ints_len] at h1
  refine ⟨h1, ?_⟩
  rcases h2 with ⟨rfl, h3⟩ | ⟨g, cap, cur, rfl, h3, h4, h5, h6, h7, h8⟩
  · exact .inl ⟨h3, none, 0, rfl⟩
  · obtain ⟨_, hg⟩ := hlt g rfl
    refine .inr ⟨g, cap, rfl, h3, hg, hl, fun q z hz => ?_, fun o => ?_⟩
    · have c0 := hcells g rfl _ _ (ints_at hz)
      rw [add_none] at c0
      exact c0
    · simp [World.frozen?, h4]

set_option maxRecDepth 100000 in
set_option maxHeartbeats 1000000 in
theorem clone_some (ad : Addr) (n cap : Nat) (Z : List Int) (w : World) (hn : n ≤ 300) (hZ : Z.length = n * 2) (h : ∀ j u, (ints Z)[j]? = some u → (w.alloc (.cells #[] 39)).cell? (ad.add j) = some u) :
    Calls Try.prog 112 #[.slice (some ad) n cap] w fun e w' => ∃ v', e = .returned v' ∧ Row 2 w' w.heap.size w'.heap.size v' n Z ∧ Below w.heap.size w w' := by
  have H := Lib.hid h
  clear h
  obtain ⟨i39, hi, hz0, hz1, hz2⟩ := info_parts Try.info39
  have Hi := Lib.hid (And.intro hi (And.intro hz0 (And.intro hz1 hz2)))
  clear hi hz0 hz1 hz2
  have E : ∀ w, (binOp .eql 54 (.slice (some ad) n cap) (.slice none 0 0)).run Try.prog w = .ok (.bool false) w := fun w => run_eql_slice_nil w 54 39 _ _ _ Try.underlying54
  go_enter Try.func112, Try.ntmps112
  go_wp2_with (at_builtin; refine wpList_append_own_at _ rfl _ _ 54 rfl w.heap.size 39 i39 (.agg #[.int .i64 0, .int .i64 0]) 2 16 Try.underlying54 Hi.out.1 Hi.out.2.1 Hi.out.2.2.1 Hi.out.2.2.2 rfl (by decide) _ 0 [] rfl ?c0 ad n cap (ints Z) rfl ?c7 ?c1 ?c2 ?c3 ?c4 ?c5 ?_)
  case c0 => exact own_empty w 39 2
  case c7 => rw [ints_len]; exact hZ
  case c1 => exact H.out
  case c2 => exact ints_one Z
  case c3 => unfold maxLen; omega
  case c4 => omega
  case c5 => simp
  intro v' w1 hown hgrow _ hat
  obtain ⟨sa, sc, rfl⟩ := own_slice hown
  have hr := row_of_own hown (by omega)
  have hB : Below w.heap.size w w1 := ((Below.refl _ _).alloc (Nat.le_refl _) _).grown hgrow (by simp) (fun k hk => by
    have : w.heap.size = k := by simpa [Value.ownBlock] using hk
    omega)
  clear hown hgrow hat
  go_wp2
  go_ret
  exact ⟨_, rfl, hr, hB⟩

set_option maxRecDepth 100000 in
set_option maxHeartbeats 1000000 in
theorem clone_none (cap : Nat) (w : World) :
    Calls Try.prog 112 #[.slice none 0 cap] w fun e w' => e = .returned (.slice none 0 0) ∧ w = w' := by
  have E : ∀ w, (binOp .eql 54 (.slice none 0 cap) (.slice none 0 0)).run Try.prog w = .ok (.bool true) w := fun w => run_eql_slice_nil w 54 39 _ _ _ Try.underlying54
  go_enter Try.func112, Try.ntmps112
  go_wp2
  go_ret
  exact ⟨rfl, rfl⟩

theorem clone_any (lo hi n : Nat) (v : Value) (Z : List Int) (w : World) (hr : Row 2 w lo hi v n Z) (hh : hi ≤ w.heap.size) (hn : n ≤ 300) :
    Calls Try.prog 112 #[v] w fun e w' => ∃ v', e = .returned v' ∧ Row 2 w' w.heap.size w'.heap.size v' n Z ∧ Below w.heap.size w w' := by
  obtain ⟨h0, hr⟩ := hr
  rcases hr with ⟨rfl, a, c, rfl⟩ | ⟨g, cap, rfl, h1, h2, h3, h4, h5⟩
  · have : Z = [] := List.eq_nil_of_length_eq_zero (by omega)
    subst this
    cases a with
    | none => exact (clone_none c w).mono fun _ _ ⟨he, hw⟩ => ⟨_, he, by subst hw; exact Row.empty _ _ _ _ _ _, hw ▸ Below.refl _ _⟩
    | some ad => exact clone_some ad 0 c [] w (by omega) rfl (fun j u h => by simp [ints] at h)
  · refine clone_some _ n cap Z w hn h0 fun j u hu => ?_
    obtain ⟨z, hz, rfl⟩ := ints_of hu
    rw [add_none, old_box (by omega)]
    exact h4 j z hz
end Go.Proofs.Ytpfeekdmeloakaa
