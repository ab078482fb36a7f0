/- The closure that collects: what it keeps. -/
import Derived.Test.YtpfeekdmeloakaaOp
namespace Go.Proofs.Ytpfeekdmeloakaa.Old
open Go.RowKit

def pB (b : Nat) : Value := .pointer (some ⟨b, 0, none⟩)
/-- The closure's own value: what it has captured are the blocks B, B + 1, B + 2. -/
def clo (B : Nat) : Value := .func (.func 115) #[] #[.pointer (some ⟨B, 0, none⟩), .pointer (some ⟨B + 1, 0, none⟩), .pointer (some ⟨B + 2, 0, none⟩)]

def CInv (B : Nat) (fr to : Int) (w : World) (F : List (Int × Int)) (v : Value) : Prop :=
  w.cell? ⟨B, 0, none⟩ = some (.int .i64 fr) ∧ w.cell? ⟨B, 1, none⟩ = some (.int .i64 to) ∧ w.cell? ⟨B + 1, 0, none⟩ = some v ∧ w.frozen? ⟨B + 1, 0, none⟩ = false ∧
  w.cell? ⟨B + 2, 0, none⟩ = some (clo B) ∧ B + 2 < w.heap.size ∧ w.ownsRow (B + 3) 39 2 v F.length (vals F)

def CFrame (B : Nat) (w : World) (v : Value) (w' : World) (v' : Value) : Prop :=
  w'.os = w.os ∧ w'.tape = w.tape ∧ w'.output = w.output ∧ w.heap.size ≤ w'.heap.size ∧
  (∀ b, b < w.heap.size → b ≠ B + 1 → v.ownBlock ≠ some b → w'.heap[b]? = w.heap[b]?) ∧ (v'.ownBlock = v.ownBlock ∨ ∀ k, v'.ownBlock = some k → w.heap.size ≤ k)

theorem CFrame.trans {B : Nat} {w w1 w2 : World} {v v1 v2 : Value} (h : CFrame B w v w1 v1) (k : CFrame B w1 v1 w2 v2) : CFrame B w v w2 v2 := by
  obtain ⟨a1, a2, a3, a4, a5, a6⟩ := h
  obtain ⟨b1, b2, b3, b4, b5, b6⟩ := k
  refine ⟨b1.trans a1, b2.trans a2, b3.trans a3, Nat.le_trans a4 b4, fun b h1 h2 h3 => ?_, ?_⟩
  · refine (b5 b (by omega) h2 fun e => ?_).trans (a5 b h1 h2 h3)
    rcases a6 with h | h
    · exact h3 (h ▸ e)
    · have := h b e; omega
  · rcases b6 with h | h
    · rcases a6 with h' | h'
      · exact .inl (h.trans h')
      · exact .inr fun k hk => h' k (h ▸ hk)
    · exact .inr fun k hk => Nat.le_trans a4 (h k hk)
theorem CFrame.of_below {B : Nat} {w w' : World} (v : Value) (h : Below w.heap.size w w') : CFrame B w v w' v :=
  ⟨h.os, h.tape, h.output, h.size, fun b hb _ _ => h.block b hb, .inl rfl⟩
theorem own_keep {w w' : World} {b0 : Nat} {v : Value} {n : Nat} {xs : List Value} (h : w.ownsRow b0 39 2 v n xs) (hb : ∀ k, v.ownBlock = some k → w'.heap[k]? = w.heap[k]?) : w'.ownsRow b0 39 2 v n xs := by
  obtain ⟨h1, h2⟩ := h
  refine ⟨h1, ?_⟩
  rcases h2 with h2 | ⟨g, cap, cur, rfl, h3, h4, r⟩
  · exact .inl h2
  · exact .inr ⟨g, cap, cur, rfl, h3, (hb g rfl).trans h4, r⟩
theorem CInv.keep {B : Nat} {fr to : Int} {w w' : World} {F : List (Int × Int)} {v : Value} (h : CInv B fr to w F v) (hb : Below w.heap.size w w') : CInv B fr to w' F v := by
  obtain ⟨h1, h2, h3, h4, h5, h6, h7⟩ := h
  obtain ⟨hc, hf⟩ := bcell hb
  have hz := hb.size
  refine ⟨by rw [hc _ _ (by omega)]; exact h1, by rw [hc _ _ (by omega)]; exact h2, by rw [hc _ _ (by omega)]; exact h3, by rw [hf _ _ (by omega)]; exact h4, by rw [hc _ _ (by omega)]; exact h5, by omega, own_keep h7 fun k hk => hb.block k (h7.lt k hk).2⟩

/-- What an append and the store of its row leave. -/
theorem CInv.app {B : Nat} {fr to : Int} {w w1 : World} {F : List (Int × Int)} {v v' : Value} {x y : Int} {o : Obj} (h : CInv B fr to w F v)
    (hown : w1.ownsRow (B + 3) 39 2 v' (F.length + 1) (vals F ++ [.int .i64 x, .int .i64 y])) (hg : (w.alloc o).grownBy w1 v.ownBlock) (hv : v'.ownBlock = v.ownBlock ∨ v'.ownBlock = some (w.heap.size + 1)) :
    w1.cell? ⟨B + 1, 0, none⟩ = some v ∧ w1.frozen? ⟨B + 1, 0, none⟩ = false ∧ CInv B fr to (w1.setCell ⟨B + 1, 0, none⟩ v') (F ++ [(x, y)]) v' ∧ CFrame B w v (w1.setCell ⟨B + 1, 0, none⟩ v') v' := by
  obtain ⟨h1, h2, h3, h4, h5, h6, h7⟩ := h
  have hlt := h7.lt
  have hsz := hg.size
  simp only [World.size_alloc] at hsz
  have old : ∀ b, b < w.heap.size → v.ownBlock ≠ some b → w1.heap[b]? = w.heap[b]? := fun b hb hne => by
    rw [hg.block b (by simp; omega) (fun e => hne e.symm)]; exact Below.heap_alloc w o b hb
  have nb : ∀ b, b < B + 3 → v.ownBlock ≠ some b := fun b hb e => by have := (hlt b e).1; omega
  have c : ∀ b a, b < B + 3 → w1.cell? ⟨b, a, none⟩ = w.cell? ⟨b, a, none⟩ := fun b a hb => World.cell?_of_block (a := ⟨b, a, none⟩) (old b (by omega) (nb b hb))
  have f : ∀ b a, b < B + 3 → w1.frozen? ⟨b, a, none⟩ = w.frozen? ⟨b, a, none⟩ := fun b a hb => World.frozen?_of_block (a := ⟨b, a, none⟩) (old b (by omega) (nb b hb))
  have hcell : w1.cell? ⟨B + 1, 0, none⟩ = some v := by rw [c _ _ (by omega)]; exact h3
  refine ⟨hcell, by rw [f _ _ (by omega)]; exact h4, ⟨?_, ?_, ?_, ?_, ?_, ?_, ?_⟩, ⟨hg.os, hg.tape, hg.output, ?_, fun b hb hne hb2 => ?_, ?_⟩⟩
  · rw [World.cell?_setCell_far _ _ _ _ (by simp), c _ _ (by omega)]; exact h1
  · rw [World.cell?_setCell_far _ _ _ _ (by simp), c _ _ (by omega)]; exact h2
  · exact World.cell?_setCell_same' _ _ _ (by rw [hcell]; rfl)
  · rw [World.frozen?_setCell, f _ _ (by omega)]; exact h4
  · rw [World.cell?_setCell_far _ _ _ _ (by simp), c _ _ (by omega)]; exact h5
  · simp [World.setCell]; omega
  · exact ownsRow_setCell_below (by rw [vals_app, List.length_append]; exact hown) (by show B + 1 < B + 3; omega) _
  · simp [World.setCell]; omega
  · rw [Below.heap_setCell _ _ _ _ hne]; exact old b hb hb2
  · rcases hv with hv | hv
    · exact .inl hv
    · exact .inr fun k hk => by rw [hv] at hk; cases hk; omega

theorem tree_len (fr to : Int) : ∀ (d : Nat) (net n : Int), (d : Int) = 17 - n → 0 ≤ n → n ≤ 16 → ((tree fr to d net n).length : Int) ≤ psz n
  | 0, _, n, hd, h0, h1 => by omega
  | d + 1, net, n, hd, h0, h1 => by
    have hp := psz_pos n h0 h1
    unfold tree
    split
    · simp; omega
    · split
      · simp; omega
      · by_cases h16 : n < 16
        · have a := tree_len fr to d net (n + 1) (by omega) (by omega) (by omega)
          have b := tree_len fr to d (net + psz (n + 1)) (n + 1) (by omega) (by omega) (by omega)
          have c := psz_half n h0 h16
          rw [List.length_append]
          omega
        · obtain rfl : n = 16 := by omega
          obtain rfl : d = 0 := by omega
          unfold tree
          simp
          omega

/-- What collecting leaves. -/
def CPost (B : Nat) (fr to : Int) (w : World) (F : List (Int × Int)) (v : Value) (L : List (Int × Int)) (e : Ending) (w' : World) : Prop :=
  e = .returned (.tuple #[]) ∧ ∃ v', CInv B fr to w' (F ++ L) v' ∧ CFrame B w v w' v'

set_option maxHeartbeats 1000000 in
theorem collect_none (B : Nat) (fr to net n : Int) (F : List (Int × Int)) (v : Value) (w : World) (h0 : 0 ≤ n) (h1 : n ≤ 16) (h2 : 0 ≤ net) (h3 : net ≤ 65535) (hI : CInv B fr to w F v) (hp : partI fr to net n = 0) :
    Calls Try.prog 115 #[.agg #[.int .i64 net, .int .i64 n], .pointer (some ⟨B, 0, none⟩), .pointer (some ⟨B + 1, 0, none⟩), .pointer (some ⟨B + 2, 0, none⟩)] w (CPost B fr to w F v []) := by
  obtain ⟨k1, k2, k3, k4, k5, k6, k7⟩ := hI
  have hI : CInv B fr to w F v := ⟨k1, k2, k3, k4, k5, k6, k7⟩
  have HI := Lib.hid hI
  have Hp := Lib.hid hp
  clear hI k3 k4 k5 k7 hp
  have d0 : B < w.heap.size := by omega
  have d1 : B ≠ w.heap.size := by omega
  go_enter Try.func115, Try.ntmps115
  go_wp2_with (go_at_call 116; refine (part_any _ _ _ _ _ h0 h1 h2 h3).mono ?_; rintro e w2 ⟨rfl, hb⟩; rw [Hp.out])
  go_end0
  exact ⟨rfl, v, by rw [List.append_nil]; exact HI.out.keep (unbox hb), CFrame.of_below _ (unbox hb)⟩

theorem own_slice {w : World} {b0 n : Nat} {v : Value} {xs : List Value} (h : w.ownsRow b0 39 2 v n xs) : ∃ a c, v = .slice a n c := by
  rcases h.2 with ⟨rfl, h2⟩ | ⟨g, cap, cur, rfl, _⟩
  · exact ⟨none, 0, by rw [h2]⟩
  · exact ⟨_, cap, rfl⟩
theorem box_later {w w2 : World} {c0 c1 : Value} {T : TypeId} (h : Below (w.alloc (.cells #[c0, c1] T)).heap.size (w.alloc (.cells #[c0, c1] T)) w2) :
    w2.cell? ⟨w.heap.size, 0, none⟩ = some c0 ∧ w2.cell? ⟨w.heap.size, 1, none⟩ = some c1 ∧ w.heap.size < w2.heap.size := by
  obtain ⟨hc, hf⟩ := bcell h
  have hz := h.size
  simp at hz
  exact ⟨by rw [hc _ _ (by simp)]; simp, by rw [hc _ _ (by simp)]; simp, by omega⟩

set_option maxHeartbeats 2000000 in
theorem collect_all (B : Nat) (fr to net n : Int) (F : List (Int × Int)) (v : Value) (w : World) (h0 : 0 ≤ n) (h1 : n ≤ 16) (h2 : 0 ≤ net) (h3 : net ≤ 65535) (hF : F.length ≤ 200000) (hI : CInv B fr to w F v) (hp : partI fr to net n = 2) :
    Calls Try.prog 115 #[.agg #[.int .i64 net, .int .i64 n], .pointer (some ⟨B, 0, none⟩), .pointer (some ⟨B + 1, 0, none⟩), .pointer (some ⟨B + 2, 0, none⟩)] w (CPost B fr to w F v [(net, n)]) := by
  obtain ⟨k1, k2, k3, k4, k5, k6, k7⟩ := hI
  have hI : CInv B fr to w F v := ⟨k1, k2, k3, k4, k5, k6, k7⟩
  have HI := Lib.hid hI
  have Hp := Lib.hid hp
  clear hI k3 k4 k5 k7 hp
  have d0 : B < w.heap.size := by omega
  have d1 : B ≠ w.heap.size := by omega
  obtain ⟨i39, hi, hz0, hz1, hz2⟩ := info_parts Try.info39
  have Hi := Lib.hid (And.intro hi (And.intro hz0 (And.intro hz1 hz2)))
  clear hi hz0 hz1 hz2
  go_enter Try.func115, Try.ntmps115
  go_wp2_with (first
    | (go_at_call 116; refine (part_any _ _ _ _ _ h0 h1 h2 h3).mono ?_; rintro e w2 ⟨rfl, hb⟩; rw [Hp.out]; have I2 := HI.out.keep (unbox hb); obtain ⟨b0, b1, b2⟩ := box_later hb; have q3 := I2.2.2.1; have HI2 := Lib.hid I2; clear I2)
    | (at_builtin; refine wpList_append_where _ rfl _ _ 54 rfl (B + 3) 39 i39 (.agg #[.int .i64 0, .int .i64 0]) 2 16 Try.under22 Hi.out.1 Hi.out.2.1 Hi.out.2.2.1 Hi.out.2.2.2 rfl (by decide) _ _ _ rfl (HI2.out.2.2.2.2.2.2.alloc _) ⟨w2.heap.size, 0, none⟩ 1 1 (by decide) [.int .i64 net, .int .i64 n] rfl rfl ?c1 ?c2 ?c3 ?c4 ?c5 ?_))
  case c1 => exact fun j u hj => cell_two_new w2 (.int .i64 net) (.int .i64 n) 39 j u hj
  case c2 => intro u hu; simp at hu; rcases hu with rfl | rfl <;> rfl
  case c3 => unfold maxLen; omega
  case c4 => omega
  case c5 => have := HI2.out.2.2.2.2.2.1; simp; omega
  intro v' w3 hown3 hgrow3 hwhere
  obtain ⟨sa, sc, rfl⟩ := own_slice hown3
  obtain ⟨q4, q5, I3, F3⟩ := HI2.out.app hown3 hgrow3 hwhere
  have H3 := Lib.hid (And.intro I3 F3)
  clear I3 F3 hown3 hgrow3 hwhere
  go_wp2
  go_end0
  exact ⟨rfl, _, H3.out.1, (CFrame.of_below v (unbox hb)).trans H3.out.2⟩


end Go.Proofs.Ytpfeekdmeloakaa.Old
