/- The walk of a packet. -/
import Derived.Test.YtflhbfndfjkfgaaFo
import Derived.Test.YtflhbfndfjkfgaaWk
import Derived.Recover
import Derived.Defers
namespace Go.Proofs.Ytflhbfndfjkfgaa
open Go.RowKit


theorem old_frz {w : World} {b o : Nat} {x : Obj} (h : b < w.heap.size) : (w.alloc x).frozen? ⟨b, o, none⟩ = w.frozen? ⟨b, o, none⟩ := ((Below.refl w.heap.size w).alloc (Nat.le_refl _) x).frozen (p := ⟨b, o, none⟩) h
set_option maxHeartbeats 2000000 in
theorem catch_any (E : Nat) (sa : Option Addr) (sn sc : Nat) (c : Int) (v0 v1 : Value) (older : List PanicEntry) (w : World) (hc0 : w.cell? ⟨E, 0, none⟩ = some v0) (hc1 : w.cell? ⟨E, 1, none⟩ = some v1) (hE : E < w.heap.size) (hz0 : w.frozen? ⟨E, 0, none⟩ = false) (hz1 : w.frozen? ⟨E, 1, none⟩ = false) :
    CallsD Try.prog 52 #[.pointer (some ⟨E, 0, none⟩)] (.panicking ({ v := .iface 62 (.agg #[.slice sa sn sc, .int .i64 c]), recovered := false } :: older)) w fun e u' w' =>
      e = .returned (.tuple #[]) ∧ u' = .panicking ({ v := .iface 62 (.agg #[.slice sa sn sc, .int .i64 c]), recovered := true } :: older) ∧ w' = ((w.alloc (.cells #[.slice sa sn sc, .int .i64 c] 62)).setCell ⟨E, 0, none⟩ (.slice sa sn sc)).setCell ⟨E, 1, none⟩ (.int .i64 c) := by
  have hta : ∀ (u : Value) (w : World), (Instr.typeAssert (.iface 62 u) 20 62 true).run Try.prog w = .ok (.tuple #[u, .bool true]) w := fun _ _ => by kernel_rfl
  refine callsD_of_wpS Try.func52 rfl fun c₀ cs hu => ?_
  apply wpS_seq
  apply wpS_region
  simp [wpOpsS, go_sem, recoverD, hu, Try.ntmps52, Exit.thenS, hta]
  apply wpS_seq
  apply wpS_region
  simp [wpOpsS, go_sem, Exit.thenS]
  refine wpS_cond (t := true) (by simp [Act.eval, Array.replicate]) ?_
  simp only [if_true]
  apply wpS_region
  have a0 : (w.alloc (.cells #[.slice sa sn sc, .int .i64 c] 62)).cell? ⟨E, 0, none⟩ = some v0 := by rw [old_box hE]; exact hc0
  have a1 : (w.alloc (.cells #[.slice sa sn sc, .int .i64 c] 62)).cell? ⟨E, 1, none⟩ = some v1 := by rw [old_box hE]; exact hc1
  have b0 : (w.alloc (.cells #[.slice sa sn sc, .int .i64 c] 62)).frozen? ⟨E, 0, none⟩ = false := by rw [old_frz hE]; exact hz0
  have b1 : (w.alloc (.cells #[.slice sa sn sc, .int .i64 c] 62)).frozen? ⟨E, 1, none⟩ = false := by rw [old_frz hE]; exact hz1
  simp [wpOpsS, go_sem, a0, a1, b0, b1, bodyPostS, results, Try.results52]

/-- The result's variable, not yet written. -/
structure ECs (wr : World) (E : Nat) : Prop where
  lt : E < wr.heap.size
  c0 : wr.cell? ⟨E, 0, none⟩ = some (.slice none 0 0)
  c1 : wr.cell? ⟨E, 1, none⟩ = some (.int .i64 3)
  frz : ∀ o, wr.frozen? ⟨E, o, none⟩ = false
theorem ECs.move {wr w' : World} {E : Nat} (h : ECs wr E) (hb : w'.heap[E]? = wr.heap[E]?) (hs : wr.heap.size ≤ w'.heap.size) : ECs w' E where
  lt := Nat.lt_of_lt_of_le h.lt hs
  c0 := by rw [World.cell?_of_block (w := wr) (a := ⟨E, 0, none⟩) hb]; exact h.c0
  c1 := by rw [World.cell?_of_block (w := wr) (a := ⟨E, 1, none⟩) hb]; exact h.c1
  frz o := by rw [World.frozen?_of_block (w := wr) (a := ⟨E, o, none⟩) hb]; exact h.frz o
theorem ECs.start (wr : World) : ECs (wr.alloc (.cells #[.slice none 0 0, .int .i64 3] 62)) wr.heap.size where
  lt := by simp
  c0 := by simp
  c1 := by simp
  frz o := by simp
/-- How far a packet may go on. -/
def ttlOf (wr : World) (X : Nat) : Nat := (intOf ((wr.cell? ⟨X, 2, none⟩).getD undef)).toNat
theorem PkS.ttl {w wr : World} {X g cap : Nat} {tv : Value} {a : Int} {t n : Nat} {Q : List Int} (h : PkS w wr X g cap tv a t n Q) : ttlOf wr X = t := by
  unfold ttlOf
  rw [h.c2]
  simp [intOf]
set_option maxRecDepth 100000 in
set_option maxHeartbeats 4000000 in
theorem pwalk_any (D : List (List Rt)) (lo hi : Nat) (tv : Value) (a : Int) (w wr : World) (X g cap T x0 : Nat) (hr : TRow w lo hi tv D) (hh : hi ≤ w.heap.size) (hf : fine D a = true) (hx : x0 < D.length) (hT : T ≤ 16) (h : PkS w wr X g cap tv a T 1 [(x0 : Int)]) :
    Calls Try.prog 34 #[.pointer (some ⟨X, 0, none⟩)] wr fun e w' => ∃ sa sc n, e = .returned (.agg #[.slice sa n sc, .int .i64 (wlk D a T x0).2]) ∧ OwnI w w' (.slice sa n sc) n (wlk D a T x0).1 ∧ n ≤ 17 := by
  have hmf : ∀ (fn : Fn) (first cap : Array Value) (w : World), (Instr.makeFunc fn first cap).run Try.prog w = .ok (.func fn first cap) w := fun _ _ _ _ => rfl
  have HR := Lib.hid hr
  have HFN := Lib.hid hf
  have HS0 : Hid (WkS D a T x0 T x0 []) := Lib.hid (WkS.start D a hx hT)
  obtain ⟨E, hE⟩ : ∃ E, E = wr.heap.size := ⟨_, rfl⟩
  have hsz := h.own.below.size
  have hgl := h.own.lt.2
  have hXl := h.hi
  have hEX : X ≠ E := by omega
  have hgE : g ≠ E := by omega
  have hEw : w.heap.size ≤ E := by omega
  obtain ⟨v1, hv1⟩ : ∃ v, v = wr.alloc (.cells #[.slice none 0 0, .int .i64 3] 62) := ⟨_, rfl⟩
  have HP0 : Hid (PkS w v1 X g cap tv a T 1 [(x0 : Int)]) := Lib.hid (by rw [hv1]; exact h.grow ((Below.refl _ _).alloc (Nat.le_refl _) _))
  have HE0 : Hid (ECs v1 E) := Lib.hid (by rw [hv1, hE]; exact ECs.start wr)
  have HV1 := Lib.hid hv1
  have HEE := Lib.hid hE
  have HX0 := Lib.hid hgE
  clear hr hf h hv1 hE hgE hsz hgl hXl
  go_enter_defers Try.func34, Try.ntmps34
  go_wp2_with fail
  rw [← HEE.out, ← HV1.out]
  go_loopw [] (fun wl => ∃ (t x g cap : Nat) (P : List Int), Hid (WkS D a T x0 t x P) ∧ Hid (PkS w wl X g cap tv a t (P.length + 1) (P ++ [(x : Int)])) ∧ Hid (ECs wl E) ∧ Hid (g ≠ E)) (fun wl => ttlOf wl X)
  case atStart => exact ⟨T, x0, g, cap, [], HS0, HP0, HE0, HX0⟩
  case round =>
    clear HS0 HP0 HE0 HX0
    obtain ⟨t, x, g, cap, P, HS, HP, HEc, HgE⟩ := hrel
    go_wp2_with fail
    go_at_call 53
    refine (fwd_any D lo hi tv a w wr X g cap t x P.length (P.length + 1) (P ++ [(x : Int)]) HR.out hh HFN.out HS.out.lt HS.out.len (by simp) rfl HP.out).mono ?_
    rintro e w9 (⟨c, hc, rfl, hb⟩ | ⟨t', y, g', cap', rfl, hy, h0, h1, rfl, hP', hO', hg'⟩)
    · have HE9 := HEc.out.move (hb.block E HEc.out.lt) hb.size
      have hV : wlk D a T x0 = (P ++ [(x : Int)], c) := by rw [HS.out.eq, hc]
      have HV9 := Lib.hid hV
      have hPl := HS.out.len
      have HO9 : Hid (OwnI w (((w9.alloc (.cells #[.slice (some ⟨g, 0, none⟩) (P.length + 1) cap, .int .i64 c] 62)).setCell ⟨E, 0, none⟩ (.slice (some ⟨g, 0, none⟩) (P.length + 1) cap)).setCell ⟨E, 1, none⟩ (.int .i64 c)) (.slice (some ⟨g, 0, none⟩) (P.length + 1) cap) (P.length + 1) (P ++ [(x : Int)])) :=
        Lib.hid (own_set (own_set ((HP.out.own.grow hb).grow ((Below.refl _ _).alloc (Nat.le_refl _) _)) hEw HgE.out 0 _) hEw HgE.out 1 _)
      have b0 : (w9.alloc (.cells #[.slice (some ⟨g, 0, none⟩) (P.length + 1) cap, .int .i64 c] 62)).cell? ⟨E, 0, none⟩ = some (.slice none 0 0) := by rw [old_box HE9.lt]; exact HE9.c0
      have b1 : (w9.alloc (.cells #[.slice (some ⟨g, 0, none⟩) (P.length + 1) cap, .int .i64 c] 62)).cell? ⟨E, 1, none⟩ = some (.int .i64 3) := by rw [old_box HE9.lt]; exact HE9.c1
      have k0 : ((w9.alloc (.cells #[.slice (some ⟨g, 0, none⟩) (P.length + 1) cap, .int .i64 c] 62)).setCell ⟨E, 0, none⟩ (.slice (some ⟨g, 0, none⟩) (P.length + 1) cap)).cell? ⟨E, 0, none⟩ = some (.slice (some ⟨g, 0, none⟩) (P.length + 1) cap) :=
        World.cell?_setCell_same' _ _ _ (by rw [b0]; rfl)
      have k1 : (((w9.alloc (.cells #[.slice (some ⟨g, 0, none⟩) (P.length + 1) cap, .int .i64 c] 62)).setCell ⟨E, 0, none⟩ (.slice (some ⟨g, 0, none⟩) (P.length + 1) cap)).setCell ⟨E, 1, none⟩ (.int .i64 c)).cell? ⟨E, 1, none⟩ = some (.int .i64 c) :=
        World.cell?_setCell_same' _ _ _ (by rw [World.cell?_setCell_other _ _ _ _ (by simp), b1]; rfl)
      have HE := Lib.hid HE9
      clear HE9 hc hV HS HP HEc hb b0 b1
      go_wp2_with fail
      refine leaves_cons (f := 52) (args := #[.pointer (some ⟨E, 0, none⟩)]) (by simp) (by simp [go_sem]) ?_
      refine (catch_any E _ _ _ c _ _ [] w9 HE.out.c0 HE.out.c1 HE.out.lt (HE.out.frz 0) (HE.out.frz 1)).mono ?_
      rintro e u' w'' ⟨rfl, rfl, rfl⟩
      simp [Leaves, settle, results, Try.results34, go_sem, k0, k1]
      exact ⟨_, _, _, ⟨⟨rfl, rfl, rfl⟩, by rw [HV9.out]⟩, by rw [HV9.out]; exact HO9.out, by omega⟩
    · have HS2 : Hid (WkS D a T x0 t' y (P ++ [(x : Int)])) := Lib.hid (by
        have h := HS.out.step h0 h1
        rw [← hy] at h
        exact h)
      have hgs := HP.out.own.lt.2
      have hE2 : Hid (ECs w9 E) := Lib.hid (HEc.out.move (hO'.2 E HEc.out.lt (fun e => hEX e.symm) (fun e => HgE.out e.symm)) hO'.1)
      have hg2 : Hid (g' ≠ E) := Lib.hid (by
        rcases hg' with e | e
        · rw [e]; exact HgE.out
        · have := HEc.out.lt; omega)
      have hP2 : Hid (PkS w w9 X g' cap' tv a t' ((P ++ [(x : Int)]).length + 1) (P ++ [(x : Int)] ++ [(y : Int)])) := Lib.hid (by
        rw [show (P ++ [(x : Int)]).length + 1 = P.length + 1 + 1 by simp]
        exact hP')
      have hm0 := HP.out.ttl
      have hm1 := hP'.ttl
      clear hgs hy h0 h1 hP' hO' hg' HS HP HEc HgE
      go_wp2_with fail
      go_roundw
      case rel => exact ⟨t', y, g', cap', P ++ [(x : Int)], HS2, hP2, hE2, hg2⟩
      case measure => rw [hm0, hm1]; omega

end Go.Proofs.Ytflhbfndfjkfgaa
