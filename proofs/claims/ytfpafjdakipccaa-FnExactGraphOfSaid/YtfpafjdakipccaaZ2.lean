/- The copy of an advertisement, by the model. -/
import Derived.Test.YtfpafjdakipccaaZ1
namespace Go.Proofs.Ytfpafjdakipccaa
open Go.RowKit
structure XSt (w wx : World) (o s ag : Int) (u v x y : Value) : Prop where
  p3 : wx.cell? ⟨w.heap.size, 3, none⟩ = some (u)
  p4 : wx.cell? ⟨w.heap.size, 4, none⟩ = some (v)
  r0 : wx.cell? ⟨w.heap.size + 1, 0, none⟩ = some (.int .i64 0)
  r1 : wx.cell? ⟨w.heap.size + 1, 1, none⟩ = some (.int .i64 0)
  r2 : wx.cell? ⟨w.heap.size + 1, 2, none⟩ = some (.int .i64 0)
  r3 : wx.cell? ⟨w.heap.size + 1, 3, none⟩ = some (.slice none 0 0)
  r4 : wx.cell? ⟨w.heap.size + 1, 4, none⟩ = some (.slice none 0 0)
  q0 : wx.cell? ⟨w.heap.size + 2, 0, none⟩ = some (.int .i64 o)
  q1 : wx.cell? ⟨w.heap.size + 2, 1, none⟩ = some (.int .i64 s)
  q2 : wx.cell? ⟨w.heap.size + 2, 2, none⟩ = some (.int .i64 ag)
  q3 : wx.cell? ⟨w.heap.size + 2, 3, none⟩ = some (x)
  q4 : wx.cell? ⟨w.heap.size + 2, 4, none⟩ = some (y)
  fr : ∀ j, wx.frozen? ⟨w.heap.size + 1, j, none⟩ = false
  fq : ∀ j, wx.frozen? ⟨w.heap.size + 2, j, none⟩ = false
  size : w.heap.size + 3 <= wx.heap.size
  below : Below w.heap.size w wx
theorem XSt.start (w : World) (o s ag : Int) (u v : Value) (T T' T'' : TypeId) : XSt w (((w.alloc (.cells #[.int .i64 o, .int .i64 s, .int .i64 ag, u, v] T)).alloc (.cells #[.int .i64 0, .int .i64 0, .int .i64 0, .slice none 0 0, .slice none 0 0] T')).alloc (.cells #[.int .i64 o, .int .i64 s, .int .i64 ag, .slice none 0 0, .slice none 0 0] T'')) o s ag u v (.slice none 0 0) (.slice none 0 0) where
  p3 := by rw [old_box (by simp <;> omega), old_box (by simp), new_at rfl]; rfl
  p4 := by rw [old_box (by simp <;> omega), old_box (by simp), new_at rfl]; rfl
  r0 := by rw [old_box (by simp), new_at (by simp)]; rfl
  r1 := by rw [old_box (by simp), new_at (by simp)]; rfl
  r2 := by rw [old_box (by simp), new_at (by simp)]; rfl
  r3 := by rw [old_box (by simp), new_at (by simp)]; rfl
  r4 := by rw [old_box (by simp), new_at (by simp)]; rfl
  q0 := by rw [new_at (by simp)]; rfl
  q1 := by rw [new_at (by simp)]; rfl
  q2 := by rw [new_at (by simp)]; rfl
  q3 := by rw [new_at (by simp)]; rfl
  q4 := by rw [new_at (by simp)]; rfl
  fr j := by rw [old_frz (by simp), new_frz (by simp)]
  fq j := by rw [new_frz (by simp)]
  size := by simp
  below := by go_grown
theorem XSt.grow {w wx w2 : World} {o s ag : Int} {u v x y : Value} (h : XSt w wx o s ag u v x y) (hb : Below (w.heap.size + 3) wx w2) : XSt w w2 o s ag u v x y := by
  have hs := h.size
  have hz := hb.size
  have hc : ∀ b o, b < w.heap.size + 3 -> w2.cell? ⟨b, o, none⟩ = wx.cell? ⟨b, o, none⟩ := fun b o h => hb.cell (p := ⟨b, o, none⟩) h
  have hf : ∀ b o, b < w.heap.size + 3 -> w2.frozen? ⟨b, o, none⟩ = wx.frozen? ⟨b, o, none⟩ := fun b o h => hb.frozen (p := ⟨b, o, none⟩) h
  exact { p3 := by rw [hc _ _ (by omega)]; exact h.p3, p4 := by rw [hc _ _ (by omega)]; exact h.p4, r0 := by rw [hc _ _ (by omega)]; exact h.r0, r1 := by rw [hc _ _ (by omega)]; exact h.r1, r2 := by rw [hc _ _ (by omega)]; exact h.r2, r3 := by rw [hc _ _ (by omega)]; exact h.r3, r4 := by rw [hc _ _ (by omega)]; exact h.r4, q0 := by rw [hc _ _ (by omega)]; exact h.q0, q1 := by rw [hc _ _ (by omega)]; exact h.q1, q2 := by rw [hc _ _ (by omega)]; exact h.q2, q3 := by rw [hc _ _ (by omega)]; exact h.q3, q4 := by rw [hc _ _ (by omega)]; exact h.q4, fr := fun j => by rw [hf _ _ (by omega)]; exact h.fr j, fq := fun j => by rw [hf _ _ (by omega)]; exact h.fq j, size := by omega, below := h.below.trans (hb.mono (by omega)) }
theorem XSt.set3 {w wx : World} {o s ag : Int} {u v x y : Value} (h : XSt w wx o s ag u v x y) (x' : Value) : XSt w (wx.setCell ⟨w.heap.size + 2, 3, none⟩ x') o s ag u v x' y := by
  have hs := h.size
  exact { p3 := by rw [World.cell?_setCell_other _ _ _ _ (by simp)]; exact h.p3, p4 := by rw [World.cell?_setCell_other _ _ _ _ (by simp)]; exact h.p4, r0 := by rw [World.cell?_setCell_other _ _ _ _ (by simp)]; exact h.r0, r1 := by rw [World.cell?_setCell_other _ _ _ _ (by simp)]; exact h.r1, r2 := by rw [World.cell?_setCell_other _ _ _ _ (by simp)]; exact h.r2, r3 := by rw [World.cell?_setCell_other _ _ _ _ (by simp)]; exact h.r3, r4 := by rw [World.cell?_setCell_other _ _ _ _ (by simp)]; exact h.r4, q0 := by rw [World.cell?_setCell_other _ _ _ _ (by simp)]; exact h.q0, q1 := by rw [World.cell?_setCell_other _ _ _ _ (by simp)]; exact h.q1, q2 := by rw [World.cell?_setCell_other _ _ _ _ (by simp)]; exact h.q2, q3 := World.cell?_setCell_same' _ _ _ (by rw [h.q3]; rfl), q4 := by rw [World.cell?_setCell_other _ _ _ _ (by simp)]; exact h.q4, fr := fun j => by rw [World.frozen?_setCell]; exact h.fr j, fq := fun j => by rw [World.frozen?_setCell]; exact h.fq j, size := by simp [World.setCell]; omega, below := h.below.setCell (by show _ <= w.heap.size + 2; omega) _ }
theorem XSt.set4 {w wx : World} {o s ag : Int} {u v x y : Value} (h : XSt w wx o s ag u v x y) (y' : Value) : XSt w (wx.setCell ⟨w.heap.size + 2, 4, none⟩ y') o s ag u v x y' := by
  have hs := h.size
  exact { p3 := by rw [World.cell?_setCell_other _ _ _ _ (by simp)]; exact h.p3, p4 := by rw [World.cell?_setCell_other _ _ _ _ (by simp)]; exact h.p4, r0 := by rw [World.cell?_setCell_other _ _ _ _ (by simp)]; exact h.r0, r1 := by rw [World.cell?_setCell_other _ _ _ _ (by simp)]; exact h.r1, r2 := by rw [World.cell?_setCell_other _ _ _ _ (by simp)]; exact h.r2, r3 := by rw [World.cell?_setCell_other _ _ _ _ (by simp)]; exact h.r3, r4 := by rw [World.cell?_setCell_other _ _ _ _ (by simp)]; exact h.r4, q0 := by rw [World.cell?_setCell_other _ _ _ _ (by simp)]; exact h.q0, q1 := by rw [World.cell?_setCell_other _ _ _ _ (by simp)]; exact h.q1, q2 := by rw [World.cell?_setCell_other _ _ _ _ (by simp)]; exact h.q2, q3 := by rw [World.cell?_setCell_other _ _ _ _ (by simp)]; exact h.q3, q4 := World.cell?_setCell_same' _ _ _ (by rw [h.q4]; rfl), fr := fun j => by rw [World.frozen?_setCell]; exact h.fr j, fq := fun j => by rw [World.frozen?_setCell]; exact h.fq j, size := by simp [World.setCell]; omega, below := h.below.setCell (by show _ <= w.heap.size + 2; omega) _ }
theorem cell_two_new (w : World) (x y : Value) (T : TypeId) (j : Nat) (u : Value) (h : [x, y][j]? = some u) : (w.alloc (.cells #[x, y] T)).cell? ((⟨w.heap.size, 0, none⟩ : Addr).add j) = some u := by
  rw [add_none]
  rcases j with _ | _ | j
  · simp at h; subst h; simp
  · simp at h; subst h; simp
  · simp at h
theorem cell_three_new (w : World) (x y z : Value) (T : TypeId) (j : Nat) (u : Value) (h : [x, y, z][j]? = some u) : (w.alloc (.cells #[x, y, z] T)).cell? ((⟨w.heap.size, 0, none⟩ : Addr).add j) = some u := by
  rw [add_none]
  rcases j with _ | _ | _ | j
  · simp at h; subst h; simp
  · simp at h; subst h; simp
  · simp at h; subst h; simp
  · simp at h
theorem two_one (x y : Int) : ∀ u ∈ [Value.int .i64 x, Value.int .i64 y], u.oneCell' = true := by
  intro u hu
  simp at hu
  rcases hu with rfl | rfl <;> rfl
theorem three_one (x y z : Int) : ∀ u ∈ [Value.int .i64 x, Value.int .i64 y, Value.int .i64 z], u.oneCell' = true := by
  intro u hu
  simp at hu
  rcases hu with rfl | rfl | rfl <;> rfl
theorem flat2_take {L : List Lk} {k : Nat} {p : Lk} (h : L[k]? = some p) : ints (flat2 (L.take k)) ++ [.int .i64 p.1, .int .i64 p.2] = ints (flat2 (L.take (k + 1))) := by
  rw [take_snoc2 h, flat2_app, ints_app]; rfl
theorem flat_take {L : List Ed} {k : Nat} {p : Ed} (h : L[k]? = some p) : ints (flat (L.take k)) ++ [.int .i64 p.1, .int .i64 p.2.1, .int .i64 p.2.2] = ints (flat (L.take (k + 1))) := by
  rw [take_snoc3 h, flat_app, ints_app]; rfl
def Xs1 (w wr : World) (o s ag : Int) (u v x : Value) (k : Nat) (K : List Lk) : Prop := XSt w wr o s ag u v x (.slice none 0 0) /\ wr.ownsRow (w.heap.size + 3) 75 2 x k (ints (flat2 (K.take k)))
def Xs2 (w wm wr : World) (o s ag : Int) (u v x y : Value) (n k : Nat) (K : List Lk) (T : List Ed) : Prop := XSt w wr o s ag u v x y /\ Row 2 wr (w.heap.size + 3) wm.heap.size x n (flat2 K) /\ wm.heap.size <= wr.heap.size /\ wr.ownsRow wm.heap.size 79 3 y k (ints (flat (T.take k)))
set_option linter.unusedVariables false in
set_option maxRecDepth 100000 in
set_option maxHeartbeats 8000000 in
theorem scopy_any (o s ag : Int) (lo hi n m : Nat) (u v : Value) (K : List Lk) (T : List Ed) (w : World) (hK : K.length = n) (hT : T.length = m) (hr : LRow w lo hi u v n m (flat2 K) (flat T)) (hh : hi <= w.heap.size) (hn : n <= 1048576) (hm : m <= 1048576) :
    Calls Try.prog 58 #[.agg #[.int .i64 o, .int .i64 s, .int .i64 ag, u, v]] w fun e w' => ∃ ru rv, e = .returned (.agg #[.int .i64 o, .int .i64 s, .int .i64 ag, ru, rv]) /\ LRow w' w.heap.size w'.heap.size ru rv n m (flat2 K) (flat T) /\ Below w.heap.size w w' := by
  obtain ⟨iIK, hi1, hz0, hz1, hz2⟩ := info_parts Try.info75'
  have IK := Lib.hid (And.intro hi1 (And.intro hz0 (And.intro hz1 hz2)))
  clear hi1 hz0 hz1 hz2
  obtain ⟨iIT, hi1, hz0, hz1, hz2⟩ := info_parts Try.info79'
  have IT := Lib.hid (And.intro hi1 (And.intro hz0 (And.intro hz1 hz2)))
  clear hi1 hz0 hz1 hz2
  have R0 := Lib.hid hr.fst
  have R1 := Lib.hid hr.snd
  have HK := Lib.hid hK
  have HT := Lib.hid hT
  obtain ⟨ad, cp, ae, cq, rfl, rfl⟩ := hr.slice
  clear hr hK hT
  obtain ⟨a1, c1, e1, _, hu⟩ := R0.out.opened
  obtain ⟨rfl, _, rfl⟩ := Value.slice.inj e1
  obtain ⟨a2, c2, e2, _, hv⟩ := R1.out.opened
  obtain ⟨rfl, _, rfl⟩ := Value.slice.inj e2
  have HU := Lib.hid hu
  have HV := Lib.hid hv
  clear hu hv e1 e2 R0 R1
  go_enter Try.func58, Try.ntmps58
  go_wp2_with fail
  obtain ⟨q, hq⟩ : ∃ q, q = (((w.alloc (.cells #[.int .i64 o, .int .i64 s, .int .i64 ag, .slice ad n cp, .slice ae m cq] 33)).alloc (.cells #[.int .i64 0, .int .i64 0, .int .i64 0, .slice none 0 0, .slice none 0 0] 33)).alloc (.cells #[.int .i64 o, .int .i64 s, .int .i64 ag, .slice none 0 0, .slice none 0 0] 33)) := ⟨_, rfl⟩
  rw [<- hq]
  have S0 : Hid (XSt w q o s ag (.slice ad n cp) (.slice ae m cq) (.slice none 0 0) (.slice none 0 0)) := by rw [hq]; exact Lib.hid (XSt.start _ _ _ _ _ _ _ _ _)
  clear hq
  go_loopw [4] (fun i wr => ∃ (k : Nat) (x : Value), k <= n /\ i = .int .i64 (k : Int) /\ Hid (Xs1 w wr o s ag (.slice ad n cp) (.slice ae m cq) x k K)) (fun i _ => n - (intOf i).toNat)
  case atStart => exact ⟨0, _, Nat.zero_le _, rfl, Lib.hid ⟨S0.out, World.ownsRow_nil _ _ _ _⟩⟩
  case round =>
    clear S0
    obtain ⟨k, x, hk, rfl, hR⟩ := hrel
    obtain ⟨hS, hown⟩ := hR.out
    obtain ⟨xa, xc, rfl⟩ := own_slice hown
    have HS := Lib.hid hS
    have Hw := Lib.hid hown
    have p3 := hS.p3
    have p4 := hS.p4
    have q3 := hS.q3
    have hsz := hS.size
    have hwl : w.heap.size < wr.heap.size := by omega
    have hXl : w.heap.size + 2 < wr.heap.size := by omega
    by_cases hlt : k < n
    · obtain ⟨r, hr⟩ : ∃ r, K[k]? = some r := ⟨K[k]'(by rw [HK.out]; exact hlt), List.getElem?_eq_getElem _⟩
      obtain ⟨a, c⟩ := r
      obtain ⟨r0, r1⟩ := flat2_at K k _ hr
      obtain ⟨g, rfl, hg, H⟩ := HU.out (by omega)
      have z0 : wr.cell? ⟨g, k * 2, none⟩ = some (.int .i64 a) := by rw [hS.below.cell (p := ⟨g, k * 2, none⟩) (by show g < w.heap.size; omega)]; exact H _ _ r0
      have z1 : wr.cell? ⟨g, k * 2 + 1, none⟩ = some (.int .i64 c) := by rw [hS.below.cell (p := ⟨g, k * 2 + 1, none⟩) (by show g < w.heap.size; omega)]; exact H _ _ r1
      have HL := Lib.hid hr
      have q0 : (0 : Int) <= (k : Int) := by omega
      have q1 : (k : Int) < (n : Int) := by omega
      have hgl : g < wr.heap.size := by omega
      have hlt' : ∀ kk, (Value.slice xa k xc).ownBlock = some kk -> w.heap.size + 3 <= kk := fun kk hkk => (hown.lt kk hkk).1
      have HLT := Lib.hid hlt'
      clear hlt' r0 r1 hr H hS hown hR
      go_wp2_with fail
      go_region_law (first
        | (refine step_append_lies _ rfl _ _ 30 rfl (w.heap.size + 3) 75 iIK (.agg #[.int .i64 0, .int .i64 0]) 2 16 Try.underlying30 IK.out.1 IK.out.2.1 IK.out.2.2.1 IK.out.2.2.2 rfl (by decide) _ k (ints (flat2 (K.take k))) rfl (Hw.out.drew.alloc _) ⟨wr.heap.size, 0, none⟩ 1 1 [.int .i64 a, .int .i64 c] rfl rfl (fun j u hj => cell_two_new wr.drew (.int .i64 a) (.int .i64 c) 75 j u hj) (two_one _ _) (by decide) (by unfold maxLen; omega) (by omega) (by simp <;> omega) _ rfl ?_; intro g4 cap4 w4 hown4 hgrow4 hat4 hlt4; have hB4 : Below (w.heap.size + 3) wr w4 := (((Below.refl (w.heap.size + 3) wr).drew).alloc (by simp <;> omega) _).grown hgrow4 (by simp <;> omega) HLT.out; have S4 := Lib.hid (HS.out.grow hB4); have b3 := S4.out.q3; have f3 := S4.out.fq 3; have hs4 := S4.out.size; have hX4 : w.heap.size + 2 < w4.heap.size := (by omega); have HO4 : Hid (w4.ownsRow (w.heap.size + 3) 75 2 (.slice (some ⟨g4, 0, none⟩) (k + 1) cap4) (k + 1) (ints (flat2 (K.take (k + 1))))) := (by (have hh := hown4; rw [flat2_take HL.out] at hh; exact Lib.hid hh)); clear hown4 hgrow4 hat4 hlt4 hB4))
      all_goals
        go_wp2_with fail
        go_roundw
        case rel => exact ⟨k + 1, _, by omega, by go_num, Lib.hid ⟨S4.out.set3 _, ownsRow_setCell_below HO4.out (by show w.heap.size + 2 < w.heap.size + 3; omega) _⟩⟩
        case measure => simp [intOf]; omega
    · have hge : ¬ ((k : Int) < (n : Int)) := by omega
      obtain rfl : n = k := by omega
      have e0 : K.take n = K := List.take_of_length_le (by rw [HK.out]; omega)
      rw [e0] at Hw
      have HRow := Lib.hid (row_of_own Hw.out (by omega))
      clear e0 hS hown hR hlt
      obtain ⟨wm, rfl⟩ : ∃ x, x = wr := ⟨_, rfl⟩
      go_wp2_with fail
      go_loopw [5] (fun i wr => ∃ (k : Nat) (y : Value), k <= m /\ i = .int .i64 (k : Int) /\ Hid (Xs2 w wm wr o s ag (.slice ad n cp) (.slice ae m cq) (.slice xa n xc) y n k K T)) (fun i _ => m - (intOf i).toNat)
      case atStart => exact ⟨0, _, Nat.zero_le _, rfl, Lib.hid ⟨HS.out, HRow.out, Nat.le_refl _, World.ownsRow_nil _ _ _ _⟩⟩
      case round =>
        clear p3 p4 q3
        obtain ⟨k, y, hk, rfl, hR⟩ := hrel
        obtain ⟨hS, hrow, hmz, hown⟩ := hR.out
        obtain ⟨ya, yc, rfl⟩ := own_slice hown
        have HS := Lib.hid hS
        have Hw := Lib.hid hown
        have HRow := Lib.hid hrow
        have p4 := hS.p4
        have q4 := hS.q4
        have hsz := hS.size
        have hwl : w.heap.size < wr.heap.size := by omega
        have hXl : w.heap.size + 2 < wr.heap.size := by omega
        by_cases hlt : k < m
        · obtain ⟨r, hr⟩ : ∃ r, T[k]? = some r := ⟨T[k]'(by rw [HT.out]; exact hlt), List.getElem?_eq_getElem _⟩
          obtain ⟨a, b, c⟩ := r
          obtain ⟨r0, r1, r2⟩ := flat_at T k _ hr
          obtain ⟨g, rfl, hg, H⟩ := HV.out (by omega)
          have z0 : wr.cell? ⟨g, k * 3, none⟩ = some (.int .i64 a) := by rw [hS.below.cell (p := ⟨g, k * 3, none⟩) (by show g < w.heap.size; omega)]; exact H _ _ r0
          have z1 : wr.cell? ⟨g, k * 3 + 1, none⟩ = some (.int .i64 b) := by rw [hS.below.cell (p := ⟨g, k * 3 + 1, none⟩) (by show g < w.heap.size; omega)]; exact H _ _ r1
          have z2 : wr.cell? ⟨g, k * 3 + 2, none⟩ = some (.int .i64 c) := by rw [hS.below.cell (p := ⟨g, k * 3 + 2, none⟩) (by show g < w.heap.size; omega)]; exact H _ _ r2
          have HL := Lib.hid hr
          have q0 : (0 : Int) <= (k : Int) := by omega
          have q1 : (k : Int) < (m : Int) := by omega
          have hgl : g < wr.heap.size := by omega
          have hlt' : ∀ kk, (Value.slice ya k yc).ownBlock = some kk -> wm.heap.size <= kk := fun kk hkk => (hown.lt kk hkk).1
          have HLT := Lib.hid hlt'
          clear hlt' r0 r1 r2 hr H hS hown hR hrow
          go_wp2_with fail
          go_region_law (first
            | (refine step_append_lies _ rfl _ _ 31 rfl wm.heap.size 79 iIT (.agg #[.int .i64 0, .int .i64 0, .int .i64 0]) 3 24 Try.underlying31 IT.out.1 IT.out.2.1 IT.out.2.2.1 IT.out.2.2.2 rfl (by decide) _ k (ints (flat (T.take k))) rfl (Hw.out.drew.alloc _) ⟨wr.heap.size, 0, none⟩ 1 1 [.int .i64 a, .int .i64 b, .int .i64 c] rfl rfl (fun j u hj => cell_three_new wr.drew (.int .i64 a) (.int .i64 b) (.int .i64 c) 79 j u hj) (three_one _ _ _) (by decide) (by unfold maxLen; omega) (by omega) (by simp <;> omega) _ rfl ?_; intro g4 cap4 w4 hown4 hgrow4 hat4 hlt4; have hB4 : Below wm.heap.size wr w4 := (((Below.refl wm.heap.size wr).drew).alloc (by simp <;> omega) _).grown hgrow4 (by simp <;> omega) HLT.out; have S4 := Lib.hid (HS.out.grow (hB4.mono (by omega))); have RW4 := Lib.hid (HRow.out.below hB4 (Nat.le_refl _)); have b3 := S4.out.q4; have f3 := S4.out.fq 4; have hs4 := S4.out.size; have hz4 := hB4.size; have hX4 : w.heap.size + 2 < w4.heap.size := (by omega); have HO4 : Hid (w4.ownsRow wm.heap.size 79 3 (.slice (some ⟨g4, 0, none⟩) (k + 1) cap4) (k + 1) (ints (flat (T.take (k + 1))))) := (by (have hh := hown4; rw [flat_take HL.out] at hh; exact Lib.hid hh)); clear hown4 hgrow4 hat4 hlt4 hB4))
          all_goals
            go_wp2_with fail
            go_roundw
            case rel => exact ⟨k + 1, _, by omega, by go_num, Lib.hid ⟨S4.out.set4 _, RW4.out.setCell (.inl (by simp)) _, by simp [World.setCell]; omega, ownsRow_setCell_below HO4.out (by show w.heap.size + 2 < wm.heap.size; omega) _⟩⟩
            case measure => simp [intOf]; omega
        · have hge : ¬ ((k : Int) < (m : Int)) := by omega
          obtain rfl : m = k := by omega
          have e0 : T.take m = T := List.take_of_length_le (by rw [HT.out]; omega)
          rw [e0] at Hw
          have HR2 := Lib.hid (row_of_own Hw.out (by omega))
          have HE : Hid (LRow wr (w.heap.size + 3) wr.heap.size (.slice xa n xc) (.slice ya m yc) n m (flat2 K) (flat T)) := Lib.hid ⟨wm.heap.size, by omega, hmz, HRow.out, HR2.out⟩
          have q0 := hS.q0
          have q1 := hS.q1
          have q2 := hS.q2
          have q3 := hS.q3
          have r0 := hS.r0
          have r1 := hS.r1
          have r2 := hS.r2
          have r3 := hS.r3
          have r4 := hS.r4
          have g0 := hS.fr 0
          have g1 := hS.fr 1
          have g2 := hS.fr 2
          have g3 := hS.fr 3
          have g4 := hS.fr 4
          have hRl : w.heap.size + 1 < wr.heap.size := by omega
          clear e0 hS hown hR hlt hrow
          go_wp2_with fail
          refine bodyPost_ret (v := .agg #[.int .i64 o, .int .i64 s, .int .i64 ag, .slice xa n xc, .slice ya m yc]) (by simp [results, Try.results58, go_sem, *]) rfl ⟨_, _, rfl, ?_, ?_⟩
          · exact ((((((HE.out.setCell (.inl (by simp <;> omega)) _).setCell (.inl (by simp <;> omega)) _).setCell (.inl (by simp <;> omega)) _).setCell (.inl (by simp <;> omega)) _).setCell (.inl (by simp <;> omega)) _).wide (by omega) (by simp [World.setCell]))
          · exact ((((HS.out.below.setCell (by simp) _).setCell (by simp) _).setCell (by simp) _).setCell (by simp) _).setCell (by simp) _
end Go.Proofs.Ytfpafjdakipccaa
