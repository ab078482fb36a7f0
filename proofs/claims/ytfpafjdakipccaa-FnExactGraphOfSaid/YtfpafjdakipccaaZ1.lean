/- The copy of an advertisement, by the program. -/
import Derived.Test.YtfpafjdakipccaaX4
import Derived.Test.YtfpafjdakipccaaGw
import Derived.Deep.DeepCutAuto
namespace Go.Proofs.Ytfpafjdakipccaa
open Go.RowKit
theorem Try.info75' : (Try.prog.info? 75).map (fun i => (i.zero, i.size, i.bytes)) = some (some (.agg #[.int .i64 0, .int .i64 0]), 2, 16) := by kernel_rfl
theorem Try.info79' : (Try.prog.info? 79).map (fun i => (i.zero, i.size, i.bytes)) = some (some (.agg #[.int .i64 0, .int .i64 0, .int .i64 0]), 3, 24) := by kernel_rfl
theorem append_noneK (ad : Option Addr) (cp : Nat) (ty : TypeId) (w : World) : (Builtin.append_ #[30, 30] ty #[.slice none 0 0, .slice ad 0 cp]).run Try.prog w = .ok (.slice none 0 0) w := by
  obtain ⟨i59, hi, hz0, hz1, hz2⟩ := info_parts Try.info75'
  cases ad <;> simp [Builtin.append_, run_underlying Try.underlying30, typeInfo, hi, Builtin.lenOf, Builtin.firstCells, go_sem]
theorem append_noneT (ad : Option Addr) (cp : Nat) (ty : TypeId) (w : World) : (Builtin.append_ #[31, 31] ty #[.slice none 0 0, .slice ad 0 cp]).run Try.prog w = .ok (.slice none 0 0) w := by
  obtain ⟨i59, hi, hz0, hz1, hz2⟩ := info_parts Try.info79'
  cases ad <;> simp [Builtin.append_, run_underlying Try.underlying31, typeInfo, hi, Builtin.lenOf, Builtin.firstCells, go_sem]
theorem append_copy0 {P : Program} {w : World} {ops : Array Oper} {rest : List Oper} {o : Oper} {a : Act} {Q : Exit -> Act -> World -> Prop} {X : Value} (hgd : o.guard = none) (s x : Operand) (t : TypeId)
    (ho : o.op = .call { callee := .builtin .append, args := #[s, x], argTypes := #[t, t] })
    (hrun : ∀ ty, (Builtin.append_ #[t, t] ty #[.slice none 0 0, X]).run P w = .ok (.slice none 0 0) w) (hs : a.eval s = .slice none 0 0) (hx : a.eval x = X)
    (h : wpList P ops Q rest (a.put o.dst (.slice none 0 0)) w) : wpList P ops Q (o :: rest) a w := by
  refine wpList_plain hgd fun K hK => ?_
  have hr := hrun o.type
  unfold Oper.wp
  simp [execOp, ho, resolve, invoke, builtin, hs, hx, hr, Result.andThen]
  exact hK _ _ h
theorem row_news {w : World} {g : Nat} {Z : List Int} (H : ∀ q z, Z[q]? = some z -> w.cell? ⟨g, q, none⟩ = some (.int .i64 z)) : ∀ (j : Nat) (u : Value), (ints Z)[j]? = some u -> w.cell? ((⟨g, 0, none⟩ : Addr).add j) = some u := by
  intro j u hu
  obtain ⟨z, hz, rfl⟩ := ints_of hu
  rw [add_none]
  exact H _ _ hz
structure CpSt (w wx : World) (o s ag : Int) (x y : Value) : Prop where
  p0 : wx.cell? ⟨w.heap.size, 0, none⟩ = some (.int .i64 o)
  p1 : wx.cell? ⟨w.heap.size, 1, none⟩ = some (.int .i64 s)
  p2 : wx.cell? ⟨w.heap.size, 2, none⟩ = some (.int .i64 ag)
  p3 : wx.cell? ⟨w.heap.size, 3, none⟩ = some x
  p4 : wx.cell? ⟨w.heap.size, 4, none⟩ = some y
  r0 : wx.cell? ⟨w.heap.size + 1, 0, none⟩ = some (.int .i64 0)
  r1 : wx.cell? ⟨w.heap.size + 1, 1, none⟩ = some (.int .i64 0)
  r2 : wx.cell? ⟨w.heap.size + 1, 2, none⟩ = some (.int .i64 0)
  r3 : wx.cell? ⟨w.heap.size + 1, 3, none⟩ = some (.slice none 0 0)
  r4 : wx.cell? ⟨w.heap.size + 1, 4, none⟩ = some (.slice none 0 0)
  fp : ∀ j, wx.frozen? ⟨w.heap.size, j, none⟩ = false
  fr : ∀ j, wx.frozen? ⟨w.heap.size + 1, j, none⟩ = false
  size : w.heap.size + 2 <= wx.heap.size
  below : Below w.heap.size w wx
theorem CpSt.start (w : World) (o s ag : Int) (x y : Value) (T T' : TypeId) : CpSt w ((w.alloc (.cells #[.int .i64 o, .int .i64 s, .int .i64 ag, x, y] T)).alloc (.cells #[.int .i64 0, .int .i64 0, .int .i64 0, .slice none 0 0, .slice none 0 0] T')) o s ag x y where
  p0 := by rw [old_box (by simp), new_at rfl]; rfl
  p1 := by rw [old_box (by simp), new_at rfl]; rfl
  p2 := by rw [old_box (by simp), new_at rfl]; rfl
  p3 := by rw [old_box (by simp), new_at rfl]; rfl
  p4 := by rw [old_box (by simp), new_at rfl]; rfl
  r0 := by rw [new_at (by simp)]; rfl
  r1 := by rw [new_at (by simp)]; rfl
  r2 := by rw [new_at (by simp)]; rfl
  r3 := by rw [new_at (by simp)]; rfl
  r4 := by rw [new_at (by simp)]; rfl
  fp j := by rw [old_frz (by simp), new_frz rfl]
  fr j := by rw [new_frz (by simp)]
  size := by simp
  below := by go_grown
theorem CpSt.grow {w wx w2 : World} {o s ag : Int} {x y : Value} (h : CpSt w wx o s ag x y) (hb : Below wx.heap.size wx w2) : CpSt w w2 o s ag x y := by
  have hs := h.size
  have hz := hb.size
  obtain ⟨hc, hf⟩ := bcell hb
  exact { p0 := by rw [hc _ _ (by omega)]; exact h.p0, p1 := by rw [hc _ _ (by omega)]; exact h.p1, p2 := by rw [hc _ _ (by omega)]; exact h.p2, p3 := by rw [hc _ _ (by omega)]; exact h.p3, p4 := by rw [hc _ _ (by omega)]; exact h.p4, r0 := by rw [hc _ _ (by omega)]; exact h.r0, r1 := by rw [hc _ _ (by omega)]; exact h.r1, r2 := by rw [hc _ _ (by omega)]; exact h.r2, r3 := by rw [hc _ _ (by omega)]; exact h.r3, r4 := by rw [hc _ _ (by omega)]; exact h.r4, fp := fun j => by rw [hf _ _ (by omega)]; exact h.fp j, fr := fun j => by rw [hf _ _ (by omega)]; exact h.fr j, size := by omega, below := h.below.trans (hb.mono (by omega)) }
theorem CpSt.set3 {w wx : World} {o s ag : Int} {x y : Value} (h : CpSt w wx o s ag x y) (x' : Value) : CpSt w (wx.setCell ⟨w.heap.size, 3, none⟩ x') o s ag x' y := by
  have hs := h.size
  exact { p0 := by rw [World.cell?_setCell_other _ _ _ _ (by simp)]; exact h.p0, p1 := by rw [World.cell?_setCell_other _ _ _ _ (by simp)]; exact h.p1, p2 := by rw [World.cell?_setCell_other _ _ _ _ (by simp)]; exact h.p2, p3 := World.cell?_setCell_same' _ _ _ (by rw [h.p3]; rfl), p4 := by rw [World.cell?_setCell_other _ _ _ _ (by simp)]; exact h.p4, r0 := by rw [World.cell?_setCell_other _ _ _ _ (by simp)]; exact h.r0, r1 := by rw [World.cell?_setCell_other _ _ _ _ (by simp)]; exact h.r1, r2 := by rw [World.cell?_setCell_other _ _ _ _ (by simp)]; exact h.r2, r3 := by rw [World.cell?_setCell_other _ _ _ _ (by simp)]; exact h.r3, r4 := by rw [World.cell?_setCell_other _ _ _ _ (by simp)]; exact h.r4, fp := fun j => by rw [World.frozen?_setCell]; exact h.fp j, fr := fun j => by rw [World.frozen?_setCell]; exact h.fr j, size := by simp [World.setCell] <;> omega, below := h.below.setCell (Nat.le_refl _) _ }
theorem CpSt.set4 {w wx : World} {o s ag : Int} {x y : Value} (h : CpSt w wx o s ag x y) (y' : Value) : CpSt w (wx.setCell ⟨w.heap.size, 4, none⟩ y') o s ag x y' := by
  have hs := h.size
  exact { p0 := by rw [World.cell?_setCell_other _ _ _ _ (by simp)]; exact h.p0, p1 := by rw [World.cell?_setCell_other _ _ _ _ (by simp)]; exact h.p1, p2 := by rw [World.cell?_setCell_other _ _ _ _ (by simp)]; exact h.p2, p3 := by rw [World.cell?_setCell_other _ _ _ _ (by simp)]; exact h.p3, p4 := World.cell?_setCell_same' _ _ _ (by rw [h.p4]; rfl), r0 := by rw [World.cell?_setCell_other _ _ _ _ (by simp)]; exact h.r0, r1 := by rw [World.cell?_setCell_other _ _ _ _ (by simp)]; exact h.r1, r2 := by rw [World.cell?_setCell_other _ _ _ _ (by simp)]; exact h.r2, r3 := by rw [World.cell?_setCell_other _ _ _ _ (by simp)]; exact h.r3, r4 := by rw [World.cell?_setCell_other _ _ _ _ (by simp)]; exact h.r4, fp := fun j => by rw [World.frozen?_setCell]; exact h.fp j, fr := fun j => by rw [World.frozen?_setCell]; exact h.fr j, size := by simp [World.setCell] <;> omega, below := h.below.setCell (Nat.le_refl _) _ }
def Cp1 (w wx : World) (o s ag : Int) (x y : Value) (n m lo hi : Nat) (K : List Lk) (T : List Ed) : Prop := CpSt w wx o s ag x y /\ Row 2 wx (w.heap.size + 2) wx.heap.size x n (flat2 K) /\ Row 3 wx lo hi y m (flat T)
def Cp2 (w wx : World) (o s ag : Int) (x y : Value) (n m : Nat) (K : List Lk) (T : List Ed) : Prop := CpSt w wx o s ag x y /\ LRow wx (w.heap.size + 2) wx.heap.size x y n m (flat2 K) (flat T)
set_option linter.unusedVariables false in
set_option maxRecDepth 100000 in
set_option maxHeartbeats 4000000 in
theorem icopy_any (o s ag : Int) (lo hi n m : Nat) (u v : Value) (K : List Lk) (T : List Ed) (w : World) (hK : K.length = n) (hT : T.length = m) (hr : LRow w lo hi u v n m (flat2 K) (flat T)) (hh : hi <= w.heap.size) (hn : n <= 1048576) (hm : m <= 1048576) :
    Calls Try.prog 59 #[.agg #[.int .i64 o, .int .i64 s, .int .i64 ag, u, v]] w fun e w' => ∃ ru rv, e = .returned (.agg #[.int .i64 o, .int .i64 s, .int .i64 ag, ru, rv]) /\ LRow w' w.heap.size w'.heap.size ru rv n m (flat2 K) (flat T) /\ Below w.heap.size w w' := by
  obtain ⟨iIK, hi1, hz0, hz1, hz2⟩ := info_parts Try.info75'
  have IK := Lib.hid (And.intro hi1 (And.intro hz0 (And.intro hz1 hz2)))
  clear hi1 hz0 hz1 hz2
  obtain ⟨iIT, hi1, hz0, hz1, hz2⟩ := info_parts Try.info79'
  have IT := Lib.hid (And.intro hi1 (And.intro hz0 (And.intro hz1 hz2)))
  clear hi1 hz0 hz1 hz2
  have R0 := Lib.hid hr.fst
  have R1 := Lib.hid hr.snd
  have HK := Lib.hid hK
  have HT := Lib.hid hT
  obtain ⟨ad, cp, ae, cq, rfl, rfl⟩ := hr.slice
  clear hr hK hT
  go_enter Try.func59, Try.ntmps59
  go_upto_region 1 with fail
  obtain ⟨q, hq⟩ : ∃ q, q = ((w.alloc (.cells #[.int .i64 o, .int .i64 s, .int .i64 ag, .slice ad n cp, .slice ae m cq] 33)).alloc (.cells #[.int .i64 0, .int .i64 0, .int .i64 0, .slice none 0 0, .slice none 0 0] 33)) := ⟨_, rfl⟩
  rw [<- hq]
  have S0 : Hid (CpSt w q o s ag (.slice ad n cp) (.slice ae m cq)) := by rw [hq]; exact Lib.hid (CpSt.start _ _ _ _ _ _ _ _)
  have hbq : Below w.heap.size w q := S0.out.below
  have RK := Lib.hid (R0.out.below hbq hh)
  have RT := Lib.hid (R1.out.below hbq hh)
  have p3 := S0.out.p3
  have f3 := S0.out.fp 3
  have hsq := S0.out.size
  have hd : w.heap.size < q.heap.size := by omega
  clear hq hbq R0 R1
  go_cut [] (fun wx => ∃ (a' : Option Addr) (c' : Nat), Hid (Cp1 w wx o s ag (.slice a' n c') (.slice ae m cq) n m lo hi K T))
  case first =>
    by_cases h0 : n = 0
    · have KZ : K = [] := List.eq_nil_of_length_eq_zero (by rw [HK.out, h0])
      subst h0
      have HKZ := Lib.hid KZ
      clear KZ
      go_wp2_with (at_builtin; refine append_copy0 rfl _ _ 30 rfl (fun ty => append_noneK ad cp ty _) rfl rfl ?_)
      go_wp2_with fail
      go_meet
      exact ⟨none, 0, Lib.hid ⟨S0.out.set3 _, ⟨by rw [HKZ.out]; simp [flat2], .inl ⟨rfl, none, 0, rfl⟩⟩, RT.out.setCell (.inr (by simp <;> omega)) _⟩⟩
    · have hpos : 0 < n := by omega
      obtain ⟨a1, c1, e1, _, hu⟩ := RK.out.opened
      obtain ⟨rfl, _, rfl⟩ := Value.slice.inj e1
      obtain ⟨g, rfl, _, H⟩ := hu hpos
      have HN := Lib.hid (row_news H)
      clear hu e1 H h0
      go_wp2_with (at_builtin; refine wpList_append_lies _ rfl _ _ 30 rfl q.heap.size 75 iIK (.agg #[.int .i64 0, .int .i64 0]) 2 16 Try.underlying30 IK.out.1 IK.out.2.1 IK.out.2.2.1 IK.out.2.2.2 rfl (by decide) (.slice none 0 0) 0 [] rfl ⟨by simp, .inl ⟨rfl, rfl⟩⟩ ⟨g, 0, none⟩ n cp (ints (flat2 K)) rfl (by rw [ints_len, flat2_len, HK.out]) HN.out (ints_one _) hpos ?d1 ?d2 (Nat.le_refl _) _ rfl ?_)
      case d1 => unfold maxLen; omega
      case d2 => omega
      intro g4 c4 v4 hown hg hat hlt
      try rw [List.nil_append, Nat.zero_add] at hown
      try rw [Nat.zero_add]
      have hb : Below q.heap.size q v4 := (Below.refl _ _).grown hg (Nat.le_refl _) (fun kk hkk => by cases hkk)
      have hrow := row_of_own hown (by omega)
      clear hown hg hat hlt HN
      have S1 := Lib.hid (S0.out.grow hb)
      have RT1 := Lib.hid (RT.out.below hb (by omega))
      have p3' := S1.out.p3
      have f3' := S1.out.fp 3
      have hsz := hb.size
      have Hrow := Lib.hid hrow
      have hd' : w.heap.size < v4.heap.size := by omega
      clear hb hrow p3 f3
      go_wp2_with fail
      go_meet
      exact ⟨_, _, Lib.hid ⟨S1.out.set3 _, ((Hrow.out.setCell (.inl (by simp <;> omega)) _).wide (by omega) (by simp [World.setCell])), RT1.out.setCell (.inr (by simp <;> omega)) _⟩⟩
  case rest =>
    obtain ⟨a5, c5, hc5⟩ := hcut
    obtain ⟨s1, rk1, rt1⟩ := hc5.out
    have S1 := Lib.hid s1
    have RK1 := Lib.hid rk1
    have RT1 := Lib.hid rt1
    have p4 := s1.p4
    have f4 := s1.fp 4
    have hs1 := s1.size
    have hdc : w.heap.size < wc.heap.size := by omega
    have hhc : hi <= wc.heap.size := by omega
    clear hc5 s1 rk1 rt1 p3 f3 S0 RK RT hsq hd
    go_upto_region 2 with fail
    go_cut [] (fun wx => ∃ (a' : Option Addr) (c' : Nat) (b' : Option Addr) (d' : Nat), Hid (Cp2 w wx o s ag (.slice a' n c') (.slice b' m d') n m K T))
    case first =>
      by_cases h0 : m = 0
      · have KZ : T = [] := List.eq_nil_of_length_eq_zero (by rw [HT.out, h0])
        subst h0
        have HKZ := Lib.hid KZ
        clear KZ
        go_wp2_with (at_builtin; refine append_copy0 rfl _ _ 31 rfl (fun ty => append_noneT ae cq ty _) rfl rfl ?_)
        go_wp2_with fail
        go_meet
        exact ⟨a5, c5, none, 0, Lib.hid ⟨S1.out.set4 _, _, hs1, Nat.le_of_eq (by simp [World.setCell]), RK1.out.setCell (.inl (by simp <;> omega)) _, ⟨by rw [HKZ.out]; simp [flat], .inl ⟨rfl, none, 0, rfl⟩⟩⟩⟩
      · have hpos : 0 < m := by omega
        obtain ⟨a1, c1, e1, _, hu⟩ := RT1.out.opened
        obtain ⟨rfl, _, rfl⟩ := Value.slice.inj e1
        obtain ⟨g, rfl, _, H⟩ := hu hpos
        have HN := Lib.hid (row_news H)
        clear hu e1 H h0
        go_wp2_with (at_builtin; refine wpList_append_lies _ rfl _ _ 31 rfl wc.heap.size 79 iIT (.agg #[.int .i64 0, .int .i64 0, .int .i64 0]) 3 24 Try.underlying31 IT.out.1 IT.out.2.1 IT.out.2.2.1 IT.out.2.2.2 rfl (by decide) (.slice none 0 0) 0 [] rfl ⟨by simp, .inl ⟨rfl, rfl⟩⟩ ⟨g, 0, none⟩ m cq (ints (flat T)) rfl (by rw [ints_len, flat_len, HT.out]) HN.out (ints_one _) hpos ?d1 ?d2 (Nat.le_refl _) _ rfl ?_)
        case d1 => unfold maxLen; omega
        case d2 => omega
        intro g4 c4 v4 hown hg hat hlt
        try rw [List.nil_append, Nat.zero_add] at hown
        try rw [Nat.zero_add]
        have hb : Below wc.heap.size wc v4 := (Below.refl _ _).grown hg (Nat.le_refl _) (fun kk hkk => by cases hkk)
        have hrow := row_of_own hown (by omega)
        clear hown hg hat hlt HN
        have S2 := Lib.hid (S1.out.grow hb)
        have RK2 := Lib.hid (RK1.out.below hb (Nat.le_refl _))
        have p4' := S2.out.p4
        have f4' := S2.out.fp 4
        have hsz := hb.size
        have Hrow := Lib.hid hrow
        have hd' : w.heap.size < v4.heap.size := by omega
        clear hb hrow p4 f4
        go_wp2_with fail
        go_meet
        exact ⟨a5, c5, _, _, Lib.hid ⟨S2.out.set4 _, wc.heap.size, hs1, by simp [World.setCell] <;> omega, RK2.out.setCell (.inl (by simp <;> omega)) _, ((Hrow.out.setCell (.inl (by simp <;> omega)) _).wide (Nat.le_refl _) (by simp [World.setCell]))⟩⟩
    case rest =>
      obtain ⟨a6, c6, b6, d6, hc6⟩ := hcut
      obtain ⟨s2, lr⟩ := hc6.out
      have S2 := Lib.hid s2
      have LR := Lib.hid lr
      have p0 := s2.p0
      have p1 := s2.p1
      have p2 := s2.p2
      have p3 := s2.p3
      have p4' := s2.p4
      have r0 := s2.r0
      have r1 := s2.r1
      have r2 := s2.r2
      have r3 := s2.r3
      have r4 := s2.r4
      have g0 := s2.fr 0
      have g1 := s2.fr 1
      have g2 := s2.fr 2
      have g3 := s2.fr 3
      have g4 := s2.fr 4
      have hs2 := s2.size
      have hd0 : w.heap.size < wc.heap.size := by omega
      have hd1 : w.heap.size + 1 < wc.heap.size := by omega
      clear hc6 s2 lr p4 f4 S1 RK1 RT1 hs1 hdc hhc
      go_wp2_with fail
      refine bodyPost_ret (v := .agg #[.int .i64 o, .int .i64 s, .int .i64 ag, .slice a6 n c6, .slice b6 m d6]) (by simp [results, Try.results59, go_sem, *]) rfl ⟨_, _, rfl, ?_, ?_⟩
      · exact ((((((LR.out.setCell (.inl (by simp)) _).setCell (.inl (by simp)) _).setCell (.inl (by simp)) _).setCell (.inl (by simp)) _).setCell (.inl (by simp)) _).wide (by omega) (by simp [World.setCell]))
      · exact ((((S2.out.below.setCell (by simp) _).setCell (by simp) _).setCell (by simp) _).setCell (by simp) _).setCell (by simp) _
end Go.Proofs.Ytfpafjdakipccaa
