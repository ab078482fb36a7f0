/- Additions are drawn. -/
import Derived.Test.YtophppnllkadoaaDq
import Derived.Test.YtophppnllkadoaaS7
import Derived.Test.YtophppnllkadoaaGc
import Derived.Deep.DeepCutAuto
namespace Go.Proofs.Ytophppnllkadoaa
open Go.RowKit

theorem Cur.below {w w' : World} {C : Nat} {a : Option Addr} {n cp i : Nat} (h : Cur w C a n cp i) (b : Below w.heap.size w w') : Cur w' C a n cp i := by
  obtain ⟨q, hq⟩ := h.c2
  exact h.keep (Else.of_below b) h.le.1 (by rw [b.cell (p := ⟨C, 0, none⟩) h.lt]; exact h.c0) (by rw [b.cell (p := ⟨C, 1, none⟩) h.lt]; exact h.c1) ⟨q, by rw [b.cell (p := ⟨C, 2, none⟩) h.lt]; exact hq⟩ (fun o => by rw [b.frozen (p := ⟨C, o, none⟩) h.lt]; exact h.frz o)
theorem Cur.low {w w' : World} {C : Nat} {a : Option Addr} {n cp i B : Nat} (h : Cur w C a n cp i) (b : Below B w w') (hC : C < B) (old : ∀ p : Addr, a = some p → p.block < B) (hs : w.heap.size ≤ w'.heap.size) : Cur w' C a n cp i where
  c0 := by rw [b.cell (p := ⟨C, 0, none⟩) hC]; exact h.c0
  c1 := by rw [b.cell (p := ⟨C, 1, none⟩) hC]; exact h.c1
  c2 := by obtain ⟨q, hq⟩ := h.c2; exact ⟨q, by rw [b.cell (p := ⟨C, 2, none⟩) hC]; exact hq⟩
  frz o := by rw [b.frozen (p := ⟨C, o, none⟩) hC]; exact h.frz o
  lt := Nat.lt_of_lt_of_le h.lt hs
  le := h.le
  bytes hn := by
    obtain ⟨x, off, h1, h2, h3, h4⟩ := h.bytes hn
    have hx := old _ h1
    refine ⟨x, off, h1, Nat.lt_of_lt_of_le h2 hs, h3, fun q hq => ?_⟩
    obtain ⟨z, h5, h6⟩ := h4 q hq
    exact ⟨z, by rw [b.cell (p := ⟨x, off + q, none⟩) hx]; exact h5, h6⟩
theorem list_at (w : World) (Z : List Int) (T : TypeId) : ListAt (w.alloc (.cells (ints Z).toArray T)) w.heap.size Z := ⟨by simp, fun q z hz => by
  rw [new_at rfl]
  simpa using ints_at hz⟩


/-- What holds while additions are drawn: the cursor C is old, the list lies behind w. -/
structure AdK (w : World) (C : Nat) (a : Option Addr) (n cp : Nat) (v : Value) (A : List Ad) (wr : World) : Prop where
  old : ∀ p : Addr, a = some p → p.block < w.heap.size
  hC : C < w.heap.size
  cur : ∃ i, Cur wr C a n cp i
  els : Else C w wr
  own : wr.ownsRow w.heap.size 33 2 v A.length (ints (flat2 A))
theorem AdK.on {w wr w2 : World} {C n cp : Nat} {a : Option Addr} {v : Value} {A : List Ad} (h : AdK w C a n cp v A wr) (hc : CurPost wr C a n cp w2) : AdK w C a n cp v A w2 := by
  obtain ⟨hc, he⟩ := hc
  refine ⟨h.old, h.hC, hc, h.els.trans he, h.own.kept (row := some C) ⟨he.1, he.2.1, he.2.2.1, he.2.2.2.1, fun j hj hne => he.2.2.2.2 j hj (fun e => by subst e; simp at hne)⟩ ?_⟩
  right
  intro e
  have := (h.own.lt C e).1
  have := h.hC
  omega
theorem AdK.low {w wr w2 : World} {C n cp : Nat} {a : Option Addr} {v v' : Value} {A A' : List Ad} (h : AdK w C a n cp v A wr) (hb : Below w.heap.size wr w2) (hs : wr.heap.size ≤ w2.heap.size) (ho : w2.ownsRow w.heap.size 33 2 v' A'.length (ints (flat2 A'))) : AdK w C a n cp v' A' w2 := by
  obtain ⟨i, hc⟩ := h.cur
  refine ⟨h.old, h.hC, ⟨i, hc.low hb h.hC h.old hs⟩, ⟨hb.os.trans h.els.1, hb.tape.trans h.els.2.1, hb.output.trans h.els.2.2.1, Nat.le_trans h.els.2.2.2.1 hs, fun x hx hne => (hb.block x hx).trans (h.els.2.2.2.2 x hx hne)⟩, ho⟩
theorem AdK.grow {w wr w2 : World} {C n cp : Nat} {a : Option Addr} {v : Value} {A : List Ad} (h : AdK w C a n cp v A wr) (hb : Below wr.heap.size wr w2) : AdK w C a n cp v A w2 :=
  h.low (hb.mono h.els.2.2.2.1) hb.size (h.own.kept (row := none) ⟨hb.os, hb.tape, hb.output, hb.size, fun j hj _ => hb.block j hj⟩ (by cases hv : v.ownBlock <;> simp))
theorem flat2_one (x y : Int) : flat2 [(x, y)] = [x, y] := rfl
theorem ints_set2 (Z : List Int) (j : Nat) (z : Int) : ints (Z.set j z) = (ints Z).set j (.int .i64 z) := by simp [ints]
theorem flat2_set0 : ∀ (L : List Ad) (i : Nat) (x : Int), (flat2 L).set (i * 2) x = flat2 (L.modify i fun r => (x, r.2))
  | [], i, x => by simp [flat2]
  | r :: L, 0, x => rfl
  | r :: L, i + 1, x => by
    rw [flat2_cons, show (i + 1) * 2 = i * 2 + 1 + 1 by omega, List.set_cons_succ, List.set_cons_succ, flat2_set0 L i x]
    rfl
theorem flat2_set1 : ∀ (L : List Ad) (i : Nat) (x : Int), (flat2 L).set (i * 2 + 1) x = flat2 (L.modify i fun r => (r.1, x))
  | [], i, x => by simp [flat2]
  | r :: L, 0, x => rfl
  | r :: L, i + 1, x => by
    rw [flat2_cons, show (i + 1) * 2 + 1 = (i * 2 + 1) + 1 + 1 by omega, List.set_cons_succ, List.set_cons_succ, flat2_set1 L i x]
    rfl
theorem Try.info33q : (Try.prog.info? 33).map (fun i => (i.zero, i.size, i.bytes)) = some (some (.agg #[.int .i64 0, .int .i64 0]), 2, 16) := by kernel_rfl

/-- A key is drawn. -/
theorem dkey_any (C : Nat) (a : Option Addr) (n cp i : Nat) (w : World) (h : Cur w C a n cp i) :
    Calls Try.prog 103 #[.pointer (some ⟨C, 0, none⟩)] w fun e w' => (∃ x : Int, e = .returned (.int .i64 x)) ∧ CurPost w C a n cp w' := by
  have HC := Lib.hid h
  clear h
  go_enter Try.func103, Try.ntmps103
  go_wp2_with fail
  go_at_call 85
  refine (below_any C a n cp i 9 _ HC.out (by decide)).mono ?_
  rintro e w1 ⟨⟨x0, rfl, _, _, _⟩, ⟨i1, hc1⟩, he1⟩
  have HC1 := Lib.hid hc1
  have HE1 : Hid (Else C w w1) := he1
  clear hc1 he1 HC
  go_wp2_with fail
  go_at_call 85
  refine (below_any C a n cp i1 9 _ HC1.out (by decide)).mono ?_
  rintro e w2 ⟨⟨x1, rfl, _, _, _⟩, ⟨i2, hc2⟩, he2⟩
  have HC2 := Lib.hid hc2
  have HE2 : Hid (Else C w w2) := HE1.out.trans he2
  clear hc2 he2 HC1
  go_wp2_with fail
  go_at_call 85
  refine (below_any C a n cp i2 40 _ HC2.out (by decide)).mono ?_
  rintro e w3 ⟨⟨x2, rfl, _, _, _⟩, ⟨i3, hc3⟩, he3⟩
  have HC3 := Lib.hid hc3
  have HE3 : Hid (Else C w w3) := HE2.out.trans he3
  clear hc3 he3 HC2
  go_wp2_with fail
  go_at_call 85
  refine (below_any C a n cp i3 16777216 _ HC3.out (by decide)).mono ?_
  rintro e w4 ⟨⟨x3, rfl, _, _, _⟩, ⟨i4, hc4⟩, he4⟩
  have HC4 := Lib.hid hc4
  have HE4 : Hid (Else C w w4) := HE3.out.trans he4
  clear hc4 he4 HC3
  obtain ⟨w5, hw5⟩ : ∃ q, q = w4.alloc (.cells (ints [x0, x1, x2, x3, 1000000000]).toArray 3) := ⟨_, rfl⟩
  have hb5 : Below w4.heap.size w4 w5 := by rw [hw5]; exact (Below.refl _ _).alloc (Nat.le_refl _) _
  have HL5 : Hid (ListAt w5 w4.heap.size [x0, x1, x2, x3, 1000000000]) := by rw [hw5]; exact list_at _ _ _
  have HC5 : Hid (Cur w5 C a n cp i4) := HC4.out.below hb5
  have HE5 : Hid (Else C w w5) := HE4.out.trans (Else.of_below hb5)
  have hne : w4.heap.size ≠ C := by have := HC4.out.lt; omega
  have hw6 : w4.alloc (.cells #[.int .i64 x0, .int .i64 x1, .int .i64 x2, .int .i64 x3, .int .i64 1000000000] 3) = w5 := by rw [hw5]; rfl
  clear hw5 hb5
  go_wp2_with fail
  clear hw6
  go_at_call 104
  refine (pick_any C a n cp i4 w4.heap.size 5 5 [x0, x1, x2, x3, 1000000000] w5 HC5.out (by decide) (by decide) rfl HL5.out hne).mono ?_
  rintro e w6 ⟨⟨x, rfl, _⟩, hc6, he6⟩
  have HP : Hid (CurPost w C a n cp w6) := ⟨hc6, HE5.out.trans he6⟩
  clear hc6 he6
  go_wp2_with fail
  go_ret
  exact ⟨⟨_, rfl⟩, HP.out⟩

theorem AdK.app {w wr w4 : World} {C n cp : Nat} {a : Option Addr} {v v' : Value} {A : List Ad} {o : Obj} {x y : Int} (h : AdK w C a n cp v A wr) (hg : (wr.alloc o).grownBy w4 v.ownBlock) (ho : w4.ownsRow w.heap.size 33 2 v' (A.length + 1) (ints (flat2 A) ++ ints [x, y])) : AdK w C a n cp v' (A ++ [(x, y)]) w4 := by
  have hs := h.els.2.2.2.1
  have hb : Below w.heap.size wr w4 := ((Below.refl wr.heap.size wr).mono hs |>.alloc hs o).grown hg (by simp; omega) (fun k hk => (h.own.lt k hk).1)
  refine h.low hb hb.size ?_
  rw [flat2_app, flat2_one, ints_app, List.length_append]
  exact ho
/-- What a draw of m additions leaves. -/
def AdPost (w : World) (C : Nat) (a : Option Addr) (n cp m : Nat) (e : Ending) (w' : World) : Prop := ∃ rv A, e = .returned rv ∧ A.length = m ∧ AdK w C a n cp rv A w'
set_option maxRecDepth 100000 in
set_option maxHeartbeats 4000000 in
theorem dadds_any (m : Nat) (C : Nat) (a : Option Addr) (n cp i : Nat) (w : World) (h : Cur w C a n cp i) (old : ∀ p : Addr, a = some p → p.block < w.heap.size) (hm : m ≤ 1000) :
    Calls Try.prog 88 #[.pointer (some ⟨C, 0, none⟩), .int .i64 (m : Int)] w (AdPost w C a n cp m) := by
  obtain ⟨iI, hi0, hz0, hz1, hz2⟩ := info_parts Try.info33q
  have I := Lib.hid (And.intro hi0 (And.intro hz0 (And.intro hz1 hz2)))
  clear hi0 hz0 hz1 hz2
  have H0 : Hid (AdK w C a n cp (.slice (some ⟨w.heap.size, 0, none⟩) 0 0) [] (w.alloc (.cells #[] 33))) := ⟨old, h.lt, ⟨i, h.below ((Below.refl _ _).alloc (Nat.le_refl _) _)⟩, Else.of_below ((Below.refl _ _).alloc (Nat.le_refl _) _), (OwnR.lit0 33 2 w).row⟩
  clear h old
  go_enter Try.func88, Try.ntmps88
  go_wp2_with fail
  go_loopw [5, 6] (fun s i wr => ∃ (k : Nat) (va : Option Addr) (vc : Nat) (A : List Ad), k ≤ m ∧ i = .int .i64 (k : Int) ∧ s = .slice va k vc ∧ A.length = k ∧ Hid (AdK w C a n cp (.slice va k vc) A wr)) (fun _ i _ => m - (intOf i).toNat)
  case atStart => exact ⟨0, _, _, [], Nat.zero_le _, rfl, rfl, rfl, H0⟩
  case round =>
    clear H0
    obtain ⟨wo, rfl⟩ : ∃ x, x = wr := ⟨_, rfl⟩
    obtain ⟨k, va, vc, A, hk, rfl, rfl, hA, hR⟩ := hrel
    have HA := Lib.hid hA
    clear hA
    by_cases hlt : k < m
    case pos =>
      have q0 : (k : Int) < (m : Int) := by omega
      obtain ⟨i0, hc0⟩ := hR.out.cur
      go_wp2_with fail
      go_at_call 103
      refine (dkey_any C a n cp i0 _ hc0).mono ?_
      rintro e w1 ⟨⟨x, rfl⟩, hp1⟩
      have HR1 := Lib.hid (hR.out.on hp1)
      clear hp1 hc0 hR
      obtain ⟨i1, hc1⟩ := HR1.out.cur
      go_wp2_with fail
      go_at_call 85
      refine (below_any C a n cp i1 30 _ hc1 (by decide)).mono ?_
      rintro e w2 ⟨⟨y, rfl, hy0, hy1, _⟩, hp2⟩
      have hy2 : y < 30 := hy1 (by decide)
      have HR2 := Lib.hid (HR1.out.on hp2)
      clear hp2 hc1 HR1 hy1
      obtain ⟨w3, hw3⟩ : ∃ q, q = w2.alloc (.cells (ints [1, 1, 2, 1 + y]).toArray 3) := ⟨_, rfl⟩
      have hb3 : Below w2.heap.size w2 w3 := by rw [hw3]; exact (Below.refl _ _).alloc (Nat.le_refl _) _
      have HL3 : Hid (ListAt w3 w2.heap.size [1, 1, 2, 1 + y]) := by rw [hw3]; exact list_at _ _ _
      have HR3 := Lib.hid (HR2.out.grow hb3)
      have hne : w2.heap.size ≠ C := by have h1 := HR2.out.hC; have h2 := HR2.out.els.2.2.2.1; omega
      have hw6 : w2.alloc (.cells #[.int .i64 1, .int .i64 1, .int .i64 2, .int .i64 (1 + y)] 3) = w3 := by rw [hw3]; rfl
      have wy : IntKind.i64.wrap (1 + y) = 1 + y := IntWalk.i64_in _ (by omega)
      clear hw3 hb3 HR2
      obtain ⟨i3, hc3⟩ := HR3.out.cur
      go_wp2_with fail
      clear hw6
      go_at_call 104
      refine (pick_any C a n cp i3 w2.heap.size 4 4 [1, 1, 2, 1 + y] w3 hc3 (by decide) (by decide) rfl HL3.out hne).mono ?_
      rintro e w4 ⟨⟨z, rfl, _⟩, hp4⟩
      have HR4 := Lib.hid (HR3.out.on hp4)
      have HOW : Hid (w4.ownsRow w.heap.size 33 2 (.slice va k vc) k (ints (flat2 A))) := by have h := HR4.out.own; rw [HA.out] at h; exact h
      have hb4s : w.heap.size ≤ w4.heap.size := HR4.out.els.2.2.2.1
      clear hp4 hc3 HR3 HL3
      go_wp2_with (at_builtin; refine wpList_append_lies _ rfl _ _ 24 rfl w.heap.size 33 iI (.agg #[.int .i64 0, .int .i64 0]) 2 16 Try.underlying24 I.out.1 I.out.2.1 I.out.2.2.1 I.out.2.2.2 rfl (by decide) _ k (ints (flat2 A)) rfl (HOW.out.alloc _) ⟨w4.heap.size, 0, none⟩ 1 1 (ints [x, z]) rfl rfl ?d0 (ints_one _) (by decide) ?d1 ?d2 ?d3 _ rfl ?_)
      case d0 => first | exact fun a_ u ha => cells_new _ [x, z] 33 rfl a_ u ha | exact fun a_ u ha => by simpa [ints] using ha
      case d1 => unfold maxLen; omega
      case d2 => omega
      case d3 => first | omega | (simp; omega)
      intro g4 cap4 w5 hown4 hgrow4 hat4 hlt4
      have HN : Hid (AdK w C a n cp (.slice (some ⟨g4, 0, none⟩) (k + 1) cap4) (A ++ [(x, z)]) w5) := HR4.out.app hgrow4 (by rw [HA.out]; exact hown4)
      have HAn : Hid ((A ++ [(x, z)]).length = k + 1) := by show _ = _; rw [List.length_append, HA.out]; rfl
      clear hown4 hgrow4 hat4 hlt4 HR4
      go_wp2_with fail
      go_roundw
      case rel => exact ⟨k + 1, _, _, _, by omega, by go_num, rfl, HAn.out, HN⟩
      case measure => simp [intOf]; omega
    case neg =>
      obtain rfl : k = m := by omega
      have hge : ¬ ((k : Int) < (k : Int)) := by omega
      obtain ⟨i0, hc0⟩ := hR.out.cur
      go_wp2_with fail
      go_at_call 87
      refine (once_any C a n cp i0 20 _ hc0 (by decide)).mono ?_
      rintro e w1 ⟨⟨o, rfl⟩, hp1⟩
      have HR1 := Lib.hid (hR.out.on hp1)
      clear hp1 hc0 hR
      have HD : Hid (∀ W v A', A'.length = k → AdK w C a n cp v A' W → AdPost w C a n cp k (.returned v) W) := fun W v A' h1 h2 => ⟨v, A', rfl, h1, h2⟩
      cases o with
      | false =>
        go_wp2_with fail
        go_ret
        exact HD.out _ _ _ HA.out HR1.out
      | true =>
        by_cases hk0 : k = 0
        · subst hk0
          go_wp2_with fail
          go_ret
          exact HD.out _ _ _ HA.out HR1.out
        have hk1 : (0 : Int) < (k : Int) := by omega
        have hk2 : 0 < k := by omega
        have dk1 : decide ((0 : Int) < (k : Int)) = true := decide_eq_true hk1
        have dk2 : decide (0 < k) = true := decide_eq_true hk2
        obtain ⟨i1, hc1⟩ := HR1.out.cur
        go_wp2_with fail
        go_at_call 85
        refine (below_any C a n cp i1 (k : Int) _ hc1 (by omega)).mono ?_
        rintro e w2 ⟨⟨y, rfl, hy0, hy1, _⟩, hp2⟩
        have hy2 : y < (k : Int) := hy1 hk1
        obtain ⟨p, rfl⟩ : ∃ p : Nat, y = (p : Int) := ⟨y.toNat, by omega⟩
        have hpk : p < k := by omega
        have HR2 := Lib.hid (HR1.out.on hp2)
        clear hp2 hc1 HR1 hy1
        obtain ⟨i2, hc2⟩ := HR2.out.cur
        go_wp2_with fail
        go_at_call 87
        refine (once_any C a n cp i2 2 _ hc2 (by decide)).mono ?_
        rintro e w3 ⟨⟨o, rfl⟩, hp3⟩
        have HR3 := Lib.hid (HR2.out.on hp3)
        clear hp3 hc2 HR2
        cases o with
        | true =>
          obtain ⟨w4, hw4⟩ : ∃ q, q = w3.alloc (.cells (ints [-1, 1000000001]).toArray 3) := ⟨_, rfl⟩
          have hb4 : Below w3.heap.size w3 w4 := by rw [hw4]; exact (Below.refl _ _).alloc (Nat.le_refl _) _
          have HL4 : Hid (ListAt w4 w3.heap.size [-1, 1000000001]) := by rw [hw4]; exact list_at _ _ _
          have HR4 := Lib.hid (HR3.out.grow hb4)
          have hne : w3.heap.size ≠ C := by have h1 := HR3.out.hC; have h2 := HR3.out.els.2.2.2.1; omega
          have hw6 : w3.alloc (.cells #[.int .i64 (-1), .int .i64 1000000001] 3) = w4 := by rw [hw4]; rfl
          clear hw4 hb4 HR3
          obtain ⟨i4, hc4⟩ := HR4.out.cur
          go_wp2_with fail
          clear hw6
          go_at_call 104
          refine (pick_any C a n cp i4 w3.heap.size 2 2 [-1, 1000000001] w4 hc4 (by decide) (by decide) rfl HL4.out hne).mono ?_
          rintro e w5 ⟨⟨z, rfl, _⟩, hp5⟩
          have HR5 := Lib.hid (HR4.out.on hp5)
          clear hp5 hc4 HR4 HL4
          obtain ⟨g, cap, hg, _⟩ := HR5.out.own.form (by rw [HA.out]; omega)
          simp only [Value.slice.injEq] at hg
          obtain ⟨rfl, hkk, hcc⟩ := hg
          clear hkk
          have hown := HR5.out.own
          rw [HA.out] at hown
          have hfl : (flat2 A).length = k * 2 := by rw [flat2_len, HA.out]
          obtain ⟨old, hold⟩ : ∃ old, w5.cell? ⟨g, p * 2, none⟩ = some old := by
            rw [hown.cellAt _ (by omega)]
            exact ⟨_, List.getElem?_eq_getElem (by rw [ints_len, hfl]; omega)⟩
          have hfz := hown.frozenAt (p * 2)
          have hst := (hown.stored (p * 2) (.int .i64 z)).1
          rw [← ints_set2, flat2_set0] at hst
          have HN : Hid (AdK w C a n cp (.slice (some ⟨g, 0, none⟩) k vc) (A.modify p fun r => (z, r.2)) (w5.setCell ⟨g, p * 2, none⟩ (.int .i64 z))) :=
            HR5.out.low ((Below.refl _ _).setCell (p := ⟨g, p * 2, none⟩) (hown.lt g rfl).1 _) (by simp [World.setCell]) (by rw [List.length_modify, HA.out]; exact hst)
          have HAn : Hid ((A.modify p fun r => (z, r.2)).length = k) := by show _ = _; rw [List.length_modify, HA.out]
          have p0 : (0 : Int) ≤ (p : Int) := by omega
          have p1 : (p : Int) < (k : Int) := by omega
          clear hown hst hfl hcc HR5
          go_wp2_with fail
          go_ret
          exact HD.out _ (.slice (some ⟨g, 0, none⟩) k vc) _ HAn.out HN.out
        | false =>
          obtain ⟨w4, hw4⟩ : ∃ q, q = w3.alloc (.cells (ints [0, 1000000, 1000001]).toArray 3) := ⟨_, rfl⟩
          have hb4 : Below w3.heap.size w3 w4 := by rw [hw4]; exact (Below.refl _ _).alloc (Nat.le_refl _) _
          have HL4 : Hid (ListAt w4 w3.heap.size [0, 1000000, 1000001]) := by rw [hw4]; exact list_at _ _ _
          have HR4 := Lib.hid (HR3.out.grow hb4)
          have hne : w3.heap.size ≠ C := by have h1 := HR3.out.hC; have h2 := HR3.out.els.2.2.2.1; omega
          have hw6 : w3.alloc (.cells #[.int .i64 0, .int .i64 1000000, .int .i64 1000001] 3) = w4 := by rw [hw4]; rfl
          clear hw4 hb4 HR3
          obtain ⟨i4, hc4⟩ := HR4.out.cur
          go_wp2_with fail
          clear hw6
          go_at_call 104
          refine (pick_any C a n cp i4 w3.heap.size 3 3 [0, 1000000, 1000001] w4 hc4 (by decide) (by decide) rfl HL4.out hne).mono ?_
          rintro e w5 ⟨⟨z, rfl, _⟩, hp5⟩
          have HR5 := Lib.hid (HR4.out.on hp5)
          clear hp5 hc4 HR4 HL4
          obtain ⟨g, cap, hg, _⟩ := HR5.out.own.form (by rw [HA.out]; omega)
          simp only [Value.slice.injEq] at hg
          obtain ⟨rfl, hkk, hcc⟩ := hg
          clear hkk
          have hown := HR5.out.own
          rw [HA.out] at hown
          have hfl : (flat2 A).length = k * 2 := by rw [flat2_len, HA.out]
          obtain ⟨old, hold⟩ : ∃ old, w5.cell? ⟨g, p * 2 + 1, none⟩ = some old := by
            rw [hown.cellAt _ (by omega)]
            exact ⟨_, List.getElem?_eq_getElem (by rw [ints_len, hfl]; omega)⟩
          have hfz := hown.frozenAt (p * 2 + 1)
          have hst := (hown.stored (p * 2 + 1) (.int .i64 z)).1
          rw [← ints_set2, flat2_set1] at hst
          have HN : Hid (AdK w C a n cp (.slice (some ⟨g, 0, none⟩) k vc) (A.modify p fun r => (r.1, z)) (w5.setCell ⟨g, p * 2 + 1, none⟩ (.int .i64 z))) :=
            HR5.out.low ((Below.refl _ _).setCell (p := ⟨g, p * 2 + 1, none⟩) (hown.lt g rfl).1 _) (by simp [World.setCell]) (by rw [List.length_modify, HA.out]; exact hst)
          have HAn : Hid ((A.modify p fun r => (r.1, z)).length = k) := by show _ = _; rw [List.length_modify, HA.out]
          have p0 : (0 : Int) ≤ (p : Int) := by omega
          have p1 : (p : Int) < (k : Int) := by omega
          clear hown hst hfl hcc HR5
          go_wp2_with fail
          go_ret
          exact HD.out _ (.slice (some ⟨g, 0, none⟩) k vc) _ HAn.out HN.out

/-- A list of additions, drawn. -/
def DrAPost (w : World) (e : Ending) (w' : World) : Prop := ∃ rv A, e = .returned rv ∧ A.length ≤ 301 ∧ Row 2 w' w.heap.size w'.heap.size rv A.length (flat2 A) ∧ (0 < A.length → capOk rv A.length) ∧ Below w.heap.size w w'
set_option maxRecDepth 100000 in
set_option maxHeartbeats 4000000 in
theorem adds_any (a : Option Addr) (n cp : Nat) (w : World) (hb : BytesAt w a n) (hold : ∀ p : Addr, a = some p → p.block < w.heap.size) : Calls Try.prog 52 #[.slice a n cp] w (DrAPost w) := by
  have hn9 := hb.1
  have HBy := Lib.hid hb
  clear hb
  go_enter Try.func52, Try.ntmps52
  go_wp2_with fail
  go_at_call 84
  refine (new_any a n cp w HBy.out).mono ?_
  rintro e w1 ⟨C, rfl, hC, hc1, hb1⟩
  have HC1 := Lib.hid hc1
  have HB1 := Lib.hid hb1
  have hs1 := hb1.size
  clear hc1 hb1
  have H2 : Hid (∀ W, Else C w1 W → Below w.heap.size w W) := fun W he => HB1.out.trans (he.below hC (by omega))
  have HO : Hid (∀ p : Addr, a = some p → p.block < w1.heap.size) := fun p e => Nat.lt_of_lt_of_le (hold p e) hs1
  have HDone : Hid (∀ W W1 m rv A, Else C w1 W1 → A.length = m → m ≤ 301 → AdK W1 C a n cp rv A W → DrAPost w (.returned rv) W) := fun W W1 m rv A he h1 h2 h3 => by
    have hsz := he.2.2.2.1
    have hrow := row_of_own (k := 2) (Z := flat2 A) h3.own (by omega)
    refine ⟨rv, A, rfl, by omega, hrow.wide (by omega) (Nat.le_refl _), fun h0 => ?_, H2.out _ (he.trans h3.els)⟩
    obtain ⟨x, c, e⟩ := own_slice h3.own
    subst e
    exact ⟨x, c, rfl, own_room h3.own h0⟩
  go_wp2_with fail
  go_at_call 86
  refine (drsz_any a n cp 40 _ hn9).mono ?_
  rintro e w' ⟨⟨sz, rfl, hz1, hz2⟩, rfl⟩
  have hz3 := hz2 (by decide)
  clear hz2
  go_wp2_with fail
  go_at_call 85
  refine (below_any C a n cp 0 sz _ HC1.out (by omega)).mono ?_
  rintro e w2 ⟨⟨y, rfl, hy0, hy1, _⟩, ⟨i2, hc2⟩, he2⟩
  have hy2 : y < sz := hy1 (by omega)
  obtain ⟨m, rfl⟩ : ∃ m : Nat, y = (m : Int) := ⟨y.toNat, by omega⟩
  have hm : m ≤ 301 := by omega
  have HE2 := Lib.hid he2
  clear he2 hy1 HC1
  go_wp2_with fail
  go_at_call 87
  refine (once_any C a n cp i2 40 _ hc2 (by decide)).mono ?_
  rintro e w3 ⟨⟨o, rfl⟩, ⟨i3, hc3⟩, he3⟩
  have HE3 : Hid (Else C w1 w3) := HE2.out.trans he3
  have HC3 := Lib.hid hc3
  clear he3 hc3 hc2 HE2
  cases o with
  | false =>
    go_wp2_with fail
    go_at_call 88
    refine (dadds_any m C a n cp i3 _ HC3.out (fun p e => Nat.lt_of_lt_of_le (HO.out p e) HE3.out.2.2.2.1) (by omega)).mono ?_
    rintro e w4 ⟨rv, A, rfl, hl, hk⟩
    have HF : Hid (DrAPost w (.returned rv) w4) := HDone.out _ _ m _ _ HE3.out hl hm hk
    clear hl hk
    go_wp2_with fail
    go_ret
    exact HF.out
  | true =>
    go_wp2_with fail
    go_at_call 85
    refine (below_any C a n cp i3 2 _ HC3.out (by decide)).mono ?_
    rintro e w4 ⟨⟨u, rfl, hu0, hu1, _⟩, ⟨i4, hc4⟩, he4⟩
    have hu2 : u < 2 := hu1 (by decide)
    obtain ⟨t, rfl⟩ : ∃ t : Nat, u = (t : Int) := ⟨u.toNat, by omega⟩
    have wy : IntKind.i64.wrap (300 + (t : Int)) = ((300 + t : Nat) : Int) := by rw [IntWalk.i64_in _ (by omega)]; omega
    have HE4 : Hid (Else C w1 w4) := HE3.out.trans he4
    have HC4 := Lib.hid hc4
    obtain ⟨r, hr⟩ : ∃ r, r = 300 + t := ⟨_, rfl⟩
    rw [← hr] at wy
    have hr2 : r ≤ 301 := by omega
    clear he4 hc4 hu1 HC3 HE3 hr
    go_wp2_with fail
    go_at_call 88
    refine (dadds_any r C a n cp i4 _ HC4.out (fun p e => Nat.lt_of_lt_of_le (HO.out p e) HE4.out.2.2.2.1) (by omega)).mono ?_
    rintro e w5 ⟨rv, A, rfl, hl, hk⟩
    have HF : Hid (DrAPost w (.returned rv) w5) := HDone.out _ _ r _ _ HE4.out hl hr2 hk
    clear hl hk
    go_wp2_with fail
    go_ret
    exact HF.out
theorem dplay_any (a : Option Addr) (n cp : Nat) (w : World) (hb : BytesAt w a n) (hold : ∀ p : Addr, a = some p → p.block < w.heap.size) : Calls Try.prog 16 #[.slice a n cp] w (DrAPost w) := by
  have H := Lib.hid (fun (w' : World) (e : w' = w) => by subst e; exact adds_any a n cp w' hb hold : ∀ w' : World, w' = w → Calls Try.prog 52 #[.slice a n cp] w' (DrAPost w'))
  clear hb hold
  go_enter Try.func16, Try.ntmps16
  go_wp2_with fail
  go_at_call 52
  refine (H.out _ rfl).mono ?_
  rintro e w1 ⟨rv, A, rfl, h1, h2, h3, h4⟩
  have HF : Hid (DrAPost w (.returned rv) w1) := ⟨rv, A, rfl, h1, h2, h3, h4⟩
  clear h1 h2 h3 h4
  go_wp2_with fail
  go_ret
  exact HF.out

end Go.Proofs.Ytophppnllkadoaa
