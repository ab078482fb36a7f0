/- Values are drawn. -/
import Derived.Test.YtcchoiobdcaboaaDq
import Derived.Test.YtcchoiobdcaboaaS7
import Derived.Deep.DeepCutAuto
namespace Go.Proofs.Ytcchoiobdcaboaa
open Go.RowKit

theorem Cur.below {w w' : World} {C : Nat} {a : Option Addr} {n cp i : Nat} (h : Cur w C a n cp i) (b : Below w.heap.size w w') : Cur w' C a n cp i := by
  obtain ⟨q, hq⟩ := h.c2
  exact h.keep (Else.of_below b) h.le.1 (by rw [b.cell (p := ⟨C, 0, none⟩) h.lt]; exact h.c0) (by rw [b.cell (p := ⟨C, 1, none⟩) h.lt]; exact h.c1) ⟨q, by rw [b.cell (p := ⟨C, 2, none⟩) h.lt]; exact hq⟩ (fun o => by rw [b.frozen (p := ⟨C, o, none⟩) h.lt]; exact h.frz o)
theorem Cur.low {w w' : World} {C : Nat} {a : Option Addr} {n cp i B : Nat} (h : Cur w C a n cp i) (b : Below B w w') (hC : C < B) (old : ∀ p : Addr, a = some p → p.block < B) (hs : w.heap.size ≤ w'.heap.size) : Cur w' C a n cp i where
  c0 := by rw [b.cell (p := ⟨C, 0, none⟩) hC]; exact h.c0
  c1 := by rw [b.cell (p := ⟨C, 1, none⟩) hC]; exact h.c1
  c2 := by obtain ⟨q, hq⟩ := h.c2; exact ⟨q, by rw [b.cell (p := ⟨C, 2, none⟩) hC]; exact hq⟩
  frz o := by rw [b.frozen (p := ⟨C, o, none⟩) hC]; exact h.frz o
  lt := Nat.lt_of_lt_of_le h.lt hs
  le := h.le
  bytes hn := by
    obtain ⟨x, off, h1, h2, h3, h4⟩ := h.bytes hn
    have hx := old _ h1
    refine ⟨x, off, h1, Nat.lt_of_lt_of_le h2 hs, h3, fun q hq => ?_⟩
    obtain ⟨z, h5, h6⟩ := h4 q hq
    exact ⟨z, by rw [b.cell (p := ⟨x, off + q, none⟩) hx]; exact h5, h6⟩
theorem list_at (w : World) (Z : List Int) (T : TypeId) : ListAt (w.alloc (.cells (ints Z).toArray T)) w.heap.size Z := ⟨by simp, fun q z hz => by
  rw [new_at rfl]
  simpa using ints_at hz⟩


/-- What holds while values are drawn: the cursor C is old, the list lies behind w. -/
structure VdK (w : World) (C : Nat) (a : Option Addr) (n cp : Nat) (v : Value) (A : List Int) (wr : World) : Prop where
  old : ∀ p : Addr, a = some p → p.block < w.heap.size
  hC : C < w.heap.size
  cur : ∃ i, Cur wr C a n cp i
  els : Else C w wr
  own : wr.ownsRow w.heap.size 3 1 v A.length (ints A)
theorem VdK.on {w wr w2 : World} {C n cp : Nat} {a : Option Addr} {v : Value} {A : List Int} (h : VdK w C a n cp v A wr) (hc : CurPost wr C a n cp w2) : VdK w C a n cp v A w2 := by
  obtain ⟨hc, he⟩ := hc
  refine ⟨h.old, h.hC, hc, h.els.trans he, h.own.kept (row := some C) ⟨he.1, he.2.1, he.2.2.1, he.2.2.2.1, fun j hj hne => he.2.2.2.2 j hj (fun e => by subst e; simp at hne)⟩ ?_⟩
  right
  intro e
  have := (h.own.lt C e).1
  have := h.hC
  omega
theorem VdK.low {w wr w2 : World} {C n cp : Nat} {a : Option Addr} {v v' : Value} {A A' : List Int} (h : VdK w C a n cp v A wr) (hb : Below w.heap.size wr w2) (hs : wr.heap.size ≤ w2.heap.size) (ho : w2.ownsRow w.heap.size 3 1 v' A'.length (ints A')) : VdK w C a n cp v' A' w2 := by
  obtain ⟨i, hc⟩ := h.cur
  refine ⟨h.old, h.hC, ⟨i, hc.low hb h.hC h.old hs⟩, ⟨hb.os.trans h.els.1, hb.tape.trans h.els.2.1, hb.output.trans h.els.2.2.1, Nat.le_trans h.els.2.2.2.1 hs, fun x hx hne => (hb.block x hx).trans (h.els.2.2.2.2 x hx hne)⟩, ho⟩
theorem VdK.grow {w wr w2 : World} {C n cp : Nat} {a : Option Addr} {v : Value} {A : List Int} (h : VdK w C a n cp v A wr) (hb : Below wr.heap.size wr w2) : VdK w C a n cp v A w2 :=
  h.low (hb.mono h.els.2.2.2.1) hb.size (h.own.kept (row := none) ⟨hb.os, hb.tape, hb.output, hb.size, fun j hj _ => hb.block j hj⟩ (by cases hv : v.ownBlock <;> simp))

theorem VdK.app {w wr w4 : World} {C n cp : Nat} {a : Option Addr} {v v' : Value} {A : List Int} {o : Obj} {x : Int} (h : VdK w C a n cp v A wr) (hg : (wr.alloc o).grownBy w4 v.ownBlock) (ho : w4.ownsRow w.heap.size 3 1 v' (A.length + 1) (ints A ++ ints [x])) : VdK w C a n cp v' (A ++ [x]) w4 := by
  have hs := h.els.2.2.2.1
  have hb : Below w.heap.size wr w4 := ((Below.refl wr.heap.size wr).mono hs |>.alloc hs o).grown hg (by simp; omega) (fun k hk => (h.own.lt k hk).1)
  refine h.low hb hb.size ?_
  rw [ints_app, List.length_append]
  exact ho
theorem ints_setV (Z : List Int) (j : Nat) (z : Int) : ints (Z.set j z) = (ints Z).set j (.int .i64 z) := by simp [ints]
theorem own_room {w : World} {b0 n k c : Nat} {e : TypeId} {a : Option Addr} {xs : List Value} (h : w.ownsRow b0 e k (.slice a n c) n xs) (h0 : 0 < n) : n ≤ c := by
  rcases h.2 with ⟨h1, h2⟩ | ⟨g, cap, cur, h1, h2, h3, h4, h5⟩
  · simp only [Value.slice.injEq] at h1; omega
  · simp only [Value.slice.injEq] at h1; omega

/-- A value is drawn. -/
theorem dval_any (C : Nat) (a : Option Addr) (n cp i : Nat) (w : World) (h : Cur w C a n cp i) :
    Calls Try.prog 68 #[.pointer (some ⟨C, 0, none⟩)] w fun e w' => (∃ x : Int, e = .returned (.int .i64 x)) ∧ CurPost w C a n cp w' := by
  have HC := Lib.hid h
  clear h
  go_enter Try.func68, Try.ntmps68
  go_wp2_with fail
  go_at_call 60
  refine (below_any C a n cp i 100 _ HC.out (by decide)).mono ?_
  rintro e w1 ⟨⟨x0, rfl, _, _, _⟩, ⟨i1, hc1⟩, he1⟩
  have HC1 := Lib.hid hc1
  have HE1 : Hid (Else C w w1) := he1
  clear hc1 he1 HC
  go_wp2_with fail
  go_at_call 60
  refine (below_any C a n cp i1 1000001 _ HC1.out (by decide)).mono ?_
  rintro e w4 ⟨⟨x1, rfl, _, _, _⟩, ⟨i4, hc4⟩, he4⟩
  have HC4 := Lib.hid hc4
  have HE4 : Hid (Else C w w4) := HE1.out.trans he4
  clear hc4 he4 HC1
  obtain ⟨w5, hw5⟩ : ∃ q, q = w4.alloc (.cells (ints [0, 1, 2, 3, x0, x1, 524287, 524288, 1000000]).toArray 3) := ⟨_, rfl⟩
  have hb5 : Below w4.heap.size w4 w5 := by rw [hw5]; exact (Below.refl _ _).alloc (Nat.le_refl _) _
  have HL5 : Hid (ListAt w5 w4.heap.size [0, 1, 2, 3, x0, x1, 524287, 524288, 1000000]) := by rw [hw5]; exact list_at _ _ _
  have HC5 : Hid (Cur w5 C a n cp i4) := HC4.out.below hb5
  have HE5 : Hid (Else C w w5) := HE4.out.trans (Else.of_below hb5)
  have hne : w4.heap.size ≠ C := by have := HC4.out.lt; omega
  have hw6 : w4.alloc (.cells #[.int .i64 0, .int .i64 1, .int .i64 2, .int .i64 3, .int .i64 x0, .int .i64 x1, .int .i64 524287, .int .i64 524288, .int .i64 1000000] 3) = w5 := by rw [hw5]; rfl
  clear hw5 hb5
  go_wp2_with fail
  clear hw6
  go_at_call 69
  refine (pick_any C a n cp i4 w4.heap.size 9 9 [0, 1, 2, 3, x0, x1, 524287, 524288, 1000000] w5 HC5.out (by decide) (by decide) rfl HL5.out hne).mono ?_
  rintro e w6 ⟨⟨x, rfl, _⟩, hc6, he6⟩
  have HP : Hid (CurPost w C a n cp w6) := ⟨hc6, HE5.out.trans he6⟩
  clear hc6 he6
  go_wp2_with fail
  go_ret
  exact ⟨⟨_, rfl⟩, HP.out⟩
/-- What a draw of m values leaves. -/
def VlPost (w : World) (C : Nat) (a : Option Addr) (n cp m : Nat) (e : Ending) (w' : World) : Prop := ∃ rv A, e = .returned rv ∧ A.length = m ∧ VdK w C a n cp rv A w'
set_option maxRecDepth 100000 in
set_option maxHeartbeats 4000000 in
theorem dvals_any (m : Nat) (C : Nat) (a : Option Addr) (n cp i : Nat) (w : World) (h : Cur w C a n cp i) (old : ∀ p : Addr, a = some p → p.block < w.heap.size) (hm : m ≤ 1000) :
    Calls Try.prog 63 #[.pointer (some ⟨C, 0, none⟩), .int .i64 (m : Int)] w (VlPost w C a n cp m) := by
  obtain ⟨iI, hi0, hz0, hz1, hz2⟩ := info_parts Try.info3
  have I := Lib.hid (And.intro hi0 (And.intro hz0 (And.intro hz1 hz2)))
  clear hi0 hz0 hz1 hz2
  have H0 : Hid (VdK w C a n cp (.slice (some ⟨w.heap.size, 0, none⟩) 0 0) [] (w.alloc (.cells #[] 3))) := ⟨old, h.lt, ⟨i, h.below ((Below.refl _ _).alloc (Nat.le_refl _) _)⟩, Else.of_below ((Below.refl _ _).alloc (Nat.le_refl _) _), (OwnR.lit0 3 1 w).row⟩
  clear h old
  go_enter Try.func63, Try.ntmps63
  go_wp2_with fail
  go_loopw [5, 6] (fun s i wr => ∃ (k : Nat) (va : Option Addr) (vc : Nat) (A : List Int), k ≤ m ∧ i = .int .i64 (k : Int) ∧ s = .slice va k vc ∧ A.length = k ∧ Hid (VdK w C a n cp (.slice va k vc) A wr)) (fun _ i _ => m - (intOf i).toNat)
  case atStart => exact ⟨0, _, _, [], Nat.zero_le _, rfl, rfl, rfl, H0⟩
  case round =>
    clear H0
    obtain ⟨wo, rfl⟩ : ∃ x, x = wr := ⟨_, rfl⟩
    obtain ⟨k, va, vc, A, hk, rfl, rfl, hA, hR⟩ := hrel
    have HA := Lib.hid hA
    clear hA
    by_cases hlt : k < m
    case pos =>
      have q0 : (k : Int) < (m : Int) := by omega
      obtain ⟨i0, hc0⟩ := hR.out.cur
      go_wp2_with fail
      go_at_call 68
      refine (dval_any C a n cp i0 _ hc0).mono ?_
      rintro e w4 ⟨⟨x, rfl⟩, hp1⟩
      have HR4 := Lib.hid (hR.out.on hp1)
      have HOW : Hid (w4.ownsRow w.heap.size 3 1 (.slice va k vc) k (ints A)) := by have h := HR4.out.own; rw [HA.out] at h; exact h
      have hb4s : w.heap.size ≤ w4.heap.size := HR4.out.els.2.2.2.1
      clear hp1 hc0 hR
      go_wp2_with (at_builtin; refine wpList_append_lies _ rfl _ _ 24 rfl w.heap.size 3 iI (.int .i64 0) 1 8 Try.underlying24 I.out.1 I.out.2.1 I.out.2.2.1 I.out.2.2.2 rfl (by decide) _ k (ints A) rfl (HOW.out.alloc _) ⟨w4.heap.size, 0, none⟩ 1 1 (ints [x]) rfl rfl ?d0 (ints_one _) (by decide) ?d1 ?d2 ?d3 _ rfl ?_)
      case d0 => first | exact fun a_ u ha => cells_new _ [x] 3 rfl a_ u ha | exact fun a_ u ha => by simpa [ints] using ha
      case d1 => unfold maxLen; omega
      case d2 => omega
      case d3 => first | omega | (simp; omega)
      intro g4 cap4 w5 hown4 hgrow4 hat4 hlt4
      have HN : Hid (VdK w C a n cp (.slice (some ⟨g4, 0, none⟩) (k + 1) cap4) (A ++ [x]) w5) := HR4.out.app hgrow4 (by rw [HA.out]; exact hown4)
      have HAn : Hid ((A ++ [x]).length = k + 1) := by show _ = _; rw [List.length_append, HA.out]; rfl
      clear hown4 hgrow4 hat4 hlt4 HR4
      go_wp2_with fail
      go_roundw
      case rel => exact ⟨k + 1, _, _, _, by omega, by go_num, rfl, HAn.out, HN⟩
      case measure => simp [intOf]; omega
    case neg =>
      obtain rfl : k = m := by omega
      have hge : ¬ ((k : Int) < (k : Int)) := by omega
      obtain ⟨i0, hc0⟩ := hR.out.cur
      go_wp2_with fail
      go_at_call 62
      refine (once_any C a n cp i0 25 _ hc0 (by decide)).mono ?_
      rintro e w1 ⟨⟨o, rfl⟩, hp1⟩
      have HR1 := Lib.hid (hR.out.on hp1)
      clear hp1 hc0 hR
      have HD : Hid (∀ W v A', A'.length = k → VdK w C a n cp v A' W → VlPost w C a n cp k (.returned v) W) := fun W v A' h1 h2 => ⟨v, A', rfl, h1, h2⟩
      cases o with
      | false =>
        go_wp2_with fail
        go_ret
        exact HD.out _ _ _ HA.out HR1.out
      | true =>
        by_cases hk0 : k = 0
        · subst hk0
          go_wp2_with fail
          go_ret
          exact HD.out _ _ _ HA.out HR1.out
        have hk1 : (0 : Int) < (k : Int) := by omega
        have hk2 : 0 < k := by omega
        have dk1 : decide ((0 : Int) < (k : Int)) = true := decide_eq_true hk1
        have dk2 : decide (0 < k) = true := decide_eq_true hk2
        obtain ⟨i1, hc1⟩ := HR1.out.cur
        go_wp2_with fail
        go_at_call 60
        refine (below_any C a n cp i1 (k : Int) _ hc1 (by omega)).mono ?_
        rintro e w3 ⟨⟨y, rfl, hy0, hy1, _⟩, hp2⟩
        have hy2 : y < (k : Int) := hy1 hk1
        obtain ⟨p, rfl⟩ : ∃ p : Nat, y = (p : Int) := ⟨y.toNat, by omega⟩
        have hpk : p < k := by omega
        have HR3 := Lib.hid (HR1.out.on hp2)
        clear hp2 hc1 HR1 hy1
        obtain ⟨w4, hw4⟩ : ∃ q, q = w3.alloc (.cells (ints [-1, 1000001]).toArray 3) := ⟨_, rfl⟩
        have hb4 : Below w3.heap.size w3 w4 := by rw [hw4]; exact (Below.refl _ _).alloc (Nat.le_refl _) _
        have HL4 : Hid (ListAt w4 w3.heap.size [-1, 1000001]) := by rw [hw4]; exact list_at _ _ _
        have HR4 := Lib.hid (HR3.out.grow hb4)
        have hne : w3.heap.size ≠ C := by have h1 := HR3.out.hC; have h2 := HR3.out.els.2.2.2.1; omega
        have hw6 : w3.alloc (.cells #[.int .i64 (-1), .int .i64 1000001] 3) = w4 := by rw [hw4]; rfl
        clear hw4 hb4 HR3
        obtain ⟨i4, hc4⟩ := HR4.out.cur
        go_wp2_with fail
        clear hw6
        go_at_call 69
        refine (pick_any C a n cp i4 w3.heap.size 2 2 [-1, 1000001] w4 hc4 (by decide) (by decide) rfl HL4.out hne).mono ?_
        rintro e w5 ⟨⟨z, rfl, _⟩, hp5⟩
        have HR5 := Lib.hid (HR4.out.on hp5)
        clear hp5 hc4 HR4 HL4
        obtain ⟨g, cap, hg, _⟩ := HR5.out.own.form (by rw [HA.out]; omega)
        simp only [Value.slice.injEq] at hg
        obtain ⟨rfl, hkk, hcc⟩ := hg
        clear hkk
        have hown := HR5.out.own
        rw [HA.out] at hown
        obtain ⟨old, hold⟩ : ∃ old, w5.cell? ⟨g, p, none⟩ = some old := by
          rw [hown.cellAt _ (by omega)]
          exact ⟨_, List.getElem?_eq_getElem (by rw [ints_len, HA.out]; omega)⟩
        have hfz := hown.frozenAt p
        have hst := (hown.stored p (.int .i64 z)).1
        rw [← ints_setV] at hst
        have HN : Hid (VdK w C a n cp (.slice (some ⟨g, 0, none⟩) k vc) (A.set p z) (w5.setCell ⟨g, p, none⟩ (.int .i64 z))) :=
          HR5.out.low ((Below.refl _ _).setCell (p := ⟨g, p, none⟩) (hown.lt g rfl).1 _) (by simp [World.setCell]) (by rw [List.length_set, HA.out]; exact hst)
        have HAn : Hid ((A.set p z).length = k) := by show _ = _; rw [List.length_set, HA.out]
        have p0 : (0 : Int) ≤ (p : Int) := by omega
        have p1 : (p : Int) < (k : Int) := by omega
        clear hown hst hcc HR5
        go_wp2_with fail
        go_ret
        exact HD.out _ (.slice (some ⟨g, 0, none⟩) k vc) _ HAn.out HN.out

/-- A list of values, drawn. -/
def DrVPost (w : World) (e : Ending) (w' : World) : Prop := ∃ rv A, e = .returned rv ∧ A.length ≤ 301 ∧ Row 1 w' w.heap.size w'.heap.size rv A.length A ∧ (0 < A.length → ∃ x c, rv = .slice x A.length c ∧ A.length ≤ c) ∧ Below w.heap.size w w'
set_option maxRecDepth 100000 in
set_option maxHeartbeats 4000000 in
theorem vals_any (a : Option Addr) (n cp : Nat) (w : World) (hb : BytesAt w a n) (hold : ∀ p : Addr, a = some p → p.block < w.heap.size) : Calls Try.prog 46 #[.slice a n cp] w (DrVPost w) := by
  have hn9 := hb.1
  have HBy := Lib.hid hb
  clear hb
  go_enter Try.func46, Try.ntmps46
  go_wp2_with fail
  go_at_call 59
  refine (new_any a n cp w HBy.out).mono ?_
  rintro e w1 ⟨C, rfl, hC, hc1, hb1⟩
  have HC1 := Lib.hid hc1
  have HB1 := Lib.hid hb1
  have hs1 := hb1.size
  clear hc1 hb1
  have H2 : Hid (∀ W, Else C w1 W → Below w.heap.size w W) := fun W he => HB1.out.trans (he.below hC (by omega))
  have HO : Hid (∀ p : Addr, a = some p → p.block < w1.heap.size) := fun p e => Nat.lt_of_lt_of_le (hold p e) hs1
  have HDone : Hid (∀ W W1 m rv A, Else C w1 W1 → A.length = m → m ≤ 301 → VdK W1 C a n cp rv A W → DrVPost w (.returned rv) W) := fun W W1 m rv A he h1 h2 h3 => by
    have hsz := he.2.2.2.1
    have hrow := row_of_own (k := 1) (Z := A) h3.own (by omega)
    refine ⟨rv, A, rfl, by omega, hrow.wide (by omega) (Nat.le_refl _), fun h0 => ?_, H2.out _ (he.trans h3.els)⟩
    obtain ⟨x, c, e⟩ := own_slice h3.own
    subst e
    exact ⟨x, c, rfl, own_room h3.own h0⟩
  go_wp2_with fail
  go_at_call 61
  refine (drsz_any a n cp 40 _ hn9).mono ?_
  rintro e w' ⟨⟨sz, rfl, hz1, hz2⟩, rfl⟩
  have hz3 := hz2 (by decide)
  clear hz2
  go_wp2_with fail
  go_at_call 60
  refine (below_any C a n cp 0 sz _ HC1.out (by omega)).mono ?_
  rintro e w2 ⟨⟨y, rfl, hy0, hy1, _⟩, ⟨i2, hc2⟩, he2⟩
  have hy2 : y < sz := hy1 (by omega)
  obtain ⟨m, rfl⟩ : ∃ m : Nat, y = (m : Int) := ⟨y.toNat, by omega⟩
  have hm : m ≤ 301 := by omega
  have HE2 := Lib.hid he2
  clear he2 hy1 HC1
  go_wp2_with fail
  go_at_call 62
  refine (once_any C a n cp i2 40 _ hc2 (by decide)).mono ?_
  rintro e w3 ⟨⟨o, rfl⟩, ⟨i3, hc3⟩, he3⟩
  have HE3 : Hid (Else C w1 w3) := HE2.out.trans he3
  have HC3 := Lib.hid hc3
  clear he3 hc3 hc2 HE2
  cases o with
  | false =>
    go_wp2_with fail
    go_at_call 63
    refine (dvals_any m C a n cp i3 _ HC3.out (fun p e => Nat.lt_of_lt_of_le (HO.out p e) HE3.out.2.2.2.1) (by omega)).mono ?_
    rintro e w4 ⟨rv, A, rfl, hl, hk⟩
    have HF : Hid (DrVPost w (.returned rv) w4) := HDone.out _ _ m _ _ HE3.out hl hm hk
    clear hl hk
    go_wp2_with fail
    go_ret
    exact HF.out
  | true =>
    go_wp2_with fail
    go_at_call 60
    refine (below_any C a n cp i3 2 _ HC3.out (by decide)).mono ?_
    rintro e w4 ⟨⟨u, rfl, hu0, hu1, _⟩, ⟨i4, hc4⟩, he4⟩
    have hu2 : u < 2 := hu1 (by decide)
    obtain ⟨t, rfl⟩ : ∃ t : Nat, u = (t : Int) := ⟨u.toNat, by omega⟩
    have wy : IntKind.i64.wrap (300 + (t : Int)) = ((300 + t : Nat) : Int) := by rw [IntWalk.i64_in _ (by omega)]; omega
    have HE4 : Hid (Else C w1 w4) := HE3.out.trans he4
    have HC4 := Lib.hid hc4
    obtain ⟨r, hr⟩ : ∃ r, r = 300 + t := ⟨_, rfl⟩
    rw [← hr] at wy
    have hr2 : r ≤ 301 := by omega
    clear he4 hc4 hu1 HC3 HE3 hr
    go_wp2_with fail
    go_at_call 63
    refine (dvals_any r C a n cp i4 _ HC4.out (fun p e => Nat.lt_of_lt_of_le (HO.out p e) HE4.out.2.2.2.1) (by omega)).mono ?_
    rintro e w5 ⟨rv, A, rfl, hl, hk⟩
    have HF : Hid (DrVPost w (.returned rv) w5) := HDone.out _ _ r _ _ HE4.out hl hr2 hk
    clear hl hk
    go_wp2_with fail
    go_ret
    exact HF.out
theorem dho_any (a : Option Addr) (n cp : Nat) (w : World) (hb : BytesAt w a n) (hold : ∀ p : Addr, a = some p → p.block < w.heap.size) : Calls Try.prog 15 #[.slice a n cp] w (DrVPost w) := by
  have H := Lib.hid (fun (w' : World) (e : w' = w) => by subst e; exact vals_any a n cp w' hb hold : ∀ w' : World, w' = w → Calls Try.prog 46 #[.slice a n cp] w' (DrVPost w'))
  clear hb hold
  go_enter Try.func15, Try.ntmps15
  go_wp2_with fail
  go_at_call 46
  refine (H.out _ rfl).mono ?_
  rintro e w1 ⟨rv, A, rfl, h1, h2, h3, h4⟩
  have HF : Hid (DrVPost w (.returned rv) w1) := ⟨rv, A, rfl, h1, h2, h3, h4⟩
  clear h1 h2 h3 h4
  go_wp2_with fail
  go_ret
  exact HF.out


end Go.Proofs.Ytcchoiobdcaboaa
