/- The model's ParsePrefix. -/
import Derived.Test.YtegffibamkaeiaaDoorPs
import Derived.Test.YtegffibamkaeiaaDoorPi
import Derived.Test.YtegffibamkaeiaaDoorPp
namespace Go.Proofs.YtegffibamkaeiaaDoor
open Go.RowKit

theorem own_some {wr : World} {B : Nat} {v : Value} {L : List (List UInt8)} (h : wr.ownsRow B 9 1 v L.length (strs L)) (hL : L ≠ []) :
    ∃ g cap, v = .slice (some ⟨g, 0, none⟩) L.length cap ∧ B ≤ g ∧ g < wr.heap.size ∧ ∀ j p, L[j]? = some p → wr.cell? ⟨g, j, none⟩ = some (.string ⟨p.toArray⟩) := by
  rcases h.2 with ⟨e0, e1⟩ | ⟨g, cap, cur, rfl, hb, hg, hn, hm, hs, ht⟩
  · exact absurd (List.length_eq_zero_iff.1 (by omega)) hL
  · have hlt : g < wr.heap.size := by
      rcases Nat.lt_or_ge g wr.heap.size with h' | h'
      · exact h'
      · rw [Array.getElem?_eq_none h'] at hg; cases hg
    refine ⟨g, cap, rfl, hb, hlt, fun j p hj => ?_⟩
    have hj' : j < L.length := (List.getElem?_eq_some_iff.1 hj).1
    have e1 : (cur.toList.take (L.length * 1))[j]? = (strs L)[j]? := by rw [ht]
    rw [List.getElem?_take, if_pos (by omega), Array.getElem?_toList, strs, List.getElem?_map, hj] at e1
    simp only [World.cell?, hg, Option.isSome_none, Bool.false_eq_true, if_false, e1, Option.map_some]

theorem cell_keep {w1 w2 : World} {g j : Nat} {v : Value} (h : w1.cell? ⟨g, j, none⟩ = some v) (hg : g < w1.heap.size) (hb : Below w1.heap.size w1 w2) : w2.cell? ⟨g, j, none⟩ = some v := by
  obtain ⟨hc, _⟩ := bcell hb
  rw [hc _ _ hg]; exact h

theorem Split.ne {b : UInt8} {l : List UInt8} {L : List (List UInt8)} (h : Split b l L) : L ≠ [] := by
  obtain ⟨D, p, rfl, _⟩ := h; simp

theorem text_len {l : List UInt8} {net n : Int} (h : IsText l net n) : l.length ≤ 10 := by
  have p := pokB_true h.1
  have a1 : (Lib.decDigits (net / 256).toNat).length ≤ 3 := by rw [Lib.decDigits_length]; exact nDigits_le 2 _ (by omega)
  have a2 : (Lib.decDigits (net % 256).toNat).length ≤ 3 := by rw [Lib.decDigits_length]; exact nDigits_le 2 _ (by omega)
  have a3 : (Lib.decDigits n.toNat).length ≤ 2 := by rw [Lib.decDigits_length]; exact nDigits_le 1 _ (by omega)
  rw [h.2]
  simp [textL]
  omega

/-- What splits as a text does has two sides, and the first has two halves. -/
theorem text_split {l : List UInt8} {net n : Int} (h : IsText l net n) {L : List (List UInt8)} (hS : Split 47 l L) :
    L = [Lib.decDigits (net / 256).toNat ++ 46 :: Lib.decDigits (net % 256).toNat, Lib.decDigits n.toNat] :=
  Split.of_two (no_slash net) (no_sep _ 47 (by decide)) (by have := hS; rw [h.2] at this; exact this)
theorem half_split {net : Int} {L : List (List UInt8)} (hS : Split 46 (Lib.decDigits (net / 256).toNat ++ 46 :: Lib.decDigits (net % 256).toNat) L) :
    L = [Lib.decDigits (net / 256).toNat, Lib.decDigits (net % 256).toNat] :=
  Split.of_two (no_sep _ 46 (by decide)) (no_sep _ 46 (by decide)) hS

set_option maxHeartbeats 1000000 in
theorem sparse_long (l : List UInt8) (w : World) (hs : 12 < l.length) (hb : l.length ≤ 1048576) : Calls Tryd.prog 8 #[.string ⟨l.toArray⟩] w (ParsePost w l) := by
  have t0 : decide ((12 : Int) < (l.length : Int)) = true := decide_eq_true (by omega)
  go_enter Tryd.func8, Tryd.ntmps8
  go_wp2
  refine bodyPost_ret (v := .tuple #[.agg #[.int .i64 0, .int .i64 0], .bool false]) (by simp [results, Tryd.results8, go_sem]) rfl ⟨.inr ⟨fun net n h => ?_, rfl⟩, ?_⟩
  · have := text_len h; omega
  · exact (Below.refl _ _).alloc (Nat.le_refl _) _

theorem cand_of {l p q p1 p2 : List UInt8} {x1 x2 x3 : Int} {ok1 ok2 ok3 : Bool} (hS : Split 47 l [p, q]) (hS2 : Split 46 p [p1, p2])
    (h1 : ∀ u : Nat, u < 1000000000 → p1 = Lib.decDigits u → ok1 = true ∧ x1 = (u : Int)) (h2 : ∀ u : Nat, u < 1000000000 → p2 = Lib.decDigits u → ok2 = true ∧ x2 = (u : Int)) (h3 : ∀ u : Nat, u < 1000000000 → q = Lib.decDigits u → ok3 = true ∧ x3 = (u : Int)) :
    ∀ net n, IsText l net n → (ok1 = true ∧ ok2 = true ∧ ok3 = true) ∧ 0 ≤ x1 ∧ x1 ≤ 255 ∧ 0 ≤ x2 ∧ x2 ≤ 255 ∧ 256 * x1 + x2 = net ∧ x3 = n := by
  intro net n h
  have e := text_split h hS
  simp only [List.cons.injEq, and_true] at e
  obtain ⟨rfl, rfl⟩ := e
  have e2 := half_split hS2
  simp only [List.cons.injEq, and_true] at e2
  obtain ⟨rfl, rfl⟩ := e2
  have p := pokB_true h.1
  obtain ⟨a1, b1⟩ := h1 _ (by omega) rfl
  obtain ⟨a2, b2⟩ := h2 _ (by omega) rfl
  obtain ⟨a3, b3⟩ := h3 _ (by omega) rfl
  refine ⟨⟨a1, a2, a3⟩, ?_⟩
  omega

theorem made_text {l p q p1 p2 : List UInt8} {x1 x2 x3 : Int} (hl : l = p ++ 47 :: q) (hp : p = p1 ++ 46 :: p2) (h1 : p1 = Lib.decDigits x1.toNat) (h2 : p2 = Lib.decDigits x2.toNat) (h3 : q = Lib.decDigits x3.toNat)
    (b : 0 ≤ x2 ∧ x2 ≤ 255) (hk : pokB (256 * x1 + x2) x3 = true) : IsText l (256 * x1 + x2) x3 := by
  refine ⟨hk, ?_⟩
  have e1 : (256 * x1 + x2) / 256 = x1 := by omega
  have e2 : (256 * x1 + x2) % 256 = x2 := by omega
  rw [textL, e1, e2, hl, hp, h1, h2, h3]

theorem list_two {α : Type} {L : List α} (h : L.length = 2) : ∃ a b, L = [a, b] := by
  match L, h with
  | [a, b], _ => exact ⟨a, b, rfl⟩

set_option maxHeartbeats 4000000 in
theorem sparse_short (l : List UInt8) (w : World) (hs : l.length ≤ 12) : Calls Tryd.prog 8 #[.string ⟨l.toArray⟩] w (ParsePost w l) := by
  have t0 : decide ((12 : Int) < (l.length : Int)) = false := decide_eq_false (by omega)
  go_enter Tryd.func8, Tryd.ntmps8
  go_wp2_with fail
  go_at_call 15
  refine (parts_any l 47 _ (by omega)).mono ?_
  rintro e w1 ⟨v, L, rfl, hS, hown, hb1⟩
  obtain ⟨g, cap, rfl, hg0, hg, hc⟩ := own_some hown hS.ne
  have B1 := unbox hb1
  have r1 := box_later hb1
  have HB1 := Lib.hid B1
  have HS := Lib.hid hS
  have HC := Lib.hid hc
  clear B1 hb1 hS hc hown
  by_cases hL : L.length = 2
  · obtain ⟨p, q, rfl⟩ := list_two hL
    have c0 : w1.cell? ⟨g, 0, none⟩ = some (.string ⟨p.toArray⟩) := HC.out 0 p rfl
    have c1 : w1.cell? ⟨g, 1, none⟩ = some (.string ⟨q.toArray⟩) := HC.out 1 q rfl
    have hlp := HS.out.two.1
    have lp : p.length ≤ 12 := by have := congrArg List.length hlp; simp at this; omega
    have lq : q.length ≤ 12 := by have := congrArg List.length hlp; simp at this; omega
    have HL := Lib.hid hlp
    clear hlp
    go_wp2_with fail
    go_at_call 15
    refine (parts_any p 46 _ (by omega)).mono ?_
    rintro e w2 ⟨v, M, rfl, hS2, hown2, hb2⟩
    obtain ⟨g', cap', rfl, hg0', hg', hc'⟩ := own_some hown2 hS2.ne
    have B2 : Below w.heap.size w w2 := HB1.out.trans (hb2.mono HB1.out.size)
    have r2 := res_keep r1 hb2
    have c1' := cell_keep c1 hg hb2
    have hgg : g < w2.heap.size := Nat.lt_of_lt_of_le hg hb2.size
    have HB2 := Lib.hid B2
    have HS2 := Lib.hid hS2
    have HC2 := Lib.hid hc'
    clear B2 hb2 hS2 hc' hown2 r1 c0 c1 hL
    by_cases hM : M.length = 2
    · obtain ⟨p1, p2, rfl⟩ := list_two hM
      have d0 : w2.cell? ⟨g', 0, none⟩ = some (.string ⟨p1.toArray⟩) := HC2.out 0 p1 rfl
      have d1 : w2.cell? ⟨g', 1, none⟩ = some (.string ⟨p2.toArray⟩) := HC2.out 1 p2 rfl
      have hlp2 := HS2.out.two.1
      have lp1 : p1.length ≤ 12 := by have := congrArg List.length hlp2; simp at this; omega
      have lp2 : p2.length ≤ 12 := by have := congrArg List.length hlp2; simp at this; omega
      have HL2 := Lib.hid hlp2
      clear hlp2
      go_wp2_with fail
      go_at_call 16
      refine (read_any p1 _ (by omega)).mono ?_
      rintro e w3 ⟨x1, ok1, rfl, hx1, hy1, hb3⟩
      have B3 : Below w.heap.size w w3 := HB2.out.trans (hb3.mono HB2.out.size)
      have r3 := res_keep r2 hb3
      have c2' := cell_keep c1' hgg hb3
      have d2 := cell_keep d1 hg' hb3
      have hg3 : g < w3.heap.size := Nat.lt_of_lt_of_le hgg hb3.size
      have HB3 := Lib.hid B3
      have HX1 := Lib.hid hx1
      have HY1 := Lib.hid hy1
      clear B3 hb3 hx1 hy1 r2 c1' d0 d1 hM
      go_wp2_with fail
      go_at_call 16
      refine (read_any p2 _ (by omega)).mono ?_
      rintro e w4 ⟨x2, ok2, rfl, hx2, hy2, hb4⟩
      have B4 : Below w.heap.size w w4 := HB3.out.trans (hb4.mono HB3.out.size)
      have r4 := res_keep r3 hb4
      have c3' := cell_keep c2' hg3 hb4
      have HB4 := Lib.hid B4
      have HX2 := Lib.hid hx2
      have HY2 := Lib.hid hy2
      clear B4 hb4 hx2 hy2 r3 c2' d2
      go_wp2_with fail
      go_at_call 16
      refine (read_any q _ (by omega)).mono ?_
      rintro e w5 ⟨x3, ok3, rfl, hx3, hy3, hb5⟩
      have B5 : Below w.heap.size w w5 := HB4.out.trans (hb5.mono HB4.out.size)
      have r5 := res_keep r4 hb5
      have HB5 := Lib.hid B5
      have HX3 := Lib.hid hx3
      have HY3 := Lib.hid hy3
      clear B5 hb5 hx3 hy3 r4 c3'
      have hcand := cand_of HS.out HS2.out HY1.out HY2.out HY3.out
      by_cases hok : ok1 = true ∧ ok2 = true ∧ ok3 = true
      · obtain ⟨rfl, rfl, rfl⟩ := hok
        have HCA := Lib.hid hcand
        clear hcand
        go_wp2_with fail
        go_at_call 17
        refine (in_any x1 _ _ _).mono ?_
        rintro e w' ⟨rfl, rfl⟩
        by_cases h1 : 0 ≤ x1 ∧ x1 ≤ 255
        · rw [inB_true h1.1 h1.2]
          have H1 := Lib.hid h1
          clear h1
          go_wp2_with fail
          go_at_call 17
          refine (in_any x2 _ _ _).mono ?_
          rintro e w' ⟨rfl, rfl⟩
          by_cases h2 : 0 ≤ x2 ∧ x2 ≤ 255
          · rw [inB_true h2.1 h2.2]
            have e1 : wrap64 (256 * x1) = 256 * x1 := w_in (by have := H1.out; omega) (by have := H1.out; omega)
            have e2 : wrap64 (256 * x1 + x2) = 256 * x1 + x2 := w_in (by have := H1.out; omega) (by have := H1.out; omega)
            have H2 := Lib.hid h2
            clear h2
            go_wp2_with fail
            go_at_call 11
            refine (spok_any _ x3 _).mono ?_
            rintro e w6 ⟨rfl, hb6⟩
            have p6 := box_later hb6
            have B6 := unbox hb6
            have r6 := res_keep r5 B6
            have BB6 : Below w.heap.size w w6 := HB5.out.trans (B6.mono HB5.out.size)
            have HB6 := Lib.hid BB6
            clear BB6 B6 hb6 r5
            by_cases hk : pokB (256 * x1 + x2) x3 = true
            · rw [hk]
              have HK := Lib.hid hk
              clear hk
              go_wp2
              refine bodyPost_ret (v := .tuple #[.agg #[.int .i64 (256 * x1 + x2), .int .i64 x3], .bool true]) (by simp [results, Tryd.results8, go_sem, r6]) rfl ⟨.inl ⟨_, _, made_text HL.out HL2.out (HX1.out (by trivial) H1.out.1) (HX2.out (by trivial) H2.out.1) (HX3.out (by trivial) (pokB_true HK.out).1) H2.out HK.out, rfl⟩, ?_⟩
              exact (HB6.out.setCell (by simp) _).setCell (by simp) _
            · have HN := Lib.hid (fun net n h => hk (by obtain ⟨_, _, _, _, _, a, b⟩ := HCA.out net n h; rw [a, b]; exact h.1) : ∀ net n, ¬ IsText l net n)
              have hk' : pokB (256 * x1 + x2) x3 = false := by simpa using hk
              rw [hk']
              clear hk hk'
              go_wp2
              refine bodyPost_ret (v := .tuple #[.agg #[.int .i64 0, .int .i64 0], .bool false]) (by simp [results, Tryd.results8, go_sem, r6]) rfl ⟨.inr ⟨HN.out, rfl⟩, ?_⟩
              exact (HB6.out.setCell (by simp) _).setCell (by simp) _
          · rw [inB_false h2]
            have HN := Lib.hid (fun net n h => h2 ⟨(HCA.out net n h).2.2.2.1, (HCA.out net n h).2.2.2.2.1⟩ : ∀ net n, ¬ IsText l net n)
            clear h2
            go_wp2
            refine bodyPost_ret (v := .tuple #[.agg #[.int .i64 0, .int .i64 0], .bool false]) (by simp [results, Tryd.results8, go_sem, r5]) rfl ⟨.inr ⟨HN.out, rfl⟩, ?_⟩
            exact (HB5.out.setCell (by simp) _).setCell (by simp) _
        · rw [inB_false h1]
          have HN := Lib.hid (fun net n h => h1 ⟨(HCA.out net n h).2.1, (HCA.out net n h).2.2.1⟩ : ∀ net n, ¬ IsText l net n)
          clear h1
          go_wp2
          refine bodyPost_ret (v := .tuple #[.agg #[.int .i64 0, .int .i64 0], .bool false]) (by simp [results, Tryd.results8, go_sem, r5]) rfl ⟨.inr ⟨HN.out, rfl⟩, ?_⟩
          exact (HB5.out.setCell (by simp) _).setCell (by simp) _
      · have HN := Lib.hid (fun net n h => hok (hcand net n h).1 : ∀ net n, ¬ IsText l net n)
        clear hcand
        cases ok1 <;> cases ok2 <;> cases ok3 <;> first
          | (exfalso; exact hok ⟨rfl, rfl, rfl⟩)
          | (clear hok
             go_wp2
             refine bodyPost_ret (v := .tuple #[.agg #[.int .i64 0, .int .i64 0], .bool false]) (by simp [results, Tryd.results8, go_sem, r5]) rfl ⟨.inr ⟨HN.out, rfl⟩, ?_⟩
             exact (HB5.out.setCell (by simp) _).setCell (by simp) _)
    · have t1 : (((M.length : Int)) != 2) = true := by rw [bne_iff_ne]; omega
      go_wp2
      refine bodyPost_ret (v := .tuple #[.agg #[.int .i64 0, .int .i64 0], .bool false]) (by simp [results, Tryd.results8, go_sem, r2]) rfl ⟨.inr ⟨fun net n h => ?_, rfl⟩, ?_⟩
      · have e := text_split h HS.out
        simp only [List.cons.injEq, and_true] at e
        have hs2 := HS2.out
        rw [e.1] at hs2
        exact hM (by rw [half_split hs2]; rfl)
      · exact (HB2.out.setCell (by simp) _).setCell (by simp) _
  · have t1 : (((L.length : Int)) != 2) = true := by rw [bne_iff_ne]; omega
    go_wp2
    refine bodyPost_ret (v := .tuple #[.agg #[.int .i64 0, .int .i64 0], .bool false]) (by simp [results, Tryd.results8, go_sem, r1]) rfl ⟨.inr ⟨fun net n h => ?_, rfl⟩, ?_⟩
    · exact hL (by rw [text_split h HS.out]; rfl)
    · exact (HB1.out.setCell (by simp) _).setCell (by simp) _

theorem sparse_any (l : List UInt8) (w : World) (hs : l.length ≤ 1048576) : Calls Tryd.prog 8 #[.string ⟨l.toArray⟩] w (ParsePost w l) := by
  by_cases h : 12 < l.length
  · exact sparse_long l w h hs
  · exact sparse_short l w (by omega)

end Go.Proofs.YtegffibamkaeiaaDoor
