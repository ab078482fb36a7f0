/- FnRoutes: a route is put, and dropped again. -/
import Derived.Test.YtgdnfglhlpnooaaDk
import Derived.Test.YtgdnfglhlpnooaaDd
import Derived.Test.YtgdnfglhlpnooaaBl
import Derived.Test.YtgdnfglhlpnooaaQl
import Derived.Test.YtgdnfglhlpnooaaPg
import Derived.Test.YtgdnfglhlpnooaaPi
import Derived.Test.YtgdnfglhlpnooaaPj
import Derived.Test.YtgdnfglhlpnooaaSp
import Derived.Deep.DeepCutAuto
namespace Go.Proofs.Ytgdnfglhlpnooaa
open Go.RowKit

def TabIn (wr : World) (v : Value) (L : List Rt) : Prop := ∃ lo hi, Row 3 wr lo hi v L.length (flat L) ∧ hi ≤ wr.heap.size
theorem TabIn.below {w w' : World} {v : Value} {L : List Rt} (h : TabIn w v L) (b : Below w.heap.size w w') : TabIn w' v L := by
  obtain ⟨lo, hi, hr, hh⟩ := h
  exact ⟨lo, hi, hr.below b hh, Nat.le_trans hh b.size⟩
/-- A table in a box. -/
structure BxT (X : Nat) (v : Value) (L : List Rt) (wr : World) : Prop where
  lt : X < wr.heap.size
  c0 : wr.cell? ⟨X, 0, none⟩ = some v
  tab : TabIn wr v L
theorem BxT.below {w w' : World} {X : Nat} {v : Value} {L : List Rt} (h : BxT X v L w) (b : Below w.heap.size w w') : BxT X v L w' :=
  ⟨Nat.lt_of_lt_of_le h.lt b.size, by rw [b.cell (p := ⟨X, 0, none⟩) h.lt]; exact h.c0, h.tab.below b⟩
theorem BxT.new {w : World} {v : Value} {L : List Rt} {T : TypeId} (h : TabIn w v L) : BxT w.heap.size v L (w.alloc (.cells #[v] T)) :=
  ⟨by simp, by simp, h.below ((Below.refl _ _).alloc (Nat.le_refl _) _)⟩
/-- What stands throughout the law: the table, the route, the bytes. -/
structure AK (w : World) (a : Option Addr) (n X : Nat) (t : Value) (L : List Rt) (p q z : Int) (wr : World) : Prop where
  fr : Below w.heap.size w wr
  tb : BxT X t L wr
  lt : X + 1 < wr.heap.size
  y0 : wr.cell? ⟨X + 1, 0, none⟩ = some (.int .i64 p)
  y1 : wr.cell? ⟨X + 1, 1, none⟩ = some (.int .i64 q)
  y2 : wr.cell? ⟨X + 1, 2, none⟩ = some (.int .i64 z)
  bt : BytesAt wr a n
theorem AK.below {w wr w2 : World} {a : Option Addr} {n X : Nat} {t : Value} {L : List Rt} {p q z : Int} (h : AK w a n X t L p q z wr) (b : Below wr.heap.size wr w2) : AK w a n X t L p q z w2 :=
  ⟨h.fr.trans (b.mono h.fr.size), h.tb.below b, Nat.lt_of_lt_of_le h.lt b.size, by rw [b.cell (p := ⟨X + 1, 0, none⟩) h.lt]; exact h.y0, by rw [b.cell (p := ⟨X + 1, 1, none⟩) h.lt]; exact h.y1, by rw [b.cell (p := ⟨X + 1, 2, none⟩) h.lt]; exact h.y2, h.bt.below b⟩
theorem rt_vals {w : World} {lo hi n g c i : Nat} {L : List Rt} {r : Rt} (hr : Row 3 w lo hi (.slice (some ⟨g, 0, none⟩) n c) n (flat L)) (hn : 0 < n) (hi' : L[i]? = some r) : w.cell? ⟨g, i * 3, none⟩ = some (.int .i64 r.1) ∧ w.cell? ⟨g, i * 3 + 1, none⟩ = some (.int .i64 r.2.1) ∧ w.cell? ⟨g, i * 3 + 2, none⟩ = some (.int .i64 r.2.2) := by
  obtain ⟨r0, r1, r2⟩ := flat_at L i r hi'
  rcases hr.2 with ⟨e1, _⟩ | ⟨g', c', e1, _, _, _, hg, _⟩
  · omega
  · cases e1
    exact ⟨hg _ _ r0, hg _ _ r1, hg _ _ r2⟩
def frB (L : List Rt) (p q : Int) : Bool := L.all fun r => !(decide (r.1 = p) && decide (r.2.1 = q))
theorem frB_step {L : List Rt} {p q : Int} {k : Nat} {r : Rt} (h : L[k]? = some r) : frB (L.take (k + 1)) p q = (frB (L.take k) p q && !(decide (r.1 = p) && decide (r.2.1 = q))) := by
  unfold frB
  rw [List.take_add_one, h, List.all_append]
  simp
theorem frB_end {L : List Rt} {p q : Int} (ht : tok L = true) : frB L p q = !fndB L p q := by
  cases h : fndB L p q with
  | false =>
    have := (fresh_iff (tok_srt ht)).1 h
    unfold frB
    simp only [Bool.not_false]
    rw [List.all_eq_true]
    intro r hr
    have h2 := this r hr
    simp only [Bool.not_eq_true', Bool.and_eq_false_iff, decide_eq_false_iff_not]
    by_cases h3 : r.1 = p
    · exact .inr fun h4 => h2 ⟨h3, h4⟩
    · exact .inl h3
  | true =>
    simp only [Bool.not_true]
    cases h2 : frB L p q with
    | false => rfl
    | true =>
      have h3 : fndB L p q = false := (fresh_iff (tok_srt ht)).2 fun r hr h4 => by
        unfold frB at h2
        rw [List.all_eq_true] at h2
        have := h2 r hr
        rw [decide_eq_true h4.1, decide_eq_true h4.2] at this
        cases this
      rw [h] at h3; cases h3
/-- What the law wants to be looked up behind the change. -/
theorem want_put {L : List Rt} {p q z a : Int} (ht : tok L = true) (hu : tok (insR L (p, q, z)) = true) (ha : inB a 0 65535 = true) :
    hopO (bestO (insR L (p, q, z)) a) = if hasB p q a = true ∧ (bestO L a = none ∨ (optR (bestO L a)).2.1 ≤ q) then z else hopO (bestO L a) := by
  have hp : pokB p q = true := tok_pok hu (p, q, z) (insR_self L (p, q, z))
  have e : hasB p q a = hasR (p, q, z) a := by unfold hasB hasR; rw [hp, Bool.true_and]
  rw [e]
  exact look_put ht hu ha

set_option maxRecDepth 100000 in
set_option maxHeartbeats 4000000 in
theorem fnroutes_any (a : Option Addr) (n cp : Nat) (w : World) (hb : n ≤ 1099511627776 → BytesAt w a n) (hold : ∀ p : Addr, a = some p → p.block < w.heap.size) : Calls Try.prog 5 #[.slice a n cp] w fun e w' => e = .returned (.bool true) ∧ Below w.heap.size w w' := by
  have HO := Lib.hid hold
  have HB := Lib.hid hb
  clear hb hold
  go_enter Try.func5, Try.ntmps5
  go_wp2_with fail
  go_at_call 22
  refine (big_any a n cp _).mono ?_
  rintro e w' ⟨rfl, rfl⟩
  by_cases hbig : (n : Int) > 1048576
  · rw [decide_eq_true hbig]
    go_wp2_with fail
    go_ret
    exact ⟨rfl, Below.refl _ _⟩
  rw [decide_eq_false hbig]
  have hn : n ≤ 1048576 := by omega
  go_wp2_with fail
  go_at_call 23
  refine (drput_any a n cp _ (HB.out (by omega)) HO.out).mono ?_
  rintro e w1 ⟨rv, L, p, q, z, rfl, hL, hr, hb1⟩
  obtain ⟨ra, rc, rfl⟩ := hr.slice
  obtain ⟨w2, hw2⟩ : ∃ qq, qq = (w1.alloc (.cells #[.slice ra L.length rc] 30)).alloc (.cells #[.int .i64 p, .int .i64 q, .int .i64 z] 43) := ⟨_, rfl⟩
  obtain ⟨X, hX⟩ : ∃ X, X = w1.heap.size := ⟨_, rfl⟩
  have HA2 : Hid (AK w a n X (.slice ra L.length rc) L p q z w2) := by
    have hb2 : Below w1.heap.size w1 w2 := by rw [hw2]; go_grown
    have s2 : w2.heap.size = w1.heap.size + 1 + 1 := by rw [hw2]; simp
    exact ⟨hb1.trans (hb2.mono hb1.size), ⟨by omega, by rw [hw2, hX]; simp, TabIn.below (w := w1) ⟨_, _, hr, Nat.le_refl _⟩ hb2⟩, by omega, by rw [hw2, hX]; simp, by rw [hw2, hX]; simp, by rw [hw2, hX]; simp, ((HB.out (by omega)).below hb1).below hb2⟩
  go_upto_region 4 with fail
  rw [← hw2, ← hX]
  clear hw2 hX hr hb1 HB
  have t0 := HA2.out.tb.c0
  have y0 := HA2.out.y0
  have y1 := HA2.out.y1
  have y2 := HA2.out.y2
  go_wp2_with fail
  go_at_call 19
  obtain ⟨lo, hi, hr, hh⟩ := HA2.out.tb.tab
  refine (sput_any lo hi _ _ L p q z _ rfl hr hh).mono ?_
  rintro e w3 ⟨rv2, rfl, hr2, hb3⟩
  obtain ⟨ra2, rc2, rfl⟩ := hr2.slice
  clear hr2 hr
  have HA3 : Hid (AK w a n X (.slice ra L.length rc) L p q z w3) := Lib.hid (HA2.out.below hb3)
  clear hb3 HA2 t0 y0 y1 y2
  obtain ⟨w4, hw4⟩ : ∃ qq, qq = w3.alloc (.cells #[.slice ra2 (putL L (p, q, z)).length rc2] 30) := ⟨_, rfl⟩
  have HA4 : Hid (AK w a n X (.slice ra L.length rc) L p q z w4) := Lib.hid (HA3.out.below (by rw [hw4]; go_grown))
  go_upto_region 5 with fail
  rw [← hw4]
  clear hw4 HA3
  cases hput : putB L (p, q, z) with
  | false =>
    go_wp2_with fail
    go_ret
    exact ⟨rfl, HA4.out.fr⟩
  | true =>
  have htk : tok L = true ∧ tok (insR L (p, q, z)) = true := by
    unfold putB at hput
    exact Bool.and_eq_true_iff.1 hput
  obtain ⟨M, hM⟩ : ∃ M, M = insR L (p, q, z) := ⟨_, rfl⟩
  have hpl : putL L (p, q, z) = M := by rw [hM]; exact (put_yes htk.1 htk.2).1
  have HM := Lib.hid hM
  have HTK := Lib.hid htk
  clear hM htk
  have t0 := HA4.out.tb.c0
  have y0 := HA4.out.y0
  have y1 := HA4.out.y1
  have y2 := HA4.out.y2
  go_wp2_with fail
  go_at_call 21
  obtain ⟨lo, hi, hr, hh⟩ := HA4.out.tb.tab
  refine (iput_any lo hi _ _ L p q z _ rfl hr hh).mono ?_
  rintro e w5 ⟨rv5, rfl, hr5, hb5⟩
  rw [hpl] at hr5
  rw [hput]
  obtain ⟨ua, uc, rfl⟩ := hr5.slice
  have HT5 : Hid (TabIn w5 (.slice ua M.length uc) M) := Lib.hid ⟨_, _, hr5, Nat.le_refl _⟩
  have HA5 : Hid (AK w a n X (.slice ra L.length rc) L p q z w5) := Lib.hid (HA4.out.below hb5)
  clear hr5 hr hb5 HA4 t0 y0 y1 y2 hpl hput
  obtain ⟨w6, hw6⟩ : ∃ qq, qq = w5.alloc (.cells #[.slice ua M.length uc] 30) := ⟨_, rfl⟩
  have HA6 : Hid (AK w a n X (.slice ra L.length rc) L p q z w6) := Lib.hid (HA5.out.below (by rw [hw6]; go_grown))
  obtain ⟨U, hU⟩ : ∃ U, U = w5.heap.size := ⟨_, rfl⟩
  have HU6 : Hid (BxT U (.slice ua M.length uc) M w6) := by rw [hU, hw6]; exact BxT.new HT5.out
  go_upto_region 8 with fail
  rw [← hw6, ← hU]
  clear hw6 hU HA5 HT5
  have hl0 : L.length ≤ 201 := hL
  go_wp2_with fail
  go_loopw [9, 10] (fun f iv wr => ∃ k : Nat, k ≤ L.length ∧ iv = .int .i64 (k : Int) ∧ f = .bool (frB (L.take k) p q) ∧ Hid (AK w a n X (.slice ra L.length rc) L p q z wr) ∧ Hid (BxT U (.slice ua M.length uc) M wr)) (fun _ iv _ => L.length - (intOf iv).toNat)
  case atStart => exact ⟨0, Nat.zero_le _, rfl, rfl, HA6, HU6⟩
  case round =>
  obtain ⟨k, hk, rfl, rfl, HA, HU⟩ := hrel
  clear HA6 HU6
  have t0 := HA.out.tb.c0
  have y0 := HA.out.y0
  have y1 := HA.out.y1
  have y2 := HA.out.y2
  by_cases hlt : k < L.length
  · have d1 : decide ((k : Int) < (L.length : Int)) = true := decide_eq_true (by omega)
    have hn0 : 0 < L.length := by omega
    obtain ⟨lo, hi, hr, hh⟩ := HA.out.tb.tab
    obtain ⟨g, c, hv, _, _, _⟩ := rt_some rfl hr hn0
    cases hv
    obtain ⟨r, hrk⟩ : ∃ r, L[k]? = some r := ⟨_, List.getElem?_eq_getElem hlt⟩
    obtain ⟨x0, x1, x2⟩ := r
    obtain ⟨c0, c1, c2⟩ := rt_vals hr hn0 hrk
    have hs := frB_step (p := p) (q := q) hrk
    have ek : IntKind.i64.wrap ((k : Int) + 1) = (k : Int) + 1 := IntWalk.i64_in _ (by omega)
    have HAd : Hid (AK w a n X (.slice (some ⟨g, 0, none⟩) L.length rc) L p q z wr.drew) := Lib.hid (HA.out.below (Below.refl _ _).drew)
    have HUd : Hid (BxT U (.slice ua M.length uc) M wr.drew) := Lib.hid (HU.out.below (Below.refl _ _).drew)
    clear hr hh
    have hcl : k + 1 ≤ L.length := hlt
    by_cases h0 : x0 = p
    · by_cases h1 : x1 = q
      · rw [decide_eq_true h0, decide_eq_true h1, Bool.true_and, Bool.not_true, Bool.and_false] at hs
        go_wp2_with fail
        go_region
        go_wp2_with fail
        go_roundw
        case rel => exact ⟨k + 1, hcl, by go_num, by rw [hs], HAd, HUd⟩
        case measure => simp [intOf]; omega
      · rw [decide_eq_false h1, Bool.and_false, Bool.not_false, Bool.and_true] at hs
        go_wp2_with fail
        go_region
        go_wp2_with fail
        go_roundw
        case rel => exact ⟨k + 1, hcl, by go_num, by rw [hs], HAd, HUd⟩
        case measure => simp [intOf]; omega
    · rw [decide_eq_false h0, Bool.false_and, Bool.not_false, Bool.and_true] at hs
      go_wp2_with fail
      go_region
      go_wp2_with fail
      go_roundw
      case rel => exact ⟨k + 1, hcl, by go_num, by rw [hs], HAd, HUd⟩
      case measure => simp [intOf]; omega
  · have d1 : decide ((k : Int) < (L.length : Int)) = false := decide_eq_false (by omega)
    obtain rfl : k = L.length := by omega
    rw [List.take_length, frB_end HTK.out.1]
    obtain ⟨fB, hfB⟩ : ∃ b, b = !fndB L p q := ⟨_, rfl⟩
    rw [← hfB]
    have u0 := HU.out.c0
    have hd := drop_put (L := L) (r := (p, q, z)) HTK.out.2
    rw [← HM.out] at hd
    obtain ⟨D, hD⟩ : ∃ D, D = drpL M p q := ⟨_, rfl⟩
    have hDL : fB = true → D = L := fun h => by
      rw [hD]
      exact hd.2 (by rw [h] at hfB; cases hf : fndB L p q with | false => rfl | true => rw [hf] at hfB; cases hfB)
    have HDL := Lib.hid hDL
    have HD := Lib.hid hD
    clear hDL hfB hD
    go_wp2_with fail
    go_at_call 15
    obtain ⟨lo, hi, hr, hh⟩ := HU.out.tab
    refine (idrop_any lo hi _ _ M p q _ rfl hr hh).mono ?_
    rintro e w7 ⟨rv7, rfl, hr7, hb7⟩
    rw [← HD.out] at hr7
    rw [show drpB M p q = true from hd.1]
    obtain ⟨va, vc, rfl⟩ := hr7.slice
    have HT7 : Hid (TabIn w7 (.slice va D.length vc) D) := Lib.hid ⟨_, _, hr7, Nat.le_refl _⟩
    have HA7 : Hid (AK w a n X (.slice ra L.length rc) L p q z w7) := Lib.hid (HA.out.below hb7)
    have HU7 : Hid (BxT U (.slice ua M.length uc) M w7) := Lib.hid (HU.out.below hb7)
    clear hr7 hr hb7 HA HU t0 y0 y1 y2 u0 hd d1
    obtain ⟨w8, hw8⟩ : ∃ qq, qq = w7.alloc (.cells #[.slice va D.length vc] 30) := ⟨_, rfl⟩
    have hb8 : Below w7.heap.size w7 w8 := by rw [hw8]; go_grown
    have HA8 : Hid (AK w a n X (.slice ra L.length rc) L p q z w8) := Lib.hid (HA7.out.below hb8)
    have HU8 : Hid (BxT U (.slice ua M.length uc) M w8) := Lib.hid (HU7.out.below hb8)
    obtain ⟨V, hV⟩ : ∃ V, V = w7.heap.size := ⟨_, rfl⟩
    have HV8 : Hid (BxT V (.slice va D.length vc) D w8) := by rw [hV, hw8]; exact BxT.new HT7.out
    go_upto_region 17 with fail
    rw [← hw8, ← hV]
    clear hw8 hV HA7 HU7 HT7 hb8
    have t0 := HA8.out.tb.c0
    have v0 := HV8.out.c0
    go_cut [78] (fun s wx => s = .bool false ∧ wx = w8)
    case first =>
      cases fB with
      | false =>
        go_wp2_with fail
        go_meet
        exact ⟨rfl, rfl⟩
      | true =>
        have e : D = L := HDL.out rfl
        have e' : D.length = L.length := by rw [e]
        go_wp2_with fail
        go_meet
        exact ⟨by simp, rfl⟩
    case rest =>
    obtain ⟨rfl, rfl⟩ := hcut
    clear t0 v0
    have hp : pokB p q = true := tok_pok HTK.out.2 (p, q, z) (insR_self L (p, q, z))
    obtain ⟨_, _, hp0, hp1, _⟩ := pokB_true hp
    clear hp
    go_wp2_with fail
    go_loopw [13] (fun iv wr => ∃ k : Nat, k ≤ 40 ∧ iv = .int .i64 (k : Int) ∧ Hid (AK w a n X (.slice ra L.length rc) L p q z wr) ∧ Hid (BxT U (.slice ua M.length uc) M wr) ∧ Hid (BxT V (.slice va D.length vc) D wr)) (fun iv _ => 40 - (intOf iv).toNat)
    case atStart => exact ⟨0, by omega, rfl, by first | exact HA8 | assumption, by assumption, by assumption⟩
    case round =>
    obtain ⟨k, hk, rfl, HA, HU, HV⟩ := hrel
    by_cases hlt : k < 40
    · have d1 : decide ((k : Int) < 40) = true := decide_eq_true (by omega)
      obtain ⟨k2, hk2⟩ : ∃ k2 : Nat, k2 = k + 2 := ⟨_, rfl⟩
      have e0 : IntKind.i64.wrap ((k : Int) + 2) = (k2 : Int) := by rw [hk2, IntWalk.i64_in _ (by omega)]; omega
      have hk3 : k2 ≤ 1000 := by omega
      clear hk2
      have y0 := HA.out.y0
      go_upto_region 22 with fail
      go_cut [14] (fun s wx => ∃ A : Int, s = .int .i64 A ∧ 0 ≤ A ∧ A ≤ 65535 ∧ Hid (AK w a n X (.slice ra L.length rc) L p q z wx) ∧ Hid (BxT U (.slice ua M.length uc) M wx) ∧ Hid (BxT V (.slice va D.length vc) D wx))
      case first =>
        have HAd : Hid (AK w a n X (.slice ra L.length rc) L p q z wr.drew) := Lib.hid (HA.out.below (Below.refl _ _).drew)
        have HUd : Hid (BxT U (.slice ua M.length uc) M wr.drew) := Lib.hid (HU.out.below (Below.refl _ _).drew)
        have HVd : Hid (BxT V (.slice va D.length vc) D wr.drew) := Lib.hid (HV.out.below (Below.refl _ _).drew)
        have hmark : Hid True := Lib.hid trivial
        go_wp2_with fail
        go_region_law (
          go_simp
          first
          | (
              clear hmark
              go_at_call 24
              refine (at_any a n cp _ _ (by exact HAd.out.bt) hn (by omega)).mono ?_
              rintro e wq ⟨⟨x, rfl, x0, x1⟩, rfl⟩
            )
          | (
              go_at_call 24
              refine (at_any a n cp _ _ (by exact HAd.out.bt) hn (by omega)).mono ?_
              rintro e wq ⟨⟨y, rfl, yy0, yy1⟩, rfl⟩
              have hm0 : 0 ≤ x * y := Int.mul_nonneg x0 yy0
              have hm1 : x * y ≤ 255 * 255 := Int.le_trans (Int.mul_le_mul_of_nonneg_right x1 yy0) (Int.mul_le_mul_of_nonneg_left yy1 (by omega))
              have e1 : IntKind.i64.wrap (x * y) = x * y := IntWalk.i64_in _ (by omega)
              have e2 : IntKind.i64.wrap (p + x * y) = p + x * y := IntWalk.i64_in _ (by omega)
              have e3 : IntKind.i64.wrap (p + x * y - 40) = p + x * y - 40 := IntWalk.i64_in _ (by omega)
              have e4 : IntKind.i64.wrap (p + x * y - 40 + 65536) = p + x * y - 40 + 65536 := IntWalk.i64_in _ (by omega)
            )
          )
        all_goals
          go_wp2_with fail
          go_meet
          exact ⟨_, rfl, Int.tmod_nonneg _ (by omega), Int.le_of_lt_add_one (Int.tmod_lt_of_pos _ (by omega)), HAd, HUd, HVd⟩
      case rest =>
        obtain ⟨A, rfl, hA0, hA1, HA1, HU1, HV1⟩ := hcut
        obtain ⟨w9, rfl⟩ : ∃ x, x = wc := ⟨_, rfl⟩
        clear HA HU HV y0 e0
        have hwant := want_put HTK.out.1 HTK.out.2 (inB_true hA0 hA1)
        rw [← HM.out] at hwant
        obtain ⟨ov, hov⟩ : ∃ o, o = hopO (bestO L A) := ⟨_, rfl⟩
        obtain ⟨nv, hnv⟩ : ∃ o, o = hopO (bestO M A) := ⟨_, rfl⟩
        obtain ⟨hb, hhb⟩ : ∃ o, o = hasB p q A := ⟨_, rfl⟩
        obtain ⟨oo, hoo⟩ : ∃ o, o = bestO L A := ⟨_, rfl⟩
        obtain ⟨rr, hrr⟩ : ∃ o, o = optR oo := ⟨_, rfl⟩
        obtain ⟨fo, hfo⟩ : ∃ o, o = oo.isSome := ⟨_, rfl⟩
        obtain ⟨o0, o1, o2⟩ := rr
        have hon : oo = none ↔ fo = false := by rw [hfo]; cases oo <;> simp
        rw [← hnv, ← hov, ← hhb, ← hoo, ← hrr] at hwant
        simp only [hon] at hwant
        have HW : Hid (nv = if hb = true ∧ (fo = false ∨ o1 ≤ q) then z else ov) := Lib.hid hwant
        have HH := Lib.hid (And.intro hov (And.intro hnv (And.intro hhb (And.intro hoo (And.intro hrr hfo)))))
        clear hwant hov hnv hhb hoo hrr hfo hon
        have t0 := HA1.out.tb.c0
        go_wp2_with fail
        go_at_call 25
        obtain ⟨lo, hi, hr, hh⟩ := HA1.out.tb.tab
        have h25 := shop_any lo hi _ _ L A w9 rfl hr hh
        rw [← HH.out.1] at h25
        refine h25.mono ?_
        rintro e w10 ⟨rfl, hb10⟩
        clear hr h25 t0
        have HA2 : Hid (AK w a n X (.slice ra L.length rc) L p q z w10) := Lib.hid (HA1.out.below hb10)
        have HU2 : Hid (BxT U (.slice ua M.length uc) M w10) := Lib.hid (HU1.out.below hb10)
        have HV2 : Hid (BxT V (.slice va D.length vc) D w10) := Lib.hid (HV1.out.below hb10)
        clear hb10 HA1 HU1 HV1
        have t0 := HA2.out.tb.c0
        go_wp2_with fail
        go_at_call 26
        obtain ⟨lo, hi, hr, hh⟩ := HA2.out.tb.tab
        have h26 := sbest_any lo hi _ _ L A w10 rfl hr hh
        rw [← HH.out.2.2.2.1, ← HH.out.2.2.2.2.1, ← HH.out.2.2.2.2.2] at h26
        simp only [r3] at h26
        refine h26.mono ?_
        rintro e w11 ⟨rfl, hb11⟩
        clear hr h26 t0
        obtain ⟨w12, hw12⟩ : ∃ qq, qq = w11.alloc (.cells #[.int .i64 o0, .int .i64 o1, .int .i64 o2] 43) := ⟨_, rfl⟩
        obtain ⟨B, hB⟩ : ∃ B, B = w11.heap.size := ⟨_, rfl⟩
        have hb12 : Below w11.heap.size w11 w12 := by rw [hw12]; go_grown
        have b1 : w12.cell? ⟨B, 1, none⟩ = some (.int .i64 o1) := by rw [hB, hw12]; simp
        have hBl : B < w12.heap.size := by rw [hB, hw12]; simp
        have HA3 : Hid (AK w a n X (.slice ra L.length rc) L p q z w12) := Lib.hid ((HA2.out.below hb11).below hb12)
        have HU3 : Hid (BxT U (.slice ua M.length uc) M w12) := Lib.hid ((HU2.out.below hb11).below hb12)
        have HV3 : Hid (BxT V (.slice va D.length vc) D w12) := Lib.hid ((HV2.out.below hb11).below hb12)
        go_upto_region 25 with fail
        rw [← hw12, ← hB]
        clear hb11 hb12 hw12 hB HA2 HU2 HV2
        go_upto_region 26 with fail
        go_cut [124] (fun s wx => s = .bool (decide (hb = true ∧ (fo = false ∨ o1 ≤ q))) ∧ Hid (AK w a n X (.slice ra L.length rc) L p q z wx) ∧ Hid (BxT U (.slice ua M.length uc) M wx) ∧ Hid (BxT V (.slice va D.length vc) D wx))
        case first =>
          have y0 := HA3.out.y0
          have y1 := HA3.out.y1
          go_wp2_with fail
          go_at_call 27
          have h27 := sphas_any p q A w12
          rw [← HH.out.2.2.1] at h27
          refine h27.mono ?_
          rintro e w13 ⟨rfl, hb13⟩
          have HA4 : Hid (AK w a n X (.slice ra L.length rc) L p q z w13) := Lib.hid (HA3.out.below hb13)
          have HU4 : Hid (BxT U (.slice ua M.length uc) M w13) := Lib.hid (HU3.out.below hb13)
          have HV4 : Hid (BxT V (.slice va D.length vc) D w13) := Lib.hid (HV3.out.below hb13)
          have b2 : w13.cell? ⟨B, 1, none⟩ = some (.int .i64 o1) := by rw [hb13.cell (p := ⟨B, 1, none⟩) hBl]; exact b1
          have y3 := HA4.out.y1
          clear hb13 HA3 HU3 HV3 y0 y1 b1 h27
          cases hb with
          | false =>
            go_wp2_with fail
            go_meet
            exact ⟨by simp, HA4, HU4, HV4⟩
          | true =>
            cases fo with
            | false =>
              go_wp2_with fail
              go_meet
              exact ⟨by simp, HA4, HU4, HV4⟩
            | true =>
              by_cases hq : o1 ≤ q
              · have dq : decide (o1 ≤ q) = true := decide_eq_true hq
                go_wp2_with fail
                go_meet
                exact ⟨by simp [hq], HA4, HU4, HV4⟩
              · have dq : decide (o1 ≤ q) = false := decide_eq_false hq
                go_wp2_with fail
                go_meet
                exact ⟨by simp [hq], HA4, HU4, HV4⟩
        case rest =>
        obtain ⟨rfl, HA4, HU4, HV4⟩ := hcut
        obtain ⟨w13, rfl⟩ : ∃ x, x = wc := ⟨_, rfl⟩
        clear HA3 HU3 HV3 b1 hBl
        obtain ⟨cB, hcB⟩ : ∃ b, b = decide (hb = true ∧ (fo = false ∨ o1 ≤ q)) := ⟨_, rfl⟩
        rw [← hcB]
        have HC : Hid (nv = if cB = true then z else ov) := by rw [hcB]; refine Lib.hid (HW.out.trans ?_); by_cases h : hb = true ∧ (fo = false ∨ o1 ≤ q) <;> simp [h]
        clear hcB HW
        go_upto_if 124 with fail
        go_cut [18] (fun s wx => s = .int .i64 nv ∧ wx = w13)
        case first =>
          have y2 := HA4.out.y2
          cases cB with
          | false =>
            go_wp2_with fail
            go_meet
            exact ⟨by rw [show nv = ov from by have h := HC.out; simpa using h], rfl⟩
          | true =>
            go_wp2_with fail
            go_meet
            exact ⟨by rw [show nv = z from by have h := HC.out; simpa using h], rfl⟩
        case rest =>
        obtain ⟨rfl, rfl⟩ := hcut
        have u0 := HU4.out.c0
        go_wp2_with fail
        go_at_call 28
        obtain ⟨lo, hi, hr, hh⟩ := HU4.out.tab
        have h28 := ihop_any lo hi _ _ M A _ rfl hr hh
        rw [← HH.out.2.1] at h28
        refine h28.mono ?_
        rintro e w14 ⟨rfl, hb14⟩
        clear hr h28 u0
        have HA5 : Hid (AK w a n X (.slice ra L.length rc) L p q z w14) := Lib.hid (HA4.out.below hb14)
        have HU5 : Hid (BxT U (.slice ua M.length uc) M w14) := Lib.hid (HU4.out.below hb14)
        have HV5 : Hid (BxT V (.slice va D.length vc) D w14) := Lib.hid (HV4.out.below hb14)
        clear hb14 HA4 HU4 HV4
        have ek : IntKind.i64.wrap ((k : Int) + 1) = (k : Int) + 1 := IntWalk.i64_in _ (by omega)
        cases fB with
        | false =>
          go_wp2_with fail
          go_roundw
          case rel => exact ⟨k + 1, by omega, by go_num, HA5, HU5, HV5⟩
          case measure => simp [intOf]; omega
        | true =>
          have v0 := HV5.out.c0
          go_wp2_with fail
          go_at_call 28
          obtain ⟨lo, hi, hr, hh⟩ := HV5.out.tab
          have h28 := ihop_any lo hi _ _ D A w14 rfl hr hh
          rw [show bestO D A = bestO L A from by rw [HDL.out (by first | rfl | trivial)], ← HH.out.1] at h28
          refine h28.mono ?_
          rintro e w15 ⟨rfl, hb15⟩
          clear hr h28 v0
          have HA6 : Hid (AK w a n X (.slice ra L.length rc) L p q z w15) := Lib.hid (HA5.out.below hb15)
          have HU6 : Hid (BxT U (.slice ua M.length uc) M w15) := Lib.hid (HU5.out.below hb15)
          have HV6 : Hid (BxT V (.slice va D.length vc) D w15) := Lib.hid (HV5.out.below hb15)
          clear hb15 HA5 HU5 HV5
          go_wp2_with fail
          go_roundw
          case rel => exact ⟨k + 1, by omega, by go_num, HA6, HU6, HV6⟩
          case measure => simp [intOf]; omega
    · have d1 : decide ((k : Int) < 40) = false := decide_eq_false (by omega)
      go_wp2_with fail
      go_ret
      exact ⟨rfl, HA.out.fr⟩

end Go.Proofs.Ytgdnfglhlpnooaa
