/- Copies of databases by the specification. -/
import Derived.Test.YtfpafjdakipccaaGk
import Derived.Test.YtfpafjdakipccaaMo
import Derived.Test.YtfpafjdakipccaaZ2
namespace Go.Proofs.Ytfpafjdakipccaa
open Go.RowKit
theorem LRow.drew {w : World} {lo hi n m : Nat} {u v : Value} {Y Z : List Int} (h : LRow w lo hi u v n m Y Z) : LRow w.drew lo hi u v n m Y Z := h
theorem undrew {w w' : World} (h : Below w.drew.heap.size w.drew w') : Below w.heap.size w w' := ⟨h.os, h.tape, h.output, h.size, fun k hk => h.block k hk⟩
set_option maxRecDepth 100000 in
set_option maxHeartbeats 8000000 in
theorem sdcopy_any (D : List Ls) (lo hi : Nat) (v : Value) (w : World) (hr : DRow w lo hi v D) (hh : hi <= w.heap.size) (hd : dtot D <= 1048576) :
    Calls Try.prog 69 #[.agg #[v]] w fun e w' => ∃ rv, e = .returned (.agg #[rv]) /\ DRow w' w.heap.size w'.heap.size rv D /\ Below w.heap.size w w' := by
  rw [dtot_eq] at hd
  obtain ⟨a, c, us, xs, bs, rfl, X⟩ := hr
  obtain ⟨n, hn⟩ : ∃ n, n = D.length := ⟨_, rfl⟩
  rw [<- hn] at hd ⊢
  have hm : n <= 1048576 := by omega
  have HN := Lib.hid hn
  have HX := Lib.hid X
  have HD := Lib.hid hd
  obtain ⟨iL, hi0, hz0, hz1, hz2⟩ := info_parts Try.info33
  have IL := Lib.hid (And.intro hi0 (And.intro hz0 (And.intro hz1 hz2)))
  clear hi0 hz0 hz1 hz2
  clear X hn hd
  go_enter Try.func69, Try.ntmps69
  go_wp2
  obtain ⟨q, hq⟩ : ∃ q, q = ((w.alloc (.cells #[.slice a n c] 26)).alloc (.cells #[.slice none 0 0] 26)).alloc (.cells #[.slice none 0 0] 26) := ⟨_, rfl⟩
  have qb : Below w.heap.size w q := by rw [hq]; go_grown
  have qz : w.heap.size + 3 <= q.heap.size := by rw [hq]; simp
  have qc : q.cell? ⟨w.heap.size, 0, none⟩ = some (.slice a n c) := by rw [hq, old_box (by simp <;> omega), old_box (by simp), new_at rfl]; rfl
  have qr : q.cell? ⟨w.heap.size + 1, 0, none⟩ = some (.slice none 0 0) := by rw [hq, old_box (by simp), new_at (by simp)]; rfl
  have qf : q.frozen? ⟨w.heap.size + 1, 0, none⟩ = false := by rw [hq, old_frz (by simp), new_frz (by simp)]
  have qo : Hid (OutE q q (w.heap.size + 2) (.slice none 0 0) []) := Lib.hid (OutE.start (by omega) (by rw [hq, new_frz (by simp)]) (by rw [hq, new_at (by simp)]; rfl))
  have HQ := Lib.hid (And.intro qb (And.intro qz (And.intro qc (And.intro qr qf))))
  rw [<- hq]
  clear hq qr qf
  go_loopw [4] (fun i wr => ∃ (k : Nat) (rv : Value) (E : List Ent), k <= n /\ i = .int .i64 (k : Int) /\ Hid (OutE q wr (w.heap.size + 2) rv E) /\ Hid (E.map (·.l) = D.take k)) (fun i _ => n - (intOf i).toNat)
  case atStart => exact ⟨0, _, [], Nat.zero_le _, rfl, qo, rfl⟩
  case round =>
    clear qo qc qb qz
    obtain ⟨k, rv, E, hk, rfl, HO, HE⟩ := hrel
    obtain ⟨qb, qz, qc, qr, qf⟩ := HQ.out
    have hX := HO.out.size
    have hB : Below w.heap.size w wr := qb.trans (HO.out.below.mono (by omega))
    have hel : E.length = k := by have h := congrArg List.length HE.out; have := HN.out; simp at h; omega
    have HEL := Lib.hid hel
    have c0 : wr.cell? ⟨w.heap.size, 0, none⟩ = some (.slice a n c) := by rw [HO.out.below.cell (p := ⟨w.heap.size, 0, none⟩) (by show w.heap.size < _; omega)]; exact qc
    have cr : wr.cell? ⟨w.heap.size + 1, 0, none⟩ = some (.slice none 0 0) := by rw [HO.out.below.cell (p := ⟨w.heap.size + 1, 0, none⟩) (by show w.heap.size + 1 < _; omega)]; exact qr
    have fr : wr.frozen? ⟨w.heap.size + 1, 0, none⟩ = false := by rw [HO.out.below.frozen (p := ⟨w.heap.size + 1, 0, none⟩) (by show w.heap.size + 1 < _; omega)]; exact qf
    have cx := HO.out.cell
    have hwl : w.heap.size < wr.heap.size := by omega
    have hwl1 : w.heap.size + 1 < wr.heap.size := by omega
    obtain ⟨xa, xc, hrv⟩ := own_slice HO.out.own
    rw [hel] at hrv
    subst hrv
    clear hel
    by_cases hlt : k < n
    · skip
      obtain ⟨p, hp⟩ : ∃ p, D[k]? = some p := ⟨_, List.getElem?_eq_getElem (by have := HN.out; omega)⟩
      obtain ⟨G, rfl, g1, g2, _, g4, _⟩ := HX.out.outer (by have := HN.out; omega)
      have hc := (g4 k p hp).below hB (by omega)
      obtain ⟨i1, i2, i3⟩ := HX.out.inner k p hp
      have R1 := Lib.hid (i1.below hB (by omega))
      obtain ⟨x1, y1, x2, y2, e1, e2⟩ := i1.slice
      rw [e1, e2] at hc R1
      obtain ⟨d1, d2, d3, d4, d5⟩ := hc
      have hk0 : (0 : Int) <= (k : Int) := by omega
      have hk1 : (k : Int) < (n : Int) := by omega
      have hbz := hB.size
      have hGw : G < wr.heap.size := by omega
      obtain ⟨H0, hH0⟩ : ∃ q, q = (bs k).1 := ⟨_, rfl⟩
      obtain ⟨H1, hH1⟩ : ∃ q, q = (bs k).2 := ⟨_, rfl⟩
      have z1 : H1 <= wr.heap.size := by omega
      rw [<- hH0, <- hH1] at R1
      have Hp := Lib.hid hp
      clear i1 i2 i3 e1 e2 hH0 hH1 hp g4
      have hl3 := ltot_at_le Hp.out
      unfold Ls.tot at hl3
      have hl1 : p.K.length <= 1048576 := by have := HD.out; omega
      have hl2 : p.T.length <= 1048576 := by have := HD.out; omega
      have HE2 : Hid ((E ++ [(⟨p, .slice none 0 0, .slice none 0 0, 0, 0⟩ : Ent)]).map (·.l) = D.take (k + 1)) := Lib.hid (by rw [List.map_append, HE.out, take_snocD Hp.out]; rfl)
      have HB := Lib.hid hB
      clear hl3 qb qz qc qr qf cr fr hB
      go_wp2_with fail
      go_region_law (first
        | (refine step_append_lies _ rfl _ _ 24 rfl ((w.heap.size + 2) + 1) 33 iL (.agg #[.int .i64 0, .int .i64 0, .int .i64 0, .slice none 0 0, .slice none 0 0]) 5 72 Try.underlying24 IL.out.1 IL.out.2.1 IL.out.2.2.1 IL.out.2.2.2 rfl (by decide) (.slice xa k xc) k (ecells E) rfl (HW.out.alloc _) ⟨w3.heap.size, 0, none⟩ 1 1 [.int .i64 p.o, .int .i64 p.s, .int .i64 p.g, .slice ra p.K.length rc, .slice sa p.T.length sc] rfl rfl (fun j u hj => cell_five_new w3 _ _ _ _ _ 33 j u hj) (ecs_one _ _ _ _ _ _ _ _ _) (by decide) (by unfold maxLen; omega) (by omega) (by have := HY.out.size; simp; omega) _ rfl ?_; intro g4 cap4 w4 hown4 hgrow4 hat4 hlt4; have HF := HY.out.app (e := ⟨p, .slice ra p.K.length rc, .slice sa p.T.length sc, wr.heap.size, w3.heap.size⟩) HR3.out (by have := HO.out.size; exact this) (Nat.le_refl _) (fun e' he' => (HO.out.row e' he').2.2) (fun k hk => (HO.out.lt hk).2) hgrow4 (by rw [HEL.out]) hown4 (by simpa using hat4); obtain ⟨⟨u4, c4⟩, f4, l4, l5, HO4⟩ := HF; have HO5 := Lib.hid HO4; clear hown4 hgrow4 hat4 hlt4 HO4)
        | (go_simp; go_at_call 58; refine (scopy_any p.o p.s p.g H0 H1 _ _ _ _ p.K p.T _ rfl rfl R1.out.drew z1 hl1 hl2).mono ?_; rintro e w3 ⟨ru, rv, rfl, hr3, hb3'⟩; have hb3 := undrew hb3'; clear hb3'; have HY : Hid (OutE q w3 (w.heap.size + 2) (.slice xa k xc) E) := Lib.hid (HO.out.grow hb3); have hz3 := hb3.size; have HW : Hid (w3.ownsRow ((w.heap.size + 2) + 1) 33 5 (.slice xa k xc) k (ecells E)) := Lib.hid (by have h := HY.out.own; rw [HEL.out] at h; exact h); obtain ⟨ra, rc, sa, sc, rfl, rfl⟩ := hr3.slice; have HR3 := Lib.hid hr3; have cy := HY.out.cell; have hy := HY.out.size; clear hb3 hr3))
      all_goals
        clear HY HW HR3 hz3 cy hy
        go_wp2_with fail
        go_roundw
        case rel => exact ⟨k + 1, _, _, by omega, by go_num, HO5, by rw [List.map_append]; have h := HE2.out; rw [List.map_append] at h; exact h⟩
        case measure => simp [intOf]; omega
    · have hge : ¬ ((k : Int) < (n : Int)) := by omega
      obtain rfl : k = n := by omega
      have HZ : Hid (DRow wr (w.heap.size + 2 + 1) wr.heap.size (.slice xa k xc) D) := Lib.hid (by
        have h := HO.out.row_ (by rw [HEL.out]; omega)
        rw [HE.out, HN.out, List.take_length] at h
        have e := HN.out
        rw [<- e] at h
        exact h)
      have HB := Lib.hid hB
      clear hB qb qz qc qr qf
      go_wp2
      refine bodyPost_ret (v := .agg #[.slice xa k xc]) (by simp [results, Try.results69, go_sem, *]) rfl ⟨_, rfl, ?_, ?_⟩
      · exact ((HZ.out.setCell (.inl (by simp <;> omega)) _).wide (by omega) (by simp [World.setCell]))
      · exact (HB.out.setCell (by simp <;> omega) _)
end Go.Proofs.Ytfpafjdakipccaa
