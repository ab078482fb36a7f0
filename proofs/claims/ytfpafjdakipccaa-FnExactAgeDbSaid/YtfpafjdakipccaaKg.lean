/- The list behind a map of advertisements that lie anywhere. -/
import Derived.Test.YtfpafjdakipccaaKd
import Derived.Test.YtfpafjdakipccaaAg
namespace Go.Proofs.Ytfpafjdakipccaa
open Go.RowKit

set_option maxRecDepth 100000 in
set_option maxHeartbeats 8000000 in
theorem idb_A (F : Int → Option Ls) (m : Nat) (og : Option Nat) (w : World) (hs : ShA w m og F) (hk : Shok F) :
    Calls Try.prog 52 #[.map (some m)] w fun e w' => IdbPost F w e w' := by
  have HZV : Hid (∀ w : World, (zeroValue 33).run Try.prog w = .ok (.agg #[.int .i64 0, .int .i64 0, .int .i64 0, .slice none 0 0, .slice none 0 0]) w) := Lib.hid fun w => by simp [Try.zeroValue33]
  obtain ⟨iL, hi0, hz0, hz1, hz2⟩ := info_parts Try.info33
  have IL := Lib.hid (And.intro hi0 (And.intro hz0 (And.intro hz1 hz2)))
  clear hi0 hz0 hz1 hz2
  have hml := hs.lt
  obtain ⟨ff, sm, sf⟩ := hs
  have SF := Lib.hid sf
  have SM := Lib.hid sm
  have HF := Lib.hid hk
  have hmem0 : ∀ x, (ff x).isSome = true ↔ (F x).isSome = true := fun x => by
    rcases sf x with ⟨e1, e2⟩ | ⟨l, u, y, H0, H1, e1, e2, _, _⟩ <;> rw [e1, e2] <;> simp
  clear sf sm hk
  go_enter Try.func52, Try.ntmps52
  go_wp2_with fail
  obtain ⟨q0, hq0⟩ : ∃ q, q = (w.alloc (.cells #[.slice none 0 0] 26)).alloc (.cells #[.slice none 0 0] 26) := ⟨_, rfl⟩
  have qb : Below w.heap.size w q0 := by rw [hq0]; go_grown
  have qz : q0.heap.size = w.heap.size + 2 := by rw [hq0]; simp
  have q0r : q0.cell? ⟨w.heap.size, 0, none⟩ = some (.slice none 0 0) := by rw [hq0, old_box (by simp), new_at rfl]; rfl
  have q0c : q0.cell? ⟨w.heap.size + 1, 0, none⟩ = some (.slice none 0 0) := by rw [hq0, new_at (by simp)]; rfl
  have q0f : q0.frozen? ⟨w.heap.size + 1, 0, none⟩ = false := by rw [hq0, new_frz (by simp)]
  have q0g : q0.frozen? ⟨w.heap.size, 0, none⟩ = false := by rw [hq0, old_frz (by simp), new_frz (by simp)]
  have hm0 : MapI q0 m ff := SM.out.move (qb.block m hml)
  rw [← hq0]
  clear hq0
  go_at_call 92
  refine (keys_any (some m) q0).mono ?_
  rintro e w1 ⟨rfl, rfl⟩
  go_wp2_with fail
  go_at_call 91
  have hsk := sorted_keys m ff q0 hm0
  rw [qz] at hsk
  refine hsk.mono ?_
  clear hsk
  rintro e q ⟨v, ss, rfl, hrow, hlt, hmem, hb⟩
  have hmem' : ∀ x, x ∈ ss ↔ (F x).isSome = true := fun x => (hmem x).trans (hmem0 x)
  obtain ⟨n, hn⟩ : ∃ n, n = ss.length := ⟨_, rfl⟩
  have hrow' : q.ownsRow (w.heap.size + 2 + 1) 3 1 v ss.length (ints ss) := hrow
  have hpw : ss.length ≤ 1100000 := by
    have h := nodup_le 10 ss (hlt.imp fun h e => by omega) (fun x hx => by
      have h1 := (hmem x).1 hx
      have h2 := hm0.key09 h1
      omega)
    omega
  have hrw := row_of_own hrow' hpw
  obtain ⟨a, c, rfl, -, hcell⟩ := hrw.opened
  have hlow := hrow'.lt
  rw [← hn] at hcell hpw hlow ⊢
  have qb2 : Below w.heap.size w q := qb.trans (hb.mono (by omega))
  have zq := hb.size
  have qo : Hid (OutE q q (w.heap.size + 1) (.slice none 0 0) []) := Lib.hid (OutE.start (by omega) (by rw [hb.frozen (p := ⟨w.heap.size + 1, 0, none⟩) (by show w.heap.size + 1 < _; omega)]; exact q0f) (by rw [hb.cell (p := ⟨w.heap.size + 1, 0, none⟩) (by show w.heap.size + 1 < _; omega)]; exact q0c))
  have qr : q.cell? ⟨w.heap.size, 0, none⟩ = some (.slice none 0 0) := by rw [hb.cell (p := ⟨w.heap.size, 0, none⟩) (by show w.heap.size < _; omega)]; exact q0r
  have qg : q.frozen? ⟨w.heap.size, 0, none⟩ = false := by rw [hb.frozen (p := ⟨w.heap.size, 0, none⟩) (by show w.heap.size < _; omega)]; exact q0g
  have qs : w.heap.size + 2 ≤ q.heap.size := by omega
  have HQ := Lib.hid (And.intro qb2 (And.intro qs (And.intro qr qg)))
  have HC := Lib.hid hcell
  have HW0 := Lib.hid (And.intro hlow (And.intro qz hn))
  have HS := Lib.hid (And.intro hlt hmem')
  clear qb qb2 qs qr qg hcell hrow hrow' hrw hlow hlt hmem hmem' hmem0 hm0 q0r q0c q0f q0g hb zq hn
  go_wp2_with fail
  go_loopw [10] (fun i wr => ∃ (k : Nat) (rv : Value) (E : List Ent), k ≤ n ∧ i = .int .i64 (k : Int) ∧ Hid (OutE q wr (w.heap.size + 1) rv E) ∧ Hid (E.map (·.l) = (ss.take k).filterMap F) ∧ Hid (E.length = k) ∧ Hid (KeptR q wr (w.heap.size + 1) rv)) (fun i _ => n - (intOf i).toNat)
  case atStart => exact ⟨0, _, [], Nat.zero_le _, rfl, qo, Lib.hid rfl, Lib.hid rfl, Lib.hid (KeptR.start _ _)⟩
  case round =>
    clear qo
    obtain ⟨k, rv, E, hk, rfl, HO, HE, HEL, HK⟩ := hrel
    obtain ⟨qb, qs, qr, qg⟩ := HQ.out
    have hX := HO.out.size
    have hB : Below w.heap.size w wr := qb.trans (HO.out.below.mono (by omega))
    have cr : wr.cell? ⟨w.heap.size, 0, none⟩ = some (.slice none 0 0) := by rw [HO.out.below.cell (p := ⟨w.heap.size, 0, none⟩) (by show w.heap.size < _; omega)]; exact qr
    have fr : wr.frozen? ⟨w.heap.size, 0, none⟩ = false := by rw [HO.out.below.frozen (p := ⟨w.heap.size, 0, none⟩) (by show w.heap.size < _; omega)]; exact qg
    have cx := HO.out.cell
    have hwl : w.heap.size < wr.heap.size := by omega
    obtain ⟨xa, xc, hrv⟩ := own_slice HO.out.own
    rw [HEL.out] at hrv
    subst hrv
    by_cases hlt : k < n
    · obtain ⟨x, hx⟩ : ∃ x, ss[k]? = some x := ⟨_, List.getElem?_eq_getElem (by have := HW0.out.2.2; omega)⟩
      obtain ⟨g, rfl, g1, g2⟩ := HC.out (by omega)
      have hg3 := HW0.out.1 g rfl
      have ck0 := g2 k x hx
      have ck : wr.cell? ⟨g, k, none⟩ = some (.int .i64 x) := (World.cell?_of_block (HK.out.1 g (by omega) (by omega))).trans ck0
      have hgw : g < wr.heap.size := by have := HK.out.2.2; omega
      have hsome := (HS.out.2 x).1 (List.mem_of_getElem? hx)
      obtain ⟨l, u, y, H0, H1, e1, e2, r, hB1⟩ : ∃ l u y lo hi, F x = some l ∧ ff x = some (lsv l u y) ∧ LRow w lo hi u y l.K.length l.T.length (flat2 l.K) (flat l.T) ∧ hi ≤ w.heap.size := by
        rcases SF.out x with ⟨e1, e2⟩ | ⟨l, u, y, lo, hi, e1, e2, r, h4, _⟩
        · rw [e1] at hsome; cases hsome
        · exact ⟨l, u, y, lo, hi, e1, e2, r, h4⟩
      obtain ⟨x1, y1, x2, y2, q1, q2⟩ := r.slice
      subst q1 q2
      have hbd := Ls.ok_bd (HF.out x l e1).2
      have hl1 : l.K.length ≤ 1048576 := by have := hbd.2.2.2.2.2.2.1; omega
      have hl2 : l.T.length ≤ 1048576 := by have := hbd.2.2.2.2.2.2.2; omega
      have z1 : H1 ≤ wr.heap.size := by omega
      have R1 : Hid (LRow wr H0 H1 (.slice x1 l.K.length y1) (.slice x2 l.T.length y2) l.K.length l.T.length (flat2 l.K) (flat l.T)) := Lib.hid (r.below hB (by omega))
      have HFX := Lib.hid e2
      have HE2 : Hid ((E ++ [(⟨l, .slice none 0 0, .slice none 0 0, 0, 0⟩ : Ent)]).map (·.l) = (ss.take (k + 1)).filterMap F) := Lib.hid (by rw [List.map_append, HE.out, filt_snoc hx e1]; rfl)
      have HBW := Lib.hid hB
      have hk0 : (0 : Int) ≤ (k : Int) := by omega
      have hk1 : (k : Int) < (n : Int) := by omega
      have hlk : (Instr.lookup 82 (.map (some m)) (.int .i64 x) false).run Try.prog wr.drew = .ok (.agg #[.int .i64 l.o, .int .i64 l.s, .int .i64 l.g, .slice x1 l.K.length y1, .slice x2 l.T.length y2]) wr.drew := by
        have h : (Instr.lookup 82 (.map (some m)) (.int .i64 x) false).run Try.prog wr.drew = .ok ((ff x).getD (.agg #[.int .i64 0, .int .i64 0, .int .i64 0, .slice none 0 0, .slice none 0 0])) wr.drew := MapI.look (w := wr.drew) (MapI.move (w' := wr.drew) SM.out (hB.block m hml)) Try.underlying82 Try.underlying3 (HZV.out _) x false
        rw [HFX.out] at h
        exact h
      clear qb qs qr qg cr fr hB g1 g2 hg3 ck0 hsome e1 e2 r hB1 hbd hx
      go_wp2_with fail
      go_region_law (first
        | (refine step_append_lies _ rfl _ _ 24 rfl ((w.heap.size + 1) + 1) 33 iL (.agg #[.int .i64 0, .int .i64 0, .int .i64 0, .slice none 0 0, .slice none 0 0]) 5 72 Try.underlying24 IL.out.1 IL.out.2.1 IL.out.2.2.1 IL.out.2.2.2 rfl (by decide) (.slice xa k xc) k (ecells E) rfl (HW.out.alloc _) ⟨w3.heap.size, 0, none⟩ 1 1 [.int .i64 l.o, .int .i64 l.s, .int .i64 l.g, .slice ra l.K.length rc, .slice sa l.T.length sc] rfl rfl (fun j u hj => cell_five_new w3 _ _ _ _ _ 33 j u hj) (ecs_one _ _ _ _ _ _ _ _ _) (by decide) (by unfold maxLen; omega) (by omega) (by have := HY.out.size; simp; omega) _ rfl ?_; intro g4 cap4 w4 hown4 hgrow4 hat4 hlt4; have HF := HY.out.app (e := ⟨l, .slice ra l.K.length rc, .slice sa l.T.length sc, wr.heap.size, w3.heap.size⟩) HR3.out (by have := HO.out.size; exact this) (Nat.le_refl _) (fun e' he' => (HO.out.row e' he').2.2) (fun k hk => (HO.out.lt hk).2) hgrow4 (by rw [HEL.out]) hown4 (by simpa using hat4); obtain ⟨⟨u4, c4⟩, f4, l4, l5, HO4⟩ := HF; have HO5 := Lib.hid HO4; have HK5 : Hid (KeptR q (w4.setCell ⟨w.heap.size + 1, 0, none⟩ (.slice (some ⟨g4, 0, none⟩) (k + 1) cap4)) (w.heap.size + 1) (.slice (some ⟨g4, 0, none⟩) (k + 1) cap4)) := Lib.hid (HKy.out.app hgrow4 (by simpa using hat4)); clear hown4 hgrow4 hat4 hlt4 HO4)
        | (go_simp; go_at_call 59; refine (icopy_any l.o l.s l.g H0 H1 _ _ _ _ l.K l.T _ rfl rfl R1.out.drew z1 hl1 hl2).mono ?_; rintro e w3 ⟨ru, rv, rfl, hr3, hb3'⟩; have hb3 := undrew hb3'; clear hb3'; have HY : Hid (OutE q w3 (w.heap.size + 1) (.slice xa k xc) E) := Lib.hid (HO.out.grow hb3); have hz3 := hb3.size; have HW : Hid (w3.ownsRow ((w.heap.size + 1) + 1) 33 5 (.slice xa k xc) k (ecells E)) := Lib.hid (by have h := HY.out.own; rw [HEL.out] at h; exact h); obtain ⟨ra, rc, sa, sc, rfl, rfl⟩ := hr3.slice; have HR3 := Lib.hid hr3; have cy := HY.out.cell; have hy := HY.out.size; have HKy : Hid (KeptR q w3 (w.heap.size + 1) (.slice xa k xc)) := Lib.hid (HK.out.grow hb3); clear hb3 hr3))
      all_goals
        clear HY HW HR3 hz3 cy hy
        go_wp2_with fail
        go_roundw
        case rel => exact ⟨k + 1, _, _, by omega, by go_num, HO5, Lib.hid (by rw [List.map_append]; have h := HE2.out; rw [List.map_append] at h; exact h), Lib.hid (by rw [List.length_append, HEL.out]; rfl), HK5⟩
        case measure => simp [intOf]; omega
    · have hge : ¬ ((k : Int) < (n : Int)) := by omega
      obtain rfl : k = n := by omega
      have HZ : Hid (DRow wr (w.heap.size + 1 + 1) wr.heap.size (.slice xa k xc) (ss.filterMap F)) := Lib.hid (by
        have h := HO.out.row_ (by rw [HEL.out]; omega)
        rw [HE.out, HW0.out.2.2, List.take_length] at h
        have e := HW0.out.2.2
        rw [← e] at h
        exact h)
      have HB := Lib.hid hB
      have HSS := HS
      clear hB qb qs qr qg
      go_wp2
      refine bodyPost_ret (v := .agg #[.slice xa k xc]) (by simp [results, Try.results52, go_sem, *]) rfl (idbP _ ss rfl HSS.out.1 HSS.out.2 ?_ ?_)
      · exact ((HZ.out.setCell (.inl (by simp <;> omega)) _).wide (by omega) (by simp [World.setCell]))
      · exact (HB.out.setCell (by simp <;> omega) _)


end Go.Proofs.Ytfpafjdakipccaa
