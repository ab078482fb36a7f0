/- BestRoute of the model as a contract. -/
import Derived.Test.YtgdnfglhlpnooaaBh
import Derived.Test.YtgdnfglhlpnooaaTk
import Derived.Test.YtgdnfglhlpnooaaMc
namespace Go.Proofs.Ytgdnfglhlpnooaa
open Go.RowKit


set_option maxHeartbeats 2000000 in
theorem shas_ok (net n a : Int) (w : World) (hp : pokB net n = true) :
    Calls Try.prog 27 #[.agg #[.int .i64 net, .int .i64 n], .int .i64 a] w fun e w' => e = .returned (.bool (inB a net (net + psz n - 1))) ∧ Below w.heap.size w w' := by
  obtain ⟨h0, h1, h2, h3, h4⟩ := pokB_true hp
  have p0 := psz_pos n h0 h1
  have p1 := psz_le n h0 h1
  have e1 : IntKind.i64.wrap (net + psz n) = net + psz n := IntWalk.i64_in _ (by omega)
  have e2 : IntKind.i64.wrap (net + psz n - 1) = net + psz n - 1 := IntWalk.i64_in _ (by omega)
  clear h4
  have H := spok_any net n
  rw [hp] at H
  go_enter Try.func27, Try.ntmps27
  go_wp2_with fail
  go_region_held3 (fun w' => w'.cell? ⟨w.heap.size, 0, none⟩ = some (.int .i64 net) ∧ w'.cell? ⟨w.heap.size, 1, none⟩ = some (.int .i64 n) ∧ w.heap.size < w'.heap.size ∧ Below w.heap.size w w') (first | assumption | exact box_keep0 _ _ _ _ | exact box_keep (by assumption) (by assumption))
    (first | (go_at_call 69; refine (H _).mono ?_; rintro e w2 ⟨rfl, hb⟩) | (go_at_call 71; refine (spsize_any n _ h0 h1).mono ?_; rintro e w2 ⟨rfl, rfl⟩) | (go_at_call 70; refine (in_any _ _ _ _).mono ?_; rintro e w2 ⟨rfl, rfl⟩))
  go_wp2_with fail
  go_ret
  exact ⟨rfl, box_below (by assumption)⟩

/-- The last of the first k routes that has the address. -/
def lastH (L : List Rt) (a : Int) (k : Nat) : Option Rt := (L.take k).reverse.find? fun r => hasR r a
theorem lastH_succ {L : List Rt} {a : Int} {k : Nat} {r : Rt} (h : L[k]? = some r) : lastH L a (k + 1) = if hasR r a = true then some r else lastH L a k := by
  have hk : k < L.length := (List.getElem?_eq_some_iff.1 h).1
  have e : L.take (k + 1) = L.take k ++ [r] := by
    rw [List.take_succ_eq_append_getElem hk]
    congr 2
    exact (List.getElem?_eq_some_iff.1 h).2
  unfold lastH
  rw [e, List.reverse_append, List.reverse_singleton, List.singleton_append, List.find?_cons]
  cases hasR r a <;> rfl
/-- Where two valid prefixes have an address and one stands ahead, it is the shorter one. -/
theorem ahd_short {p q : Rt} {a : Int} (hp : pokB p.1 p.2.1 = true) (hq : pokB q.1 q.2.1 = true) (hpa : hasR p a = true) (hqa : hasR q a = true) (h : ahd p q = true) : p.2.1 < q.2.1 := by
  obtain ⟨p0, p1, p2, p3, p4⟩ := pokB_true hp
  obtain ⟨q0, q1, q2, q3, q4⟩ := pokB_true hq
  unfold hasR at hpa hqa
  rw [inB_iff] at hpa hqa
  simp only [ahd, ahP, Bool.or_eq_true, Bool.and_eq_true, decide_eq_true_eq] at h
  rcases Int.lt_or_le p.2.1 q.2.1 with hl | hl
  · exact hl
  · exfalso
    have hal := align_down q.1 q.2.1 p.2.1 q0 hl p1 q4
    rcases h with h | h
    · have := apart_le p.1 q.1 (psz p.2.1) p4 hal h
      omega
    · omega
theorem tok_rok {L : List Rt} (h : tok L = true) : ∀ r ∈ L, rok r = true := by
  intro r hr
  unfold tok at h
  rw [Bool.and_eq_true, List.all_eq_true] at h
  obtain ⟨i, hi⟩ := List.getElem?_of_mem hr
  have := h.2 i (by rw [List.mem_range]; exact (List.getElem?_eq_some_iff.1 hi).1)
  rw [chk_at hi, Bool.and_eq_true] at this
  exact this.1
theorem tok_pok {L : List Rt} (h : tok L = true) : ∀ r ∈ L, pokB r.1 r.2.1 = true := fun r hr => by
  have := tok_rok h r hr
  unfold rok at this
  rw [Bool.and_eq_true] at this
  exact this.1
theorem ahd_trans {p q r : Rt} (h : ahd p q = true) (k : ahd q r = true) : ahd p r = true := by
  simp only [ahd, ahP, Bool.or_eq_true, Bool.and_eq_true, decide_eq_true_eq] at *
  omega
theorem tok_stepB {L : List Rt} (h : tok L = true) {i : Nat} {p r : Rt} (h1 : L[i + 1]? = some r) (h0 : L[i]? = some p) : ahd p r = true := by
  unfold tok at h
  rw [Bool.and_eq_true, List.all_eq_true] at h
  have := h.2 (i + 1) (by rw [List.mem_range]; exact (List.getElem?_eq_some_iff.1 h1).1)
  rw [chk_prev h1 h0, Bool.and_eq_true] at this
  exact this.2
/-- A valid table is sorted. -/
theorem tok_sorted {L : List Rt} (h : tok L = true) : ∀ (d i : Nat) (p r : Rt), L[i]? = some p → L[i + 1 + d]? = some r → ahd p r = true
  | 0, i, p, r, h0, h1 => tok_stepB h h1 h0
  | d + 1, i, p, r, h0, h1 => by
    obtain ⟨q, hq⟩ : ∃ q, L[i + 1 + d]? = some q := ⟨L[i + 1 + d]'(by have := (List.getElem?_eq_some_iff.1 h1).1; omega), List.getElem?_eq_getElem _⟩
    exact ahd_trans (tok_sorted h d i p q h0 hq) (tok_stepB h (i := i + 1 + d) h1 hq)
theorem lastH_some {L : List Rt} {a : Int} {k : Nat} {b : Rt} (h : lastH L a k = some b) : hasR b a = true ∧ ∃ i, i < k ∧ L[i]? = some b := by
  unfold lastH at h
  have h1 := List.find?_some h
  have h2 := List.mem_of_find?_eq_some h
  rw [List.mem_reverse] at h2
  obtain ⟨i, hi⟩ := List.getElem?_of_mem h2
  rw [List.getElem?_take] at hi
  split at hi
  · exact ⟨h1, i, by assumption, hi⟩
  · cases hi
theorem lastH_len {L : List Rt} (ht : tok L = true) {a : Int} {k : Nat} {b r : Rt} (h : lastH L a k = some b) (hr : L[k]? = some r) (ha : hasR r a = true) : b.2.1 < r.2.1 := by
  obtain ⟨h1, i, hi, hb⟩ := lastH_some h
  refine ahd_short (tok_pok ht b (List.mem_of_getElem? hb)) (tok_pok ht r (List.mem_of_getElem? hr)) h1 ha (tok_sorted ht (k - i - 1) i b r hb ?_)
  rw [show i + 1 + (k - i - 1) = k by omega]
  exact hr

def optR (o : Option Rt) : Rt := o.getD rt0
/-- At the head of the loop's rounds. -/
def BsRel (w wr : World) (sv : Value) (B6 : Nat) (o : Option Rt) : Prop :=
  BlkB wr w.heap.size #[sv] 30 ∧ BlkB wr (w.heap.size + 1) z3 43 ∧ BlkB wr B6 (r3 (optR o)) 43 ∧ w.heap.size + 1 < B6 ∧ Below w.heap.size w wr
theorem BsRel.below {w wr w2 : World} {sv : Value} {B6 : Nat} {o : Option Rt} (h : BsRel w wr sv B6 o) (hb : Below wr.heap.size wr w2) : BsRel w w2 sv B6 o := by
  obtain ⟨h1, h2, h3, h4, h5⟩ := h
  exact ⟨h1.below hb h1.lt, h2.below hb h2.lt, h3.below hb h3.lt, h4, h5.trans (hb.mono h5.size)⟩
theorem BsRel.store {w wr : World} {sv : Value} {B6 : Nat} {o : Option Rt} (h : BsRel w wr sv B6 o) (r : Rt) : BsRel w (((wr.setCell ⟨B6, 0, none⟩ (.int .i64 r.1)).setCell ⟨B6, 1, none⟩ (.int .i64 r.2.1)).setCell ⟨B6, 2, none⟩ (.int .i64 r.2.2)) sv B6 (some r) := by
  obtain ⟨h1, h2, h3, h4, h5⟩ := h
  exact ⟨((h1.other (by omega) _).other (by omega) _).other (by omega) _, ((h2.other (by omega) _).other (by omega) _).other (by omega) _, ((h3.set 0 _).set 1 _).set 2 _, h4, ((h5.setCell (by show _ ≤ B6; omega) _).setCell (by show _ ≤ B6; omega) _).setCell (by show _ ≤ B6; omega) _⟩

set_option maxHeartbeats 8000000 in
theorem sbest_some (g n cap : Nat) (L : List Rt) (a : Int) (w : World) (hn : L.length = n) (hl : n ≤ 1100000) (hg : g < w.heap.size) (h : ∀ q z, (flat L)[q]? = some z → w.cell? ⟨g, q, none⟩ = some (.int .i64 z)) (ht : tok L = true) (ha : inB a 0 65535 = true)
    (htok : ∀ w1, Below w.heap.size w w1 → Calls Try.prog 39 #[.agg #[.slice (some ⟨g, 0, none⟩) n cap]] w1 fun e w' => e = .returned (.bool true) ∧ Below w1.heap.size w1 w') :
    Calls Try.prog 26 #[.agg #[.slice (some ⟨g, 0, none⟩) n cap], .int .i64 a] w fun e w' => e = .returned (.tuple #[.agg (r3 (optR (lastH L a n))), .bool (lastH L a n).isSome]) ∧ Below w.heap.size w w' := by
  have Hn := Lib.hid hn
  have H := Lib.hid h
  have Ht := Lib.hid ht
  have Htok := Lib.hid htok
  clear h hn ht htok
  go_enter Try.func26, Try.ntmps26
  go_wp2_with fail
  go_at_call 39
  refine (Htok.out _ (by go_grown)).mono ?_
  rintro e w1 ⟨rfl, hb1⟩
  have hz1 : w.heap.size + 2 ≤ w1.heap.size := by have hh := hb1.size; simp at hh; omega
  have q0 := (BlkB.new w #[.slice (some ⟨g, 0, none⟩) n cap] 30).alloc (.cells z3 43)
  have q1 := BlkB.new (w.alloc (.cells #[.slice (some ⟨g, 0, none⟩) n cap] 30)) z3 43
  simp only [World.size_alloc] at q1
  have k0 := q0.below hb1 (by simp; omega)
  have k1 := q1.below hb1 (by simp)
  have hB1 : Below w.heap.size w w1 := Below.trans (by go_grown) (hb1.mono (by simp; omega))
  have HR : Hid (BsRel w (w1.alloc (.cells z3 43)) (.slice (some ⟨g, 0, none⟩) n cap) w1.heap.size (lastH L a 0)) := ⟨k0.alloc _, k1.alloc _, BlkB.new w1 z3 43, by omega, hB1.alloc (by omega) _⟩
  have c0 : w1.cell? ⟨w.heap.size, 0, none⟩ = some (.slice (some ⟨g, 0, none⟩) n cap) := k0.cell 0
  clear hb1 q0 q1 k0 k1 hB1
  obtain ⟨B6, hB6⟩ : ∃ B6, B6 = w1.heap.size := ⟨_, rfl⟩
  go_wp2_with (go_at_call 68; refine (addr_any a _).mono ?_; rw [ha]; rintro e w' ⟨rfl, rfl⟩)
  rw [← hB6] at HR ⊢
  clear hB6
  go_loopw [7, 8] (fun f i wr => ∃ k : Nat, k ≤ n ∧ f = .bool (lastH L a k).isSome ∧ i = .int .i64 (k : Int) ∧ Hid (BsRel w wr (.slice (some ⟨g, 0, none⟩) n cap) B6 (lastH L a k))) (fun _ i _ => n - (intOf i).toNat)
  case atStart => exact ⟨0, Nat.zero_le _, rfl, rfl, HR⟩
  case round =>
    obtain ⟨k, hk, rfl, rfl, hR⟩ := hrel
    by_cases hlt : k < n
    · obtain ⟨r, hr⟩ : ∃ r, L[k]? = some r := ⟨L[k]'(by rw [Hn.out]; exact hlt), List.getElem?_eq_getElem _⟩
      have hpok := tok_pok Ht.out r (List.mem_of_getElem? hr)
      have Hnext := Lib.hid (lastH_succ (a := a) hr)
      obtain ⟨x0, x1, x2⟩ := r
      obtain ⟨r0, r1, r2⟩ := flat_at L k _ hr
      have HL := Lib.hid hr
      have hlB := hR.out.1.lt
      have hl6 := hR.out.2.2.1.lt
      have hBw := hR.out.2.2.2.2
      have hzw := hBw.size
      have k0 : wr.cell? ⟨w.heap.size, 0, none⟩ = some (.slice (some ⟨g, 0, none⟩) n cap) := hR.out.1.cell 0
      have k1 : wr.cell? ⟨g, k * 3, none⟩ = some (.int .i64 x0) := by rw [hBw.cell (p := ⟨g, k * 3, none⟩) hg]; exact H.out _ _ r0
      have k2 : wr.cell? ⟨g, k * 3 + 1, none⟩ = some (.int .i64 x1) := by rw [hBw.cell (p := ⟨g, k * 3 + 1, none⟩) hg]; exact H.out _ _ r1
      have k4 : wr.cell? ⟨g, k * 3 + 2, none⟩ = some (.int .i64 x2) := by rw [hBw.cell (p := ⟨g, k * 3 + 2, none⟩) hg]; exact H.out _ _ r2
      obtain ⟨y1, hy1⟩ : ∃ y1, y1 = (optR (lastH L a k)).2.1 := ⟨_, rfl⟩
      have k3 : wr.cell? ⟨B6, 1, none⟩ = some (.int .i64 y1) := by rw [hR.out.2.2.1.cell 1, hy1]; rfl
      have Hy := Lib.hid hy1
      clear hBw r0 r1 r2 hr hy1
      have q0 : (0 : Int) ≤ (k : Int) := by omega
      have q1 : (k : Int) < (n : Int) := by omega
      have hcall := fun w => shas_ok x0 x1 a w hpok
      rw [show inB a x0 (x0 + psz x1 - 1) = hasR (x0, x1, x2) a from rfl] at hcall
      clear hpok
      by_cases hh : hasR (x0, x1, x2) a = true
      · rw [hh] at hcall
        have Hnext : Hid (lastH L a (k + 1) = some (x0, x1, x2)) := by show lastH L a (k + 1) = _; rw [Hnext.out, if_pos hh]
        by_cases hf : (lastH L a k).isSome = true
        · obtain ⟨bb, hbb⟩ := Option.isSome_iff_exists.1 hf
          have hlen := lastH_len Ht.out hbb HL.out hh
          have hgt : decide (y1 < x1) = true := by
            rw [Hy.out, hbb]
            exact decide_eq_true hlen
          have Hh := Lib.hid hh
          have Hf := Lib.hid hf
          have Hbb := Lib.hid hbb
          rw [hf]
          clear hh hf hbb hlen
          go_wp2_with fail
          refine wp_region_held_drew (S := (fun w' => w'.cell? ⟨w.heap.size, 0, none⟩ = some (.slice (some ⟨g, 0, none⟩) n cap) ∧ w'.cell? ⟨g, k * 3, none⟩ = some (.int .i64 x0) ∧ w'.cell? ⟨g, k * 3 + 1, none⟩ = some (.int .i64 x1) ∧ w'.cell? ⟨B6, 1, none⟩ = some (.int .i64 y1) ∧ wr.heap.size ≤ w'.heap.size ∧ Below wr.heap.size wr w')) (by kernel_rfl) ?_ (fun hHeld => ?_)
          · (first | assumption | exact rr4_start k0 k1 k2 k3 | exact rr4_drew (by assumption) | exact rr4_keep (by omega) (by omega) (by omega) (by omega) (by assumption) (by assumption))
          refine step_read 0 26 rfl rfl (by kernel_rfl) (by kernel_rfl) (by kernel_rfl) (fun _ _ _ h => h) (by rfl) (v := ?_) (fun w hSw => ?_) (by assumption) ?_; rotate_left; (focus ((try dsimp only at hSw); go_simp; first | done | exact rfl)); simp only [List.set]
          refine step_read 1 27 rfl rfl (by kernel_rfl) (by kernel_rfl) (by kernel_rfl) (fun _ _ _ h => h) (by rfl) (v := ?_) (fun w hSw => ?_) (by assumption) ?_; rotate_left; (focus ((try dsimp only at hSw); go_simp; first | done | exact rfl)); simp only [List.set]
          refine step_read 2 28 rfl rfl (by kernel_rfl) (by kernel_rfl) (by kernel_rfl) (fun _ _ _ h => h) (by rfl) (v := ?_) (fun w hSw => ?_) (by assumption) ?_; rotate_left; (focus ((try dsimp only at hSw); go_simp; first | done | exact rfl)); simp only [List.set]
          refine step_read 3 29 rfl rfl (by kernel_rfl) (by kernel_rfl) (by kernel_rfl) (fun _ _ _ h => h) (by rfl) (v := ?_) (fun w hSw => ?_) (by assumption) ?_; rotate_left; (focus ((try dsimp only at hSw); go_simp; first | done | exact rfl)); simp only [List.set]
          refine step_read 4 30 rfl rfl (by kernel_rfl) (by kernel_rfl) (by kernel_rfl) (fun _ _ _ h => h) (by rfl) (v := ?_) (fun w hSw => ?_) (by assumption) ?_; rotate_left; (focus ((try dsimp only at hSw); go_simp; first | done | exact rfl)); simp only [List.set]
          refine step_read 5 31 rfl rfl (by kernel_rfl) (by kernel_rfl) (by kernel_rfl) (fun _ _ _ h => h) (by rfl) (v := ?_) (fun w hSw => ?_) (by assumption) ?_; rotate_left; (focus ((try dsimp only at hSw); go_simp; first | done | exact rfl)); simp only [List.set]
          refine step_read 6 32 rfl rfl (by kernel_rfl) (by kernel_rfl) (by kernel_rfl) (fun _ _ _ h => h) (by rfl) (v := ?_) (fun w hSw => ?_) (by assumption) ?_; rotate_left; (focus ((try dsimp only at hSw); go_simp; first | done | exact rfl)); simp only [List.set]
          (refine wpAnyH_ready (rs := [7]) (by kernel_rfl) (by simp) ?_; refine AllReadyH.cons rfl (fun K hK => ?_) AllReadyH.nil; go_simp; (go_at_call 27; refine (hcall _).mono ?_; rintro e w2 ⟨rfl, hb⟩); refine hK.out _ _ ?_ (fun hHeld => ?_); (focus ((first | assumption | exact rr4_start k0 k1 k2 k3 | exact rr4_drew (by assumption) | exact rr4_keep (by omega) (by omega) (by omega) (by omega) (by assumption) (by assumption)))); clear hK K)
          refine step_read 8 34 rfl rfl (by kernel_rfl) (by kernel_rfl) (by kernel_rfl) (fun _ _ _ h => h) (by rfl) (v := ?_) (fun w hSw => ?_) (by assumption) ?_; rotate_left; (focus ((try dsimp only at hSw); go_simp; first | done | exact rfl)); simp only [List.set]
          refine step_read 9 35 rfl rfl (by kernel_rfl) (by kernel_rfl) (by kernel_rfl) (fun _ _ _ h => h) (by rfl) (v := ?_) (fun w hSw => ?_) (by assumption) ?_; rotate_left; (focus ((try dsimp only at hSw); go_simp; first | done | exact rfl)); simp only [List.set]
          refine step_read 10 36 rfl rfl (by kernel_rfl) (by kernel_rfl) (by kernel_rfl) (fun _ _ _ h => h) (by rfl) (v := ?_) (fun w hSw => ?_) (by assumption) ?_; rotate_left; (focus ((try dsimp only at hSw); go_simp; first | done | exact rfl)); simp only [List.set]
          refine step_read 11 37 rfl rfl (by kernel_rfl) (by kernel_rfl) (by kernel_rfl) (fun _ _ _ h => h) (by rfl) (v := ?_) (fun w hSw => ?_) (by assumption) ?_; rotate_left; (focus ((try dsimp only at hSw); go_simp; first | done | exact rfl)); simp only [List.set]
          refine step_read 12 38 rfl rfl (by kernel_rfl) (by kernel_rfl) (by kernel_rfl) (fun _ _ _ h => h) (by rfl) (v := ?_) (fun w hSw => ?_) (by assumption) ?_; rotate_left; (focus ((try dsimp only at hSw); go_simp; first | done | exact rfl)); simp only [List.set]
          refine step_read 13 39 rfl rfl (by kernel_rfl) (by kernel_rfl) (by kernel_rfl) (fun _ _ _ h => h) (by rfl) (v := ?_) (fun w hSw => ?_) (by assumption) ?_; rotate_left; (focus ((try dsimp only at hSw); go_simp; first | done | exact rfl)); simp only [List.set]
          refine step_read 14 40 rfl rfl (by kernel_rfl) (by kernel_rfl) (by kernel_rfl) (fun _ _ _ h => h) (by rfl) (v := ?_) (fun w hSw => ?_) (by assumption) ?_; rotate_left; (focus ((try dsimp only at hSw); go_simp; first | done | exact rfl)); simp only [List.set]
          refine step_read 15 41 rfl rfl (by kernel_rfl) (by kernel_rfl) (by kernel_rfl) (fun _ _ _ h => h) (by rfl) (v := ?_) (fun w hSw => ?_) (by assumption) ?_; rotate_left; (focus ((try dsimp only at hSw); go_simp; first | done | exact rfl)); simp only [List.set]
          refine step_read 16 42 rfl rfl (by kernel_rfl) (by kernel_rfl) (by kernel_rfl) (fun _ _ _ h => h) (by rfl) (v := ?_) (fun w hSw => ?_) (by assumption) ?_; rotate_left; (focus ((try dsimp only at hSw); go_simp; first | done | exact rfl)); simp only [List.set]
          refine step_read 17 43 rfl rfl (by kernel_rfl) (by kernel_rfl) (by kernel_rfl) (fun _ _ _ h => h) (by rfl) (v := ?_) (fun w hSw => ?_) (by assumption) ?_; rotate_left; (focus ((try dsimp only at hSw); go_simp; first | done | exact rfl)); simp only [List.set]
          refine step_read 18 44 rfl rfl (by kernel_rfl) (by kernel_rfl) (by kernel_rfl) (fun _ _ _ h => h) (by rfl) (v := ?_) (fun w hSw => ?_) (by assumption) ?_; rotate_left; (focus ((try dsimp only at hSw); go_simp; first | done | exact rfl)); simp only [List.set]
          refine step_read 19 45 rfl rfl (by kernel_rfl) (by kernel_rfl) (by kernel_rfl) (fun _ _ _ h => h) (by rfl) (v := ?_) (fun w hSw => ?_) (by assumption) ?_; rotate_left; (focus ((try dsimp only at hSw); go_simp; first | done | exact rfl)); simp only [List.set]
          refine step_read 20 46 rfl rfl (by kernel_rfl) (by kernel_rfl) (by kernel_rfl) (fun _ _ _ h => h) (by rfl) (v := ?_) (fun w hSw => ?_) (by assumption) ?_; rotate_left; (focus ((try dsimp only at hSw); go_simp; first | done | exact rfl)); simp only [List.set]
          refine step_read 21 47 rfl rfl (by kernel_rfl) (by kernel_rfl) (by kernel_rfl) (fun _ _ _ h => h) (by rfl) (v := ?_) (fun w hSw => ?_) (by assumption) ?_; rotate_left; (focus ((try dsimp only at hSw); go_simp; first | done | exact rfl)); simp only [List.set]
          refine step_read 22 48 rfl rfl (by kernel_rfl) (by kernel_rfl) (by kernel_rfl) (fun _ _ _ h => h) (by rfl) (v := ?_) (fun w hSw => ?_) (by assumption) ?_; rotate_left; (focus ((try dsimp only at hSw); go_simp; first | done | exact rfl)); simp only [List.set]
          refine step_read 23 49 rfl rfl (by kernel_rfl) (by kernel_rfl) (by kernel_rfl) (fun _ _ _ h => h) (by rfl) (v := ?_) (fun w hSw => ?_) (by assumption) ?_; rotate_left; (focus ((try dsimp only at hSw); go_simp; first | done | exact rfl)); simp only [List.set]
          refine step_read 24 50 rfl rfl (by kernel_rfl) (by kernel_rfl) (by kernel_rfl) (fun _ _ _ h => h) (by rfl) (v := ?_) (fun w hSw => ?_) (by assumption) ?_; rotate_left; (focus ((try dsimp only at hSw); go_simp; first | done | exact rfl)); simp only [List.set]
          refine wpAnyH_done (by kernel_rfl) ?_ _
          have hb := (rr4_out (by assumption)).2
          have hB2 : BsRel w w2 (.slice (some ⟨g, 0, none⟩) n cap) B6 (lastH L a k) := hR.out.below hb
          have d0 : w2.cell? ⟨w.heap.size, 0, none⟩ = some (.slice (some ⟨g, 0, none⟩) n cap) := hB2.1.cell 0
          have d1 : w2.cell? ⟨g, k * 3, none⟩ = some (.int .i64 x0) := by rw [(bcell hb).1 _ _ (by omega)]; exact k1
          have d2 : w2.cell? ⟨g, k * 3 + 1, none⟩ = some (.int .i64 x1) := by rw [(bcell hb).1 _ _ (by omega)]; exact k2
          have d3 : w2.cell? ⟨g, k * 3 + 2, none⟩ = some (.int .i64 x2) := by rw [(bcell hb).1 _ _ (by omega)]; exact k4
          have e0 := hB2.2.2.1.cell 0
          have e1 := hB2.2.2.1.cell 1
          have e2 := hB2.2.2.1.cell 2
          have f0 := hB2.2.2.1.frozen 0
          have f1 := hB2.2.2.1.frozen 1
          have f2 := hB2.2.2.1.frozen 2
          simp [r3] at e0 e1 e2
          have HS : Hid (BsRel w (((w2.setCell ⟨B6, 0, none⟩ (.int .i64 x0)).setCell ⟨B6, 1, none⟩ (.int .i64 x1)).setCell ⟨B6, 2, none⟩ (.int .i64 x2)) (.slice (some ⟨g, 0, none⟩) n cap) B6 (lastH L a (k + 1))) := by show BsRel _ _ _ _ _; rw [Hnext.out]; exact hB2.store (x0, x1, x2)
          clear hb hB2 k0 k1 k2 k3 k4 hcall
          go_wp2_with fail
          go_roundw
          case rel => exact ⟨k + 1, by omega, by rw [Hnext.out]; rfl, by go_num, HS⟩
          case measure => simp [intOf]; omega
        · rw [Bool.not_eq_true] at hf
          have Hh := Lib.hid hh
          have Hf := Lib.hid hf
          rw [hf]
          clear hh hf
          go_wp2_with fail
          refine wp_region_held_drew (S := (fun w' => w'.cell? ⟨w.heap.size, 0, none⟩ = some (.slice (some ⟨g, 0, none⟩) n cap) ∧ w'.cell? ⟨g, k * 3, none⟩ = some (.int .i64 x0) ∧ w'.cell? ⟨g, k * 3 + 1, none⟩ = some (.int .i64 x1) ∧ w'.cell? ⟨B6, 1, none⟩ = some (.int .i64 y1) ∧ wr.heap.size ≤ w'.heap.size ∧ Below wr.heap.size wr w')) (by kernel_rfl) ?_ (fun hHeld => ?_)
          · (first | assumption | exact rr4_start k0 k1 k2 k3 | exact rr4_drew (by assumption) | exact rr4_keep (by omega) (by omega) (by omega) (by omega) (by assumption) (by assumption))
          refine step_read 0 26 rfl rfl (by kernel_rfl) (by kernel_rfl) (by kernel_rfl) (fun _ _ _ h => h) (by rfl) (v := ?_) (fun w hSw => ?_) (by assumption) ?_; rotate_left; (focus ((try dsimp only at hSw); go_simp; first | done | exact rfl)); simp only [List.set]
          refine step_read 1 27 rfl rfl (by kernel_rfl) (by kernel_rfl) (by kernel_rfl) (fun _ _ _ h => h) (by rfl) (v := ?_) (fun w hSw => ?_) (by assumption) ?_; rotate_left; (focus ((try dsimp only at hSw); go_simp; first | done | exact rfl)); simp only [List.set]
          refine step_read 2 28 rfl rfl (by kernel_rfl) (by kernel_rfl) (by kernel_rfl) (fun _ _ _ h => h) (by rfl) (v := ?_) (fun w hSw => ?_) (by assumption) ?_; rotate_left; (focus ((try dsimp only at hSw); go_simp; first | done | exact rfl)); simp only [List.set]
          refine step_read 3 29 rfl rfl (by kernel_rfl) (by kernel_rfl) (by kernel_rfl) (fun _ _ _ h => h) (by rfl) (v := ?_) (fun w hSw => ?_) (by assumption) ?_; rotate_left; (focus ((try dsimp only at hSw); go_simp; first | done | exact rfl)); simp only [List.set]
          refine step_read 4 30 rfl rfl (by kernel_rfl) (by kernel_rfl) (by kernel_rfl) (fun _ _ _ h => h) (by rfl) (v := ?_) (fun w hSw => ?_) (by assumption) ?_; rotate_left; (focus ((try dsimp only at hSw); go_simp; first | done | exact rfl)); simp only [List.set]
          refine step_read 5 31 rfl rfl (by kernel_rfl) (by kernel_rfl) (by kernel_rfl) (fun _ _ _ h => h) (by rfl) (v := ?_) (fun w hSw => ?_) (by assumption) ?_; rotate_left; (focus ((try dsimp only at hSw); go_simp; first | done | exact rfl)); simp only [List.set]
          refine step_read 6 32 rfl rfl (by kernel_rfl) (by kernel_rfl) (by kernel_rfl) (fun _ _ _ h => h) (by rfl) (v := ?_) (fun w hSw => ?_) (by assumption) ?_; rotate_left; (focus ((try dsimp only at hSw); go_simp; first | done | exact rfl)); simp only [List.set]
          (refine wpAnyH_ready (rs := [7]) (by kernel_rfl) (by simp) ?_; refine AllReadyH.cons rfl (fun K hK => ?_) AllReadyH.nil; go_simp; (go_at_call 27; refine (hcall _).mono ?_; rintro e w2 ⟨rfl, hb⟩); refine hK.out _ _ ?_ (fun hHeld => ?_); (focus ((first | assumption | exact rr4_start k0 k1 k2 k3 | exact rr4_drew (by assumption) | exact rr4_keep (by omega) (by omega) (by omega) (by omega) (by assumption) (by assumption)))); clear hK K)
          refine step_read 8 34 rfl rfl (by kernel_rfl) (by kernel_rfl) (by kernel_rfl) (fun _ _ _ h => h) (by rfl) (v := ?_) (fun w hSw => ?_) (by assumption) ?_; rotate_left; (focus ((try dsimp only at hSw); go_simp; first | done | exact rfl)); simp only [List.set]
          refine step_read 9 35 rfl rfl (by kernel_rfl) (by kernel_rfl) (by kernel_rfl) (fun _ _ _ h => h) (by rfl) (v := ?_) (fun w hSw => ?_) (by assumption) ?_; rotate_left; (focus ((try dsimp only at hSw); go_simp; first | done | exact rfl)); simp only [List.set]
          refine step_read 10 36 rfl rfl (by kernel_rfl) (by kernel_rfl) (by kernel_rfl) (fun _ _ _ h => h) (by rfl) (v := ?_) (fun w hSw => ?_) (by assumption) ?_; rotate_left; (focus ((try dsimp only at hSw); go_simp; first | done | exact rfl)); simp only [List.set]
          refine step_read 11 37 rfl rfl (by kernel_rfl) (by kernel_rfl) (by kernel_rfl) (fun _ _ _ h => h) (by rfl) (v := ?_) (fun w hSw => ?_) (by assumption) ?_; rotate_left; (focus ((try dsimp only at hSw); go_simp; first | done | exact rfl)); simp only [List.set]
          refine step_skip 12 38 rfl rfl (by kernel_rfl) (by kernel_rfl) (by kernel_rfl) (fun _ _ _ h => h) (by rfl) (by assumption) ?_; simp only [List.set]
          refine step_skip 13 39 rfl rfl (by kernel_rfl) (by kernel_rfl) (by kernel_rfl) (fun _ _ _ h => h) (by rfl) (by assumption) ?_; simp only [List.set]
          refine step_skip 14 40 rfl rfl (by kernel_rfl) (by kernel_rfl) (by kernel_rfl) (fun _ _ _ h => h) (by rfl) (by assumption) ?_; simp only [List.set]
          refine step_skip 15 41 rfl rfl (by kernel_rfl) (by kernel_rfl) (by kernel_rfl) (fun _ _ _ h => h) (by rfl) (by assumption) ?_; simp only [List.set]
          refine step_skip 16 42 rfl rfl (by kernel_rfl) (by kernel_rfl) (by kernel_rfl) (fun _ _ _ h => h) (by rfl) (by assumption) ?_; simp only [List.set]
          refine step_skip 17 43 rfl rfl (by kernel_rfl) (by kernel_rfl) (by kernel_rfl) (fun _ _ _ h => h) (by rfl) (by assumption) ?_; simp only [List.set]
          refine step_skip 18 44 rfl rfl (by kernel_rfl) (by kernel_rfl) (by kernel_rfl) (fun _ _ _ h => h) (by rfl) (by assumption) ?_; simp only [List.set]
          refine step_skip 19 45 rfl rfl (by kernel_rfl) (by kernel_rfl) (by kernel_rfl) (fun _ _ _ h => h) (by rfl) (by assumption) ?_; simp only [List.set]
          refine step_skip 20 46 rfl rfl (by kernel_rfl) (by kernel_rfl) (by kernel_rfl) (fun _ _ _ h => h) (by rfl) (by assumption) ?_; simp only [List.set]
          refine step_skip 21 47 rfl rfl (by kernel_rfl) (by kernel_rfl) (by kernel_rfl) (fun _ _ _ h => h) (by rfl) (by assumption) ?_; simp only [List.set]
          refine step_skip 22 48 rfl rfl (by kernel_rfl) (by kernel_rfl) (by kernel_rfl) (fun _ _ _ h => h) (by rfl) (by assumption) ?_; simp only [List.set]
          refine step_read 23 49 rfl rfl (by kernel_rfl) (by kernel_rfl) (by kernel_rfl) (fun _ _ _ h => h) (by rfl) (v := ?_) (fun w hSw => ?_) (by assumption) ?_; rotate_left; (focus ((try dsimp only at hSw); go_simp; first | done | exact rfl)); simp only [List.set]
          refine step_read 24 50 rfl rfl (by kernel_rfl) (by kernel_rfl) (by kernel_rfl) (fun _ _ _ h => h) (by rfl) (v := ?_) (fun w hSw => ?_) (by assumption) ?_; rotate_left; (focus ((try dsimp only at hSw); go_simp; first | done | exact rfl)); simp only [List.set]
          refine wpAnyH_done (by kernel_rfl) ?_ _
          have hb := (rr4_out (by assumption)).2
          have hB2 : BsRel w w2 (.slice (some ⟨g, 0, none⟩) n cap) B6 (lastH L a k) := hR.out.below hb
          have d0 : w2.cell? ⟨w.heap.size, 0, none⟩ = some (.slice (some ⟨g, 0, none⟩) n cap) := hB2.1.cell 0
          have d1 : w2.cell? ⟨g, k * 3, none⟩ = some (.int .i64 x0) := by rw [(bcell hb).1 _ _ (by omega)]; exact k1
          have d2 : w2.cell? ⟨g, k * 3 + 1, none⟩ = some (.int .i64 x1) := by rw [(bcell hb).1 _ _ (by omega)]; exact k2
          have d3 : w2.cell? ⟨g, k * 3 + 2, none⟩ = some (.int .i64 x2) := by rw [(bcell hb).1 _ _ (by omega)]; exact k4
          have e0 := hB2.2.2.1.cell 0
          have e1 := hB2.2.2.1.cell 1
          have e2 := hB2.2.2.1.cell 2
          have f0 := hB2.2.2.1.frozen 0
          have f1 := hB2.2.2.1.frozen 1
          have f2 := hB2.2.2.1.frozen 2
          simp [r3] at e0 e1 e2
          have HS : Hid (BsRel w (((w2.setCell ⟨B6, 0, none⟩ (.int .i64 x0)).setCell ⟨B6, 1, none⟩ (.int .i64 x1)).setCell ⟨B6, 2, none⟩ (.int .i64 x2)) (.slice (some ⟨g, 0, none⟩) n cap) B6 (lastH L a (k + 1))) := by show BsRel _ _ _ _ _; rw [Hnext.out]; exact hB2.store (x0, x1, x2)
          clear hb hB2 k0 k1 k2 k3 k4 hcall
          go_wp2_with fail
          go_roundw
          case rel => exact ⟨k + 1, by omega, by rw [Hnext.out]; rfl, by go_num, HS⟩
          case measure => simp [intOf]; omega
      · rw [Bool.not_eq_true] at hh
        rw [hh] at hcall
        have Hnext : Hid (lastH L a (k + 1) = lastH L a k) := by show lastH L a (k + 1) = _; rw [Hnext.out, if_neg (by rw [hh]; decide)]
        have Hh := Lib.hid hh
        clear hh
        generalize hff : (lastH L a k).isSome = ff
        have Hff := Lib.hid hff
        clear hff
        go_wp2_with fail
        refine wp_region_held_drew (S := (fun w' => w'.cell? ⟨w.heap.size, 0, none⟩ = some (.slice (some ⟨g, 0, none⟩) n cap) ∧ w'.cell? ⟨g, k * 3, none⟩ = some (.int .i64 x0) ∧ w'.cell? ⟨g, k * 3 + 1, none⟩ = some (.int .i64 x1) ∧ w'.cell? ⟨B6, 1, none⟩ = some (.int .i64 y1) ∧ wr.heap.size ≤ w'.heap.size ∧ Below wr.heap.size wr w')) (by kernel_rfl) ?_ (fun hHeld => ?_)
        · (first | assumption | exact rr4_start k0 k1 k2 k3 | exact rr4_drew (by assumption) | exact rr4_keep (by omega) (by omega) (by omega) (by omega) (by assumption) (by assumption))
        refine step_read 0 26 rfl rfl (by kernel_rfl) (by kernel_rfl) (by kernel_rfl) (fun _ _ _ h => h) (by rfl) (v := ?_) (fun w hSw => ?_) (by assumption) ?_; rotate_left; (focus ((try dsimp only at hSw); go_simp; first | done | exact rfl)); simp only [List.set]
        refine step_read 1 27 rfl rfl (by kernel_rfl) (by kernel_rfl) (by kernel_rfl) (fun _ _ _ h => h) (by rfl) (v := ?_) (fun w hSw => ?_) (by assumption) ?_; rotate_left; (focus ((try dsimp only at hSw); go_simp; first | done | exact rfl)); simp only [List.set]
        refine step_read 2 28 rfl rfl (by kernel_rfl) (by kernel_rfl) (by kernel_rfl) (fun _ _ _ h => h) (by rfl) (v := ?_) (fun w hSw => ?_) (by assumption) ?_; rotate_left; (focus ((try dsimp only at hSw); go_simp; first | done | exact rfl)); simp only [List.set]
        refine step_read 3 29 rfl rfl (by kernel_rfl) (by kernel_rfl) (by kernel_rfl) (fun _ _ _ h => h) (by rfl) (v := ?_) (fun w hSw => ?_) (by assumption) ?_; rotate_left; (focus ((try dsimp only at hSw); go_simp; first | done | exact rfl)); simp only [List.set]
        refine step_read 4 30 rfl rfl (by kernel_rfl) (by kernel_rfl) (by kernel_rfl) (fun _ _ _ h => h) (by rfl) (v := ?_) (fun w hSw => ?_) (by assumption) ?_; rotate_left; (focus ((try dsimp only at hSw); go_simp; first | done | exact rfl)); simp only [List.set]
        refine step_read 5 31 rfl rfl (by kernel_rfl) (by kernel_rfl) (by kernel_rfl) (fun _ _ _ h => h) (by rfl) (v := ?_) (fun w hSw => ?_) (by assumption) ?_; rotate_left; (focus ((try dsimp only at hSw); go_simp; first | done | exact rfl)); simp only [List.set]
        refine step_read 6 32 rfl rfl (by kernel_rfl) (by kernel_rfl) (by kernel_rfl) (fun _ _ _ h => h) (by rfl) (v := ?_) (fun w hSw => ?_) (by assumption) ?_; rotate_left; (focus ((try dsimp only at hSw); go_simp; first | done | exact rfl)); simp only [List.set]
        (refine wpAnyH_ready (rs := [7]) (by kernel_rfl) (by simp) ?_; refine AllReadyH.cons rfl (fun K hK => ?_) AllReadyH.nil; go_simp; (go_at_call 27; refine (hcall _).mono ?_; rintro e w2 ⟨rfl, hb⟩); refine hK.out _ _ ?_ (fun hHeld => ?_); (focus ((first | assumption | exact rr4_start k0 k1 k2 k3 | exact rr4_drew (by assumption) | exact rr4_keep (by omega) (by omega) (by omega) (by omega) (by assumption) (by assumption)))); clear hK K)
        refine step_read 8 34 rfl rfl (by kernel_rfl) (by kernel_rfl) (by kernel_rfl) (fun _ _ _ h => h) (by rfl) (v := ?_) (fun w hSw => ?_) (by assumption) ?_; rotate_left; (focus ((try dsimp only at hSw); go_simp; first | done | exact rfl)); simp only [List.set]
        refine step_skip 9 35 rfl rfl (by kernel_rfl) (by kernel_rfl) (by kernel_rfl) (fun _ _ _ h => h) (by rfl) (by assumption) ?_; simp only [List.set]
        refine step_skip 10 36 rfl rfl (by kernel_rfl) (by kernel_rfl) (by kernel_rfl) (fun _ _ _ h => h) (by rfl) (by assumption) ?_; simp only [List.set]
        refine step_skip 11 37 rfl rfl (by kernel_rfl) (by kernel_rfl) (by kernel_rfl) (fun _ _ _ h => h) (by rfl) (by assumption) ?_; simp only [List.set]
        refine step_skip 12 38 rfl rfl (by kernel_rfl) (by kernel_rfl) (by kernel_rfl) (fun _ _ _ h => h) (by rfl) (by assumption) ?_; simp only [List.set]
        refine step_skip 13 39 rfl rfl (by kernel_rfl) (by kernel_rfl) (by kernel_rfl) (fun _ _ _ h => h) (by rfl) (by assumption) ?_; simp only [List.set]
        refine step_skip 14 40 rfl rfl (by kernel_rfl) (by kernel_rfl) (by kernel_rfl) (fun _ _ _ h => h) (by rfl) (by assumption) ?_; simp only [List.set]
        refine step_skip 15 41 rfl rfl (by kernel_rfl) (by kernel_rfl) (by kernel_rfl) (fun _ _ _ h => h) (by rfl) (by assumption) ?_; simp only [List.set]
        refine step_skip 16 42 rfl rfl (by kernel_rfl) (by kernel_rfl) (by kernel_rfl) (fun _ _ _ h => h) (by rfl) (by assumption) ?_; simp only [List.set]
        refine step_skip 17 43 rfl rfl (by kernel_rfl) (by kernel_rfl) (by kernel_rfl) (fun _ _ _ h => h) (by rfl) (by assumption) ?_; simp only [List.set]
        refine step_skip 18 44 rfl rfl (by kernel_rfl) (by kernel_rfl) (by kernel_rfl) (fun _ _ _ h => h) (by rfl) (by assumption) ?_; simp only [List.set]
        refine step_skip 19 45 rfl rfl (by kernel_rfl) (by kernel_rfl) (by kernel_rfl) (fun _ _ _ h => h) (by rfl) (by assumption) ?_; simp only [List.set]
        refine step_skip 20 46 rfl rfl (by kernel_rfl) (by kernel_rfl) (by kernel_rfl) (fun _ _ _ h => h) (by rfl) (by assumption) ?_; simp only [List.set]
        refine step_skip 21 47 rfl rfl (by kernel_rfl) (by kernel_rfl) (by kernel_rfl) (fun _ _ _ h => h) (by rfl) (by assumption) ?_; simp only [List.set]
        refine step_skip 22 48 rfl rfl (by kernel_rfl) (by kernel_rfl) (by kernel_rfl) (fun _ _ _ h => h) (by rfl) (by assumption) ?_; simp only [List.set]
        refine step_skip 23 49 rfl rfl (by kernel_rfl) (by kernel_rfl) (by kernel_rfl) (fun _ _ _ h => h) (by rfl) (by assumption) ?_; simp only [List.set]
        refine step_read 24 50 rfl rfl (by kernel_rfl) (by kernel_rfl) (by kernel_rfl) (fun _ _ _ h => h) (by rfl) (v := ?_) (fun w hSw => ?_) (by assumption) ?_; rotate_left; (focus ((try dsimp only at hSw); go_simp; first | done | exact rfl)); simp only [List.set]
        refine wpAnyH_done (by kernel_rfl) ?_ _
        go_wp2_with fail
        have hb := (rr4_out (by assumption)).2
        have HS : Hid (BsRel w w2 (.slice (some ⟨g, 0, none⟩) n cap) B6 (lastH L a (k + 1))) := by show BsRel _ _ _ _ _; rw [Hnext.out]; exact hR.out.below hb
        go_roundw
        case rel => exact ⟨k + 1, by omega, by rw [Hnext.out, Hff.out], by go_num, HS⟩
        case measure => simp [intOf]; omega
    · have hge : ¬ ((k : Int) < (n : Int)) := by omega
      obtain rfl : k = n := by omega
      obtain ⟨h1, h2, h3, h4, h5⟩ := hR.out
      have c0 : wr.cell? ⟨w.heap.size, 0, none⟩ = some (.slice (some ⟨g, 0, none⟩) k cap) := h1.cell 0
      have d0 := h2.cell 0
      have d1 := h2.cell 1
      have d2 := h2.cell 2
      have f0 := h2.frozen 0
      have f1 := h2.frozen 1
      have f2 := h2.frozen 2
      have e0 := h3.cell 0
      have e1 := h3.cell 1
      have e2 := h3.cell 2
      simp [r3, z3] at d0 d1 d2 e0 e1 e2
      have HB := Lib.hid h5
      generalize hff : (lastH L a k).isSome = ff
      generalize hoo : optR (lastH L a k) = oo at *
      have Hff := Lib.hid hff
      clear hff h1 h2 h3 h5 hR
      obtain ⟨o0, o1, o2⟩ := oo
      dsimp only at e0 e1 e2
      go_wp2
      refine bodyPost_ret (v := .tuple #[.agg (r3 (o0, o1, o2)), .bool ff]) (by simp [results, Try.results26, go_sem, r3, *]) rfl ⟨by rw [Hff.out], ?_⟩
      exact ((HB.out.setCell (by simp) _).setCell (by simp) _).setCell (by simp) _

set_option maxHeartbeats 1000000 in
theorem sbest_nil (ad : Option Addr) (c : Nat) (a : Int) (w : World) (ha : inB a 0 65535 = true) :
    Calls Try.prog 26 #[.agg #[.slice ad 0 c], .int .i64 a] w fun e w' => e = .returned (.tuple #[.agg z3, .bool false]) ∧ Below w.heap.size w w' := by
  go_enter Try.func26, Try.ntmps26
  go_wp2_with fail
  go_at_call 39
  refine (stok_nil ad c _).mono ?_
  rintro e w1 ⟨rfl, hb1⟩
  have hz1 : w.heap.size + 2 ≤ w1.heap.size := by have hh := hb1.size; simp at hh; omega
  have q0 := (BlkB.new w #[.slice ad 0 c] 30).alloc (.cells z3 43)
  have q1 := BlkB.new (w.alloc (.cells #[.slice ad 0 c] 30)) z3 43
  simp only [World.size_alloc] at q1
  have k0 := q0.below hb1 (by simp; omega)
  have k1 := q1.below hb1 (by simp)
  have hB1 : Below w.heap.size w w1 := Below.trans (by go_grown) (hb1.mono (by simp; omega))
  have c0 : w1.cell? ⟨w.heap.size, 0, none⟩ = some (.slice ad 0 c) := k0.cell 0
  have d0 := k1.cell 0
  have d1 := k1.cell 1
  have d2 := k1.cell 2
  have f0 := k1.frozen 0
  have f1 := k1.frozen 1
  have f2 := k1.frozen 2
  simp [z3] at d0 d1 d2
  have HB := Lib.hid hB1
  have a0 : w.heap.size < w1.heap.size := by omega
  have a1 : w.heap.size ≠ w1.heap.size := by omega
  have a2 : w.heap.size + 1 < w1.heap.size := by omega
  have a3 : w.heap.size + 1 ≠ w1.heap.size := by omega
  clear hb1 q0 q1 k0 k1 hB1
  go_wp2_with (go_at_call 68; refine (addr_any a _).mono ?_; rw [ha]; rintro e w' ⟨rfl, rfl⟩)
  go_loop [7, 8] (fun f i => f = .bool false ∧ i = .int .i64 0) (fun _ i => (intOf i).toNat)
  case atStart => exact ⟨rfl, rfl⟩
  case round =>
    obtain ⟨rfl, rfl⟩ := hrel
    go_wp2
    refine bodyPost_ret (v := .tuple #[.agg z3, .bool false]) (by simp [results, Try.results26, go_sem, z3, *]) rfl ⟨rfl, ?_⟩
    exact (((HB.out.setCell (p := ⟨w.heap.size + 1, 0, none⟩) (by simp) _).setCell (p := ⟨w.heap.size + 1, 1, none⟩) (by simp) _).setCell (p := ⟨w.heap.size + 1, 2, none⟩) (by simp) _).alloc (by simp [World.setCell]; omega) _

set_option maxHeartbeats 1000000 in
theorem sbest_no (ad : Option Addr) (n c : Nat) (a : Int) (w : World)
    (htok : ∀ w1, Below w.heap.size w w1 → Calls Try.prog 39 #[.agg #[.slice ad n c]] w1 fun e w' => e = .returned (.bool false) ∧ Below w1.heap.size w1 w') :
    Calls Try.prog 26 #[.agg #[.slice ad n c], .int .i64 a] w fun e w' => e = .returned (.tuple #[.agg z3, .bool false]) ∧ Below w.heap.size w w' := by
  have Htok := Lib.hid htok
  clear htok
  go_enter Try.func26, Try.ntmps26
  go_wp2_with fail
  go_at_call 39
  refine (Htok.out _ (by go_grown)).mono ?_
  rintro e w1 ⟨rfl, hb1⟩
  have q1 := BlkB.new (w.alloc (.cells #[.slice ad n c] 30)) z3 43
  simp only [World.size_alloc] at q1
  have k1 := q1.below hb1 (by simp)
  have hB1 : Below w.heap.size w w1 := Below.trans (by go_grown) (hb1.mono (by simp; omega))
  have d0 := k1.cell 0
  have d1 := k1.cell 1
  have d2 := k1.cell 2
  have f0 := k1.frozen 0
  have f1 := k1.frozen 1
  have f2 := k1.frozen 2
  simp [z3] at d0 d1 d2
  have HB := Lib.hid hB1
  clear hb1 q1 k1 hB1
  go_wp2_with fail
  refine bodyPost_ret (v := .tuple #[.agg z3, .bool false]) (by simp [results, Try.results26, go_sem, z3, *]) rfl ⟨rfl, ?_⟩
  exact ((HB.out.setCell (by simp) _).setCell (by simp) _).setCell (by simp) _

set_option maxHeartbeats 1000000 in
theorem sbest_bad (ad : Option Addr) (n c : Nat) (a : Int) (w : World) (ha : inB a 0 65535 = false)
    (htok : ∀ w1, Below w.heap.size w w1 → Calls Try.prog 39 #[.agg #[.slice ad n c]] w1 fun e w' => e = .returned (.bool true) ∧ Below w1.heap.size w1 w') :
    Calls Try.prog 26 #[.agg #[.slice ad n c], .int .i64 a] w fun e w' => e = .returned (.tuple #[.agg z3, .bool false]) ∧ Below w.heap.size w w' := by
  have Htok := Lib.hid htok
  clear htok
  go_enter Try.func26, Try.ntmps26
  go_wp2_with fail
  go_at_call 39
  refine (Htok.out _ (by go_grown)).mono ?_
  rintro e w1 ⟨rfl, hb1⟩
  have q1 := BlkB.new (w.alloc (.cells #[.slice ad n c] 30)) z3 43
  simp only [World.size_alloc] at q1
  have k1 := q1.below hb1 (by simp)
  have hB1 : Below w.heap.size w w1 := Below.trans (by go_grown) (hb1.mono (by simp; omega))
  have d0 := k1.cell 0
  have d1 := k1.cell 1
  have d2 := k1.cell 2
  have f0 := k1.frozen 0
  have f1 := k1.frozen 1
  have f2 := k1.frozen 2
  simp [z3] at d0 d1 d2
  have HB := Lib.hid hB1
  clear hb1 q1 k1 hB1
  go_wp2_with (go_at_call 68; refine (addr_any a _).mono ?_; rw [ha]; rintro e w' ⟨rfl, rfl⟩)
  refine bodyPost_ret (v := .tuple #[.agg z3, .bool false]) (by simp [results, Try.results26, go_sem, z3, *]) rfl ⟨rfl, ?_⟩
  exact ((HB.out.setCell (by simp) _).setCell (by simp) _).setCell (by simp) _

/-- The best route: of a valid table and an address, the last that has it. -/
def bestO (L : List Rt) (a : Int) : Option Rt := if tok L = true ∧ inB a 0 65535 = true then lastH L a L.length else none

theorem sbest_any (lo hi n : Nat) (v : Value) (L : List Rt) (a : Int) (w : World) (hL : L.length = n) (hr : Row 3 w lo hi v n (flat L)) (hh : hi ≤ w.heap.size) :
    Calls Try.prog 26 #[.agg #[v], .int .i64 a] w fun e w' => e = .returned (.tuple #[.agg (r3 (optR (bestO L a))), .bool (bestO L a).isSome]) ∧ Below w.heap.size w w' := by
  have htk : ∀ w1, Below w.heap.size w w1 → Calls Try.prog 39 #[.agg #[v]] w1 fun e w' => e = .returned (.bool (tok L)) ∧ Below w1.heap.size w1 w' := fun w1 hb => stok_any lo hi n v L w1 hL (hr.below hb hh) (Nat.le_trans hh hb.size)
  obtain ⟨ad, c, rfl⟩ := hr.slice
  unfold bestO
  by_cases ht : tok L = true
  · rw [ht] at htk
    by_cases ha : inB a 0 65535 = true
    · rw [if_pos ⟨ht, ha⟩]
      rcases hr.2 with ⟨rfl, a', c', e⟩ | ⟨g, cap, e, h1, h2, h3, h4, h5⟩
      · have : L = [] := List.eq_nil_of_length_eq_zero hL
        subst this
        exact sbest_nil ad c a w ha
      · simp only [Value.slice.injEq, true_and] at e
        obtain ⟨rfl, rfl⟩ := e
        rw [hL]
        exact sbest_some g n _ L a w hL h3 (by omega) h4 ht ha htk
    · rw [if_neg (fun h => ha h.2)]
      rw [Bool.not_eq_true] at ha
      exact sbest_bad ad n c a w ha htk
  · rw [if_neg (fun h => ht h.1)]
    rw [Bool.not_eq_true] at ht
    rw [ht] at htk
    exact sbest_no ad n c a w htk

end Go.Proofs.Ytgdnfglhlpnooaa
