/- Numbers as bytes. -/
import Derived.Test.YtfpafjdakipccaaX1
import Derived.Laws.BitsLemmas
namespace Go.Proofs.Ytfpafjdakipccaa
open Go.RowKit
theorem Try.info5 : (Try.prog.info? 5).map (fun i => (i.zero, i.size, i.bytes)) = some (some (.int .u8 0), 1, 1) := by kernel_rfl
theorem cell_one_new (w : World) (x : Value) (T : TypeId) {B : Nat} (hB : B = w.heap.size) (j : Nat) (u : Value) (h : [x][j]? = some u) : (w.alloc (.cells #[x] T)).cell? ((⟨B, 0, none⟩ : Addr).add j) = some u := by
  subst hB
  rcases j with _ | j
  · simp at h; subst h; simp [Addr.add]
  · simp at h
theorem byt_one (z : Int) : ∀ u ∈ [Value.int .u8 z], u.oneCell' = true := by intro u hu; simp at hu; subst hu; rfl
theorem Own.lit0 (E : TypeId) (w : World) (k : Nat) : Own E k w (w.alloc (.cells #[] E)) (.slice (some ⟨w.heap.size, 0, none⟩) 0 0) 0 [] :=
  ⟨(Below.refl _ _).alloc (Nat.le_refl _) _, ⟨by simp, .inr ⟨_, 0, #[], rfl, Nat.le_refl _, heap_alloc_new w (.cells #[] E), Nat.zero_le _, by simp, by simp, by simp⟩⟩⟩
def nbw (k p : Nat) (x : Int) : List Int := (List.range (k - p)).map fun i => (x / 256 ^ (k - 1 - i)) % 256
def nb (k : Nat) (x : Int) : List Int := nbw k 0 x
theorem nbw_start (k : Nat) (x : Int) : nbw k k x = [] := by simp [nbw]
theorem nbw_step {k p : Nat} (h : p < k) (x : Int) : nbw k p x = nbw k (p + 1) x ++ [(x / 256 ^ p) % 256] := by
  unfold nbw
  rw [show k - p = (k - (p + 1)) + 1 by omega, List.range_succ, List.map_append]
  simp only [List.map_cons, List.map_nil]
  rw [show k - 1 - (k - (p + 1)) = p by omega]
theorem nbw_len (k p : Nat) (x : Int) : (nbw k p x).length = k - p := by simp [nbw]
theorem nb_len (k : Nat) (x : Int) : (nb k x).length = k := by simp [nb, nbw_len]
theorem p256 (q : Nat) : (2 : Int) ^ (8 * q) = 256 ^ q := by rw [Int.pow_mul]; rfl
theorem byts_snoc (Z : List Int) (z : Int) : byts Z ++ [.int .u8 z] = byts (Z ++ [z]) := by simp [byts]
theorem nb_app {k q : Nat} (h : q < k) (Z : List Int) (x y : Int) (hy : y = x / 256 ^ q % 256) : byts (Z ++ nbw k (q + 1) x) ++ [.int .u8 y] = byts (Z ++ nbw k q x) := by
  rw [byts_snoc, List.append_assoc, nbw_step h, hy]
structure AppP (B w : World) (v0 : Value) (n : Nat) (X : List Value) (wr : World) (v : Value) : Prop where
  own : Own 5 1 B wr v n X
  fr : w.grownBy wr v0.ownBlock
  at_ : ∀ g, v.ownBlock = some g -> v0.ownBlock = some g ∨ w.heap.size <= g
theorem AppP.start {B w : World} {v : Value} {n : Nat} {X : List Value} (h : Own 5 1 B w v n X) : AppP B w v n X w v := ⟨h, ⟨rfl, rfl, rfl, Nat.le_refl _, fun _ _ _ => rfl⟩, fun _ h => .inl h⟩
theorem grown_alloc {w wr w4 : World} {o : Obj} {r r' : Option Nat} (h : w.grownBy wr r) (hg : (wr.alloc o).grownBy w4 r') (hr : ∀ g, r' = some g -> r = some g ∨ w.heap.size <= g) : w.grownBy w4 r := by
  have b := (Below.refl wr.heap.size wr).alloc (Nat.le_refl _) o
  have hs := h.size
  refine ⟨hg.os.trans (b.os.trans h.os), hg.tape.trans (b.tape.trans h.tape), hg.output.trans (b.output.trans h.output), Nat.le_trans hs (Nat.le_trans b.size hg.size), fun k hk hne => ?_⟩
  refine (hg.block k (Nat.lt_of_lt_of_le (Nat.lt_of_lt_of_le hk hs) b.size) (fun e => ?_)).trans ((b.block k (by omega)).trans (h.block k hk hne))
  rcases hr k e.symm with h1 | h1
  · exact hne h1.symm
  · omega
theorem AppP.step {B w wr w4 : World} {v0 v : Value} {m m' g c' : Nat} {X Y : List Value} {o : Obj} (h : AppP B w v0 m X wr v) (hg : (wr.alloc o).grownBy w4 v.ownBlock) (hr : w4.ownsRow B.heap.size 5 1 (.slice (some ⟨g, 0, none⟩) m' c') m' (X ++ Y)) (hat : v.ownBlock = some g ∨ g = (wr.alloc o).heap.size) : AppP B w v0 m' (X ++ Y) w4 (.slice (some ⟨g, 0, none⟩) m' c') := by
  refine ⟨(h.own.alloc o).app hg hr, grown_alloc h.fr hg h.at_, fun q hq => ?_⟩
  simp [Value.ownBlock] at hq
  subst hq
  rcases hat with h1 | h1
  · exact h.at_ _ h1
  · have := h.fr.size
    right
    rw [h1]
    simp
    omega
theorem grown_cell {w w' : World} {r : Option Nat} {b o : Nat} (h : w.grownBy w' r) (hb : b < w.heap.size) (hr : some b ≠ r) : w'.cell? ⟨b, o, none⟩ = w.cell? ⟨b, o, none⟩ := World.cell?_of_block (w := w) (a := ⟨b, o, none⟩) (h.block b hb hr)
set_option maxRecDepth 100000 in
set_option maxHeartbeats 2400000 in
theorem appn_any (B : World) (v : Value) (n : Nat) (Z : List Int) (k : Nat) (x : Int) (w : World) (h : Own 5 1 B w v n (byts Z)) (hk : k <= 4) (hn : n <= 1000000) :
    Calls Try.prog 120 #[v, .int .i64 (k : Int), .int .i64 x] w fun e w' => ∃ rv, e = .returned rv /\ AppP B w v (n + k) (byts (Z ++ nb k x)) w' rv := by
  obtain ⟨iB, hi, hz0, hz1, hz2⟩ := info_parts Try.info5
  have I := Lib.hid (And.intro hi (And.intro hz0 (And.intro hz1 hz2)))
  clear hi hz0 hz1 hz2
  obtain ⟨a, c, rfl⟩ := h.slice
  have HO := Lib.hid h
  clear h
  obtain ⟨v0, hv0⟩ : ∃ q, q = Value.slice a n c := ⟨_, rfl⟩
  have HV := Lib.hid hv0
  have HS : Hid (AppP B w v0 n (byts Z) w (.slice a n c)) := by
    rw [hv0]
    exact Lib.hid (AppP.start HO.out)
  clear hv0
  suffices hgoal : Calls Try.prog 120 #[.slice a n c, .int .i64 (k : Int), .int .i64 x] w fun e w' => ∃ rv, e = .returned rv /\ AppP B w v0 (n + k) (byts (Z ++ nb k x)) w' rv by
    rw [HV.out] at hgoal
    exact hgoal
  go_enter Try.func120, Try.ntmps120
  go_wp2
  go_loopw [0, 7] (fun v i wr => ∃ (p : Nat), p <= k /\ i = .int .i64 ((p : Int) - 1) /\ Hid (AppP B w v0 (n + (k - p)) (byts (Z ++ nbw k p x)) wr v)) (fun _ i _ => (intOf i + 1).toNat)
  case atStart => exact ⟨k, Nat.le_refl _, rfl, by rw [nbw_start, List.append_nil, Nat.sub_self]; exact HS⟩
  case round =>
    obtain ⟨p, hp, rfl, hO⟩ := hrel
    obtain ⟨a', c', rfl⟩ := hO.out.own.slice
    by_cases hz : p = 0
    · subst hz
      have h0 : ((0 : Nat) : Int) - 1 = -1 := rfl
      rw [h0]
      clear h0
      rw [Nat.sub_zero] at hO
      rw [Nat.sub_zero]
      go_wp2_with fail
      refine bodyPost_ret (v := .slice a' (n + k) c') (by simp [results, Try.results120, go_sem]) rfl ⟨_, rfl, ?_⟩
      exact hO.out
    · obtain ⟨q, rfl⟩ : ∃ q, p = q + 1 := ⟨p - 1, by omega⟩
      have e1 : ((q + 1 : Nat) : Int) - 1 = (q : Int) := by omega
      rw [e1]
      obtain ⟨m, hm⟩ : ∃ m, m = n + (k - (q + 1)) := ⟨_, rfl⟩
      rw [<- hm] at hO
      rw [<- hm]
      have hm2 : m + 1 = n + (k - q) := by omega
      have hm3 : m <= 1000004 := by omega
      have hbs := hO.out.own.size
      have Hm := Lib.hid hm2
      have hq : (0 : Int) <= (q : Int) := by omega
      have hq4 : (q : Int) <= 4 := by omega
      clear hz hm hm2 e1
      go_wp2_with (at_builtin; refine wpList_append_lies _ rfl _ _ 22 rfl B.heap.size 5 iB (.int .u8 0) 1 1 Try.underlying22 I.out.1 I.out.2.1 I.out.2.2.1 I.out.2.2.2 rfl (by decide) _ (m) (byts (Z ++ nbw k (q + 1) x)) rfl ((hO.out.own.alloc _).row) ⟨wr.heap.size, 0, none⟩ 1 1 [.int .u8 (x / 2 ^ (8 * q) % 256)] rfl rfl ?d0 (byt_one _) (by decide) ?d1 ?d2 ?d3 _ rfl ?_)
      case d0 => exact fun j u hj => cell_one_new _ _ 5 rfl j u hj
      case d1 => unfold maxLen; omega
      case d2 => omega
      case d3 => simp <;> omega
      intro g4 cap4 w4 hown4 hgrow4 hat4 hlt4
      have HE : Hid (AppP B w v0 (n + (k - q)) (byts (Z ++ nbw k q x)) w4 (.slice (some ⟨g4, 0, none⟩) (n + (k - q)) cap4)) := by
        have hh := hO.out.step hgrow4 hown4 (hat4.imp id (fun e => by rw [e]; simp))
        rw [nb_app (by omega) Z x _ (by rw [p256]), Hm.out] at hh
        exact Lib.hid hh
      rw [Hm.out]
      clear hown4 hgrow4 hat4 hlt4 hO
      go_wp2_with fail
      go_roundw
      case rel => exact ⟨q, by omega, rfl, HE⟩
      case measure => first | (simp [intOf]; done) | (simp [intOf]; omega)
theorem appn_1 (B : World) (v : Value) (n : Nat) (Z : List Int) (x : Int) (w : World) (h : Own 5 1 B w v n (byts Z)) (hn : n <= 1000000) :
    Calls Try.prog 120 #[v, .int .i64 1, .int .i64 x] w fun e w' => ∃ rv, e = .returned rv /\ AppP B w v (n + 1) (byts (Z ++ nb 1 x)) w' rv := appn_any B v n Z 1 x w h (by omega) hn
theorem appn_2 (B : World) (v : Value) (n : Nat) (Z : List Int) (x : Int) (w : World) (h : Own 5 1 B w v n (byts Z)) (hn : n <= 1000000) :
    Calls Try.prog 120 #[v, .int .i64 2, .int .i64 x] w fun e w' => ∃ rv, e = .returned rv /\ AppP B w v (n + 2) (byts (Z ++ nb 2 x)) w' rv := appn_any B v n Z 2 x w h (by omega) hn
theorem appn_3 (B : World) (v : Value) (n : Nat) (Z : List Int) (x : Int) (w : World) (h : Own 5 1 B w v n (byts Z)) (hn : n <= 1000000) :
    Calls Try.prog 120 #[v, .int .i64 3, .int .i64 x] w fun e w' => ∃ rv, e = .returned rv /\ AppP B w v (n + 3) (byts (Z ++ nb 3 x)) w' rv := appn_any B v n Z 3 x w h (by omega) hn
theorem BRow.opened {w : World} {lo hi : Nat} {v : Value} {n : Nat} {Z : List Int} (h : BRow 1 w lo hi v n Z) :
    ∃ a c, v = .slice a n c /\ Z.length = n /\ n <= 1100000 /\ (0 < n -> ∃ g, a = some ⟨g, 0, none⟩ /\ g < hi /\ ∀ q z, Z[q]? = some z -> w.cell? ⟨g, q, none⟩ = some (.int .u8 z)) := by
  rcases h with ⟨h0, ⟨rfl, a, c, rfl⟩ | ⟨g, cap, rfl, _, h2, h3, h4, _⟩⟩
  · exact ⟨a, c, rfl, by omega, by omega, fun h => absurd h (Nat.lt_irrefl _)⟩
  · exact ⟨_, cap, rfl, by omega, h3, fun _ => ⟨g, rfl, h2, h4⟩⟩
theorem i64_and255 (x : Int) (h0 : 0 <= x) (h1 : x <= 4000000000000) : bits .and .i64 x 255 = x % 256 :=
  bits_mask .i64 63 (by decide) (fun n h0 h1 => IntWalk.i64_in n (by omega)) 8 (by decide) x h0 (by omega)
theorem take_snocI {L : List Int} {k : Nat} {p : Int} (h : L[k]? = some p) : L.take (k + 1) = L.take k ++ [p] := by
  rw [List.take_add_one, h]; rfl
set_option maxRecDepth 100000 in
set_option maxHeartbeats 2400000 in
theorem wide_any (k : Nat) (x : Int) (w : World) (hk : k <= 4) (hx : 0 <= x) (hx2 : x <= 1000000000) :
    Calls Try.prog 130 #[.int .i64 x, .int .i64 (k : Int)] w fun e w' => ∃ rv, e = .returned rv /\ Own 5 1 w w' rv k (byts (nb k x)) := by
  obtain ⟨iB, hi, hz0, hz1, hz2⟩ := info_parts Try.info5
  have I := Lib.hid (And.intro hi (And.intro hz0 (And.intro hz1 hz2)))
  clear hi hz0 hz1 hz2
  go_enter Try.func130, Try.ntmps130
  go_wp2
  go_loopw [5, 6] (fun v i wr => ∃ (p : Nat), p <= k /\ i = .int .i64 ((p : Int) - 1) /\ Hid (Own 5 1 w wr v (k - p) (byts (nbw k p x)))) (fun _ i _ => (intOf i + 1).toNat)
  case atStart => exact ⟨k, Nat.le_refl _, rfl, by rw [nbw_start, Nat.sub_self]; exact Own.lit0 5 w 1⟩
  case round =>
    obtain ⟨p, hp, rfl, hO⟩ := hrel
    obtain ⟨a', c', rfl⟩ := hO.out.slice
    by_cases hz : p = 0
    · subst hz
      have h0 : ((0 : Nat) : Int) - 1 = -1 := rfl
      rw [h0]
      clear h0
      rw [Nat.sub_zero] at hO
      rw [Nat.sub_zero]
      go_wp2_with fail
      refine bodyPost_ret (v := .slice a' k c') (by simp [results, Try.results130, go_sem]) rfl ⟨_, rfl, ?_⟩
      exact hO.out
    · obtain ⟨q, rfl⟩ : ∃ q, p = q + 1 := ⟨p - 1, by omega⟩
      have e1 : ((q + 1 : Nat) : Int) - 1 = (q : Int) := by omega
      rw [e1]
      obtain ⟨m, hm⟩ : ∃ m, m = k - (q + 1) := ⟨_, rfl⟩
      rw [<- hm] at hO
      rw [<- hm]
      have hm2 : m + 1 = k - q := by omega
      have hm3 : m <= 1000004 := by omega
      have hbs := hO.out.size
      have Hm := Lib.hid hm2
      have hq : (0 : Int) <= (q : Int) := by omega
      have hq4 : (q : Int) <= 4 := by omega
      clear hz hm hm2 e1
      have y0 : 0 <= x / 2 ^ (8 * q) := Int.ediv_nonneg hx (Int.le_of_lt (Int.pow_pos (by decide)))
      have y1 : x / 2 ^ (8 * q) <= x := Int.ediv_le_self _ hx
      have ya : bits .and .i64 (x / 2 ^ (8 * q)) 255 = x / 2 ^ (8 * q) % 256 := i64_and255 _ y0 (by omega)
      have yb : x / 2 ^ (8 * q) % 256 % 256 = x / 2 ^ (8 * q) % 256 := by omega
      go_wp2_with (at_builtin; refine wpList_append_lies _ rfl _ _ 22 rfl w.heap.size 5 iB (.int .u8 0) 1 1 Try.underlying22 I.out.1 I.out.2.1 I.out.2.2.1 I.out.2.2.2 rfl (by decide) _ (m) (byts (nbw k (q + 1) x)) rfl ((hO.out.alloc _).row) ⟨wr.heap.size, 0, none⟩ 1 1 [.int .u8 (x / 2 ^ (8 * q) % 256)] rfl rfl ?d0 (byt_one _) (by decide) ?d1 ?d2 ?d3 _ rfl ?_)
      case d0 => exact fun j u hj => cell_one_new _ _ 5 rfl j u hj
      case d1 => unfold maxLen; omega
      case d2 => omega
      case d3 => simp <;> omega
      intro g4 cap4 w4 hown4 hgrow4 hat4 hlt4
      have HE : Hid (Own 5 1 w w4 (.slice (some ⟨g4, 0, none⟩) (k - q) cap4) (k - q) (byts (nbw k q x))) := by
        have hh := (hO.out.alloc _).app hgrow4 hown4
        have h2 := nb_app (k := k) (q := q) (by omega) [] x (x / 2 ^ (8 * q) % 256) (by rw [p256])
        rw [List.nil_append, List.nil_append] at h2
        rw [h2, Hm.out] at hh
        exact Lib.hid hh
      rw [Hm.out]
      clear hown4 hgrow4 hat4 hlt4 hO ya yb
      go_wp2_with fail
      go_roundw
      case rel => exact ⟨q, by omega, rfl, HE⟩
      case measure => first | (simp [intOf]; done) | (simp [intOf]; omega)
set_option maxRecDepth 100000 in
set_option maxHeartbeats 2400000 in
theorem bytes_any (lo hi n : Nat) (v : Value) (Z : List Int) (w : World) (hr : BRow 1 w lo hi v n Z) (hh : hi <= w.heap.size) :
    Calls Try.prog 143 #[v] w fun e w' => ∃ rv, e = .returned rv /\ Own 5 1 w w' rv n (byts Z) := by
  obtain ⟨iB, hi, hz0, hz1, hz2⟩ := info_parts Try.info5
  have I := Lib.hid (And.intro hi (And.intro hz0 (And.intro hz1 hz2)))
  clear hi hz0 hz1 hz2
  obtain ⟨a, c, rfl, hn, hl, hu⟩ := hr.opened
  have HU := Lib.hid hu
  have Hn := Lib.hid hn
  clear hr hu hn
  go_enter Try.func143, Try.ntmps143
  go_wp2
  go_loopw [3, 4] (fun v i wr => ∃ (k : Nat), k <= n /\ i = .int .i64 (k : Int) /\ Hid (Own 5 1 w wr v k (byts (Z.take k)))) (fun _ i _ => n - (intOf i).toNat)
  case atStart => exact ⟨0, Nat.zero_le _, rfl, Own.lit0 5 w 1⟩
  case round =>
    obtain ⟨k, hk, rfl, hO⟩ := hrel
    obtain ⟨a', c', rfl⟩ := hO.out.slice
    by_cases hlt : k < n
    · obtain ⟨z, hz⟩ : ∃ x, Z[k]? = some x := ⟨Z[k]'(by rw [Hn.out]; exact hlt), List.getElem?_eq_getElem _⟩
      obtain ⟨g, rfl, hg, H⟩ := HU.out (by omega)
      have c0 : wr.cell? ⟨g, k, none⟩ = some (.int .u8 z) := by rw [hO.out.below.cell (p := ⟨g, k, none⟩) (by show g < w.heap.size; omega)]; exact H _ _ hz
      have hbs := hO.out.size
      have Hz := Lib.hid hz
      have q0 : (0 : Int) <= (k : Int) := by omega
      have q1 : (k : Int) < (n : Int) := by omega
      have hgw : g < wr.heap.size := by omega
      clear H hz
      go_wp2_with (at_builtin; refine wpList_append_lies _ rfl _ _ 22 rfl w.heap.size 5 iB (.int .u8 0) 1 1 Try.underlying22 I.out.1 I.out.2.1 I.out.2.2.1 I.out.2.2.2 rfl (by decide) _ (k) (byts (Z.take k)) rfl ((hO.out.alloc _).row) ⟨wr.heap.size, 0, none⟩ 1 1 [.int .u8 z] rfl rfl ?d0 (byt_one _) (by decide) ?d1 ?d2 ?d3 _ rfl ?_)
      case d0 => exact fun j u hj => cell_one_new _ _ 5 rfl j u hj
      case d1 => unfold maxLen; omega
      case d2 => omega
      case d3 => simp <;> omega
      intro g4 cap4 w4 hown4 hgrow4 hat4 hlt4
      have HE : Hid (Own 5 1 w w4 (.slice (some ⟨g4, 0, none⟩) (k + 1) cap4) (k + 1) (byts (Z.take (k + 1)))) := by
        have hh := (hO.out.alloc _).app hgrow4 hown4
        rw [byts_snoc, <- take_snocI Hz.out] at hh
        exact Lib.hid hh
      clear hown4 hgrow4 hat4 hlt4 hO c0
      go_wp2_with fail
      go_roundw
      case rel => exact ⟨k + 1, by omega, by go_num, HE⟩
      case measure => simp [intOf]; omega
    · have hge : ¬ ((k : Int) < (n : Int)) := by omega
      obtain rfl : n = k := by omega
      have e0 : Z.take n = Z := List.take_of_length_le (by rw [Hn.out]; omega)
      rw [e0] at hO
      clear e0
      go_wp2_with fail
      refine bodyPost_ret (v := .slice a' n c') (by simp [results, Try.results143, go_sem]) rfl ⟨_, rfl, ?_⟩
      exact hO.out
set_option maxRecDepth 100000 in
set_option maxHeartbeats 2400000 in
theorem join_any (lo hi n lo' hi' m : Nat) (v v' : Value) (Y Z : List Int) (w : World) (hr : BRow 1 w lo hi v n Y) (hh : hi <= w.heap.size) (hr' : BRow 1 w lo' hi' v' m Z) (hh' : hi' <= w.heap.size) :
    Calls Try.prog 129 #[v, v'] w fun e w' => ∃ rv, e = .returned rv /\ Own 5 1 w w' rv (n + m) (byts (Y ++ Z)) := by
  obtain ⟨iB, hi, hz0, hz1, hz2⟩ := info_parts Try.info5
  have I := Lib.hid (And.intro hi (And.intro hz0 (And.intro hz1 hz2)))
  clear hi hz0 hz1 hz2
  have HR := Lib.hid hr
  obtain ⟨a0, c0, rfl, hn0, hl0, hu0⟩ := hr.opened
  obtain ⟨a, c, rfl, hn, hl, hu⟩ := hr'.opened
  have HU := Lib.hid hu
  have Hn := Lib.hid hn
  clear hr hr' hu hn hu0 hn0
  go_enter Try.func129, Try.ntmps129
  go_wp2_with fail
  go_at_call 143
  refine (bytes_any lo hi n _ Y _ HR.out hh).mono ?_
  rintro e w1 ⟨rv, rfl, hO1⟩
  obtain ⟨b1, d1, rfl⟩ := hO1.slice
  have HO1 := Lib.hid hO1
  clear hO1
  go_wp2
  go_loopw [5, 6] (fun v i wr => ∃ (k : Nat), k <= m /\ i = .int .i64 (k : Int) /\ Hid (Own 5 1 w wr v (n + k) (byts (Y ++ Z.take k)))) (fun _ i _ => m - (intOf i).toNat)
  case atStart => exact ⟨0, Nat.zero_le _, rfl, by rw [List.take_zero, List.append_nil]; exact HO1⟩
  case round =>
    obtain ⟨k, hk, rfl, hO⟩ := hrel
    obtain ⟨a', c', rfl⟩ := hO.out.slice
    by_cases hlt : k < m
    · obtain ⟨z, hz⟩ : ∃ x, Z[k]? = some x := ⟨Z[k]'(by rw [Hn.out]; exact hlt), List.getElem?_eq_getElem _⟩
      obtain ⟨g, rfl, hg, H⟩ := HU.out (by omega)
      have c0 : wr.cell? ⟨g, k, none⟩ = some (.int .u8 z) := by rw [hO.out.below.cell (p := ⟨g, k, none⟩) (by show g < w.heap.size; omega)]; exact H _ _ hz
      have hbs := hO.out.size
      have Hz := Lib.hid hz
      have q0 : (0 : Int) <= (k : Int) := by omega
      have q1 : (k : Int) < (m : Int) := by omega
      have hgw : g < wr.heap.size := by omega
      clear H hz
      go_wp2_with (at_builtin; refine wpList_append_lies _ rfl _ _ 22 rfl w.heap.size 5 iB (.int .u8 0) 1 1 Try.underlying22 I.out.1 I.out.2.1 I.out.2.2.1 I.out.2.2.2 rfl (by decide) _ (n + k) (byts (Y ++ Z.take k)) rfl ((hO.out.alloc _).row) ⟨wr.heap.size, 0, none⟩ 1 1 [.int .u8 z] rfl rfl ?d0 (byt_one _) (by decide) ?d1 ?d2 ?d3 _ rfl ?_)
      case d0 => exact fun j u hj => cell_one_new _ _ 5 rfl j u hj
      case d1 => unfold maxLen; omega
      case d2 => omega
      case d3 => simp <;> omega
      intro g4 cap4 w4 hown4 hgrow4 hat4 hlt4
      have HE : Hid (Own 5 1 w w4 (.slice (some ⟨g4, 0, none⟩) (n + (k + 1)) cap4) (n + (k + 1)) (byts (Y ++ Z.take (k + 1)))) := by
        have hh := (hO.out.alloc _).app hgrow4 hown4
        rw [byts_snoc, List.append_assoc, <- take_snocI Hz.out] at hh
        exact Lib.hid hh
      clear hown4 hgrow4 hat4 hlt4 hO c0
      go_wp2_with fail
      go_roundw
      case rel => exact ⟨k + 1, by omega, by go_num, HE⟩
      case measure => simp [intOf]; omega
    · have hge : ¬ ((k : Int) < (m : Int)) := by omega
      obtain rfl : m = k := by omega
      have e0 : Z.take m = Z := List.take_of_length_le (by rw [Hn.out]; omega)
      rw [e0] at hO
      clear e0
      go_wp2_with fail
      refine bodyPost_ret (v := .slice a' (n + m) c') (by simp [results, Try.results129, go_sem]) rfl ⟨_, rfl, ?_⟩
      exact hO.out
end Go.Proofs.Ytfpafjdakipccaa
