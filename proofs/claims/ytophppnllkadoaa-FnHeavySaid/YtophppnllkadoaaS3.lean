/- TrueCount, by both. -/
import Derived.Test.YtophppnllkadoaaS1
import Derived.Test.YtophppnllkadoaaGc
import Derived.Test.YtophppnllkadoaaLTrueCount
namespace Go.Proofs.Ytophppnllkadoaa
open Go.RowKit


theorem wrap64_eq (x : Int) : IntKind.i64.wrap x = wrap64 x := IntWalk.i64_left x
/-- The sum of the numbers with that key among the first k additions, as the machine adds. -/
def tcW (L : List Ad) (key : Int) : Nat → Int
  | 0 => 0
  | i + 1 => if (L.getD i (0, 0)).1 = key then IntKind.i64.wrap (tcW L key i + (L.getD i (0, 0)).2) else tcW L key i
theorem tcW_at {L : List Ad} {key : Int} {i : Nat} {a c : Int} (h : L[i]? = some (a, c)) : tcW L key (i + 1) = if a = key then IntKind.i64.wrap (tcW L key i + c) else tcW L key i := by
  show (if _ then _ else _) = _
  rw [List.getD_eq_getElem?_getD, h]
  rfl
/-- What TrueCount answers. -/
def tcV (L : List Ad) (key : Int) : Int := tcW L key (min L.length 300)
theorem tcW_in (L : List Ad) (key : Int) : ∀ i, -9223372036854775808 ≤ tcW L key i ∧ tcW L key i ≤ 9223372036854775807
  | 0 => by simp [tcW]
  | i + 1 => by
    unfold tcW
    split
    · have h := IntKind.wrap_i64 (tcW L key i + (L.getD i (0, 0)).2); omega
    · exact tcW_in L key i

set_option maxRecDepth 100000 in
set_option maxHeartbeats 4000000 in
theorem stc_any (lo hi n : Nat) (v : Value) (L : List Ad) (key : Int) (w : World) (hL : L.length = n) (hr : Row 2 w lo hi v n (flat2 L)) (hh : hi ≤ w.heap.size) (hq : capOk v n) :
    Calls Try.prog 26 #[v, .int .i64 key] w fun e w' => e = .returned (.int .i64 (tcV L key)) ∧ Below w.heap.size w w' := by
  obtain ⟨ad, cp, rfl, hn, hop⟩ := hr.opened
  have hcp : n ≤ cp := by obtain ⟨a, c, e, h⟩ := hq; simp only [Value.slice.injEq] at e; omega
  have Hn := Lib.hid hL
  have H := Lib.hid hop
  clear hL hr hop hq
  obtain ⟨m, hm⟩ : ∃ m, m = min n 300 := ⟨_, rfl⟩
  have hm1 : m ≤ n := by omega
  have hm2 : m ≤ 300 := by omega
  have hm3 : m ≤ cp := by omega
  have em : Hid (tcV L key = tcW L key m) := by unfold tcV; rw [Hn.out, ← hm]; exact rfl
  have hx : m < n → m = 300 := by omega
  have HX := Lib.hid hx
  clear hx
  clear hm
  go_enter Try.func26, Try.ntmps26
  go_wp2
  go_loopw [5, 6] (fun s i wr => ∃ k : Nat, k ≤ m ∧ i = .int .i64 (k : Int) ∧ s = .int .i64 (tcW L key k) ∧ Hid (Below w.heap.size w wr)) (fun _ i _ => m - (intOf i).toNat)
  case atStart => exact ⟨0, Nat.zero_le _, rfl, rfl, Below.refl _ _⟩
  case round =>
    obtain ⟨k, hk, rfl, rfl, hB⟩ := hrel
    by_cases hlt : k < m
    case neg =>
      obtain rfl : k = m := by omega
      by_cases hkn : k < n
      · have e3 := HX.out hkn
        have d1 : decide ((k : Int) < (n : Int)) = true := decide_eq_true (by omega)
        have d2 : decide ((k : Int) < 300) = false := decide_eq_false (by omega)
        have d3 : (k : Int) < (n : Int) := by omega
        have d4 : ¬ (k : Int) < 300 := by omega
        clear e3
        go_wp2
        go_ret
        exact ⟨by rw [em.out]; rfl, hB.out⟩
      · have d1 : decide ((k : Int) < (n : Int)) = false := decide_eq_false (by omega)
        have d3 : ¬ (k : Int) < (n : Int) := by omega
        go_wp2
        go_ret
        exact ⟨by rw [em.out]; rfl, hB.out⟩
    case pos =>
    obtain ⟨g, rfl, hg, hz⟩ := H.out (by omega)
    clear H
    obtain ⟨a, c, hr⟩ := at2_of_lt (L := L) (i := k) (by rw [Hn.out]; omega)
    obtain ⟨r0, r1⟩ := flat2_at L k _ hr
    have e2 := Lib.hid (tcW_at (key := key) hr)
    have hgs : g < wr.heap.size := by have := hB.out.size; omega
    have z0 : wr.cell? ⟨g, k * 2, none⟩ = some (.int .i64 a) := by rw [hB.out.cell (p := ⟨g, k * 2, none⟩) (by show g < _; omega)]; exact hz _ _ r0
    have z1 : wr.cell? ⟨g, k * 2 + 1, none⟩ = some (.int .i64 c) := by rw [hB.out.cell (p := ⟨g, k * 2 + 1, none⟩) (by show g < _; omega)]; exact hz _ _ r1
    have hsz := hB.out.size
    have q0 : (0 : Int) ≤ (k : Int) := by omega
    have q1 : (k : Int) < (n : Int) := by omega
    have q2 : (k : Int) < (m : Int) := by omega
    have q3 : (k : Int) < 300 := by omega
    clear r0 r1 hr hz
    generalize hA : tcW L key k = A at *
    clear hA
    by_cases hx : a = key
    case pos =>
      have hx2 : (a == key) = true := by simp [hx]
      have e3 : Hid (tcW L key (k + 1) = IntKind.i64.wrap (A + c)) := by have := e2.out; rw [if_pos hx] at this; exact this
      have HX3 := Lib.hid hx
      clear hx e2
      go_wp2_with fail
      go_roundw
      case rel => exact ⟨k + 1, by omega, by go_num, by first | (rw [e3.out, wrap64_eq]; done) | (rw [e3.out]; done), hB⟩
      case measure => simp [intOf]; omega
    case neg =>
      have hx2 : (a == key) = false := by simp [hx]
      have e3 : Hid (tcW L key (k + 1) = A) := by have := e2.out; rw [if_neg hx] at this; exact this
      clear hx e2
      go_wp2_with fail
      go_roundw
      case rel => exact ⟨k + 1, by omega, by go_num, by first | (rw [e3.out, wrap64_eq]; done) | (rw [e3.out]; done), hB⟩
      case measure => simp [intOf]; omega

set_option maxRecDepth 100000 in
set_option maxHeartbeats 4000000 in
theorem itc_any (lo hi n : Nat) (v : Value) (L : List Ad) (key : Int) (w : World) (hL : L.length = n) (hr : Row 2 w lo hi v n (flat2 L)) (hh : hi ≤ w.heap.size) (hq : capOk v n) :
    Calls Try.prog 24 #[v, .int .i64 key] w fun e w' => e = .returned (.int .i64 (tcV L key)) ∧ Below w.heap.size w w' := by
  obtain ⟨ad, cp, rfl, hn, hop⟩ := hr.opened
  have hcp : n ≤ cp := by obtain ⟨a, c, e, h⟩ := hq; simp only [Value.slice.injEq] at e; omega
  have Hn := Lib.hid hL
  have H := Lib.hid hop
  clear hL hr hop hq
  obtain ⟨m, hm⟩ : ∃ m, m = min n 300 := ⟨_, rfl⟩
  have hm1 : m ≤ n := by omega
  have hm2 : m ≤ 300 := by omega
  have hm3 : m ≤ cp := by omega
  have em : Hid (tcV L key = tcW L key m) := by unfold tcV; rw [Hn.out, ← hm]; exact rfl
  by_cases h3 : n ≤ 300
  case pos =>
    obtain rfl : m = n := by omega
    have hi1 : (m : Int) ≤ 300 := by omega
    have hi2 : ¬ (300 : Int) < (m : Int) := by omega
    clear hm
    go_enter Try.func24, Try.ntmps24
    go_wp2
    go_loopw [5, 14] (fun s i wr => ∃ k : Nat, k ≤ m ∧ i = .int .i64 (k : Int) ∧ s = .int .i64 (tcW L key k) ∧ Hid (Below w.heap.size w wr)) (fun _ i _ => m - (intOf i).toNat)
    case atStart => exact ⟨0, Nat.zero_le _, rfl, rfl, Below.refl _ _⟩
    case round =>
      obtain ⟨k, hk, rfl, rfl, hB⟩ := hrel
      by_cases hlt : k < m
      case neg =>
        obtain rfl : k = m := by omega
        have hge : ¬ ((k : Int) < (k : Int)) := by omega
        go_wp2
        go_ret
        exact ⟨by rw [em.out]; rfl, hB.out⟩
      case pos =>
      obtain ⟨g, rfl, hg, hz⟩ := H.out (by omega)
      clear H
      obtain ⟨a, c, hr⟩ := at2_of_lt (L := L) (i := k) (by rw [Hn.out]; omega)
      obtain ⟨r0, r1⟩ := flat2_at L k _ hr
      have e2 := Lib.hid (tcW_at (key := key) hr)
      have hgs : g < wr.heap.size := by have := hB.out.size; omega
      have z0 : wr.cell? ⟨g, k * 2, none⟩ = some (.int .i64 a) := by rw [hB.out.cell (p := ⟨g, k * 2, none⟩) (by show g < _; omega)]; exact hz _ _ r0
      have z1 : wr.cell? ⟨g, k * 2 + 1, none⟩ = some (.int .i64 c) := by rw [hB.out.cell (p := ⟨g, k * 2 + 1, none⟩) (by show g < _; omega)]; exact hz _ _ r1
      have hsz := hB.out.size
      have q0 : (0 : Int) ≤ (k : Int) := by omega
      have q1 : (k : Int) < (m : Int) := by omega
      have q2 : (k : Int) < (m : Int) := by omega
      have q3 : (k : Int) < 300 := by omega
      clear r0 r1 hr hz
      generalize hA : tcW L key k = A at *
      clear hA
      by_cases hx : a = key
      case pos =>
        have hx2 : (a == key) = true := by simp [hx]
        have e3 : Hid (tcW L key (k + 1) = IntKind.i64.wrap (A + c)) := by have := e2.out; rw [if_pos hx] at this; exact this
        have HX3 := Lib.hid hx
        clear hx e2
        go_wp2_with fail
        go_roundw
        case rel => exact ⟨k + 1, by omega, by go_num, by first | (rw [e3.out, wrap64_eq]; done) | (rw [e3.out]; done), Lib.hid (hB.out.trans (by go_grown))⟩
        case measure => simp [intOf]; omega
      case neg =>
        have hx2 : (a == key) = false := by simp [hx]
        have e3 : Hid (tcW L key (k + 1) = A) := by have := e2.out; rw [if_neg hx] at this; exact this
        clear hx e2
        go_wp2_with fail
        go_roundw
        case rel => exact ⟨k + 1, by omega, by go_num, by first | (rw [e3.out, wrap64_eq]; done) | (rw [e3.out]; done), Lib.hid (hB.out.trans (by go_grown))⟩
        case measure => simp [intOf]; omega
  case neg =>
    obtain rfl : m = 300 := by omega
    have hi1 : ¬ (n : Int) ≤ 300 := by omega
    have hi2 : (300 : Int) < (n : Int) := by omega
    have hi3 : ¬ (n : Int) < 300 := by omega
    clear hm
    go_enter Try.func24, Try.ntmps24
    go_wp2
    go_loopw [5, 14] (fun s i wr => ∃ k : Nat, k ≤ 300 ∧ i = .int .i64 (k : Int) ∧ s = .int .i64 (tcW L key k) ∧ Hid (Below w.heap.size w wr)) (fun _ i _ => 300 - (intOf i).toNat)
    case atStart => exact ⟨0, Nat.zero_le _, rfl, rfl, Below.refl _ _⟩
    case round =>
      obtain ⟨k, hk, rfl, rfl, hB⟩ := hrel
      by_cases hlt : k < 300
      case neg =>
        obtain rfl : k = 300 := by omega
        have hge : ¬ (((300 : Nat) : Int) < 300) := by omega
        go_wp2
        go_ret
        exact ⟨by rw [em.out]; rfl, hB.out⟩
      case pos =>
      obtain ⟨g, rfl, hg, hz⟩ := H.out (by omega)
      clear H
      obtain ⟨a, c, hr⟩ := at2_of_lt (L := L) (i := k) (by rw [Hn.out]; omega)
      obtain ⟨r0, r1⟩ := flat2_at L k _ hr
      have e2 := Lib.hid (tcW_at (key := key) hr)
      have hgs : g < wr.heap.size := by have := hB.out.size; omega
      have z0 : wr.cell? ⟨g, k * 2, none⟩ = some (.int .i64 a) := by rw [hB.out.cell (p := ⟨g, k * 2, none⟩) (by show g < _; omega)]; exact hz _ _ r0
      have z1 : wr.cell? ⟨g, k * 2 + 1, none⟩ = some (.int .i64 c) := by rw [hB.out.cell (p := ⟨g, k * 2 + 1, none⟩) (by show g < _; omega)]; exact hz _ _ r1
      have hsz := hB.out.size
      have q0 : (0 : Int) ≤ (k : Int) := by omega
      have q1 : (k : Int) < (n : Int) := by omega
      have q2 : (k : Int) < (300 : Int) := by omega
      have q3 : (k : Int) < 300 := by omega
      clear r0 r1 hr hz
      generalize hA : tcW L key k = A at *
      clear hA
      by_cases hx : a = key
      case pos =>
        have hx2 : (a == key) = true := by simp [hx]
        have e3 : Hid (tcW L key (k + 1) = IntKind.i64.wrap (A + c)) := by have := e2.out; rw [if_pos hx] at this; exact this
        have HX3 := Lib.hid hx
        clear hx e2
        go_wp2_with fail
        go_roundw
        case rel => exact ⟨k + 1, by omega, by go_num, by first | (rw [e3.out, wrap64_eq]; done) | (rw [e3.out]; done), Lib.hid (hB.out.trans (by go_grown))⟩
        case measure => simp [intOf]; omega
      case neg =>
        have hx2 : (a == key) = false := by simp [hx]
        have e3 : Hid (tcW L key (k + 1) = A) := by have := e2.out; rw [if_neg hx] at this; exact this
        clear hx e2
        go_wp2_with fail
        go_roundw
        case rel => exact ⟨k + 1, by omega, by go_num, by first | (rw [e3.out, wrap64_eq]; done) | (rw [e3.out]; done), Lib.hid (hB.out.trans (by go_grown))⟩
        case measure => simp [intOf]; omega

theorem lawTrueCount (v : Value) (n : Nat) (Z : Nat → Int) (key : Int) (w : World) (hA : Arg 2 w v n Z) (_hk : I64 key) :
    Calls Try.prog 14 #[v, .int .i64 key] w fun e w' => e = .returned (.bool true) ∧ Below w.heap.size w w' := by
  by_cases hn : n ≤ 1048576
  · have e : zs Z n 2 = flat2 (ads Z n) := (flat2_ads Z n).symm
    exact lawExactTrueCount_fit v n Z key w hA hn (tcV (ads Z n) key) (fun lo hi v w hr hh hq => stc_any lo hi n v (ads Z n) key w (ads_len Z n) (e ▸ hr) hh hq) (fun lo hi v w hr hh hq => itc_any lo hi n v (ads Z n) key w (ads_len Z n) (e ▸ hr) hh hq)
  · exact lawExactTrueCount_big0 v n Z key w hA (by omega)

end Go.Proofs.Ytophppnllkadoaa
