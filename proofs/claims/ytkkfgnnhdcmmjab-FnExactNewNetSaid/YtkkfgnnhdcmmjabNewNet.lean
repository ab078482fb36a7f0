/- 'laws.FnExactNewNet' answers true for every number; what the program returns is memory of its own. No condition. -/
import Derived.Test.YtkkfgnnhdcmmjabNy
import Derived.Test.YtkkfgnnhdcmmjabOpen
namespace Go.Proofs.Ytkkfgnnhdcmmjab
open Go.ChangeShapes Go.WideShapes Go.ChangeAt Go.RowKit Go.Joins


set_option maxRecDepth 100000 in
set_option maxHeartbeats 4000000 in
theorem lawNewNet_of (x y : Int) (n : Nat) (ok : Bool) (w : World) (hn : n ≤ 6) (hs : ∀ w, Calls Try.prog 26 #[.int .i64 x] w (NwPost y n ok w)) (hi : ∀ w, Calls Try.prog 27 #[.int .i64 x] w (NwPost y n ok w)) :
    Calls Try.prog 8 #[.int .i64 x] w fun e w' => e = .returned (.bool true) ∧ Below w.heap.size w w' := by
  have Hs := Lib.hid hs
  have Hi := Lib.hid hi
  clear hs hi
  go_enter Try.func8, Try.ntmps8
  go_wp2_with fail
  go_at_call 26
  refine (Hs.out _).mono ?_
  rintro e v1 ⟨a1, c1, rfl, hN, hb1⟩
  have sz1 : w.heap.size ≤ v1.heap.size := hb1.size
  have st1 : Below w.heap.size w v1 := hb1
  have B1 : Hid (Below w.heap.size w v1) := st1
  have ST1 := Lib.hid st1
  clear st1 hb1
  have N1_0 := Lib.hid hN
  clear hN
  clear ST1
  go_wp2_with fail
  go_at_call 27
  refine (Hi.out _).mono ?_
  rintro e v2 ⟨a2, c2, rfl, hN, hb2⟩
  have sz2 : v1.heap.size + 1 ≤ v2.heap.size := by have hh := hb2.size; simp at hh; omega
  have st2 : Below v1.heap.size v1 v2 := Below.trans (by go_grown) (hb2.mono (by simp))
  have c2_0 : v2.cell? ⟨v1.heap.size, 0, none⟩ = some (.int .i64 y) := by rw [(bcell hb2).1 _ _ (by simp)]; first | (rw [new_at (by simp)]; rfl) | simp
  have c2_1 : v2.cell? ⟨v1.heap.size, 1, none⟩ = some (.slice none 0 0) := by rw [(bcell hb2).1 _ _ (by simp)]; first | (rw [new_at (by simp)]; rfl) | simp
  have c2_2 : v2.cell? ⟨v1.heap.size, 2, none⟩ = some (.slice a1 n c1) := by rw [(bcell hb2).1 _ _ (by simp)]; first | (rw [new_at (by simp)]; rfl) | simp
  have c2_3 : v2.cell? ⟨v1.heap.size, 3, none⟩ = some (.slice none 0 0) := by rw [(bcell hb2).1 _ _ (by simp)]; first | (rw [new_at (by simp)]; rfl) | simp
  have c2_4 : v2.cell? ⟨v1.heap.size, 4, none⟩ = some (.int .i64 0) := by rw [(bcell hb2).1 _ _ (by simp)]; first | (rw [new_at (by simp)]; rfl) | simp
  have B2 : Hid (Below w.heap.size w v2) := B1.out.trans (st2.mono (by omega))
  have d2_0 : v1.heap.size < v2.heap.size := by omega
  have e2_0 : v1.heap.size ≠ v2.heap.size := by omega
  have ST2 := Lib.hid st2
  clear B1 st2 hb2
  have N2_0 : Hid (N0 v2 a1 n) := N1_0.out.below ST2.out
  have N2_1 := Lib.hid hN
  clear hN
  clear ST2 N1_0
  go_wp2_with fail
  go_at_call 28
  refine (eqNet_0 y a2 a1 n c2 c1 _ hn (N2_1.out.below (by go_grown)) (N2_0.out.below (by go_grown))).mono ?_
  rintro e v3 ⟨rfl, hb3⟩
  have sz3 : v2.heap.size + 1 ≤ v3.heap.size := by have hh := hb3.size; simp at hh; omega
  have st3 : Below v2.heap.size v2 v3 := Below.trans (by go_grown) (hb3.mono (by simp))
  have c3_0 : v3.cell? ⟨v1.heap.size, 0, none⟩ = some (.int .i64 y) := by rw [(bcell st3).1 _ _ (by omega)]; exact c2_0
  have c3_1 : v3.cell? ⟨v1.heap.size, 1, none⟩ = some (.slice none 0 0) := by rw [(bcell st3).1 _ _ (by omega)]; exact c2_1
  have c3_2 : v3.cell? ⟨v1.heap.size, 2, none⟩ = some (.slice a1 n c1) := by rw [(bcell st3).1 _ _ (by omega)]; exact c2_2
  have c3_3 : v3.cell? ⟨v1.heap.size, 3, none⟩ = some (.slice none 0 0) := by rw [(bcell st3).1 _ _ (by omega)]; exact c2_3
  have c3_4 : v3.cell? ⟨v1.heap.size, 4, none⟩ = some (.int .i64 0) := by rw [(bcell st3).1 _ _ (by omega)]; exact c2_4
  have c3_5 : v3.cell? ⟨v2.heap.size, 0, none⟩ = some (.int .i64 y) := by rw [(bcell hb3).1 _ _ (by simp)]; first | (rw [new_at (by simp)]; rfl) | simp
  have c3_6 : v3.cell? ⟨v2.heap.size, 1, none⟩ = some (.slice none 0 0) := by rw [(bcell hb3).1 _ _ (by simp)]; first | (rw [new_at (by simp)]; rfl) | simp
  have c3_7 : v3.cell? ⟨v2.heap.size, 2, none⟩ = some (.slice a2 n c2) := by rw [(bcell hb3).1 _ _ (by simp)]; first | (rw [new_at (by simp)]; rfl) | simp
  have c3_8 : v3.cell? ⟨v2.heap.size, 3, none⟩ = some (.slice none 0 0) := by rw [(bcell hb3).1 _ _ (by simp)]; first | (rw [new_at (by simp)]; rfl) | simp
  have c3_9 : v3.cell? ⟨v2.heap.size, 4, none⟩ = some (.int .i64 0) := by rw [(bcell hb3).1 _ _ (by simp)]; first | (rw [new_at (by simp)]; rfl) | simp
  have B3 : Hid (Below w.heap.size w v3) := B2.out.trans (st3.mono (by omega))
  have d3_0 : v1.heap.size < v3.heap.size := by omega
  have e3_0 : v1.heap.size ≠ v3.heap.size := by omega
  have d3_1 : v2.heap.size < v3.heap.size := by omega
  have e3_1 : v2.heap.size ≠ v3.heap.size := by omega
  have ST3 := Lib.hid st3
  clear d2_0 e2_0 c2_0 c2_1 c2_2 c2_3 c2_4 B2 st3 hb3
  have N3_0 : Hid (N0 v3 a1 n) := N2_0.out.below ST3.out
  have N3_1 : Hid (N0 v3 a2 n) := N2_1.out.below ST3.out
  clear ST3 N2_0 N2_1
  go_wp2_with fail
  go_at_call 29
  refine (markNet_0 y a2 n c2 _ hn N3_1.out).mono ?_
  rintro e v4 ⟨rfl, hb4⟩
  have sz4 : v3.heap.size ≤ v4.heap.size := hb4.size
  have st4 : Below v3.heap.size v3 v4 := hb4
  have c4_0 : v4.cell? ⟨v1.heap.size, 0, none⟩ = some (.int .i64 y) := by rw [(bcell st4).1 _ _ (by omega)]; exact c3_0
  have c4_1 : v4.cell? ⟨v1.heap.size, 1, none⟩ = some (.slice none 0 0) := by rw [(bcell st4).1 _ _ (by omega)]; exact c3_1
  have c4_2 : v4.cell? ⟨v1.heap.size, 2, none⟩ = some (.slice a1 n c1) := by rw [(bcell st4).1 _ _ (by omega)]; exact c3_2
  have c4_3 : v4.cell? ⟨v1.heap.size, 3, none⟩ = some (.slice none 0 0) := by rw [(bcell st4).1 _ _ (by omega)]; exact c3_3
  have c4_4 : v4.cell? ⟨v1.heap.size, 4, none⟩ = some (.int .i64 0) := by rw [(bcell st4).1 _ _ (by omega)]; exact c3_4
  have c4_5 : v4.cell? ⟨v2.heap.size, 0, none⟩ = some (.int .i64 y) := by rw [(bcell st4).1 _ _ (by omega)]; exact c3_5
  have c4_6 : v4.cell? ⟨v2.heap.size, 1, none⟩ = some (.slice none 0 0) := by rw [(bcell st4).1 _ _ (by omega)]; exact c3_6
  have c4_7 : v4.cell? ⟨v2.heap.size, 2, none⟩ = some (.slice a2 n c2) := by rw [(bcell st4).1 _ _ (by omega)]; exact c3_7
  have c4_8 : v4.cell? ⟨v2.heap.size, 3, none⟩ = some (.slice none 0 0) := by rw [(bcell st4).1 _ _ (by omega)]; exact c3_8
  have c4_9 : v4.cell? ⟨v2.heap.size, 4, none⟩ = some (.int .i64 0) := by rw [(bcell st4).1 _ _ (by omega)]; exact c3_9
  have B4 : Hid (Below w.heap.size w v4) := B3.out.trans (st4.mono (by omega))
  have d4_0 : v1.heap.size < v4.heap.size := by omega
  have e4_0 : v1.heap.size ≠ v4.heap.size := by omega
  have d4_1 : v2.heap.size < v4.heap.size := by omega
  have e4_1 : v2.heap.size ≠ v4.heap.size := by omega
  have ST4 := Lib.hid st4
  clear d3_0 e3_0 d3_1 e3_1 c3_0 c3_1 c3_2 c3_3 c3_4 c3_5 c3_6 c3_7 c3_8 c3_9 B3 st4 hb4
  have N4_0 : Hid (N0 v4 a1 n) := N3_0.out.below ST4.out
  have N4_1 : Hid (N0 v4 a2 n) := N3_1.out.below ST4.out
  clear ST4 N3_0 N3_1
  go_wp2_with fail
  go_at_call 30
  refine (heldNet_0 y a2 n c2 _ hn N4_1.out).mono ?_
  rintro e v5 ⟨rfl, hb5⟩
  have sz5 : v4.heap.size ≤ v5.heap.size := hb5.size
  have st5 : Below v4.heap.size v4 v5 := hb5
  have c5_0 : v5.cell? ⟨v1.heap.size, 0, none⟩ = some (.int .i64 y) := by rw [(bcell st5).1 _ _ (by omega)]; exact c4_0
  have c5_1 : v5.cell? ⟨v1.heap.size, 1, none⟩ = some (.slice none 0 0) := by rw [(bcell st5).1 _ _ (by omega)]; exact c4_1
  have c5_2 : v5.cell? ⟨v1.heap.size, 2, none⟩ = some (.slice a1 n c1) := by rw [(bcell st5).1 _ _ (by omega)]; exact c4_2
  have c5_3 : v5.cell? ⟨v1.heap.size, 3, none⟩ = some (.slice none 0 0) := by rw [(bcell st5).1 _ _ (by omega)]; exact c4_3
  have c5_4 : v5.cell? ⟨v1.heap.size, 4, none⟩ = some (.int .i64 0) := by rw [(bcell st5).1 _ _ (by omega)]; exact c4_4
  have c5_5 : v5.cell? ⟨v2.heap.size, 0, none⟩ = some (.int .i64 y) := by rw [(bcell st5).1 _ _ (by omega)]; exact c4_5
  have c5_6 : v5.cell? ⟨v2.heap.size, 1, none⟩ = some (.slice none 0 0) := by rw [(bcell st5).1 _ _ (by omega)]; exact c4_6
  have c5_7 : v5.cell? ⟨v2.heap.size, 2, none⟩ = some (.slice a2 n c2) := by rw [(bcell st5).1 _ _ (by omega)]; exact c4_7
  have c5_8 : v5.cell? ⟨v2.heap.size, 3, none⟩ = some (.slice none 0 0) := by rw [(bcell st5).1 _ _ (by omega)]; exact c4_8
  have c5_9 : v5.cell? ⟨v2.heap.size, 4, none⟩ = some (.int .i64 0) := by rw [(bcell st5).1 _ _ (by omega)]; exact c4_9
  have B5 : Hid (Below w.heap.size w v5) := B4.out.trans (st5.mono (by omega))
  have d5_0 : v1.heap.size < v5.heap.size := by omega
  have e5_0 : v1.heap.size ≠ v5.heap.size := by omega
  have d5_1 : v2.heap.size < v5.heap.size := by omega
  have e5_1 : v2.heap.size ≠ v5.heap.size := by omega
  have ST5 := Lib.hid st5
  clear d4_0 e4_0 d4_1 e4_1 c4_0 c4_1 c4_2 c4_3 c4_4 c4_5 c4_6 c4_7 c4_8 c4_9 B4 st5 hb5
  have N5_0 : Hid (N0 v5 a1 n) := N4_0.out.below ST5.out
  have N5_1 : Hid (N0 v5 a2 n) := N4_1.out.below ST5.out
  clear ST5 N4_0 N4_1
  go_wp2_with fail
  go_at_call 27
  refine (Hi.out _).mono ?_
  rintro e v6 ⟨a3, c3, rfl, hN, hb6⟩
  have sz6 : v5.heap.size ≤ v6.heap.size := hb6.size
  have st6 : Below v5.heap.size v5 v6 := hb6
  have c6_0 : v6.cell? ⟨v1.heap.size, 0, none⟩ = some (.int .i64 y) := by rw [(bcell st6).1 _ _ (by omega)]; exact c5_0
  have c6_1 : v6.cell? ⟨v1.heap.size, 1, none⟩ = some (.slice none 0 0) := by rw [(bcell st6).1 _ _ (by omega)]; exact c5_1
  have c6_2 : v6.cell? ⟨v1.heap.size, 2, none⟩ = some (.slice a1 n c1) := by rw [(bcell st6).1 _ _ (by omega)]; exact c5_2
  have c6_3 : v6.cell? ⟨v1.heap.size, 3, none⟩ = some (.slice none 0 0) := by rw [(bcell st6).1 _ _ (by omega)]; exact c5_3
  have c6_4 : v6.cell? ⟨v1.heap.size, 4, none⟩ = some (.int .i64 0) := by rw [(bcell st6).1 _ _ (by omega)]; exact c5_4
  have c6_5 : v6.cell? ⟨v2.heap.size, 0, none⟩ = some (.int .i64 y) := by rw [(bcell st6).1 _ _ (by omega)]; exact c5_5
  have c6_6 : v6.cell? ⟨v2.heap.size, 1, none⟩ = some (.slice none 0 0) := by rw [(bcell st6).1 _ _ (by omega)]; exact c5_6
  have c6_7 : v6.cell? ⟨v2.heap.size, 2, none⟩ = some (.slice a2 n c2) := by rw [(bcell st6).1 _ _ (by omega)]; exact c5_7
  have c6_8 : v6.cell? ⟨v2.heap.size, 3, none⟩ = some (.slice none 0 0) := by rw [(bcell st6).1 _ _ (by omega)]; exact c5_8
  have c6_9 : v6.cell? ⟨v2.heap.size, 4, none⟩ = some (.int .i64 0) := by rw [(bcell st6).1 _ _ (by omega)]; exact c5_9
  have B6 : Hid (Below w.heap.size w v6) := B5.out.trans (st6.mono (by omega))
  have d6_0 : v1.heap.size < v6.heap.size := by omega
  have e6_0 : v1.heap.size ≠ v6.heap.size := by omega
  have d6_1 : v2.heap.size < v6.heap.size := by omega
  have e6_1 : v2.heap.size ≠ v6.heap.size := by omega
  have ST6 := Lib.hid st6
  clear d5_0 e5_0 d5_1 e5_1 c5_0 c5_1 c5_2 c5_3 c5_4 c5_5 c5_6 c5_7 c5_8 c5_9 B5 st6 hb6
  have N6_0 : Hid (N0 v6 a1 n) := N5_0.out.below ST6.out
  have N6_1 : Hid (N0 v6 a2 n) := N5_1.out.below ST6.out
  have N6_2 := Lib.hid hN
  clear hN
  clear ST6 N5_0 N5_1
  go_wp2_with fail
  go_at_call 28
  refine (eqNet_0 y a3 a1 n c3 c1 _ hn (N6_2.out.below (by go_grown)) (N6_0.out.below (by go_grown))).mono ?_
  rintro e v7 ⟨rfl, hb7⟩
  have sz7 : v6.heap.size + 1 ≤ v7.heap.size := by have hh := hb7.size; simp at hh; omega
  have st7 : Below v6.heap.size v6 v7 := Below.trans (by go_grown) (hb7.mono (by simp))
  have c7_0 : v7.cell? ⟨v1.heap.size, 0, none⟩ = some (.int .i64 y) := by rw [(bcell st7).1 _ _ (by omega)]; exact c6_0
  have c7_1 : v7.cell? ⟨v1.heap.size, 1, none⟩ = some (.slice none 0 0) := by rw [(bcell st7).1 _ _ (by omega)]; exact c6_1
  have c7_2 : v7.cell? ⟨v1.heap.size, 2, none⟩ = some (.slice a1 n c1) := by rw [(bcell st7).1 _ _ (by omega)]; exact c6_2
  have c7_3 : v7.cell? ⟨v1.heap.size, 3, none⟩ = some (.slice none 0 0) := by rw [(bcell st7).1 _ _ (by omega)]; exact c6_3
  have c7_4 : v7.cell? ⟨v1.heap.size, 4, none⟩ = some (.int .i64 0) := by rw [(bcell st7).1 _ _ (by omega)]; exact c6_4
  have c7_5 : v7.cell? ⟨v2.heap.size, 0, none⟩ = some (.int .i64 y) := by rw [(bcell st7).1 _ _ (by omega)]; exact c6_5
  have c7_6 : v7.cell? ⟨v2.heap.size, 1, none⟩ = some (.slice none 0 0) := by rw [(bcell st7).1 _ _ (by omega)]; exact c6_6
  have c7_7 : v7.cell? ⟨v2.heap.size, 2, none⟩ = some (.slice a2 n c2) := by rw [(bcell st7).1 _ _ (by omega)]; exact c6_7
  have c7_8 : v7.cell? ⟨v2.heap.size, 3, none⟩ = some (.slice none 0 0) := by rw [(bcell st7).1 _ _ (by omega)]; exact c6_8
  have c7_9 : v7.cell? ⟨v2.heap.size, 4, none⟩ = some (.int .i64 0) := by rw [(bcell st7).1 _ _ (by omega)]; exact c6_9
  have c7_10 : v7.cell? ⟨v6.heap.size, 0, none⟩ = some (.int .i64 y) := by rw [(bcell hb7).1 _ _ (by simp)]; first | (rw [new_at (by simp)]; rfl) | simp
  have c7_11 : v7.cell? ⟨v6.heap.size, 1, none⟩ = some (.slice none 0 0) := by rw [(bcell hb7).1 _ _ (by simp)]; first | (rw [new_at (by simp)]; rfl) | simp
  have c7_12 : v7.cell? ⟨v6.heap.size, 2, none⟩ = some (.slice a3 n c3) := by rw [(bcell hb7).1 _ _ (by simp)]; first | (rw [new_at (by simp)]; rfl) | simp
  have c7_13 : v7.cell? ⟨v6.heap.size, 3, none⟩ = some (.slice none 0 0) := by rw [(bcell hb7).1 _ _ (by simp)]; first | (rw [new_at (by simp)]; rfl) | simp
  have c7_14 : v7.cell? ⟨v6.heap.size, 4, none⟩ = some (.int .i64 0) := by rw [(bcell hb7).1 _ _ (by simp)]; first | (rw [new_at (by simp)]; rfl) | simp
  have B7 : Hid (Below w.heap.size w v7) := B6.out.trans (st7.mono (by omega))
  have d7_0 : v1.heap.size < v7.heap.size := by omega
  have e7_0 : v1.heap.size ≠ v7.heap.size := by omega
  have d7_1 : v2.heap.size < v7.heap.size := by omega
  have e7_1 : v2.heap.size ≠ v7.heap.size := by omega
  have d7_2 : v6.heap.size < v7.heap.size := by omega
  have e7_2 : v6.heap.size ≠ v7.heap.size := by omega
  have ST7 := Lib.hid st7
  clear d6_0 e6_0 d6_1 e6_1 c6_0 c6_1 c6_2 c6_3 c6_4 c6_5 c6_6 c6_7 c6_8 c6_9 B6 st7 hb7
  have N7_0 : Hid (N0 v7 a1 n) := N6_0.out.below ST7.out
  have N7_1 : Hid (N0 v7 a2 n) := N6_1.out.below ST7.out
  have N7_2 : Hid (N0 v7 a3 n) := N6_2.out.below ST7.out
  clear ST7 N6_0 N6_1 N6_2
  go_wp2_with fail
  go_at_call 30
  refine (heldNet_0 y a2 n c2 _ hn N7_1.out).mono ?_
  rintro e v8 ⟨rfl, hb8⟩
  have sz8 : v7.heap.size ≤ v8.heap.size := hb8.size
  have st8 : Below v7.heap.size v7 v8 := hb8
  have c8_0 : v8.cell? ⟨v1.heap.size, 0, none⟩ = some (.int .i64 y) := by rw [(bcell st8).1 _ _ (by omega)]; exact c7_0
  have c8_1 : v8.cell? ⟨v1.heap.size, 1, none⟩ = some (.slice none 0 0) := by rw [(bcell st8).1 _ _ (by omega)]; exact c7_1
  have c8_2 : v8.cell? ⟨v1.heap.size, 2, none⟩ = some (.slice a1 n c1) := by rw [(bcell st8).1 _ _ (by omega)]; exact c7_2
  have c8_3 : v8.cell? ⟨v1.heap.size, 3, none⟩ = some (.slice none 0 0) := by rw [(bcell st8).1 _ _ (by omega)]; exact c7_3
  have c8_4 : v8.cell? ⟨v1.heap.size, 4, none⟩ = some (.int .i64 0) := by rw [(bcell st8).1 _ _ (by omega)]; exact c7_4
  have c8_5 : v8.cell? ⟨v2.heap.size, 0, none⟩ = some (.int .i64 y) := by rw [(bcell st8).1 _ _ (by omega)]; exact c7_5
  have c8_6 : v8.cell? ⟨v2.heap.size, 1, none⟩ = some (.slice none 0 0) := by rw [(bcell st8).1 _ _ (by omega)]; exact c7_6
  have c8_7 : v8.cell? ⟨v2.heap.size, 2, none⟩ = some (.slice a2 n c2) := by rw [(bcell st8).1 _ _ (by omega)]; exact c7_7
  have c8_8 : v8.cell? ⟨v2.heap.size, 3, none⟩ = some (.slice none 0 0) := by rw [(bcell st8).1 _ _ (by omega)]; exact c7_8
  have c8_9 : v8.cell? ⟨v2.heap.size, 4, none⟩ = some (.int .i64 0) := by rw [(bcell st8).1 _ _ (by omega)]; exact c7_9
  have c8_10 : v8.cell? ⟨v6.heap.size, 0, none⟩ = some (.int .i64 y) := by rw [(bcell st8).1 _ _ (by omega)]; exact c7_10
  have c8_11 : v8.cell? ⟨v6.heap.size, 1, none⟩ = some (.slice none 0 0) := by rw [(bcell st8).1 _ _ (by omega)]; exact c7_11
  have c8_12 : v8.cell? ⟨v6.heap.size, 2, none⟩ = some (.slice a3 n c3) := by rw [(bcell st8).1 _ _ (by omega)]; exact c7_12
  have c8_13 : v8.cell? ⟨v6.heap.size, 3, none⟩ = some (.slice none 0 0) := by rw [(bcell st8).1 _ _ (by omega)]; exact c7_13
  have c8_14 : v8.cell? ⟨v6.heap.size, 4, none⟩ = some (.int .i64 0) := by rw [(bcell st8).1 _ _ (by omega)]; exact c7_14
  have B8 : Hid (Below w.heap.size w v8) := B7.out.trans (st8.mono (by omega))
  have d8_0 : v1.heap.size < v8.heap.size := by omega
  have e8_0 : v1.heap.size ≠ v8.heap.size := by omega
  have d8_1 : v2.heap.size < v8.heap.size := by omega
  have e8_1 : v2.heap.size ≠ v8.heap.size := by omega
  have d8_2 : v6.heap.size < v8.heap.size := by omega
  have e8_2 : v6.heap.size ≠ v8.heap.size := by omega
  have ST8 := Lib.hid st8
  clear d7_0 e7_0 d7_1 e7_1 d7_2 e7_2 c7_0 c7_1 c7_2 c7_3 c7_4 c7_5 c7_6 c7_7 c7_8 c7_9 c7_10 c7_11 c7_12 c7_13 c7_14 B7 st8 hb8
  have N8_0 : Hid (N0 v8 a1 n) := N7_0.out.below ST8.out
  have N8_1 : Hid (N0 v8 a2 n) := N7_1.out.below ST8.out
  have N8_2 : Hid (N0 v8 a3 n) := N7_2.out.below ST8.out
  clear ST8 N7_0 N7_1 N7_2
  cases ok <;>
    · go_wp2_with fail
      go_ret
      exact ⟨rfl, B8.out⟩

theorem lawNewNet (x : Int) (w : World) (_hx : I64 x) : Calls Try.prog 8 #[.int .i64 x] w fun e w' => e = .returned (.bool true) ∧ Below w.heap.size w w' := by
  by_cases h : 1 ≤ x ∧ x ≤ 6
  · obtain ⟨n, rfl⟩ : ∃ n : Nat, x = (n : Int) := ⟨x.toNat, by omega⟩
    exact lawNewNet_of (n : Int) (n : Int) n true w (by omega) (fun w => snet_yes n w (by omega) (by omega)) (fun w => inet_yes n w (by omega) (by omega))
  · exact lawNewNet_of x 0 0 false w (by omega) (fun w => snet_no x w (by omega)) (fun w => inet_no x w (by omega))

set_option maxRecDepth 100000 in
theorem ExactNewNet_lifted (os : Os) (started : os.Started) (H : Type) (enc : TypeId × Value → H) :
    ReturnsInHanded {} Try.checked os 8 .any (Rows.fnExactNewNetSpec.pre6 enc Try.prog Try.f8 Rows.fnExactNewNetRow.domain false) (Rows.fnExactNewNetSpec.post enc Try.prog Try.f8 false true false false) := by
  refine returnsInHanded_of_change (C := Try.checked) Try.own started (by kernel_rfl) Try.func8
    (ChangeSpec.witness6 (enc := enc) (C := Try.checked) false ⟨#[], #[.int .i64 0], []⟩ 8 (by kernel_rfl) (by kernel_rfl) (by kernel_rfl) (by kernel_rfl)) ?_
  intro W base args ds gs before hval0 hW _ _
  have hval : ∀ (j : Nat) t v, Try.f8.params[j]? = some t → args[j]? = some v → Value.okWide Try.prog W .any base t v := hval0
  have hW' := hW
  obtain ⟨p, q, hA0, _, _, _, _⟩ := hW
  have hA : DataW.TrodAll enc Try.prog W 0 (fun _ => true) true Try.f8.params.toList args.toList ds p := hA0
  rw [Try.params8] at hA hval
  obtain ⟨v0, d0, rfl, rfl, h0⟩ := trodAll_one hA
  obtain ⟨a0, rfl, ha0, hb0⟩ := open_num (hval 0 3 v0 rfl rfl) h0
  refine (lawNewNet a0 W ⟨ha0, hb0⟩).mono fun e W' ⟨he, hw⟩ => ⟨_, he, law_post Try.laidOut (fun u hu => ?_) rfl rfl Try.underlying4 hW' rfl hw⟩
  rw [Try.params8] at hu
  simp at hu
  subst hu
  exact Try.read3

theorem ExactNewNet_holds : Rows.FnExactNewNetSaid :=
  OpenClaim.holds_of_wide 8 Try.f8 rfl rfl rfl rfl rfl rfl rfl ⟨rfl, rfl, rfl, rfl, rfl⟩ rfl rfl rfl rfl rfl (by kernel_rfl) Try.func8 (by kernel_rfl)
    (of_decide_eq_true (by kernel_rfl)) (by unfold Func.isWrapper; first | (rw [if_pos (by decide +kernel)]; kernel_rfl) | (rw [if_neg (by decide +kernel)]; exact ⟨rfl, rfl⟩))
    (fun os started H enc _ => ExactNewNet_lifted os started H enc)

end Go.Proofs.Ytkkfgnnhdcmmjab
