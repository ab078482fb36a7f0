/- Signs and ages. -/
import Derived.Test.YtfpafjdakipccaaX1
namespace Go.Proofs.Ytfpafjdakipccaa
open Go.RowKit


/-- The sign. -/
def sgn (x : Int) : Int := if 0 < x then 1 else if x < 0 then -1 else 0
set_option maxHeartbeats 1000000 in
theorem sign_any (x : Int) (w : World) : Calls Try.prog 99 #[.int .i64 x] w fun e w' => e = .returned (.int .i64 (sgn x)) ∧ w = w' := by
  unfold sgn
  by_cases h : 0 < x
  · rw [if_pos h]
    go_enter Try.func99, Try.ntmps99
    go_wp2
    go_ret
    exact ⟨rfl, rfl⟩
  · rw [if_neg h]
    by_cases h2 : x < 0
    · rw [if_pos h2]
      go_enter Try.func99, Try.ntmps99
      go_wp2
      go_ret
      exact ⟨rfl, rfl⟩
    · rw [if_neg h2]
      go_enter Try.func99, Try.ntmps99
      go_wp2
      go_ret
      exact ⟨rfl, rfl⟩
/-- Which of two that are equal otherwise is newer by its age. -/
def ageN (a b : Int) : Int := if a = b then 0 else if a = 60 ∨ b = 60 then sgn (a - b) else if 10 < a - b ∨ 10 < b - a then sgn (b - a) else 0
theorem cmpI_sgn (a b : Int) : cmpI a b = sgn (a - b) := by unfold cmpI sgn; split <;> split <;> (try split) <;> (try split) <;> omega

set_option maxHeartbeats 2000000 in
theorem nage_any (a b : Int) (w : World) (a0 : 0 ≤ a) (a1 : a ≤ 60) (b0 : 0 ≤ b) (b1 : b ≤ 60) : Calls Try.prog 128 #[.int .i64 a, .int .i64 b] w fun e w' => e = .returned (.int .i64 (ageN a b)) ∧ w = w' := by
  by_cases h1 : a = 60
  · subst h1
    by_cases h2 : b = 60
    · subst h2
      have hv : Hid (ageN 60 60 = 0) := Lib.hid (by decide)
      go_enter Try.func128, Try.ntmps128
      go_wp2
      go_ret
      exact ⟨by rw [hv.out]; rfl, rfl⟩
    · have hv : Hid (ageN 60 b = cmpI 60 b) := Lib.hid (by rw [cmpI_sgn]; unfold ageN; rw [if_neg (by omega), if_pos (.inl rfl)])
      have f1 : (b == 60) = false := by simp [h2]
      have Hh := Lib.hid h2
      clear h2
      go_enter Try.func128, Try.ntmps128
      go_wp2_with fail
      go_at_call 127
      refine (cmp_any 60 b _).mono ?_
      rintro e w' ⟨rfl, rfl⟩
      go_wp2
      go_ret
      exact ⟨by rw [hv.out]; rfl, rfl⟩
  · have f0 : (a == 60) = false := by simp [h1]
    by_cases h2 : b = 60
    · subst h2
      have hv : Hid (ageN a 60 = cmpI a 60) := Lib.hid (by rw [cmpI_sgn]; unfold ageN; rw [if_neg (by omega), if_pos (.inr rfl)])
      have Hh := Lib.hid h1
      clear h1
      go_enter Try.func128, Try.ntmps128
      go_wp2_with fail
      go_at_call 127
      refine (cmp_any a 60 _).mono ?_
      rintro e w' ⟨rfl, rfl⟩
      go_wp2
      go_ret
      exact ⟨by rw [hv.out]; rfl, rfl⟩
    · have f1 : (b == 60) = false := by simp [h2]
      by_cases hab : a < b
      · have hba : ¬ b < a := by omega
        by_cases h3 : 10 < b - a
        · skip
          have hv : Hid (ageN a b = cmpI b a) := Lib.hid (by rw [cmpI_sgn]; unfold ageN; rw [if_neg (by omega), if_neg (by omega), if_pos (by omega)])
          have Hh := Lib.hid (And.intro h1 h2)
          clear h1 h2
          go_enter Try.func128, Try.ntmps128
          go_wp2_with fail
          go_at_call 127
          refine (cmp_any b a _).mono ?_
          rintro e w' ⟨rfl, rfl⟩
          go_wp2
          go_ret
          exact ⟨by rw [hv.out]; rfl, rfl⟩
        · skip
          have hv : Hid (ageN a b = 0) := Lib.hid (by unfold ageN; rw [if_neg (by omega), if_neg (by omega), if_neg (by omega)])
          have Hh := Lib.hid (And.intro h1 h2)
          clear h1 h2
          go_enter Try.func128, Try.ntmps128
          go_wp2
          go_ret
          exact ⟨by rw [hv.out]; rfl, rfl⟩
      · by_cases hba : b < a
        · by_cases h3 : 10 < a - b
          · skip
            have hv : Hid (ageN a b = cmpI b a) := Lib.hid (by rw [cmpI_sgn]; unfold ageN; rw [if_neg (by omega), if_neg (by omega), if_pos (by omega)])
            have Hh := Lib.hid (And.intro h1 h2)
            clear h1 h2
            go_enter Try.func128, Try.ntmps128
            go_wp2_with fail
            go_at_call 127
            refine (cmp_any b a _).mono ?_
            rintro e w' ⟨rfl, rfl⟩
            go_wp2
            go_ret
            exact ⟨by rw [hv.out]; rfl, rfl⟩
          · skip
            have hv : Hid (ageN a b = 0) := Lib.hid (by unfold ageN; rw [if_neg (by omega), if_neg (by omega), if_neg (by omega)])
            have Hh := Lib.hid (And.intro h1 h2)
            clear h1 h2
            go_enter Try.func128, Try.ntmps128
            go_wp2
            go_ret
            exact ⟨by rw [hv.out]; rfl, rfl⟩
        · have hv : Hid (ageN a b = 0) := Lib.hid (by unfold ageN; rw [if_pos (by omega)])
          have h3 : ¬ 10 < a - b := by omega
          have Hh := Lib.hid (And.intro h1 h2)
          clear h1 h2
          go_enter Try.func128, Try.ntmps128
          go_wp2
          go_ret
          exact ⟨by rw [hv.out]; rfl, rfl⟩

end Go.Proofs.Ytfpafjdakipccaa
