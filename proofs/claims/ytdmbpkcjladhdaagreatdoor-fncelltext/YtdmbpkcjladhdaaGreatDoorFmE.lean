import Derived.Test.YtdmbpkcjladhdaaGreatDoorFmD
namespace Go.Proofs.YtdmbpkcjladhdaaGreatDoor
open Go.RowKit FL Ieee
set_option linter.unusedSimpArgs false
set_option linter.unusedVariables false

/-- The text of a float. -/
def fltT (x : Nat) : List UInt8 :=
  if nanD x = true then [110, 97, 110]
  else if x = 0 then [48]
  else if x = 9223372036854775808 then [45, 48]
  else if x = 9218868437227405312 then [105, 110, 102]
  else if x = 18442240474082181120 then [45, 105, 110, 102]
  else if x < 9223372036854775808 then posT x
  else [45] ++ posT (x - 9223372036854775808)

theorem posT_len (r : Nat) (h0 : 0 < r) (hr : r < double.infRung) : (posT r).length ≤ 50 := by
  obtain ⟨hod, ho, hc, hk⟩ := big_odd r h0 hr
  have l1 := Lib.itoa_length_le ((cOf (bigR double r) : Nat) : Int) (by omega) (by omega)
  have l2 := Lib.itoa_length_le (((kOf (bigR double r) : Nat) : Int) - 1074) (by omega) (by omega)
  unfold posT
  simp only [List.length_append, List.length_cons, List.length_nil]
  omega

theorem fin_pos (x : Nat) (h0 : nanD x = false) (h1 : x ≠ 0) (h2 : x ≠ 9218868437227405312) (h3 : x < 9223372036854775808) : 0 < x ∧ x < double.infRung := by
  have h : ¬ 9218868437227405312 < x % 9223372036854775808 := fun h => by rw [(nanD_iff x).2 h] at h0; cases h0
  rw [dI]; omega
theorem fin_neg (x : Nat) (hx : B64 x) (h0 : nanD x = false) (h1 : x ≠ 9223372036854775808) (h2 : x ≠ 18442240474082181120) (h3 : ¬ x < 9223372036854775808) : 0 < x - 9223372036854775808 ∧ x - 9223372036854775808 < double.infRung := by
  have h : ¬ 9218868437227405312 < x % 9223372036854775808 := fun h => by rw [(nanD_iff x).2 h] at h0; cases h0
  unfold B64 at hx
  rw [dI]; omega

theorem fltT_len (x : Nat) (hx : B64 x) : (fltT x).length ≤ 60 := by
  unfold fltT
  by_cases h0 : nanD x = true
  · rw [if_pos h0]; decide
  · rw [if_neg h0]
    have h0' : nanD x = false := by simpa using h0
    by_cases h1 : x = 0
    · rw [if_pos h1]; decide
    · rw [if_neg h1]
      by_cases h2 : x = 9223372036854775808
      · rw [if_pos h2]; decide
      · rw [if_neg h2]
        by_cases h3 : x = 9218868437227405312
        · rw [if_pos h3]; decide
        · rw [if_neg h3]
          by_cases h4 : x = 18442240474082181120
          · rw [if_pos h4]; decide
          · rw [if_neg h4]
            by_cases h5 : x < 9223372036854775808
            · rw [if_pos h5]
              have hp := fin_pos x h0' h1 h3 h5
              have := posT_len x hp.1 hp.2
              omega
            · rw [if_neg h5]
              have hp := fin_neg x hx h0' h2 h4 h5
              have := posT_len _ hp.1 hp.2
              simp only [List.length_append, List.length_cons, List.length_nil]
              omega

end Go.Proofs.YtdmbpkcjladhdaaGreatDoor
