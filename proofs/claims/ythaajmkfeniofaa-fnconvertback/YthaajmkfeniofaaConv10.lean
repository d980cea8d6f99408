import Derived.Test.YthaajmkfeniofaaConv9
namespace Go.Proofs.Ythaajmkfeniofaa
open Go.RowKit FL Ieee
set_option linter.unusedSimpArgs false
set_option linter.unusedVariables false

theorem near_lt (neg : Bool) (m : Nat) (h0 : 0 < m) (h : m ≤ 9007199254740991) : double.nearest neg m 0 % 9223372036854775808 < 4890909195324358656 := by
  have hp : (2 : Nat) ^ (double.fractionBits + 1) = 9007199254740992 := by decide
  obtain ⟨r, k, h1, h2, _, h4, h5, _⟩ := write_read double neg m 0 h0 (by omega) (by rw [dL]; omega) (by rw [dL, dB, dI]; decide)
  rw [dI] at h2
  rw [dL] at h4
  have hw := (word_mod double neg r (by rw [dW]; omega)).1
  rw [dW] at hw
  rw [h5, hw]
  unfold upR at h4
  rw [dB] at h4
  split at h4 <;> omega

/-- A whole number goes to a double and back. -/
theorem back_d (n m : Int) (h : n.natAbs ≤ 9007199254740991) (ht : TruncOk (floatOfInt .f64 n) m) : m = n := by
  by_cases h0 : n = 0
  · subst h0
    have e : floatOfInt .f64 0 = 0 := by decide
    rw [e] at ht
    have := ht.2 (by decide)
    have e2 : (double.read 0).toInt .zero = some 0 := by decide
    rw [e2] at this
    exact (Option.some.inj this).symm
  · have h1 := ht.2 (near_lt (decide (n < 0)) n.natAbs (by omega) h)
    have h2 := toInt_nearest n h0 h
    have h3 : (double.read (floatOfInt .f64 n)).toInt .zero = some n := h2
    rw [h3] at h1
    exact (Option.some.inj h1).symm
end Go.Proofs.Ythaajmkfeniofaa
