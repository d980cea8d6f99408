import Derived.Test.YthaajmkfeniofaaConv10
namespace Go.Proofs.Ythaajmkfeniofaa
open Go.RowKit FL Ieee
set_option linter.unusedSimpArgs false
set_option linter.unusedVariables false

/-- A whole number goes to a single and back. -/
theorem back_s (n m : Int) (h : n.natAbs ≤ 16777215) (ht : TruncOk (wide (floatOfInt .f32 n)) m) : m = n := by
  by_cases h0 : n = 0
  · subst h0
    have e : wide (floatOfInt .f32 0) = 0 := by decide
    rw [e] at ht
    have := ht.2 (by decide)
    have e2 : (double.read 0).toInt .zero = some 0 := by decide
    rw [e2] at this
    exact (Option.some.inj this).symm
  · have hp : (2 : Nat) ^ (single.fractionBits + 1) = 16777216 := by decide
    have hp2 : (2 : Nat) ^ (double.fractionBits + 1) = 9007199254740992 := by decide
    obtain ⟨r, k, h1, h2, h3, h4, h5, h6⟩ := write_read single (decide (n < 0)) n.natAbs 0 (by omega) (by omega) (by rw [sL]; omega) (by rw [sL, sB, sI]; decide)
    have hm := mag_lt single r
    rw [h3, hp] at hm
    rw [sL] at h4
    have hu : wide (floatOfInt .f32 n) = double.nearest (decide (n < 0)) (n.natAbs * 2 ^ k) (0 - (k : Int)) := by
      show double.write (single.read (single.nearest (decide (n < 0)) n.natAbs 0)) = _
      rw [h6]; rfl
    obtain ⟨r', j, g1, g2, _, g4, g5, g6⟩ := write_read double (decide (n < 0)) (n.natAbs * 2 ^ k) (0 - (k : Int)) (Nat.mul_pos (by omega) (Nat.two_pow_pos k)) (by omega) (by rw [dL]; omega) (by rw [dL, dB, dI]; omega)
    rw [dI] at g2
    rw [dL] at g4
    have hw := (word_mod double (decide (n < 0)) r' (by rw [dW]; omega)).1
    rw [dW] at hw
    have hlt : wide (floatOfInt .f32 n) % 9223372036854775808 < 4890909195324358656 := by
      rw [hu, g5, hw]
      unfold upR at g4
      rw [dB] at g4
      split at g4 <;> omega
    have ha := ht.2 hlt
    rw [hu, g6] at ha
    unfold Datum.toInt Datum.integral at ha
    have e1 : ((0 : Int) - (k : Int) - (j : Int)).toNat = 0 := by omega
    have e2 : (-((0 : Int) - (k : Int) - (j : Int))).toNat = k + j := by omega
    have e3 : n.natAbs * 2 ^ k * 2 ^ j = n.natAbs * 2 ^ (k + j) := by rw [Nat.mul_assoc, ← Nat.pow_add]
    simp only [e1, e2, e3, Nat.shiftLeft_zero, cut_exact _ _ n.natAbs (k + j) (by omega)] at ha
    have hb := Option.some.inj ha
    unfold signed at hb
    rw [Nat.shiftLeft_zero] at hb
    by_cases hn : n < 0
    · simp [hn] at hb; omega
    · simp [hn] at hb; omega
end Go.Proofs.Ythaajmkfeniofaa
