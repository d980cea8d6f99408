import Derived.Test.YthaajmkfeniofaaConv
namespace Go.Proofs.Ythaajmkfeniofaa
open Go.RowKit FL Ieee
set_option linter.unusedSimpArgs false
set_option linter.unusedVariables false

theorem cut_le (neg : Bool) (n drop : Nat) : Toward.zero.cut neg n drop ≤ n := by
  unfold Toward.cut
  simp only [Bool.toNat_false, Nat.add_zero]
  exact Nat.div_le_self _ _

theorem toInt_lt (x : Nat) (h : x % 9223372036854775808 < 4890909195324358656) :
    ∃ n : Int, (double.read x).toInt .zero = some n ∧ -9223372036854775808 < n ∧ n < 9223372036854775808 := by
  have hf := read_finite double x (by rw [dW, dI]; omega)
  rw [dW] at hf
  have hm := mag_lt double (x % 9223372036854775808)
  have hu : upR double (x % 9223372036854775808) ≤ 1084 := by
    unfold upR; rw [dB]; split <;> omega
  generalize hM : magR double (x % 9223372036854775808) = m at *
  generalize hU : upR double (x % 9223372036854775808) = u at *
  have hm2 : m < 9007199254740992 := by have : (2 : Nat) ^ (double.fractionBits + 1) = 9007199254740992 := by decide
                                        omega
  have hi : (double.leastPlace + (u : Nat)).toNat ≤ 10 := by rw [dL]; omega
  have hs : m <<< (double.leastPlace + (u : Nat)).toNat < 9223372036854775808 := by
    rw [Nat.shiftLeft_eq]
    have h1 : 2 ^ (double.leastPlace + (u : Nat)).toNat ≤ 2 ^ 10 := Nat.pow_le_pow_right (by decide) hi
    have h2 : m * 2 ^ (double.leastPlace + (u : Nat)).toNat ≤ m * 2 ^ 10 := Nat.mul_le_mul_left _ h1
    omega
  have hc := cut_le (x / 9223372036854775808 % 2 == 1) (m <<< (double.leastPlace + (u : Nat)).toNat) (-(double.leastPlace + (u : Nat))).toNat
  rw [hf]
  refine ⟨_, rfl, ?_⟩
  generalize Toward.zero.cut (x / 9223372036854775808 % 2 == 1) (m <<< (double.leastPlace + (u : Nat)).toNat) (-(double.leastPlace + (u : Nat))).toNat = c at *
  unfold signed
  rw [Nat.shiftLeft_zero]
  split <;> omega

/-- A whole number that a double holds is read back. -/
theorem toInt_nearest (n : Int) (h0 : n ≠ 0) (h : n.natAbs ≤ 9007199254740991) : (double.read (double.nearest (decide (n < 0)) n.natAbs 0)).toInt .zero = some n := by
  have hp : (2 : Nat) ^ (double.fractionBits + 1) = 9007199254740992 := by decide
  obtain ⟨r, k, _, _, _, _, _, hr⟩ := write_read double (decide (n < 0)) n.natAbs 0 (by omega) (by omega) (by rw [dL]; omega) (by rw [dL, dB, dI]; decide)
  rw [hr]
  unfold Datum.toInt Datum.integral
  have e1 : ((0 : Int) - (k : Int)).toNat = 0 := by omega
  have e2 : (-((0 : Int) - (k : Int))).toNat = k := by omega
  simp only [e1, e2, Nat.shiftLeft_zero, cut_exact _ _ n.natAbs k (by omega)]
  unfold signed
  rw [Nat.shiftLeft_zero]
  by_cases hn : n < 0
  · simp [hn]; omega
  · simp [hn]; omega
end Go.Proofs.Ythaajmkfeniofaa
