import Derived.Test.YtdmbpkcjladhdaaGreatDoorFloats3
namespace Go.Proofs.YtdmbpkcjladhdaaGreatDoor
namespace FL
open Ieee
set_option linter.unusedSimpArgs false
set_option linter.unusedVariables false

/-- nearest_up without the bound: a rung too great is infinity's. -/
theorem nearest_min (F : Format) (neg : Bool) (r k : Nat) (h0 : 0 < r) :
    F.nearest neg (magR F r * 2 ^ k) (F.leastPlace + (upR F r : Nat) - k) = F.word neg (min r F.infRung) := by
  have hm := mag_pos F r h0
  have hp : 0 < 2 ^ k := Nat.two_pow_pos _
  unfold Format.nearest
  rw [if_neg (Nat.mul_ne_zero (by omega) (by omega))]
  dsimp only
  rw [log2_mul _ _ hm]
  have e0 := last_eq F r h0
  have e1 : max (F.leastPlace + (upR F r : Nat) - (k : Int) + ((magR F r).log2 + k : Nat) - F.fractionBits) F.leastPlace = F.leastPlace + (upR F r : Nat) := by
    rw [← e0]; congr 1; omega
  rw [e1]
  have e2 : (F.leastPlace + (upR F r : Nat) - (k : Int) - (F.leastPlace + (upR F r : Nat))).toNat = 0 := by omega
  have e3 : (F.leastPlace + (upR F r : Nat) - (F.leastPlace + (upR F r : Nat) - (k : Int))).toNat = k := by omega
  have e4 : (F.leastPlace + (upR F r : Nat) - F.leastPlace).toNat = upR F r := by omega
  rw [e2, e3, e4, Nat.shiftLeft_zero, cut_exact _ _ _ _ hm, rung_eq]

theorem word_f (r : Nat) : double.word false r = r := rfl
theorem read_f (r : Nat) (h : r < double.infRung) : double.read r = .number false (magR double r) (double.leastPlace + (upR double r : Nat)) := by
  have := read_word double false r h
  rwa [word_f] at this
theorem dF : double.fractionBits = 52 := rfl
theorem p53 : (2 : Nat) ^ (double.fractionBits + 1) = 9007199254740992 := by decide
theorem magD_lt (r : Nat) : magR double r < 9007199254740992 := by rw [← p53]; exact mag_lt double r

/-- The word of 2 to the p. -/
theorem read_pow (p : Nat) (h : p < 1024) : double.read ((1023 + p) * 4503599627370496) = .number false 4503599627370496 ((p : Int) - 52) := by
  have h1 : (1023 + p) * 4503599627370496 % 9223372036854775808 = (1023 + p) * 4503599627370496 := Nat.mod_eq_of_lt (by omega)
  have h2 : (1023 + p) * 4503599627370496 / 9223372036854775808 = 0 := Nat.div_eq_of_lt (by omega)
  rw [read_finite double _ (by rw [dW, dI, h1]; omega), dW, h1, h2]
  have e1 : magR double ((1023 + p) * 4503599627370496) = 4503599627370496 := by
    unfold magR; rw [dB, if_neg (by omega), Nat.mul_mod_left]
  have e2 : upR double ((1023 + p) * 4503599627370496) = 1022 + p := by
    unfold upR; rw [dB, if_neg (by omega), Nat.mul_div_cancel _ (by omega)]; omega
  rw [e1, e2, dL]
  congr 1; omega

/-- A power of two times a number is exact where there is such a number. -/
theorem mul_pow (neg : Bool) (r r' p : Nat) (h0 : 0 < r) (hr : r < double.infRung) (h0' : 0 < r') (hr' : r' < double.infRung) (hp : p < 1024) (hb : bigR double r' = bigR double r * 2 ^ p) :
    double.mul (double.word neg r) ((1023 + p) * 4503599627370496) = some (double.word neg r') := by
  unfold Format.mul
  rw [read_word double neg r hr, read_pow p hp]
  show some (double.nearest (neg ^^ false) (magR double r * 4503599627370496) (double.leastPlace + (upR double r : Nat) + ((p : Int) - 52))) = _
  rw [Bool.xor_false]
  have hm' := magD_lt r'
  have hm := mag_pos double r h0
  unfold bigR at hb
  have hk : upR double r + p ≤ upR double r' + 52 := by
    by_cases hle : upR double r + p ≤ upR double r' + 52
    · exact hle
    · exfalso
      obtain ⟨d, hd⟩ : ∃ d, upR double r + p = upR double r' + 53 + d := ⟨upR double r + p - (upR double r' + 53), by omega⟩
      rw [Nat.mul_assoc, ← Nat.pow_add, hd, show upR double r' + 53 + d = upR double r' + (53 + d) by omega, Nat.pow_add, ← Nat.mul_assoc, Nat.mul_right_comm] at hb
      have := Nat.eq_of_mul_eq_mul_right (Nat.two_pow_pos _) hb
      rw [Nat.pow_add] at this
      have hq : 0 < 2 ^ d := Nat.two_pow_pos _
      have h1 : 1 * 2 ^ 53 * 1 ≤ magR double r * 2 ^ 53 * 2 ^ d := Nat.mul_le_mul (Nat.mul_le_mul hm (Nat.le_refl _)) hq
      rw [Nat.mul_assoc (magR double r)] at h1
      omega
  obtain ⟨k, hk2⟩ : ∃ k, upR double r' + 52 = upR double r + p + k := ⟨upR double r' + 52 - (upR double r + p), by omega⟩
  have e : magR double r * 4503599627370496 = magR double r' * 2 ^ k := by
    have h1 : magR double r' * 2 ^ k * 2 ^ (upR double r + p) = magR double r * 4503599627370496 * 2 ^ (upR double r + p) := by
      rw [Nat.mul_assoc, ← Nat.pow_add, show k + (upR double r + p) = upR double r' + 52 by omega, Nat.pow_add, ← Nat.mul_assoc, hb, Nat.pow_add]
      have : (2 : Nat) ^ 52 = 4503599627370496 := by decide
      rw [this]
      simp only [Nat.mul_assoc, Nat.mul_comm, Nat.mul_left_comm]
    exact (Nat.eq_of_mul_eq_mul_right (Nat.two_pow_pos _) h1).symm
  rw [e]
  have e2 : double.leastPlace + (upR double r : Nat) + ((p : Int) - 52) = double.leastPlace + (upR double r' : Nat) - k := by omega
  rw [e2, nearest_up double neg r' k h0' hr']

/-- Of every number of a rung times a power of two there is a rung, if it is not too great. -/
theorem big_pow (r p : Nat) (h0 : 0 < r) (h : upR double r + p ≤ 2044) : ∃ r', 0 < r' ∧ r' < double.infRung ∧ bigR double r' = bigR double r * 2 ^ p := by
  have hm := mag_pos double r h0
  obtain ⟨r', k, h1, h2, h3, h4⟩ := has_rung double (magR double r) (double.leastPlace + (upR double r + p : Nat)) hm (mag_lt double r) (by omega)
  have e : (double.leastPlace + (upR double r + p : Nat) - double.leastPlace).toNat = upR double r + p := by omega
  rw [e] at h4
  refine ⟨r', h1, ?_, ?_⟩
  · rw [dI]; rw [dB] at h4; omega
  · unfold bigR
    have : upR double r + p = upR double r' + k := by omega
    rw [h2, Nat.mul_assoc, Nat.mul_assoc, ← Nat.pow_add, ← Nat.pow_add, this, Nat.add_comm k]

/-- Twice a number is another word. -/
theorem twice_ne (r : Nat) (h0 : 0 < r) (hr : r < double.infRung) : ∃ y, double.mul r 4611686018427387904 = some y ∧ y < 9223372036854775808 ∧ y ≤ double.infRung ∧ y ≠ r := by
  by_cases h : upR double r + 1 ≤ 2044
  · obtain ⟨r', h1, h2, h3⟩ := big_pow r 1 h0 h
    have := mul_pow false r r' 1 h0 hr h1 h2 (by omega) h3
    refine ⟨r', this, ?_, by omega, ?_⟩
    · rw [dI] at h2; omega
    · intro e
      subst e
      have hp : 0 < bigR double r' := by
        have hm := mag_pos double r' h0
        unfold bigR; exact Nat.mul_pos hm (Nat.two_pow_pos _)
      omega
  · have hn : 4503599627370496 ≤ r := by
      unfold upR at h; rw [dB] at h
      by_cases g : r < 4503599627370496
      · rw [if_pos g] at h; omega
      · omega
    have hr2 := hr
    rw [dI] at hr2
    have e1 : magR double (r + 4503599627370496) = magR double r := by
      unfold magR; rw [dB, if_neg (by omega), if_neg (by omega)]; simp
    have e2 : upR double (r + 4503599627370496) = upR double r + 1 := by
      unfold upR; rw [dB, if_neg (by omega), if_neg (by omega), Nat.add_div_right _ (by omega)]
      have : 1 ≤ r / 4503599627370496 := (Nat.one_le_div_iff (by omega)).2 hn
      omega
    have hn2 := nearest_min double false (r + 4503599627370496) 52 (by omega)
    rw [e1, e2] at hn2
    refine ⟨min (r + 4503599627370496) double.infRung, ?_, by rw [dI]; omega, by omega, by rw [dI]; omega⟩
    have hrd := read_pow 1 (by omega)
    unfold Format.mul
    rw [read_f r hr, show (4611686018427387904 : Nat) = (1023 + 1) * 4503599627370496 by decide, hrd]
    show some (double.nearest (false ^^ false) (magR double r * 4503599627370496) (double.leastPlace + (upR double r : Nat) + (((1 : Nat) : Int) - 52))) = _
    have h52 : (2 : Nat) ^ 52 = 4503599627370496 := by decide
    rw [h52] at hn2
    have e3 : double.leastPlace + (upR double r : Nat) + (((1 : Nat) : Int) - 52) = double.leastPlace + ((upR double r + 1 : Nat) : Int) - ((52 : Nat) : Int) := by omega
    rw [e3, Bool.xor_false, hn2, word_f]

/-- Half of a number that is great enough is exact. -/
theorem half_exact (r : Nat) (h : 9007199254740992 ≤ r) (hr : r < double.infRung) :
    double.div r 4611686018427387904 = some (r - 4503599627370496) ∧ bigR double r = bigR double (r - 4503599627370496) * 2 := by
  have hr2 := hr
  rw [dI] at hr2
  have e1 : magR double r = magR double (r - 4503599627370496) := by
    unfold magR; rw [dB, if_neg (by omega), if_neg (by omega)]
    rw [Nat.mod_eq_sub_mod (by omega)]
  have e2 : upR double r = upR double (r - 4503599627370496) + 1 := by
    unfold upR; rw [dB, if_neg (by omega), if_neg (by omega)]
    have := Nat.sub_mul_div r 4503599627370496 1
    rw [Nat.mul_one] at this
    have h2 : 2 ≤ r / 4503599627370496 := (Nat.le_div_iff_mul_le (by omega)).2 (by omega)
    omega
  refine ⟨?_, ?_⟩
  · have hrd := read_pow 1 (by omega)
    unfold Format.div
    rw [read_f r hr, show (4611686018427387904 : Nat) = (1023 + 1) * 4503599627370496 by decide, hrd]
    have hlog : (magR double r).log2 = 52 := mag_normal double r (by rw [dB]; omega)
    have hlog2 : (4503599627370496 : Nat).log2 = 52 := by decide
    unfold Datum.quotient
    simp only [dF, hlog, hlog2, Nat.shiftLeft_eq]
    rw [if_neg (by decide)]
    have h54 : (2 : Nat) ^ (52 + 2 + 52 - 52) = 4 * 4503599627370496 := by decide
    rw [h54, ← Nat.mul_assoc, Nat.mul_div_cancel _ (by decide), Nat.mul_mod_left]
    show some (double.nearest (false ^^ false) (2 * (magR double r * 4) + 0) _) = _
    have hn := nearest_up double false (r - 4503599627370496) 3 (by omega) (by rw [dI]; omega)
    rw [← e1] at hn
    have e3 : 2 * (magR double r * 4) + 0 = magR double r * 2 ^ 3 := by omega
    rw [e3, Bool.xor_false]
    have e4 : double.leastPlace + (upR double r : Nat) - (((1 : Nat) : Int) - 52) - ((52 + 2 + 52 - 52 : Nat) : Int) - 1 = double.leastPlace + (upR double (r - 4503599627370496) : Nat) - ((3 : Nat) : Int) := by omega
    rw [e4, hn, word_f]
  · unfold bigR
    rw [e1, e2, Nat.pow_succ, Nat.mul_assoc]

/-- What a number below 2 to the 53 is as an integer. -/
theorem toInt_big (r : Nat) (h : r < 4845873199050653696) : (double.read r).toInt .zero = some ((bigR double r / 2 ^ 1074 : Nat) : Int) := by
  have hu : upR double r ≤ 1074 := by unfold upR; rw [dB]; split <;> omega
  rw [read_f r (by rw [dI]; omega)]
  have e1 : (double.leastPlace + (upR double r : Nat)).toNat = 0 := by rw [dL]; omega
  have e2 : (-(double.leastPlace + (upR double r : Nat))).toNat = 1074 - upR double r := by rw [dL]; omega
  unfold Datum.toInt Datum.integral
  simp only [e1, e2, Nat.shiftLeft_zero]
  have hc : Toward.zero.cut false (magR double r) (1074 - upR double r) = bigR double r / 2 ^ 1074 := by
    have hd : bigR double r / 2 ^ 1074 = magR double r / 2 ^ (1074 - upR double r) := by
      unfold bigR
      obtain ⟨d, hd⟩ : ∃ d, 1074 = d + upR double r := ⟨1074 - upR double r, by omega⟩
      rw [hd, Nat.add_sub_cancel, Nat.pow_add, Nat.mul_div_mul_right _ _ (Nat.two_pow_pos _)]
    rw [hd]
    unfold Toward.cut
    simp only [Nat.shiftLeft_eq, Nat.one_mul, Bool.toNat_false, Nat.add_zero]
    by_cases hm : magR double r = 0
    · rw [hm]; simp
    · by_cases hle : 1074 - upR double r ≤ (magR double r).log2 + 2
      · rw [Nat.min_eq_left hle]
      · rw [Nat.min_eq_right (by omega)]
        have h1 := Nat.lt_log2_self (n := magR double r)
        have h2 : magR double r < 2 ^ ((magR double r).log2 + 2) := Nat.lt_of_lt_of_le h1 (Nat.pow_le_pow_right (by decide) (by omega))
        have h3 : magR double r < 2 ^ (1074 - upR double r) := Nat.lt_of_lt_of_le h1 (Nat.pow_le_pow_right (by decide) (by omega))
        rw [Nat.div_eq_of_lt h2, Nat.div_eq_of_lt h3]
  rw [hc]
  unfold signed
  rw [Nat.shiftLeft_zero, if_neg (by decide)]

/-- A whole number below 2 to the 53 as a float. -/
theorem whole_rung (q : Nat) (h0 : 0 < q) (h : q < 9007199254740992) : ∃ r, 0 < r ∧ r < double.infRung ∧ double.nearest false q 0 = r ∧ bigR double r = q * 2 ^ 1074 := by
  obtain ⟨r, k, h1, h2, h3, h4, h5, h6⟩ := write_read double false q 0 h0 (by rw [p53]; exact h) (by rw [dL]; omega) (by rw [dL, dB, dI]; decide)
  refine ⟨r, h1, h2, h5, ?_⟩
  unfold bigR
  have e : k + upR double r = 1074 := by rw [dL] at h4; omega
  rw [h3, Nat.mul_assoc, ← Nat.pow_add, e]
end FL
end Go.Proofs.YtdmbpkcjladhdaaGreatDoor
