import Derived.Test.YtdmbpkcjladhdaaGreatDoorFmC
import Derived.Laws.BitsAllLaws
import Derived.Laws.Bits64b
namespace Go.Proofs.YtdmbpkcjladhdaaGreatDoor
namespace FL
open Ieee
set_option linter.unusedSimpArgs false
set_option linter.unusedVariables false

/-- A number scaled so that it is normal. -/
theorem frex (r : Nat) (h0 : 0 < r) (hr : r < double.infRung) : ∃ nr ne : Nat, ((r < 4503599627370496 ∧ ne = 52) ∨ (4503599627370496 ≤ r ∧ ne = 0 ∧ nr = r)) ∧ 4503599627370496 ≤ nr ∧ nr < double.infRung ∧ bigR double nr = bigR double r * 2 ^ ne := by
  by_cases h : r < 4503599627370496
  · have hu : upR double r = 0 := by unfold upR; rw [dB, if_pos h]
    obtain ⟨nr, h1, h2, h3⟩ := big_pow r 52 h0 (by omega)
    refine ⟨nr, 52, Or.inl ⟨h, rfl⟩, ?_, h2, h3⟩
    by_cases g : nr < 4503599627370496
    · exfalso
      unfold bigR magR upR at h3
      rw [dB, if_pos g, if_pos g, if_pos h, if_pos h] at h3
      omega
    · omega
  · exact ⟨r, 0, Or.inr ⟨by omega, rfl, rfl⟩, by omega, hr, by simp⟩

theorem toInt_sgn (neg : Bool) (r : Nat) (h : r < 4845873199050653696) : (double.read (double.word neg r)).toInt .zero = some (if neg then -((bigR double r / 2 ^ 1074 : Nat) : Int) else ((bigR double r / 2 ^ 1074 : Nat) : Int)) := by
  have hp := toInt_big r h
  rw [read_f r (by rw [dI]; omega)] at hp
  rw [read_word double neg r (by rw [dI]; omega)]
  unfold Datum.toInt Datum.integral at *
  simp only at hp ⊢
  unfold signed at *
  simp only [Nat.shiftLeft_zero] at *
  rw [if_neg (by decide)] at hp
  have e : ∀ n d, Toward.zero.cut neg n d = Toward.zero.cut false n d := fun n d => rfl
  rw [e]
  have hp' := Option.some.inj hp
  rw [hp']

theorem pmul (m a b c : Nat) (h : a + b = c) : m * 2 ^ c = m * 2 ^ a * 2 ^ b := by rw [Nat.mul_assoc, ← Nat.pow_add, h]
theorem p64 : (2 : Nat) ^ 64 = 18446744073709551616 := by decide
theorem p53' : (2 : Nat) ^ 53 = 9007199254740992 := by decide
/-- The fraction of a normal number, 2 to the 53 times. -/
theorem frac_mul (neg : Bool) (nr : Nat) (h1 : 4503599627370496 ≤ nr) :
    ∃ y, double.mul (double.word neg (4602678819172646912 + nr % 4503599627370496)) 4845873199050653696 = some y ∧ (double.read y).toInt .zero = some (if neg then -((magR double nr : Nat) : Int) else ((magR double nr : Nat) : Int)) := by
  have hf := Nat.mod_lt nr (show 0 < 4503599627370496 by omega)
  have hM : magR double nr = 4503599627370496 + nr % 4503599627370496 := by unfold magR; rw [dB, if_neg (by omega)]
  generalize nr % 4503599627370496 = f at *
  have m1 : magR double (4602678819172646912 + f) = 4503599627370496 + f := by
    unfold magR; rw [dB, if_neg (by omega)]; omega
  have u1 : upR double (4602678819172646912 + f) = 1021 := by
    unfold upR; rw [dB, if_neg (by omega)]; omega
  have m2 : magR double (4841369599423283200 + f) = 4503599627370496 + f := by
    unfold magR; rw [dB, if_neg (by omega)]; omega
  have u2 : upR double (4841369599423283200 + f) = 1074 := by
    unfold upR; rw [dB, if_neg (by omega)]; omega
  have hb : bigR double (4841369599423283200 + f) = bigR double (4602678819172646912 + f) * 2 ^ 53 := by
    unfold bigR
    rw [m1, m2, u1, u2]
    exact pmul _ 1021 53 1074 (by decide)
  have hm := mul_pow neg (4602678819172646912 + f) (4841369599423283200 + f) 53 (by omega) (by rw [dI]; omega) (by omega) (by rw [dI]; omega) (by omega) hb
  refine ⟨_, hm, ?_⟩
  have ht := toInt_sgn neg (4841369599423283200 + f) (by omega)
  have hq : bigR double (4841369599423283200 + f) / 2 ^ 1074 = magR double nr := by
    unfold bigR
    rw [m2, u2, hM, Nat.mul_div_cancel _ (Nat.two_pow_pos 1074)]
  rw [hq] at ht
  exact ht

theorem ctz_odd (c t : Nat) (ho : c % 2 = 1) (h : c * 2 ^ t < 18446744073709551616) : Lib.ctz 64 (c * 2 ^ t) = t := by
  have hp : 0 < 2 ^ t := Nat.two_pow_pos _
  have h0 : 0 < c * 2 ^ t := Nat.mul_pos (by omega) hp
  unfold Lib.ctz
  rw [if_neg (by omega)]
  obtain ⟨m, e, hk⟩ := Lib.ctzFrom_spec 64 (c * 2 ^ t) h0 (by rw [p64]; exact h)
  have := odd_uniq t (Lib.ctzFrom 64 (c * 2 ^ t)) c (2 * m + 1) ho (by omega) (by rw [Nat.mul_comm (2 * m + 1)]; exact e)
  exact this.1.symm

/-- What oddTimesPower is to find: the twos of the whole number, what is left, and the exponent. -/
theorem odd_form (r nr ne : Nat) (h0 : 0 < r) (hr : r < double.infRung) (h1 : 4503599627370496 ≤ nr) (h2 : nr < double.infRung) (hb : bigR double nr = bigR double r * 2 ^ ne) :
    ∃ t, t < 53 ∧ magR double nr = cOf (bigR double r) * 2 ^ t ∧ Lib.ctz 64 (magR double nr) = t ∧ Lib.ctz 64 (18446744073709551616 - magR double nr) = t ∧ (nr / 4503599627370496 - 1) + t = kOf (bigR double r) + ne := by
  have hm := mag_pos double nr (by omega)
  have hl := magD_lt nr
  obtain ⟨m2, e2, hk2⟩ := Lib.ctzFrom_spec 53 (magR double nr) hm (by rw [p53']; exact hl)
  generalize Lib.ctzFrom 53 (magR double nr) = t at *
  have hup : upR double nr = nr / 4503599627370496 - 1 := by unfold upR; rw [dB, if_neg (by omega)]
  obtain ⟨hod, ho, hc, hk⟩ := big_odd r h0 hr
  have hV2 : bigR double nr = (2 * m2 + 1) * 2 ^ (t + upR double nr) := by
    conv => lhs; unfold bigR
    rw [e2, Nat.pow_add, ← Nat.mul_assoc, Nat.mul_comm (2 * m2 + 1)]
  have hV1 : bigR double nr = cOf (bigR double r) * 2 ^ (kOf (bigR double r) + ne) := by
    rw [hb, Nat.pow_add, ← Nat.mul_assoc]
    congr 1
    exact hod.2.2
  have hun := odd_uniq _ _ _ _ ho (by omega) (hV1.symm.trans hV2)
  have hM : magR double nr = cOf (bigR double r) * 2 ^ t := by rw [hun.2, Nat.mul_comm]; exact e2
  have hp : 0 < 2 ^ t := Nat.two_pow_pos _
  refine ⟨t, hk2, hM, ?_, ?_, by rw [← hup]; omega⟩
  · rw [hM]; exact ctz_odd _ _ ho (by omega)
  · have e64 : (18446744073709551616 : Nat) = 2 ^ (64 - t) * 2 ^ t := by
      rw [← Nat.pow_add, Nat.sub_add_cancel (by omega), p64]
    have e : 18446744073709551616 - magR double nr = (2 ^ (64 - t) - cOf (bigR double r)) * 2 ^ t := by
      rw [Nat.sub_mul, ← e64, ← hM]
    have hodd : (2 ^ (64 - t) - cOf (bigR double r)) % 2 = 1 := by
      obtain ⟨d, hd⟩ : ∃ d, 64 - t = d + 1 := ⟨63 - t, by omega⟩
      have hlt : cOf (bigR double r) < 2 ^ (64 - t) := by
        have h3 : cOf (bigR double r) * 2 ^ t < 2 ^ (64 - t) * 2 ^ t := by rw [← hM, ← e64]; omega
        exact Nat.lt_of_mul_lt_mul_right h3
      rw [hd, Nat.pow_succ] at hlt ⊢
      omega
    rw [e]
    refine ctz_odd _ _ hodd ?_
    rw [← e]; omega

/-- The bits that frexp keeps and sets. -/
theorem mask_testBit : ∀ i : Fin 64, (9227875636482146303 : Nat).testBit i.val = (decide (i.val < 52) || decide (i.val = 63)) := by decide
theorem half_testBit : ∀ i : Fin 64, (4602678819172646912 : Nat).testBit i.val = (decide (53 ≤ i.val) && decide (i.val < 62)) := by decide

theorem frac_bits (x : Nat) (hx : x < 18446744073709551616) : (x &&& 9227875636482146303) ||| 4602678819172646912 = x / 9223372036854775808 * 9223372036854775808 + (4602678819172646912 + x % 4503599627370496) := by
  have h63 : (9223372036854775808 : Nat) = 2 ^ 63 := by decide
  have h52 : (4503599627370496 : Nat) = 2 ^ 52 := by decide
  have h64 : (18446744073709551616 : Nat) = 2 ^ 64 := by decide
  have hf : x % 4503599627370496 < 2 ^ 52 := by rw [h52]; exact Nat.mod_lt _ (Nat.two_pow_pos _)
  have e1 : 4602678819172646912 + x % 4503599627370496 = 4602678819172646912 ||| x % 4503599627370496 := by
    have := Nat.shiftLeft_add_eq_or_of_lt (a := 1022) hf
    rw [Nat.shiftLeft_eq] at this
    rw [show (4602678819172646912 : Nat) = 1022 * 2 ^ 52 by decide]
    exact this
  have hg : 4602678819172646912 + x % 4503599627370496 < 2 ^ 63 := by rw [← h63]; omega
  have e2 : x / 9223372036854775808 * 9223372036854775808 + (4602678819172646912 + x % 4503599627370496) = (x / 9223372036854775808) <<< 63 ||| (4602678819172646912 + x % 4503599627370496) := by
    rw [← Nat.shiftLeft_add_eq_or_of_lt hg, Nat.shiftLeft_eq, h63]
  rw [e2, e1]
  apply Nat.eq_of_testBit_eq
  intro i
  by_cases hi : i < 64
  · have t1 := mask_testBit ⟨i, hi⟩
    have t2 := half_testBit ⟨i, hi⟩
    simp only at t1 t2
    rw [Nat.testBit_or, Nat.testBit_and, Nat.testBit_or, Nat.testBit_or, t1, t2, Nat.testBit_shiftLeft, h63, h52, Nat.testBit_mod_two_pow, Nat.testBit_div_two_pow]
    by_cases a1 : i < 52
    · have a2 : ¬ 53 ≤ i := by omega
      have a3 : ¬ 63 ≤ i := by omega
      simp [a1, a2, a3]
    · by_cases a2 : i = 63
      · subst a2; simp
      · have a3 : ¬ 63 ≤ i := by omega
        simp [a1, a2, a3]
  · have b1 : x.testBit i = false := Nat.testBit_lt_two_pow (Nat.lt_of_lt_of_le (by rw [h64] at hx; exact hx) (Nat.pow_le_pow_right (by decide) (by omega)))
    have b2 : (4602678819172646912 : Nat).testBit i = false := Nat.testBit_lt_two_pow (Nat.lt_of_lt_of_le (show 4602678819172646912 < 2 ^ 64 by decide) (Nat.pow_le_pow_right (by decide) (by omega)))
    rw [Nat.testBit_or, Nat.testBit_and, Nat.testBit_or, Nat.testBit_or, Nat.testBit_shiftLeft, h63, h52, Nat.testBit_mod_two_pow, Nat.testBit_div_two_pow, b1, b2]
    have a1 : ¬ i < 52 := by omega
    have a2 : i - 63 + 63 = i := by omega
    simp [a1, a2, b1]
end FL
end Go.Proofs.YtdmbpkcjladhdaaGreatDoor
