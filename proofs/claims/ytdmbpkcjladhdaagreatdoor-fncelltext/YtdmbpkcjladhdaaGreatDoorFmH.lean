import Derived.Test.YtdmbpkcjladhdaaGreatDoorFmF
import Derived.Test.YtdmbpkcjladhdaaGreatDoorFmG
import Derived.Test.YtdmbpkcjladhdaaGreatDoorShelf
namespace Go.Proofs.YtdmbpkcjladhdaaGreatDoor
open Go.RowKit FL Ieee
set_option linter.unusedSimpArgs false
set_option linter.unusedVariables false

def isNeg (x : Nat) : Bool := decide (9223372036854775808 ≤ x)
theorem word_B64 (neg : Bool) (r : Nat) (h : r < double.infRung) : B64 (double.word neg r) := by
  unfold B64 Format.word; rw [dW]; rw [dI] at h; split <;> omega
theorem word_mod63 (neg : Bool) (r : Nat) (h : r < double.infRung) : double.word neg r % 9223372036854775808 = r := by
  unfold Format.word; rw [dW]; rw [dI] at h; split <;> omega
theorem word_nan (neg : Bool) (r : Nat) (h : r < double.infRung) : nanD (double.word neg r) = false := by
  cases e : nanD (double.word neg r)
  · rfl
  · have := (nanD_iff _).1 e
    rw [word_mod63 neg r h] at this
    rw [dI] at h; omega

/-- The number scaled: a rung and the twos that were given. -/
def Scl (r nr ne : Nat) : Prop := ((r < 4503599627370496 ∧ ne = 52) ∨ (4503599627370496 ≤ r ∧ ne = 0 ∧ nr = r)) ∧ 4503599627370496 ≤ nr ∧ nr < double.infRung ∧ bigR double nr = bigR double r * 2 ^ ne

set_option maxHeartbeats 400000 in
theorem normalize_any (neg : Bool) (r nr ne : Nat) (h0 : 0 < r) (hr : r < double.infRung) (hs : Scl r nr ne) (w : World) :
    Calls Tryz.prog 91 #[.float .f64 (double.word neg r)] w fun e w' => e = .returned (.tuple #[.float .f64 (double.word neg nr), .int .i64 (-(ne : Int))]) ∧ w' = w := by
  have hx := word_B64 neg r hr
  have a := abs_any _ hx
  rw [word_mod63 neg r hr] at a
  have hI := hr
  rw [dI] at hI
  have f := fltP r 4503599627370496 (by omega) (by omega)
  rcases hs with ⟨⟨h1, h2⟩ | ⟨h1, h2, h3⟩, h4, h5, h6⟩
  · subst h2
    have m := mul_pow neg r nr 52 h0 hr (by omega) h5 (by omega) h6
    rw [show (1023 + 52) * 4503599627370496 = 4841369599423283200 by decide] at m
    have q := fun W => run_float_arith (P := Tryz.prog) W .mul 23 .f64 (double.word neg r) 4841369599423283200 (double.word neg nr) m
    rw [decide_eq_true h1] at f
    clear h6 m
    generalize double.word neg r = x at *
    generalize double.word neg nr = y at *
    go_enter Tryz.func91, Tryz.ntmps91
    go_wp2_with (go_at_call 72; refine (a _).mono ?_; rintro e w1 ⟨rfl, hw⟩; obtain rfl := hw.symm)
    exact bodyPost_ret (v := .tuple #[.float .f64 y, .int .i64 (-52)]) (by simp [results, Tryz.results91, go_sem]) rfl ⟨rfl, rfl⟩
  · subst h2
    obtain rfl := h3.symm
    rw [decide_eq_false (by omega)] at f
    clear h6
    generalize double.word neg r = x at *
    go_enter Tryz.func91, Tryz.ntmps91
    go_wp2_with (go_at_call 72; refine (a _).mono ?_; rintro e w1 ⟨rfl, hw⟩; obtain rfl := hw.symm)
    exact bodyPost_ret (v := .tuple #[.float .f64 x, .int .i64 0]) (by simp [results, Tryz.results91, go_sem]) rfl ⟨rfl, rfl⟩

theorem and2047 (y : Nat) (h : y < 18446744073709551616) : bits .and .u64 ((y : Int) / 4503599627370496) 2047 = ((y / 4503599627370496 % 2048 : Nat) : Int) := by
  have := bits_and_u64_nat (y / 4503599627370496) 2047 (by omega) (by omega)
  have e : (2047 : Nat) = 2 ^ 11 - 1 := by decide
  rw [show ((y / 4503599627370496 : Nat) : Int) = (y : Int) / 4503599627370496 by omega] at this
  refine this.trans ?_
  rw [e, Nat.and_two_pow_sub_one_eq_mod]
theorem fracbits (y : Nat) (h : y < 18446744073709551616) : bits .or .u64 (bits .andNot .u64 (y : Int) 9218868437227405312) 4602678819172646912 = ((y / 9223372036854775808 * 9223372036854775808 + (4602678819172646912 + y % 4503599627370496) : Nat) : Int) := by
  have h1 := u64_andNot_nat y 9218868437227405312 h (by omega)
  have h1' : bits .andNot .u64 (y : Int) 9218868437227405312 = ((y &&& 9227875636482146303 : Nat) : Int) := h1
  have hl : y &&& 9227875636482146303 < 18446744073709551616 := Nat.lt_of_le_of_lt Nat.and_le_left h
  have h2 := bits_or_u64_nat (y &&& 9227875636482146303) 4602678819172646912 hl (by omega)
  rw [h1', ← frac_bits y h]
  exact h2

end Go.Proofs.YtdmbpkcjladhdaaGreatDoor
