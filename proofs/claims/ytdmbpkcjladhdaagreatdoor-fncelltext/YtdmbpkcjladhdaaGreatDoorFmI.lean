import Derived.Test.YtdmbpkcjladhdaaGreatDoorFmH
namespace Go.Proofs.YtdmbpkcjladhdaaGreatDoor
open Go.RowKit FL Ieee
set_option linter.unusedSimpArgs false
set_option linter.unusedVariables false

set_option maxHeartbeats 400000 in
theorem frexp_any (neg : Bool) (r nr ne : Nat) (h0 : 0 < r) (hr : r < double.infRung) (hs : Scl r nr ne) (w : World) :
    Calls Tryz.prog 74 #[.float .f64 (double.word neg r)] w fun e w' => e = .returned (.tuple #[.float .f64 (double.word neg (4602678819172646912 + nr % 4503599627370496)), .int .i64 (((nr / 4503599627370496 : Nat) : Int) - 1022 - (ne : Int))]) ∧ w' = w := by
  have hx := word_B64 neg r hr
  have hn := word_nan neg r hr
  have n := normalize_any neg r nr ne h0 hr hs
  have hI := hr
  rw [dI] at hI
  have i := isInf_any _ hx
  rw [word_mod63 neg r hr] at i
  have f := fltP 9218868437227405311 r (by omega) (by omega)
  rw [decide_eq_false (by omega)] at f
  rw [f] at i
  clear f
  have f0 : feq (double.word neg r) 0 = false := by
    rw [feq_zero _ hx]; unfold pzB mzB Format.word; rw [dW]; cases neg <;> simp <;> omega
  have h4 := hs.2.2.1
  have hy := word_B64 neg nr h4
  have b := run_float64bits (double.word neg nr)
  generalize double.word neg r = x at *
  have hy2 : double.word neg nr < 18446744073709551616 := hy
  have hI4 := h4
  rw [dI] at hI4
  have c1 := and2047 _ hy2
  have c2 := fracbits _ hy2
  have e1 : double.word neg nr / 4503599627370496 % 2048 = nr / 4503599627370496 := by
    unfold Format.word; rw [dW]; split <;> omega
  have e2 : double.word neg nr / 9223372036854775808 * 9223372036854775808 + (4602678819172646912 + double.word neg nr % 4503599627370496) = double.word neg (4602678819172646912 + nr % 4503599627370496) := by
    unfold Format.word; rw [dW]; split <;> omega
  rw [e1] at c1
  rw [e2] at c2
  have hz : B64 (double.word neg (4602678819172646912 + nr % 4503599627370496)) := word_B64 _ _ (by rw [dI]; omega)
  have d := run_frombits _ hz
  have hne : ne ≤ 52 := by rcases hs.1 with h | h <;> omega
  have hq : nr / 4503599627370496 ≤ 2046 := by omega
  clear e1 e2 hI4 hy2
  generalize double.word neg (4602678819172646912 + nr % 4503599627370496) = z at *
  generalize double.word neg nr = y at *
  generalize nr / 4503599627370496 = q at *
  have wa : wrap64 (q : Int) = q := by unfold wrap64; omega
  have wb : wrap64 ((q : Int) - 1023) = (q : Int) - 1023 := by unfold wrap64; omega
  have wc : wrap64 ((q : Int) - 1023 + 1) = (q : Int) - 1022 := by unfold wrap64; omega
  have wd : wrap64 (-(ne : Int) + ((q : Int) - 1022)) = (q : Int) - 1022 - (ne : Int) := by unfold wrap64; omega
  clear hs h4 hne hq hI h0 hr
  go_enter Tryz.func74, Tryz.ntmps74
  go_wp2_with (first | (go_at_call 59; refine (i _).mono ?_; rintro e w1 ⟨rfl, hw⟩; obtain rfl := hw.symm) | (go_at_call 42; refine (isNaN_any _ _).mono ?_; rintro e w1 ⟨rfl, hw⟩; obtain rfl := hw.symm) | (go_at_call 91; refine (n _).mono ?_; rintro e w1 ⟨rfl, hw⟩; obtain rfl := hw.symm))
  go_ret2
  refine ⟨?_, rfl⟩
  show Ending.returned (.tuple #[.float .f64 z, .int .i64 (wrap64 (-(ne : Int) + ((q : Int) - 1022)))]) = _
  rw [wd]

theorem frexpTop_any (neg : Bool) (r nr ne : Nat) (h0 : 0 < r) (hr : r < double.infRung) (hs : Scl r nr ne) (w : World) :
    Calls Tryz.prog 60 #[.float .f64 (double.word neg r)] w fun e w' => e = .returned (.tuple #[.float .f64 (double.word neg (4602678819172646912 + nr % 4503599627370496)), .int .i64 (((nr / 4503599627370496 : Nat) : Int) - 1022 - (ne : Int))]) ∧ w' = w := by
  have n := frexp_any neg r nr ne h0 hr hs
  generalize ((nr / 4503599627370496 : Nat) : Int) - 1022 - (ne : Int) = q at *
  generalize double.word neg (4602678819172646912 + nr % 4503599627370496) = z at *
  generalize double.word neg r = x at *
  go_enter Tryz.func60, Tryz.ntmps60
  go_wp2_with (go_at_call 74; refine (n _).mono ?_; rintro e w1 ⟨rfl, hw⟩; obtain rfl := hw.symm)
  go_ret2
  exact ⟨rfl, rfl⟩

/-- A whole number and how it is cut at its twos. -/
theorem shr_exact (neg : Bool) (c t : Nat) : (if neg then -((c * 2 ^ t : Nat) : Int) else ((c * 2 ^ t : Nat) : Int)) / 2 ^ t = (if neg then -(c : Int) else (c : Int)) := by
  have hp : (2 : Int) ^ t ≠ 0 := by
    have : (0 : Int) < 2 ^ t := Int.pow_pos (by decide)
    omega
  have e : ((c * 2 ^ t : Nat) : Int) = (c : Int) * 2 ^ t := by rw [Int.natCast_mul, Int.natCast_pow]; rfl
  rw [e]
  cases neg
  · simp only [Bool.false_eq_true, if_false]; exact Int.mul_ediv_cancel _ hp
  · simp only [if_true]
    rw [← Int.neg_mul]; exact Int.mul_ediv_cancel _ hp

set_option maxHeartbeats 400000 in
theorem oddTimes_any (neg : Bool) (r : Nat) (h0 : 0 < r) (hr : r < double.infRung) (w : World) (hT : TabAt 1 Lib.deBruijn64tab w) :
    Calls Tryz.prog 44 #[.float .f64 (double.word neg r)] w fun e w' => e = .returned (.tuple #[.int .i64 (if neg then -((cOf (bigR double r) : Nat) : Int) else ((cOf (bigR double r) : Nat) : Int)), .int .i64 (((kOf (bigR double r) : Nat) : Int) - 1074)]) ∧ w' = w := by
  obtain ⟨nr, ne, hs⟩ := frex r h0 hr
  have fx := frexpTop_any neg r nr ne h0 hr hs
  obtain ⟨y, hy1, hy2⟩ := frac_mul neg nr hs.2.1
  obtain ⟨t, ht, hM, hc1, hc2, he⟩ := odd_form r nr ne h0 hr hs.2.1 hs.2.2.1 hs.2.2.2
  have hl := magD_lt nr
  have hm := mag_pos double nr (by have := hs.2.1; omega)
  have q1 := fun W => run_float_arith (P := Tryz.prog) W .mul 23 .f64 (double.word neg (4602678819172646912 + nr % 4503599627370496)) 4845873199050653696 y hy1
  have tr := fun W => run_trunc W y (if neg then -((magR double nr : Nat) : Int) else ((magR double nr : Nat) : Int)) hy2 (by split <;> omega) (by split <;> omega)
  obtain ⟨u, hu1, hu2, hu3⟩ : ∃ u : Nat, IntKind.u64.wrap (if neg then -((magR double nr : Nat) : Int) else ((magR double nr : Nat) : Int)) = (u : Int) ∧ u < 18446744073709551616 ∧ Lib.ctz 64 u = t := by
    cases neg
    · exact ⟨magR double nr, by simp only [Bool.false_eq_true, if_false]; rw [IntKind.wrap_u64]; omega, by omega, hc1⟩
    · exact ⟨18446744073709551616 - magR double nr, by simp only [if_true]; rw [IntKind.wrap_u64]; omega, by omega, hc2⟩
  have tz := Tryz.bits_TrailingZeros64 u hu2 w (fun _ => hT)
  rw [hu3] at tz
  have sh := shr_exact neg (cOf (bigR double r)) t
  rw [← hM] at sh
  have hq : nr / 4503599627370496 ≤ 2046 := by
    have := hs.2.2.1; rw [dI] at this; omega
  have hq1 : 1 ≤ nr / 4503599627370496 := by have := hs.2.1; omega
  have hne : ne ≤ 52 := by rcases hs.1 with h | h <;> omega
  obtain ⟨hod, ho, hc, hk⟩ := big_odd r h0 hr
  have wd : wrap64 (wrap64 (((nr / 4503599627370496 : Nat) : Int) - 1022 - (ne : Int) - 53) + (t : Int)) = ((kOf (bigR double r) : Nat) : Int) - 1074 := by unfold wrap64; omega
  have wb : wrap64 (((nr / 4503599627370496 : Nat) : Int) - 1022 - (ne : Int) - 53) = ((nr / 4503599627370496 : Nat) : Int) - 1022 - (ne : Int) - 53 := by unfold wrap64; omega
  rw [wb] at wd
  generalize (if neg then -((magR double nr : Nat) : Int) else ((magR double nr : Nat) : Int)) = m at *
  generalize (if neg then -((cOf (bigR double r) : Nat) : Int) else ((cOf (bigR double r) : Nat) : Int)) = c at *
  generalize ((nr / 4503599627370496 : Nat) : Int) - 1022 - (ne : Int) = q at *
  generalize double.word neg (4602678819172646912 + nr % 4503599627370496) = z at *
  generalize double.word neg r = x at *
  clear hs hy1 hy2 hM hc1 hc2 he hl hm hu2 hu3 hq hq1 hne hod ho hc hk h0 hr
  go_enter Tryz.func44, Tryz.ntmps44
  go_wp2_with (first | (go_at_call 60; refine (fx _).mono ?_; rintro e w1 ⟨rfl, hw⟩; obtain rfl := hw.symm) | (go_at_call 61; refine tz.mono ?_; rintro e w1 ⟨rfl, hw⟩; obtain rfl := hw.symm))
  go_ret2
  refine ⟨?_, rfl⟩
  show Ending.returned (.tuple #[.int .i64 c, .int .i64 (wrap64 (q - 53 + (t : Int)))]) = _
  rw [wd]
end Go.Proofs.YtdmbpkcjladhdaaGreatDoor
