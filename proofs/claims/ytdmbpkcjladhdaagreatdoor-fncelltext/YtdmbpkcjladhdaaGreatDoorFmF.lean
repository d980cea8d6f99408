import Derived.Test.YtdmbpkcjladhdaaGreatDoorFmE
import Derived.Laws.BitsAllLaws
import Derived.Laws.Bits64b
namespace Go.Proofs.YtdmbpkcjladhdaaGreatDoor
open Go.RowKit FL Ieee
set_option linter.unusedSimpArgs false
set_option linter.unusedVariables false

theorem run_frombits (x : Nat) (hx : B64 x) (w : World) : (callFunc 63 #[.int .u64 (x : Int)]).run Tryz.prog w = .ok (.value (.float .f64 x)) w := by
  rw [run_callFunc_extern Tryz.func63 (by kernel_rfl) (by kernel_rfl) (by kernel_rfl) (e := Extern.MathFloatBits.float64frombits) (by kernel_rfl)]; rfl

theorem cut63 (x : Nat) (hx : B64 x) : bits .andNot .u64 (x : Int) 9223372036854775808 = ((x % 9223372036854775808 : Nat) : Int) := by
  have := u64_andNot_nat x 9223372036854775808 hx (by omega)
  have e : (18446744073709551615 - 9223372036854775808 : Nat) = 2 ^ 63 - 1 := by decide
  rw [e, Nat.and_two_pow_sub_one_eq_mod] at this
  exact this

theorem abs_any (x : Nat) (hx : B64 x) (w : World) :
    Calls Tryz.prog 72 #[.float .f64 x] w fun e w' => e = .returned (.float .f64 (x % 9223372036854775808)) ∧ w' = w := by
  have b := run_float64bits x
  have c := cut63 x hx
  have d := run_frombits (x % 9223372036854775808) (by unfold B64 at *; omega)
  generalize x % 9223372036854775808 = r at *
  go_enter Tryz.func72, Tryz.ntmps72
  go_wp2
  go_ret
  exact ⟨rfl, rfl⟩
theorem isInf_pos (x : Nat) (w : World) :
    Calls Tryz.prog 59 #[.float .f64 x, .int .i64 1] w fun e w' => e = .returned (.bool (flt 9218868437227405311 x)) ∧ w' = w := by
  go_enter Tryz.func59, Tryz.ntmps59
  go_wp2
  go_ret
  exact ⟨rfl, rfl⟩
theorem xor63 (y : Nat) (h : y < 9223372036854775808) : y ^^^ 9223372036854775808 = y + 9223372036854775808 := by
  have h2 : (9223372036854775808 : Nat) = 2 ^ 63 := by decide
  rw [h2] at h ⊢
  have e1 := Nat.shiftLeft_add_eq_or_of_lt (a := 1) (b := y) (i := 63) h
  rw [Nat.shiftLeft_eq, Nat.one_mul] at e1
  rw [Nat.add_comm, e1]
  apply Nat.eq_of_testBit_eq
  intro i
  rw [Nat.testBit_xor, Nat.testBit_or, Nat.testBit_two_pow]
  by_cases hi : 63 = i
  · subst hi
    rw [Nat.testBit_lt_two_pow h]; simp
  · simp [hi]
theorem run_neg (x : Nat) (hx : B64 x) (w : World) : (Op.unary .neg (.float .f64 x)).run Tryz.prog w = .ok (.float .f64 (FL.flip x)) w := by
  have e : Op.negFloat .f64 x = FL.flip x := by
    unfold Op.negFloat FL.flip
    unfold B64 at hx
    have e : 2 ^ (FloatKind.f64.format.exponentBits + FloatKind.f64.format.fractionBits) = 9223372036854775808 := by decide
    rw [e]
    by_cases h : x < 9223372036854775808
    · rw [if_pos h]; exact xor63 x h
    · rw [if_neg h]
      have h1 := xor63 (x - 9223372036854775808) (by omega)
      rw [Nat.sub_add_cancel (by omega)] at h1
      conv => lhs; rw [← h1]
      rw [Nat.xor_assoc, Nat.xor_self, Nat.xor_zero]
  simp [Op.unary, e]
theorem isInf_neg (x : Nat) (hx : B64 x) (w : World) :
    Calls Tryz.prog 59 #[.float .f64 x, .int .i64 (-1)] w fun e w' => e = .returned (.bool (flt 9218868437227405311 (FL.flip x))) ∧ w' = w := by
  have n := run_neg x hx
  go_enter Tryz.func59, Tryz.ntmps59
  go_wp2
  go_ret
  exact ⟨rfl, rfl⟩
theorem isInf_any (x : Nat) (hx : B64 x) (w : World) :
    Calls Tryz.prog 59 #[.float .f64 x, .int .i64 0] w fun e w' => e = .returned (.bool (flt 9218868437227405311 (x % 9223372036854775808))) ∧ w' = w := by
  have a := abs_any x hx
  go_enter Tryz.func59, Tryz.ntmps59
  go_wp2_with (go_at_call 72; refine (a _).mono ?_; rintro e w1 ⟨rfl, hw⟩; obtain rfl := hw.symm)
  go_ret
  exact ⟨rfl, rfl⟩
end Go.Proofs.YtdmbpkcjladhdaaGreatDoor
