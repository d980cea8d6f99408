import Derived.Test.YtdmbpkcjladhdaaGreatDoorFmB
import Derived.Test.YtdmbpkcjladhdaaGreatDoorFmC
import Derived.Deep.DeepCutAuto
namespace Go.Proofs.YtdmbpkcjladhdaaGreatDoor
open Go.RowKit FL Ieee
set_option linter.unusedSimpArgs false
set_option linter.unusedVariables false

theorem run_trunc (w : World) (x : Nat) (n : Int) (h : (double.read x).toInt .zero = some n) (h1 : -9223372036854775808 ≤ n) (h2 : n ≤ 9223372036854775807) :
    (convert 23 2 (.float .f64 x)).run Tryz.prog w = .ok (.int .i64 n) w := by
  have hd : (FloatKind.f64.decode x).toInt .zero = some n := h
  have hm : IntKind.i64.min ≤ n ∧ n ≤ IntKind.i64.max := ⟨h1, h2⟩
  simp [convert, run_underlying Tryz.underlying23, run_underlying Tryz.underlying2, Conv.floatToInt, hd, hm]
  intro h3; exfalso; omega

/-- The text of a positive number. -/
def posT (r : Nat) : List UInt8 := Lib.itoa ((cOf (bigR double r) : Nat) : Int) ++ [112] ++ Lib.itoa (((kOf (bigR double r) : Nat) : Int) - 1074)

theorem t53 (r : Nat) (h : r < double.infRung) : (flt 4845873199050653696 r || feq r 4845873199050653696) = decide (4845873199050653696 ≤ r) := by
  rw [dI] at h
  rw [fltP _ _ (by omega) (by omega), feqP _ _ (by omega) (by omega), Bool.eq_iff_iff]
  simp; omega

end Go.Proofs.YtdmbpkcjladhdaaGreatDoor
