import Derived.Test.YthaajmkfeniofaaConv7
namespace Go.Proofs.Ythaajmkfeniofaa
open Go.RowKit FL Ieee
set_option linter.unusedSimpArgs false
set_option linter.unusedVariables false

theorem cut_in (to i : Int) (h : 2 ≤ to ∧ to ≤ 6) (hi : I64 i) : lowL to ≤ cutL to i ∧ cutL to i ≤ highL to := by
  have hi2 : -9223372036854775808 ≤ i ∧ i ≤ 9223372036854775807 := by unfold I64 at hi; omega
  unfold lowL highL cutL
  repeat' split
  all_goals omega

theorem low_high (to : Int) : lowL to ≤ highL to := by
  unfold lowL highL
  repeat' split
  all_goals omega

theorem sng_wide (n : Int) : sngB (wide (floatOfInt .f32 n)) = true := by
  have h := wide_narrow (floatOfInt .f32 n) (sgl_lt n) (sgl_num n)
  have ho := over_wide (floatOfInt .f32 n) (sgl_lt n) (sgl_num n)
  unfold sngB
  rw [h.1, ho, h.2]; simp
end Go.Proofs.Ythaajmkfeniofaa
