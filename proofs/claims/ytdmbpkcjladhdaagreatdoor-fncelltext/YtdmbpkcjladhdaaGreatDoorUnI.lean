import Derived.Test.YtdmbpkcjladhdaaGreatDoorCells3
namespace Go.Proofs.YtdmbpkcjladhdaaGreatDoor
open Go.RowKit
set_option linter.unusedSimpArgs false
set_option linter.unusedVariables false

set_option maxHeartbeats 400000 in
theorem l1Bytes_any (dt : Int) (w : World) :
    Calls Tryz.prog 71 #[.int .i64 dt] w fun e w' => e = .returned (.int .i64 (bytesL dt)) ∧ w' = w := by
  go_enter Tryz.func71, Tryz.ntmps71
  go_wp2
  all_goals go_ret
  all_goals refine ⟨ret_int ?_, rfl⟩
  all_goals (unfold bytesL; simp only [beq_iff_eq, beq_eq_false_iff_ne, ne_eq] at *; repeat' split)
  all_goals omega

end Go.Proofs.YtdmbpkcjladhdaaGreatDoor
