import Derived.Test.YtdmbpkcjladhdaaGreatDoorLwO
namespace Go.Proofs.YtdmbpkcjladhdaaGreatDoor
open Go.RowKit
set_option linter.unusedSimpArgs false
set_option linter.unusedVariables false

set_option maxHeartbeats 400000 in
theorem isDType_any (dt : Int) (w : World) :
    Calls Tryz.prog 50 #[.int .i64 dt] w fun e w' => e = .returned (.bool (isDtB dt)) ∧ w' = w := by
  go_enter Tryz.func50, Tryz.ntmps50
  go_wp2_with (go_at_call 25; refine (kindOf_any _ _).mono ?_; rintro e w' ⟨rfl, rfl⟩)
  go_ret
  exact ⟨ret_bool (kind_neg dt), rfl⟩

end Go.Proofs.YtdmbpkcjladhdaaGreatDoor
