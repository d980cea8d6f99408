import Derived.Test.YtdmbpkcjladhdaaGreatDoorLwF
namespace Go.Proofs.YtdmbpkcjladhdaaGreatDoor
open Go.RowKit FL
set_option linter.unusedSimpArgs false
set_option linter.unusedVariables false

def smB (ia : Int) (fa ga : Nat) (ib : Int) (fb gb : Nat) : Bool := (ia == ib) && (sameB fa fb && sameB ga gb)

theorem lwSame_any (ia ib : Int) (fa ga fb gb : Nat) (hfa : B64 fa) (hga : B64 ga) (hfb : B64 fb) (hgb : B64 gb) (w : World) :
    Calls Tryz.prog 8 #[.agg #[.int .i64 ia, .float .f64 fa, .float .f64 ga], .agg #[.int .i64 ib, .float .f64 fb, .float .f64 gb]] w fun e w' => e = .returned (.bool (smB ia fa ga ib fb gb)) ∧ Ext w w' := by
  unfold smB
  cases h1 : (ia == ib) <;> cases h2 : sameB fa fb
  all_goals
    go_enter Tryz.func8, Tryz.ntmps8
    go_wp2_with (go_at_call 20; refine (lwSameFloat_any _ _ ?_ ?_ _).mono ?_; assumption; assumption; rintro e w' ⟨rfl, rfl⟩)
    go_ret
    exact ⟨rfl, by repeat (first | with_reducible exact Ext.refl _ | with_reducible refine Ext.setCell ?_ (by simp; try omega) _ | with_reducible apply Ext.drewN | with_reducible apply Ext.drew | with_reducible apply Ext.alloc | refine Ext.trans ?_ (by assumption))⟩

end Go.Proofs.YtdmbpkcjladhdaaGreatDoor
