import Derived.Test.YthaajmkfeniofaaInts
namespace Go.Proofs.Ythaajmkfeniofaa
open Go.RowKit
set_option linter.unusedSimpArgs false
set_option linter.unusedVariables false

theorem skind_eq (dt : Int) (h : 1 ≤ dt ∧ dt ≤ 9) : skindL dt = kindL dt := by unfold skindL kindL; omega

def castL (f t r : Int) : Bool :=
  decide ((1 ≤ f ∧ f ≤ 9) ∧ (1 ≤ t ∧ t ≤ 9) ∧ ((r = 0 ∧ promL f t = t) ∨ (r = 1 ∧ (promL f t = t ∨ kindL f ≤ kindL t)) ∨ r = 2))

set_option maxHeartbeats 1000000 in
theorem sCanCast_any (f t r : Int) (w : World) :
    Calls Try.prog 14 #[.int .i64 f, .int .i64 t, .int .i64 r] w fun e w' => e = .returned (.bool (castL f t r)) ∧ w' = w := by
  go_enter Try.func14, Try.ntmps14
  go_wp2_with (first | (go_at_call 32; refine (l1IsDType_any _ _).mono ?_; rintro e w' ⟨rfl, rfl⟩) | (go_at_call 12; refine (sPromote_any _ _ _).mono ?_; rintro e w' ⟨rfl, rfl⟩) | (go_at_call 34; refine (l1Kind_any _ _).mono ?_; rintro e w' ⟨rfl, rfl⟩))
  all_goals go_ret
  all_goals refine ⟨ret_bool ?_, rfl⟩
  all_goals go_light
  all_goals (rw [Bool.eq_iff_iff]; simp only [castL, isDtB, Bool.not_eq_true', Bool.not_eq_false', decide_eq_true_eq, decide_eq_false_iff_not, beq_iff_eq, beq_eq_false_iff_ne, ne_eq, Bool.or_eq_true, Bool.false_eq_true, false_iff, true_iff] at *; have e1 := skind_eq f; have e2 := skind_eq t; omega)

set_option maxHeartbeats 1000000 in
theorem iCanCast_any (f t r : Int) (w : World) :
    Calls Try.prog 15 #[.int .i64 f, .int .i64 t, .int .i64 r] w fun e w' => e = .returned (.bool (castL f t r)) ∧ w' = w := by
  go_enter Try.func15, Try.ntmps15
  go_wp2_with (first | (go_at_call 33; refine (isDType_any _ _).mono ?_; rintro e w' ⟨rfl, rfl⟩) | (go_at_call 13; refine (iPromote_any _ _ _).mono ?_; rintro e w' ⟨rfl, rfl⟩) | (go_at_call 35; refine (kindOf_any _ _).mono ?_; rintro e w' ⟨rfl, rfl⟩))
  all_goals go_ret
  all_goals refine ⟨ret_bool ?_, rfl⟩
  all_goals go_light
  all_goals (rw [Bool.eq_iff_iff]; simp only [castL, isDtB, Bool.not_eq_true', Bool.not_eq_false', decide_eq_true_eq, decide_eq_false_iff_not, beq_iff_eq, beq_eq_false_iff_ne, ne_eq, Bool.or_eq_true, Bool.false_eq_true, false_iff, true_iff] at *; have e1 := skind_eq f; have e2 := skind_eq t; omega)
end Go.Proofs.Ythaajmkfeniofaa
