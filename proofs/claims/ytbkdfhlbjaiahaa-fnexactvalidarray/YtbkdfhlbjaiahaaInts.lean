import Derived.Test.YtbkdfhlbjaiahaaRows
import Derived.WalkKit
import Derived.WalkSpells
import Derived.WalkLawsBesides
import Derived.Outline
import Derived.Deep.Light
namespace Go.Proofs.Ytbkdfhlbjaiahaa
open Go.RowKit
set_option linter.unusedSimpArgs false
set_option linter.unusedVariables false

def kindL (dt : Int) : Int :=
  if dt = 1 then 0 else if 2 ≤ dt ∧ dt ≤ 6 then 1 else if dt = 7 ∨ dt = 8 then 2 else if dt = 9 then 3 else -1
def isDtB (dt : Int) : Bool := decide (1 ≤ dt ∧ dt ≤ 9)
def skindL (dt : Int) : Int := if dt = 1 then 0 else if dt ≤ 6 then 1 else if dt ≤ 8 then 2 else 3
def bytesL (dt : Int) : Int := if 1 ≤ dt ∧ dt ≤ 3 then 1 else if dt = 4 then 2 else if dt = 5 ∨ dt = 7 then 4 else if dt = 9 then 16 else 8

theorem ret_int {k : IntKind} {a b : Int} (h : a = b) : Ending.returned (.int k a) = .returned (.int k b) := by rw [h]
theorem ret_bool {a b : Bool} (h : a = b) : Ending.returned (.bool a) = .returned (.bool b) := by rw [h]

theorem kind_neg (dt : Int) : (kindL dt != -1) = isDtB dt := by
  unfold kindL isDtB
  rw [Bool.eq_iff_iff]; simp only [bne_iff_ne, decide_eq_true_eq]
  repeat' split
  all_goals omega

set_option maxHeartbeats 400000 in
theorem kindOf_any (dt : Int) (w : World) :
    Calls Try.prog 65 #[.int .i64 dt] w fun e w' => e = .returned (.int .i64 (kindL dt)) ∧ w' = w := by
  go_enter Try.func65, Try.ntmps65
  go_wp2
  all_goals go_ret
  all_goals refine ⟨ret_int ?_, rfl⟩
  all_goals (unfold kindL; simp only [beq_iff_eq, beq_eq_false_iff_ne, ne_eq] at *; repeat' split)
  all_goals omega

set_option maxHeartbeats 400000 in
theorem isDType_any (dt : Int) (w : World) :
    Calls Try.prog 46 #[.int .i64 dt] w fun e w' => e = .returned (.bool (isDtB dt)) ∧ w' = w := by
  go_enter Try.func46, Try.ntmps46
  go_wp2_with (go_at_call 65; refine (kindOf_any _ _).mono ?_; rintro e w' ⟨rfl, rfl⟩)
  go_ret
  exact ⟨ret_bool (kind_neg dt), rfl⟩

set_option maxHeartbeats 400000 in
theorem l1IsDType_any (dt : Int) (w : World) :
    Calls Try.prog 24 #[.int .i64 dt] w fun e w' => e = .returned (.bool (isDtB dt)) ∧ w' = w := by
  go_enter Try.func24, Try.ntmps24
  go_wp2
  all_goals go_ret
  all_goals (refine ⟨ret_bool ?_, rfl⟩; unfold isDtB; rw [Bool.eq_iff_iff]; simp only [decide_eq_true_eq, Bool.false_eq_true, false_iff]; omega)

set_option maxHeartbeats 400000 in
theorem l1Kind_any (dt : Int) (w : World) :
    Calls Try.prog 40 #[.int .i64 dt] w fun e w' => e = .returned (.int .i64 (skindL dt)) ∧ w' = w := by
  go_enter Try.func40, Try.ntmps40
  go_wp2
  all_goals go_ret
  all_goals refine ⟨ret_int ?_, rfl⟩
  all_goals (unfold skindL; simp only [beq_iff_eq, beq_eq_false_iff_ne, ne_eq] at *; repeat' split)
  all_goals omega

def promL (a b : Int) : Int :=
  if ¬ (1 ≤ a ∧ a ≤ 9) ∨ ¬ (1 ≤ b ∧ b ≤ 9) then 0
  else if min a b = 2 ∧ max a b = 3 then 4
  else if max a b = 7 ∧ (min a b = 5 ∨ min a b = 6) then 8
  else max a b


end Go.Proofs.Ytbkdfhlbjaiahaa
