import Derived.Test.YthaajmkfeniofaaConv11
import Derived.Test.YthaajmkfeniofaaOrder
namespace Go.Proofs.Ythaajmkfeniofaa
open Go.RowKit FL Ieee
set_option linter.unusedSimpArgs false
set_option linter.unusedVariables false

/-- Where a cast is safe. -/
theorem cast_safe {f t : Int} (h : castL f t 0 = true) : (1 ≤ f ∧ f ≤ t ∧ t ≤ 9) ∧ ¬ (f = 2 ∧ t = 3) ∧ ¬ (t = 7 ∧ (f = 5 ∨ f = 6)) := by
  unfold castL at h
  have h2 := of_decide_eq_true h
  have h3 : promL f t = t := by omega
  unfold promL at h3
  repeat' split at h3
  all_goals omega

theorem sm_self (i : Int) (f g : Nat) : smB i f g i f g = true := by
  unfold smB; rw [same_self, same_self]; simp

theorem cut_id (to i : Int) (h : lowL to ≤ i ∧ i ≤ highL to) (ht : 2 ≤ to ∧ to ≤ 6) : cutL to i = i := by
  unfold lowL highL at h
  unfold cutL
  obtain rfl | rfl | rfl | rfl | rfl : to = 2 ∨ to = 3 ∨ to = 4 ∨ to = 5 ∨ to = 6 := by omega
  all_goals simp at h ⊢
  all_goals omega

theorem rng_sub (f t i : Int) (h : (1 ≤ f ∧ f ≤ t ∧ t ≤ 6) ∧ ¬ (f = 2 ∧ t = 3)) (hi : lowL f ≤ i ∧ i ≤ highL f) : lowL t ≤ i ∧ i ≤ highL t := by
  unfold lowL highL at *
  repeat' split
  all_goals (repeat' split at hi)
  all_goals omega
end Go.Proofs.Ythaajmkfeniofaa
