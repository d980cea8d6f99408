import Derived.Test.YthaajmkfeniofaaConv8
namespace Go.Proofs.Ythaajmkfeniofaa
open Go.RowKit FL Ieee
set_option linter.unusedSimpArgs false
set_option linter.unusedVariables false

theorem v_int (to i : Int) (h : 1 ≤ to ∧ to ≤ 6) (hr : lowL to ≤ i ∧ i ≤ highL to) : validB to i 0 0 = true := by
  unfold validB rngB
  rw [if_pos h]
  have : pzB 0 = true := by decide
  rw [this]; simpa using hr
theorem v_7 (f : Nat) (h : sngB f = true) : validB 7 0 f 0 = true := by
  unfold validB
  have : pzB 0 = true := by decide
  rw [if_neg (by omega), if_pos rfl, this, h]; rfl
theorem v_89 (to : Int) (h : to = 8 ∨ to = 9) (f : Nat) : validB to 0 f 0 = true := by
  have : pzB 0 = true := by decide
  rcases h with rfl | rfl
  · unfold validB; rw [if_neg (by omega), if_neg (by omega), if_pos rfl, this]; rfl
  · unfold validB; rw [if_neg (by omega), if_neg (by omega), if_neg (by omega), if_pos rfl]; rfl
theorem v_zero (to : Int) (h : 1 ≤ to ∧ to ≤ 9) : validB to 0 0 0 = true := by
  by_cases h6 : to ≤ 6
  · refine v_int to 0 (by omega) ?_
    unfold lowL highL; repeat' split
    all_goals omega
  by_cases h7 : to = 7
  · subst h7; exact v_7 0 (by decide)
  · exact v_89 to (by omega) 0

theorem in_1 (p : Prop) [Decidable p] : lowL 1 ≤ (if p then 0 else 1 : Int) ∧ (if p then 0 else 1 : Int) ≤ highL 1 := by
  unfold lowL highL; split <;> omega

theorem vI {to i i' : Int} {f : Nat} (hi : I64 i) (h : ConvI to i i' f) : validB to i' f 0 = true := by
  rcases h with ⟨rfl, rfl, rfl⟩ | ⟨rfl, rfl, rfl⟩ | ⟨h8, rfl, rfl⟩ | ⟨h2, rfl, rfl⟩
  · exact v_int 1 _ (by omega) (in_1 _)
  · exact v_7 _ (sng_wide i)
  · exact v_89 to h8 _
  · exact v_int to _ (by omega) (cut_in to i h2 hi)
theorem vF {to i' : Int} {x f : Nat} (h : ConvF to x i' f) : validB to i' f 0 = true := by
  rcases h with ⟨rfl, rfl, rfl⟩ | ⟨rfl, rfl, hs⟩ | ⟨h8, rfl, rfl⟩ | ⟨h2, rfl, n, hn, rfl⟩
  · exact v_int 1 _ (by omega) (in_1 _)
  · exact v_7 _ (singR_sng hs)
  · exact v_89 to h8 _
  · have := low_high to
    exact v_int to _ (by omega) (by omega)
theorem vC {to i' : Int} {x y f : Nat} (h : ConvC to x y i' f) : validB to i' f 0 = true := by
  rcases h with ⟨rfl, rfl, rfl⟩ | ⟨_, h⟩
  · exact v_int 1 _ (by omega) (in_1 _)
  · exact vF h

/-- Convert gives a valid cell. -/
theorem conv_valid {from_ to i i' : Int} {f g f' g' : Nat} (ht : 1 ≤ to ∧ to ≤ 9) (hi : I64 i) (h : ConvR from_ to i f g i' f' g') : validB to i' f' g' = true := by
  rcases h with ⟨_, rfl, rfl, rfl⟩ | ⟨hv, rfl, rfl, rfl, rfl⟩ | ⟨_, _, rfl, h | h | h⟩
  · exact v_zero to ht
  · exact hv
  · exact vI hi h.2
  · exact vF h.2
  · exact vC h.2
end Go.Proofs.Ythaajmkfeniofaa
