import Derived.Test.YthaajmkfeniofaaConv12
namespace Go.Proofs.Ythaajmkfeniofaa
open Go.RowKit FL Ieee
set_option linter.unusedSimpArgs false
set_option linter.unusedVariables false

theorem rng_abs (f i : Int) (h : 1 ≤ f ∧ f ≤ 5) (hi : lowL f ≤ i ∧ i ≤ highL f) : i.natAbs ≤ 9007199254740991 ∧ (f ≤ 4 → i.natAbs ≤ 16777215) ∧ (f = 1 → i = 0 ∨ i = 1) := by
  unfold lowL highL at hi
  repeat' split at hi
  all_goals omega

/-- A whole number, back from a float that TruncOk reads as it. -/
theorem backF {from_ i i2 : Int} {x f2 : Nat} (h : 1 ≤ from_ ∧ from_ ≤ 5) (hi : lowL from_ ≤ i ∧ i ≤ highL from_) (ht : ∀ m, TruncOk x m → m = i) (h1 : from_ = 1 → feq x 0 = decide (i = 0)) (hc : ConvF from_ x i2 f2) : i2 = i ∧ f2 = 0 := by
  rcases hc with ⟨rfl, rfl, rfl⟩ | ⟨rfl, _, _⟩ | ⟨h8, _, _⟩ | ⟨h2, rfl, n, hn, rfl⟩
  · refine ⟨?_, rfl⟩
    rw [h1 rfl]
    have := (rng_abs 1 i h hi).2.2 rfl
    rcases this with rfl | rfl <;> rfl
  · omega
  · omega
  · have := ht n hn
    subst this
    exact ⟨by omega, rfl⟩
end Go.Proofs.Ythaajmkfeniofaa
