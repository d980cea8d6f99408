import Derived.Test.YthaajmkfeniofaaConv13
namespace Go.Proofs.Ythaajmkfeniofaa
open Go.RowKit FL Ieee
set_option linter.unusedSimpArgs false
set_option linter.unusedVariables false

theorem feq_10 : feq (wide (floatOfInt .f32 0)) 0 = true := by decide
theorem feq_11 : feq (wide (floatOfInt .f32 1)) 0 = false := by decide
theorem feq_20 : feq (floatOfInt .f64 0) 0 = true := by decide
theorem feq_21 : feq (floatOfInt .f64 1) 0 = false := by decide
theorem feq_00 : feq 0 0 = true := by decide

theorem valid_7 (i : Int) (f g : Nat) (h : validB 7 i f g = true) : sngB f = true := by
  unfold validB at h
  rw [if_neg (by omega), if_pos rfl] at h
  simp only [Bool.and_eq_true] at h
  exact h.2

theorem same_sing {x r : Nat} (h : SingleR x r) (hs : sngB x = true) : sameB r x = true := by
  unfold sameB
  rcases singR_same h hs with ⟨a, b⟩ | ⟨a, b⟩
  · rw [a, b]; rfl
  · subst b; rw [a]; simp

/-- A safe cast, and back. -/
theorem conv_back {from_ to i i1 i2 : Int} {f g f1 g1 f2 g2 : Nat} (hc : castL from_ to 0 = true) (h6 : ¬ (from_ = 6 ∧ 7 ≤ to)) (hv : validB from_ i f g = true) (hi : I64 i) (h1 : ConvR from_ to i f g i1 f1 g1) (h2 : ConvR to from_ i1 f1 g1 i2 f2 g2) : smB i2 f2 g2 i f g = true := by
  obtain ⟨k1, k2, k3⟩ := cast_safe hc
  have hv1 := conv_valid (by omega) hi h1
  by_cases he : from_ = to
  · subst he
    rcases h1 with ⟨h, _⟩ | ⟨_, _, rfl, rfl, rfl⟩ | ⟨_, h, _⟩
    · rw [hv] at h; cases h
    · rcases h2 with ⟨h, _⟩ | ⟨_, _, rfl, rfl, rfl⟩ | ⟨_, h, _⟩
      · rw [hv] at h; cases h
      · exact sm_self _ _ _
      · exact absurd rfl h
    · exact absurd rfl h
  rcases h1 with ⟨h, _⟩ | ⟨_, h, _⟩ | ⟨_, _, rfl, h1⟩
  · rw [hv] at h; cases h
  · exact absurd h he
  rcases h2 with ⟨h, _⟩ | ⟨_, h, _⟩ | ⟨_, _, rfl, h2⟩
  · rw [hv1] at h; cases h
  · exact absurd h.symm he
  rcases h1 with ⟨a1, h1⟩ | ⟨a1, h1⟩ | ⟨a1, h1⟩
  · obtain ⟨b1, b2, rfl, rfl⟩ := valid_int _ _ _ _ hv a1
    suffices hq : i2 = i ∧ f2 = 0 by obtain ⟨rfl, rfl⟩ := hq; exact sm_self _ _ _
    rcases h1 with ⟨h, _⟩ | ⟨h7, rfl, rfl⟩ | ⟨h8, rfl, rfl⟩ | ⟨ht, rfl, rfl⟩
    · omega
    · have r := rng_abs from_ i (by omega) ⟨b1, b2⟩
      rcases h2 with ⟨a2, _⟩ | ⟨_, h2⟩ | ⟨a2, _⟩
      · omega
      · refine backF (by omega) ⟨b1, b2⟩ (fun m hm => back_s i m (r.2.1 (by omega)) hm) (fun e => ?_) h2
        rcases r.2.2 e with rfl | rfl
        · rw [feq_10]; rfl
        · rw [feq_11]; rfl
      · omega
    · have r := rng_abs from_ i (by omega) ⟨b1, b2⟩
      have hB : ∀ {j : Int} {y : Nat}, ConvF from_ (floatOfInt .f64 i) j y → j = i ∧ y = 0 := fun h => by
        refine backF (by omega) ⟨b1, b2⟩ (fun m hm => back_d i m r.1 hm) (fun e => ?_) h
        rcases r.2.2 e with rfl | rfl
        · rw [feq_20]; rfl
        · rw [feq_21]; rfl
      rcases h2 with ⟨a2, _⟩ | ⟨_, h2⟩ | ⟨a2, h2⟩
      · omega
      · exact hB h2
      · rcases h2 with ⟨e, r1, r2⟩ | ⟨_, h2⟩
        · refine ⟨?_, r2⟩
          rw [r1]
          rcases r.2.2 e with rfl | rfl
          · rw [feq_20, feq_00]; rfl
          · rw [feq_21]; rfl
        · exact hB h2
    · have hs := rng_sub from_ to i ⟨by omega, k2⟩ ⟨b1, b2⟩
      rw [cut_id to i hs ht] at h2
      rcases h2 with ⟨a2, h2⟩ | ⟨a2, _⟩ | ⟨a2, _⟩
      · rcases h2 with ⟨e, rfl, rfl⟩ | ⟨e, _⟩ | ⟨e, _⟩ | ⟨e, rfl, rfl⟩
        · subst e
          refine ⟨?_, rfl⟩
          rcases (rng_abs 1 i (by omega) ⟨b1, b2⟩).2.2 rfl with rfl | rfl <;> rfl
        · omega
        · omega
        · exact ⟨cut_id from_ i ⟨b1, b2⟩ e, rfl⟩
      · omega
      · omega
  · obtain ⟨rfl, rfl⟩ := valid_flt _ _ _ _ hv (by omega) (by omega)
    rcases h1 with ⟨e, _⟩ | ⟨e, _⟩ | ⟨h8, rfl, rfl⟩ | ⟨e, _⟩
    · omega
    · omega
    · have hF : ConvF from_ f1 i2 f2 := by
        rcases h2 with ⟨a2, _⟩ | ⟨_, h2⟩ | ⟨a2, h2⟩
        · omega
        · exact h2
        · rcases h2 with ⟨e, _⟩ | ⟨_, h2⟩
          · omega
          · exact h2
      rcases hF with ⟨e, _⟩ | ⟨e, rfl, hs⟩ | ⟨_, rfl, rfl⟩ | ⟨e, _⟩
      · omega
      · subst e
        unfold smB
        rw [same_sing hs (valid_7 _ _ _ hv), same_self]; rfl
      · exact sm_self _ _ _
      · omega
    · omega
  · omega
end Go.Proofs.Ythaajmkfeniofaa
