import Derived.Test.YthaajmkfeniofaaFloats
namespace Go.Proofs.Ythaajmkfeniofaa
namespace FL
open Ieee
set_option linter.unusedSimpArgs false
set_option linter.unusedVariables false

theorem log2_mul (m k : Nat) (h : 0 < m) : (m * 2 ^ k).log2 = m.log2 + k := by
  have hm : m ≠ 0 := by omega
  have hp : 0 < 2 ^ k := Nat.two_pow_pos _
  have hn : m * 2 ^ k ≠ 0 := Nat.mul_ne_zero hm (by omega)
  rw [Nat.log2_eq_iff hn]
  have h1 := (Nat.log2_eq_iff (k := m.log2) hm).1 rfl
  refine ⟨?_, ?_⟩
  · rw [Nat.pow_add]; exact Nat.mul_le_mul_right _ h1.1
  · rw [show m.log2 + k + 1 = m.log2 + 1 + k by omega, Nat.pow_add]; exact Nat.mul_lt_mul_of_pos_right h1.2 hp

/-- A cut of a multiple is exact. -/
theorem cut_exact (way : Toward) (neg : Bool) (m k : Nat) (h : 0 < m) : way.cut neg (m * 2 ^ k) k = m := by
  unfold Toward.cut
  have hl := log2_mul m k h
  have hmin : min k ((m * 2 ^ k).log2 + 2) = k := by omega
  rw [hmin]
  have hp : 0 < 2 ^ k := Nat.two_pow_pos _
  simp only [Nat.shiftLeft_eq, Nat.one_mul, Nat.mul_div_cancel _ hp, Nat.mul_mod_left]
  cases way <;> simp

theorem mag_normal (F : Format) (r : Nat) (h : F.binade ≤ r) : (magR F r).log2 = F.fractionBits := by
  have hb := binade_pos F
  have hm := Nat.mod_lt r hb
  unfold magR
  rw [if_neg (by omega)]
  have hb2 : F.binade = 2 ^ F.fractionBits := rfl
  rw [Nat.log2_eq_iff (by omega), Nat.pow_succ]
  omega

theorem mag_sub (F : Format) (r : Nat) (h0 : 0 < r) (h : r < F.binade) : (magR F r).log2 ≤ F.fractionBits := by
  unfold magR
  rw [if_pos h]
  have hb2 : F.binade = 2 ^ F.fractionBits := rfl
  have := (Nat.log2_lt (by omega : r ≠ 0) (k := F.fractionBits)).2 (by omega)
  omega

theorem mag_pos (F : Format) (r : Nat) (h0 : 0 < r) : 0 < magR F r := by
  have hb := binade_pos F
  unfold magR; split <;> omega

theorem last_eq (F : Format) (r : Nat) (h0 : 0 < r) :
    max (F.leastPlace + (upR F r : Nat) + ((magR F r).log2 : Nat) - F.fractionBits) F.leastPlace = F.leastPlace + (upR F r : Nat) := by
  by_cases h : r < F.binade
  · have := mag_sub F r h0 h
    have e : upR F r = 0 := by unfold upR; rw [if_pos h]
    rw [e]; omega
  · have := mag_normal F r (by omega)
    omega

theorem rung_eq (F : Format) (r : Nat) : upR F r * F.binade + magR F r = r := by
  have hb := binade_pos F
  unfold upR magR
  by_cases h : r < F.binade
  · rw [if_pos h, if_pos h]; omega
  · rw [if_neg h, if_neg h]
    have hq : 1 ≤ r / F.binade := (Nat.one_le_div_iff hb).2 (by omega)
    have hd := Nat.div_add_mod r F.binade
    obtain ⟨q, hq'⟩ : ∃ q, r / F.binade = q + 1 := ⟨r / F.binade - 1, by omega⟩
    rw [hq'] at hd ⊢
    rw [Nat.mul_add, Nat.mul_comm] at hd
    simp only [Nat.add_sub_cancel]
    omega

theorem nearest_up (F : Format) (neg : Bool) (r k : Nat) (h0 : 0 < r) (hi : r < F.infRung) :
    F.nearest neg (magR F r * 2 ^ k) (F.leastPlace + (upR F r : Nat) - k) = F.word neg r := by
  have hm := mag_pos F r h0
  have hp : 0 < 2 ^ k := Nat.two_pow_pos _
  unfold Format.nearest
  rw [if_neg (Nat.mul_ne_zero (by omega) (by omega))]
  dsimp only
  rw [log2_mul _ _ hm]
  have e0 := last_eq F r h0
  have e1 : max (F.leastPlace + (upR F r : Nat) - (k : Int) + ((magR F r).log2 + k : Nat) - F.fractionBits) F.leastPlace = F.leastPlace + (upR F r : Nat) := by
    rw [← e0]; congr 1; omega
  rw [e1]
  have e2 : (F.leastPlace + (upR F r : Nat) - (k : Int) - (F.leastPlace + (upR F r : Nat))).toNat = 0 := by omega
  have e3 : (F.leastPlace + (upR F r : Nat) - (F.leastPlace + (upR F r : Nat) - (k : Int))).toNat = k := by omega
  have e4 : (F.leastPlace + (upR F r : Nat) - F.leastPlace).toNat = upR F r := by omega
  rw [e2, e3, e4, Nat.shiftLeft_zero, cut_exact _ _ _ _ hm, rung_eq, Nat.min_eq_left (by omega)]

theorem nearest_down (F : Format) (neg : Bool) (r m k : Nat) (h0 : 0 < r) (hi : r < F.infRung) (hk : magR F r = m * 2 ^ k) :
    F.nearest neg m (F.leastPlace + (upR F r : Nat) + k) = F.word neg r := by
  have hm0 := mag_pos F r h0
  have hm : 0 < m := by
    cases m with
    | zero => omega
    | succ m => omega
  unfold Format.nearest
  rw [if_neg (by omega)]
  dsimp only
  have e0 := last_eq F r h0
  rw [hk, log2_mul _ _ hm] at e0
  have e1 : max (F.leastPlace + (upR F r : Nat) + (k : Int) + (m.log2 : Nat) - F.fractionBits) F.leastPlace = F.leastPlace + (upR F r : Nat) := by
    rw [← e0]; congr 1; omega
  rw [e1]
  have e2 : (F.leastPlace + (upR F r : Nat) + (k : Int) - (F.leastPlace + (upR F r : Nat))).toNat = k := by omega
  have e3 : (F.leastPlace + (upR F r : Nat) - (F.leastPlace + (upR F r : Nat) + (k : Int))).toNat = 0 := by omega
  have e4 : (F.leastPlace + (upR F r : Nat) - F.leastPlace).toNat = upR F r := by omega
  rw [e2, e3, e4, Nat.shiftLeft_eq, ← hk]
  have e5 := cut_exact .even neg (magR F r) 0 hm0
  rw [Nat.pow_zero, Nat.mul_one] at e5
  rw [e5, rung_eq, Nat.min_eq_left (by omega)]

theorem nearest_zero (F : Format) (neg : Bool) (p : Int) : F.nearest neg 0 p = F.word neg 0 := by
  unfold Format.nearest; rw [if_pos rfl]

/-- Of every number that fits the format there is a rung. -/
theorem has_rung (F : Format) (m : Nat) (p : Int) (h0 : 0 < m) (hm : m < 2 ^ (F.fractionBits + 1)) (hp : F.leastPlace ≤ p) :
    ∃ r k : Nat, 0 < r ∧ magR F r = m * 2 ^ k ∧ p = F.leastPlace + (upR F r : Nat) + k ∧ r < ((p - F.leastPlace).toNat + 2) * F.binade := by
  have hb := binade_pos F
  have hb2 : F.binade = 2 ^ F.fractionBits := rfl
  have hL := (Nat.log2_eq_iff (k := m.log2) (by omega : m ≠ 0)).1 rfl
  have hLf : m.log2 ≤ F.fractionBits := by
    have := (Nat.log2_lt (by omega : m ≠ 0) (k := F.fractionBits + 1)).2 hm
    omega
  obtain ⟨j, hj⟩ : ∃ j : Nat, p = F.leastPlace + j := ⟨(p - F.leastPlace).toNat, by omega⟩
  by_cases hn : F.fractionBits - m.log2 ≤ j
  · -- a normal rung
    generalize hd : F.fractionBits - m.log2 = d at *
    have h1 : F.binade ≤ m * 2 ^ d := by
      rw [hb2, show F.fractionBits = m.log2 + d by omega, Nat.pow_add]; exact Nat.mul_le_mul_right _ hL.1
    have h2 : m * 2 ^ d < 2 * F.binade := by
      rw [hb2, show F.fractionBits = m.log2 + d by omega, ← Nat.pow_succ', show (m.log2 + d).succ = m.log2 + 1 + d by omega, Nat.pow_add]
      exact Nat.mul_lt_mul_of_pos_right hL.2 (Nat.two_pow_pos _)
    refine ⟨(j - d) * F.binade + m * 2 ^ d, d, by omega, ?_, ?_, ?_⟩
    · unfold magR
      have hge : F.binade ≤ (j - d) * F.binade + m * 2 ^ d := by omega
      rw [if_neg (by omega), Nat.add_comm ((j - d) * F.binade), Nat.add_mul_mod_self_right]
      have : (m * 2 ^ d) % F.binade = m * 2 ^ d - F.binade := by
        rw [Nat.mod_eq_sub_mod h1]; exact Nat.mod_eq_of_lt (by omega)
      omega
    · unfold upR
      have hge : F.binade ≤ (j - d) * F.binade + m * 2 ^ d := by omega
      rw [if_neg (by omega), Nat.add_comm ((j - d) * F.binade), Nat.add_mul_div_right _ _ hb]
      have : m * 2 ^ d / F.binade = 1 := by
        rw [Nat.div_eq_iff hb]; omega
      rw [this]; omega
    · rw [hj]
      have e : (F.leastPlace + (j : Int) - F.leastPlace).toNat = j := by omega
      rw [e, Nat.add_mul]
      have : (j - d) * F.binade ≤ j * F.binade := Nat.mul_le_mul_right _ (by omega)
      omega
  · -- a subnormal one
    have h2 : m * 2 ^ j < F.binade := by
      rw [hb2]
      have : 2 ^ F.fractionBits = 2 ^ (m.log2 + 1 + j) * 2 ^ (F.fractionBits - (m.log2 + 1 + j)) := by
        rw [← Nat.pow_add]; congr 1; omega
      rw [this]
      refine Nat.lt_of_lt_of_le ?_ (Nat.le_mul_of_pos_right _ (Nat.two_pow_pos _))
      rw [Nat.pow_add]; exact Nat.mul_lt_mul_of_pos_right hL.2 (Nat.two_pow_pos _)
    have h3 : 0 < m * 2 ^ j := Nat.mul_pos h0 (Nat.two_pow_pos _)
    refine ⟨m * 2 ^ j, j, h3, ?_, ?_, ?_⟩
    · unfold magR; rw [if_pos h2]
    · unfold upR; rw [if_pos h2]; omega
    · have : F.binade ≤ ((p - F.leastPlace).toNat + 2) * F.binade := Nat.le_mul_of_pos_left _ (by omega)
      omega

theorem word_mod (F : Format) (neg : Bool) (r : Nat) (h : r < F.signWeight) : F.word neg r % F.signWeight = r ∧ (F.word neg r / F.signWeight % 2 == 1) = neg := by
  have hp : 0 < F.signWeight := Nat.two_pow_pos _
  unfold Format.word
  cases neg
  · simp only [Bool.false_eq_true, if_false]
    rw [Nat.mod_eq_of_lt h, Nat.div_eq_of_lt h]; exact ⟨rfl, rfl⟩
  · simp only [if_true]
    rw [Nat.add_mod_left, Nat.mod_eq_of_lt h, Nat.add_div_left _ hp, Nat.div_eq_of_lt h]; exact ⟨rfl, rfl⟩

theorem read_word (F : Format) (neg : Bool) (r : Nat) (h : r < F.infRung) : F.read (F.word neg r) = .number neg (magR F r) (F.leastPlace + (upR F r : Nat)) := by
  have hl := F.infRung_lt
  have hw := word_mod F neg r (by omega)
  rw [read_finite F _ (by rw [hw.1]; exact h), hw.1, hw.2]

theorem word_of (F : Format) (x : Nat) (h : x < 2 * F.signWeight) : F.word (x / F.signWeight % 2 == 1) (x % F.signWeight) = x := by
  have hp : 0 < F.signWeight := Nat.two_pow_pos _
  unfold Format.word
  by_cases hx : x < F.signWeight
  · rw [Nat.div_eq_of_lt hx, Nat.mod_eq_of_lt hx]; rfl
  · have e : x / F.signWeight = 1 := by rw [Nat.div_eq_iff hp]; omega
    have e2 : x % F.signWeight = x - F.signWeight := by rw [Nat.mod_eq_sub_mod (by omega)]; exact Nat.mod_eq_of_lt (by omega)
    rw [e, e2]; simp; omega

/-- What a number that fits is written and read as: the same number. -/
theorem write_read (F : Format) (neg : Bool) (m : Nat) (p : Int) (h0 : 0 < m) (hm : m < 2 ^ (F.fractionBits + 1)) (hp : F.leastPlace ≤ p) (hi : ((p - F.leastPlace).toNat + 2) * F.binade ≤ F.infRung) :
    ∃ r k : Nat, 0 < r ∧ r < F.infRung ∧ magR F r = m * 2 ^ k ∧ p = F.leastPlace + (upR F r : Nat) + k ∧ F.nearest neg m p = F.word neg r ∧ F.read (F.nearest neg m p) = .number neg (m * 2 ^ k) (p - k) := by
  obtain ⟨r, k, hr, hk, hpk, hlt⟩ := has_rung F m p h0 hm hp
  have hri : r < F.infRung := by omega
  have hn : F.nearest neg m p = F.word neg r := by rw [hpk]; exact nearest_down F neg r m k hr hri hk
  refine ⟨r, k, hr, hri, hk, hpk, hn, ?_⟩
  rw [hn, read_word F neg r hri, hk]
  congr 1; omega
end FL
end Go.Proofs.Ythaajmkfeniofaa
