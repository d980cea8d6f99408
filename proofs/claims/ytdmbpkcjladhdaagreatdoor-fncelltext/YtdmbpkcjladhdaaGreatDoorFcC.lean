import Derived.Test.YtdmbpkcjladhdaaGreatDoorFmC
import Derived.Test.YtdmbpkcjladhdaaGreatDoorFcB
namespace Go.Proofs.YtdmbpkcjladhdaaGreatDoor
namespace FL
open Ieee
theorem od_exists (c j : Nat) (h0 : 0 < c) (hc : c < 9007199254740992) (hj : j ≤ 2000) : ∃ r, OD c j r := by
  obtain ⟨r, k, h1, h2, h3, h4⟩ := has_rung double c (double.leastPlace + (j : Int)) h0 (by rw [p53]; exact hc) (by omega)
  have e : (double.leastPlace + (j : Int) - double.leastPlace).toNat = j := by omega
  rw [e] at h4
  refine ⟨r, h1, by rw [dI]; rw [dB] at h4; omega, ?_⟩
  unfold bigR
  rw [h2, Nat.mul_assoc, ← Nat.pow_add]
  congr 2; omega

theorem od_double (neg : Bool) {c j K r rf : Nat} (h : OD c j r) (hf : OD c K rf) (hlt : j < K) : ∃ r', double.mul (double.word neg r) 4611686018427387904 = some (double.word neg r') ∧ OD c (j + 1) r' := by
  have hc0 : 0 < c := by
    have := h.2.2
    cases c with
    | zero =>
      have hm := mag_pos double r h.1
      rw [Nat.zero_mul] at this
      have : 0 < bigR double r := Nat.mul_pos hm (Nat.two_pow_pos _)
      omega
    | succ c => omega
  have hV : bigR double r * 2 ^ 1 ≤ bigR double rf := by
    rw [h.2.2, hf.2.2, Nat.mul_assoc, ← Nat.pow_add]
    exact Nat.mul_le_mul_left _ (Nat.pow_le_pow_right (by decide) (by omega))
  have key : ∃ r', 0 < r' ∧ r' < double.infRung ∧ bigR double r' = bigR double r * 2 ^ 1 := by
    by_cases hn : r < 4503599627370496
    · have hu : upR double r = 0 := by unfold upR; rw [dB, if_pos hn]
      exact big_pow r 1 h.1 (by omega)
    · have e1 : magR double (r + 4503599627370496) = magR double r := by
        unfold magR; rw [dB, if_neg (by omega), if_neg (by omega)]; simp
      have e2 : upR double (r + 4503599627370496) = upR double r + 1 := by
        unfold upR; rw [dB, if_neg (by omega), if_neg (by omega), Nat.add_div_right _ (by omega)]
        have : 1 ≤ r / 4503599627370496 := (Nat.one_le_div_iff (by omega)).2 (by omega)
        omega
      have hb : bigR double (r + 4503599627370496) = bigR double r * 2 ^ 1 := by
        unfold bigR; rw [e1, e2, Nat.pow_add, ← Nat.mul_assoc]
      refine ⟨r + 4503599627370496, by omega, ?_, hb⟩
      rw [← hb] at hV
      by_cases g : r + 4503599627370496 < double.infRung
      · exact g
      · exfalso
        have h3 : rf < r + 4503599627370496 := by have := hf.2.1; omega
        have := (bigR_lt double rf (r + 4503599627370496)).2 h3
        omega
  obtain ⟨r', h1, h2, h3⟩ := key
  exact ⟨r', mul_pow neg r r' 1 h.1 h.2.1 h1 h2 (by omega) h3, h1, h2, by rw [h3, h.2.2, Nat.mul_assoc, ← Nat.pow_add]⟩

theorem od_halve (neg : Bool) {c j r : Nat} (h : OD c (j + 1) r) (h0 : 0 < c) (hc : c < 9007199254740992) (hj : j ≤ 2000) : ∃ r', double.div (double.word neg r) 4611686018427387904 = some (double.word neg r') ∧ OD c j r' := by
  obtain ⟨r', hr⟩ := od_exists c j h0 hc hj
  exact ⟨r', div_two neg r r' h.1 h.2.1 hr.1 hr.2.1 (by rw [h.2.2, hr.2.2, Nat.pow_succ, Nat.mul_assoc]), hr⟩

theorem od_same {c j r s : Nat} (h : OD c j r) (g : OD c j s) : r = s := by
  rw [← bigR_eq double, h.2.2, g.2.2]

theorem od_whole (neg : Bool) (c : Nat) (h0 : 0 < c) (hc : c < 9007199254740992) : ∃ s, floatOfInt .f64 (if neg then -(c : Int) else (c : Int)) = double.word neg s ∧ OD c 1074 s := by
  obtain ⟨r, k, h1, h2, h3, h4, h5, h6⟩ := write_read double neg c 0 h0 (by rw [p53]; exact hc) (by rw [dL]; omega) (by rw [dL, dB, dI]; decide)
  refine ⟨r, ?_, h1, h2, ?_⟩
  · rw [← h5]
    show double.nearest (decide ((if neg then -(c : Int) else (c : Int)) < 0)) (if neg then -(c : Int) else (c : Int)).natAbs 0 = _
    cases neg
    · have e : decide ((c : Int) < 0) = false := by simp
      simp only [Bool.false_eq_true, if_false, e, Int.natAbs_natCast]
    · have e : decide (-(c : Int) < 0) = true := by simp; omega
      simp only [if_true, e, Int.natAbs_neg, Int.natAbs_natCast]
  · unfold bigR
    have e : k + upR double r = 1074 := by rw [dL] at h4; omega
    rw [h3, Nat.mul_assoc, ← Nat.pow_add, e]

theorem k_le (r : Nat) (h0 : 0 < r) (h : r < double.infRung) : kOf (bigR double r) ≤ 2097 := by
  obtain ⟨nr, ne, hs⟩ : ∃ t m, magR double r = 2 ^ t * (2 * m + 1) ∧ t < 53 := by
    obtain ⟨m2, e2, hk2⟩ := Lib.ctzFrom_spec 53 (magR double r) (mag_pos double r h0) (by have := magD_lt r; rw [show (2 : Nat) ^ 53 = 9007199254740992 by decide]; exact this)
    exact ⟨_, m2, e2, hk2⟩
  have hu := up_le r h
  have hb := big_odd r h0 h
  have hV2 : bigR double r = (2 * ne + 1) * 2 ^ (nr + upR double r) := by
    conv => lhs; unfold bigR
    rw [hs.1, Nat.pow_add, ← Nat.mul_assoc, Nat.mul_comm (2 * ne + 1)]
  have := (odd_uniq _ _ _ _ hb.2.1 (by omega) (hb.1.2.2.symm.trans hV2)).1
  omega
end FL
end Go.Proofs.YtdmbpkcjladhdaaGreatDoor
