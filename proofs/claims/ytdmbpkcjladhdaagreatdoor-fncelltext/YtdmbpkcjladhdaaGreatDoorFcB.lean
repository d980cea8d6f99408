import Derived.Test.YtdmbpkcjladhdaaGreatDoorFmA
namespace Go.Proofs.YtdmbpkcjladhdaaGreatDoor
namespace FL
open Ieee
/-- Half of a number is exact where there is such a number. -/
theorem div_two (neg : Bool) (r r' : Nat) (h0 : 0 < r) (hr : r < double.infRung) (h0' : 0 < r') (hr' : r' < double.infRung) (hb : bigR double r = bigR double r' * 2) :
    double.div (double.word neg r) 4611686018427387904 = some (double.word neg r') := by
  have hm := mag_pos double r h0
  have hml := magD_lt r
  have hm' := magD_lt r'
  have hlog2 : (4503599627370496 : Nat).log2 = 52 := by decide
  have hrd := read_pow 1 (by omega)
  have hl : (magR double r).log2 ≤ 52 := by
    by_cases hn : r < double.binade
    · exact mag_sub double r h0 hn
    · exact Nat.le_of_eq (mag_normal double r (by omega))
  obtain ⟨a, ha⟩ : ∃ a, 52 + 2 + 52 - (magR double r).log2 = a + 52 := ⟨54 - (magR double r).log2, by omega⟩
  have ha1 : 2 ≤ a := by omega
  unfold bigR at hb
  have hk : upR double r ≤ upR double r' + 1 := by
    by_cases hle : upR double r ≤ upR double r' + 1
    · exact hle
    · exfalso
      have hn : double.binade ≤ r := by
        by_cases g : r < double.binade
        · have : upR double r = 0 := by unfold upR; rw [if_pos g]
          omega
        · omega
      have hmn : 4503599627370496 ≤ magR double r := by unfold magR; rw [dB] at *; rw [if_neg (by omega)]; omega
      obtain ⟨d, hd⟩ : ∃ d, upR double r = upR double r' + 2 + d := ⟨upR double r - (upR double r' + 2), by omega⟩
      rw [hd, show upR double r' + 2 + d = (d + 1) + (upR double r' + 1) by omega, Nat.pow_add, ← Nat.mul_assoc, Nat.mul_assoc (magR double r') (2 ^ upR double r'), ← Nat.pow_succ] at hb
      have := Nat.eq_of_mul_eq_mul_right (Nat.two_pow_pos _) hb
      rw [Nat.pow_succ] at this
      have hq : 1 ≤ 2 ^ d := Nat.two_pow_pos _
      have h2 : magR double r * (1 * 2) ≤ magR double r * (2 ^ d * 2) := Nat.mul_le_mul_left _ (Nat.mul_le_mul_right _ hq)
      omega
  obtain ⟨k, hk2⟩ : ∃ k, upR double r' + 1 = upR double r + k := ⟨upR double r' + 1 - upR double r, by omega⟩
  have hM : magR double r = magR double r' * 2 ^ k := by
    have h1 : magR double r' * 2 ^ k * 2 ^ upR double r = magR double r * 2 ^ upR double r := by
      rw [Nat.mul_assoc, ← Nat.pow_add, show k + upR double r = upR double r' + 1 by omega, Nat.pow_succ, ← Nat.mul_assoc]
      exact hb.symm
    exact (Nat.eq_of_mul_eq_mul_right (Nat.two_pow_pos _) h1).symm
  unfold Format.div
  rw [read_word double neg r hr, show (4611686018427387904 : Nat) = (1023 + 1) * 4503599627370496 by decide, hrd]
  unfold Datum.quotient
  simp only [dF, hlog2, Nat.shiftLeft_eq]
  rw [if_neg (by decide), ha]
  have h52 : (2 : Nat) ^ (a + 52) = 2 ^ a * 4503599627370496 := by rw [Nat.pow_add]
  rw [h52, ← Nat.mul_assoc, Nat.mul_div_cancel _ (by decide), Nat.mul_mod_left]
  show some (double.nearest (neg ^^ false) (2 * (magR double r * 2 ^ a) + 0) _) = _
  rw [Bool.xor_false]
  have e1 : 2 * (magR double r * 2 ^ a) + 0 = magR double r' * 2 ^ (k + a + 1) := by
    rw [hM, Nat.pow_succ, Nat.pow_add, Nat.add_zero, Nat.mul_comm 2]
    simp only [Nat.mul_assoc]
  rw [e1]
  have e2 : double.leastPlace + (upR double r : Nat) - (((1 : Nat) : Int) - 52) - ((a + 52 : Nat) : Int) - 1 = double.leastPlace + (upR double r' : Nat) - ((k + a + 1 : Nat) : Int) := by omega
  rw [e2, nearest_up double neg r' (k + a + 1) h0' hr']
end FL
end Go.Proofs.YtdmbpkcjladhdaaGreatDoor
