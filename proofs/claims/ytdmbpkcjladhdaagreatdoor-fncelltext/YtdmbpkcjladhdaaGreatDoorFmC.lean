import Derived.Test.YtdmbpkcjladhdaaGreatDoorCells3
import Derived.Test.YtdmbpkcjladhdaaGreatDoorFmA
import Derived.Laws.Cover2
import Derived.Lib.TrailingZeros
namespace Go.Proofs.YtdmbpkcjladhdaaGreatDoor
namespace FL
open Ieee
set_option linter.unusedSimpArgs false
set_option linter.unusedVariables false

/-- A positive number: an odd number and a power of two, counted in the smallest number of the format. -/
def OD (c j r : Nat) : Prop := 0 < r ∧ r < double.infRung ∧ bigR double r = c * 2 ^ j

theorem pp (a b c d : Nat) (h : a + b = c + d) : 2 ^ a * 2 ^ b = 2 ^ c * 2 ^ d := by rw [← Nat.pow_add, ← Nat.pow_add, h]
theorem pq (a b : Nat) : 2 ^ a * 1 ≤ 2 ^ a * 2 ^ b := Nat.mul_le_mul_left _ (Nat.two_pow_pos _)
theorem div_lt' (v q U : Nat) (hp : 0 < U) (h : v < q * U) : v / U < q := (Nat.div_lt_iff_lt_mul hp).2 h
theorem pr (a b c : Nat) (h : b ≤ c) : 2 ^ a * 2 ^ b ≤ 2 ^ a * 2 ^ c := Nat.mul_le_mul_left _ (Nat.pow_le_pow_right (by decide) h)
theorem big53 : bigR double 4845873199050653696 = 2 ^ 53 * 2 ^ 1074 := by
  have e1 : magR double 4845873199050653696 = 2 ^ 52 := by unfold magR; rw [dB]; decide
  have e2 : upR double 4845873199050653696 = 1075 := by unfold upR; rw [dB]; decide
  unfold bigR
  rw [e1, e2]
  exact pp 52 1075 53 1074 (by decide)

theorem lt53 {c j r : Nat} (h : OD c j r) : r < 4845873199050653696 ↔ c * 2 ^ j < 2 ^ 53 * 2 ^ 1074 := by
  rw [← h.2.2, ← big53, bigR_lt]

theorem od_half {c j r : Nat} (h : OD c j r) (hc : c < 9007199254740992) (hr : 4845873199050653696 ≤ r) :
    ∃ i r', j = i + 1 ∧ double.div r 4611686018427387904 = some r' ∧ OD c i r' := by
  have h1 : ¬ c * 2 ^ j < 2 ^ 53 * 2 ^ 1074 := fun e => by have := (lt53 h).2 e; omega
  have hj : 1 ≤ j := by
    cases j with
    | zero =>
      exfalso
      apply h1
      have h2 : 2 ^ 53 * 1 ≤ 2 ^ 53 * 2 ^ 1074 := pq 53 1074
      have h3 : (2 : Nat) ^ 53 = 9007199254740992 := by decide
      refine Nat.lt_of_lt_of_le ?_ h2
      rw [h3]
      show c * 1 < _
      omega
    | succ j => omega
  obtain ⟨i, rfl⟩ : ∃ i, j = i + 1 := ⟨j - 1, by omega⟩
  have hh := half_exact r (by omega) h.2.1
  refine ⟨i, r - 4503599627370496, rfl, hh.1, by omega, by have := h.2.1; omega, ?_⟩
  have e := hh.2
  rw [h.2.2, Nat.pow_succ, ← Nat.mul_assoc] at e
  exact (Nat.eq_of_mul_eq_mul_right (by decide) e).symm

theorem odd_not (c n : Nat) (ho : c % 2 = 1) (q d : Nat) (h : c * 2 ^ n = q * 2 ^ (n + 1 + d)) : False := by
  rw [Nat.add_assoc, Nat.pow_add, ← Nat.mul_assoc, Nat.mul_right_comm] at h
  have := Nat.eq_of_mul_eq_mul_right (Nat.two_pow_pos _) h
  rw [Nat.add_comm 1 d, Nat.pow_succ, ← Nat.mul_assoc] at this
  omega

theorem feqP (a b : Nat) (ha : a < 9218868437227405312) (hb : b < 9218868437227405312) : feq a b = decide (a = b) := by
  have n1 : nanD a = false := by cases e : nanD a; rfl; have := (nanD_iff a).1 e; omega
  have n2 : nanD b = false := by cases e : nanD b; rfl; have := (nanD_iff b).1 e; omega
  unfold feq
  rw [n1, n2, keyD_eq a (by omega), keyD_eq b (by omega), if_pos (by omega), if_pos (by omega)]
  simp <;> omega
theorem fltP (a b : Nat) (ha : a ≤ 9218868437227405312) (hb : b ≤ 9218868437227405312) : flt a b = decide (a < b) := by
  have n1 : nanD a = false := by cases e : nanD a; rfl; have := (nanD_iff a).1 e; omega
  have n2 : nanD b = false := by cases e : nanD b; rfl; have := (nanD_iff b).1 e; omega
  unfold flt
  rw [n1, n2, keyD_eq a (by omega), keyD_eq b (by omega), if_pos (by omega), if_pos (by omega)]
  simp

theorem od_less {c j r : Nat} (h : OD c j r) (ho : c % 2 = 1) (hc : c < 9007199254740992) (hr : r < 4845873199050653696) :
    ∃ q : Nat, (double.read r).toInt .zero = some (q : Int) ∧ q < 9007199254740992 ∧
      ((1074 ≤ j ∧ q = c * 2 ^ (j - 1074) ∧ feq r (floatOfInt .f64 (q : Int)) = true) ∨
       (j < 1074 ∧ feq r (floatOfInt .f64 (q : Int)) = false ∧ ∃ r', double.mul r 4611686018427387904 = some r' ∧ OD c (j + 1) r' ∧ r' < 4845873199050653696)) := by
  have h1 := (lt53 h).1 hr
  have hI := h.2.1
  rw [dI] at hI
  have hu : upR double r ≤ 1074 := by unfold upR; rw [dB]; split <;> omega
  have hp : 0 < 2 ^ 1074 := Nat.two_pow_pos 1074
  have e53 : (2 : Nat) ^ 53 = 9007199254740992 := by decide
  have hq : bigR double r / 2 ^ 1074 < 9007199254740992 := by
    have h2 := h1
    rw [← h.2.2] at h2
    have h3 := div_lt' _ _ _ hp h2
    omega
  refine ⟨bigR double r / 2 ^ 1074, toInt_big r hr, hq, ?_⟩
  have hfl : ∀ q : Nat, floatOfInt .f64 (q : Int) = double.nearest false q 0 := fun q => by
    show double.nearest (decide ((q : Int) < 0)) (q : Int).natAbs 0 = _
    rw [show decide ((q : Int) < 0) = false by simp, Int.natAbs_natCast]
  by_cases hj : 1074 ≤ j
  · left
    obtain ⟨d, rfl⟩ : ∃ d, j = d + 1074 := ⟨j - 1074, by omega⟩
    have hqe : bigR double r / 2 ^ 1074 = c * 2 ^ d := by
      rw [h.2.2, Nat.pow_add, ← Nat.mul_assoc, Nat.mul_div_cancel _ hp]
    rw [hqe] at hq ⊢
    rw [Nat.add_sub_cancel]
    refine ⟨by omega, rfl, ?_⟩
    have hc0 : 0 < c * 2 ^ d := Nat.mul_pos (by omega) (Nat.two_pow_pos _)
    obtain ⟨s, s1, s2, s3, s4⟩ := whole_rung (c * 2 ^ d) hc0 hq
    rw [hfl, s3]
    have : r = s := by
      rw [← bigR_eq double, s4, h.2.2, Nat.pow_add, Nat.mul_assoc]
    rw [this]
    rw [dI] at s2
    rw [feqP s s s2 s2]; simp
  · right
    refine ⟨by omega, ?_, ?_⟩
    · generalize hQ : bigR double r / 2 ^ 1074 = q at *
      rw [hfl]
      by_cases h0 : q = 0
      · subst h0
        rw [nearest_zero]
        show feq r 0 = false
        rw [feqP r 0 hI (by omega)]
        have := h.1
        simp; omega
      · obtain ⟨s, s1, s2, s3, s4⟩ := whole_rung q (by omega) hq
        rw [s3]
        rw [dI] at s2
        rw [feqP r s hI s2]
        simp only [decide_eq_false_iff_not]
        intro e
        subst e
        rw [h.2.2] at s4
        obtain ⟨d, hd⟩ : ∃ d, 1074 = j + 1 + d := ⟨1074 - j - 1, by omega⟩
        rw [hd] at s4
        exact odd_not c j ho q d s4
    · obtain ⟨r', h1', h2', h3'⟩ := big_pow r 1 h.1 (by omega)
      have hod : OD c (j + 1) r' := ⟨h1', h2', by rw [h3', h.2.2, Nat.mul_assoc, ← Nat.pow_add]⟩
      refine ⟨r', mul_pow false r r' 1 h.1 h.2.1 h1' h2' (by omega) h3', hod, ?_⟩
      rw [lt53 hod]
      have e1 : c * 2 ^ (j + 1) < 9007199254740992 * 2 ^ (j + 1) := Nat.mul_lt_mul_of_pos_right hc (Nat.two_pow_pos _)
      have e2 : 2 ^ 53 * 2 ^ (j + 1) ≤ 2 ^ 53 * 2 ^ 1074 := pr 53 (j + 1) 1074 (by omega)
      rw [e53] at e2 ⊢
      exact Nat.lt_of_lt_of_le e1 e2

/-- How many twos, and what is left. -/
def fuelN : Nat := 3000
def kOf (V : Nat) : Nat := Lib.ctzFrom fuelN V
def cOf (V : Nat) : Nat := V / 2 ^ kOf V

theorem odd_uniq (a b : Nat) : ∀ c d : Nat, c % 2 = 1 → d % 2 = 1 → c * 2 ^ a = d * 2 ^ b → a = b ∧ c = d := by
  intro c d hc hd h
  have key : ∀ a b c d : Nat, c % 2 = 1 → c * 2 ^ a = d * 2 ^ b → ¬ a < b := fun a b c d hc h hlt => by
    obtain ⟨e, rfl⟩ : ∃ e, b = a + 1 + e := ⟨b - a - 1, by omega⟩
    exact odd_not c a hc d e h
  have h1 := key a b c d hc h
  have h2 := key b a d c hd h.symm
  have e : a = b := by omega
  subst e
  exact ⟨rfl, Nat.eq_of_mul_eq_mul_right (Nat.two_pow_pos _) h⟩

theorem up_le (r : Nat) (h : r < double.infRung) : upR double r ≤ 2045 := by
  rw [dI] at h
  unfold upR; rw [dB]; split <;> omega

theorem big_odd (r : Nat) (h0 : 0 < r) (h : r < double.infRung) : OD (cOf (bigR double r)) (kOf (bigR double r)) r ∧ cOf (bigR double r) % 2 = 1 ∧ cOf (bigR double r) < 9007199254740992 ∧ kOf (bigR double r) < 2200 := by
  have hm := mag_pos double r h0
  have hl := magD_lt r
  have hu := up_le r h
  have hb0 : 0 < bigR double r := Nat.mul_pos hm (Nat.two_pow_pos _)
  have e53 : (2 : Nat) ^ 53 = 9007199254740992 := by decide
  have hb1 : bigR double r < 2 ^ fuelN := by
    unfold bigR
    have e1 : magR double r * 2 ^ upR double r < 2 ^ 53 * 2 ^ upR double r := Nat.mul_lt_mul_of_pos_right (by omega) (Nat.two_pow_pos _)
    rw [← Nat.pow_add] at e1
    exact Nat.lt_of_lt_of_le e1 (Nat.pow_le_pow_right (by decide) (by unfold fuelN; omega))
  obtain ⟨m, e, hk⟩ := Lib.ctzFrom_spec fuelN (bigR double r) hb0 hb1
  have hk' : Lib.ctzFrom fuelN (bigR double r) = kOf (bigR double r) := rfl
  rw [hk'] at e hk
  have hc : cOf (bigR double r) = 2 * m + 1 := by
    unfold cOf
    rw [show bigR double r / 2 ^ kOf (bigR double r) = 2 ^ kOf (bigR double r) * (2 * m + 1) / 2 ^ kOf (bigR double r) by rw [← e], Nat.mul_div_cancel_left _ (Nat.two_pow_pos _)]
  have hV : bigR double r = cOf (bigR double r) * 2 ^ kOf (bigR double r) := by rw [hc, Nat.mul_comm]; exact e
  have ho : cOf (bigR double r) % 2 = 1 := by omega
  obtain ⟨m2, e2, hk2⟩ := Lib.ctzFrom_spec 53 (magR double r) hm (by omega)
  generalize Lib.ctzFrom 53 (magR double r) = t at *
  have hV2 : bigR double r = (2 * m2 + 1) * 2 ^ (t + upR double r) := by
    unfold bigR
    rw [e2, Nat.pow_add, ← Nat.mul_assoc, Nat.mul_comm (2 * m2 + 1)]
  have hun := odd_uniq _ _ _ _ ho (by omega) (hV.symm.trans hV2)
  refine ⟨⟨h0, h, hV⟩, ho, ?_, by omega⟩
  rw [hun.2]
  have : 1 * (2 * m2 + 1) ≤ 2 ^ t * (2 * m2 + 1) := Nat.mul_le_mul_right _ (Nat.two_pow_pos _)
  omega

theorem od_uniq {c j r : Nat} (h : OD c j r) (ho : c % 2 = 1) : c = cOf (bigR double r) ∧ j = kOf (bigR double r) := by
  have hb := big_odd r h.1 h.2.1
  have := odd_uniq _ _ _ _ ho hb.2.1 (h.2.2.symm.trans hb.1.2.2)
  exact ⟨this.2, this.1⟩
end FL
end Go.Proofs.YtdmbpkcjladhdaaGreatDoor
