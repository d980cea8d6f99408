import Ieee.Arith
import Derived.Laws.FloatBits
namespace Go.Proofs.Ytbkdfhlbjaiahaa
namespace FL
open Ieee
set_option linter.unusedSimpArgs false
set_option linter.unusedVariables false

def magR (F : Format) (r : Nat) : Nat := if r < F.binade then r else F.binade + r % F.binade
def upR (F : Format) (r : Nat) : Nat := if r < F.binade then 0 else r / F.binade - 1
def bigR (F : Format) (r : Nat) : Nat := magR F r * 2 ^ upR F r

theorem binade_pos (F : Format) : 0 < F.binade := Nat.two_pow_pos _

theorem read_finite (F : Format) (x : Nat) (h : x % F.signWeight < F.infRung) :
    F.read x = .number (x / F.signWeight % 2 == 1) (magR F (x % F.signWeight)) (F.leastPlace + (upR F (x % F.signWeight) : Nat)) := by
  unfold Format.read magR upR
  dsimp only
  split
  · simp
  · rfl

theorem read_inf (F : Format) (x : Nat) (h : x % F.signWeight = F.infRung) (hb : F.binade ≤ F.infRung) : F.read x = .infinity (x / F.signWeight % 2 == 1) := by
  unfold Format.read
  dsimp only
  rw [if_neg (by omega), if_neg (by omega), if_pos h]

theorem read_nan (F : Format) (x : Nat) (h : F.infRung < x % F.signWeight) (hb : F.binade ≤ F.infRung) : F.read x = .nan (x / F.signWeight % 2 == 1) (x % F.signWeight - F.infRung) := by
  unfold Format.read
  dsimp only
  rw [if_neg (by omega), if_neg (by omega), if_neg (by omega)]

theorem bigR_succ (F : Format) (r : Nat) : bigR F r < bigR F (r + 1) := by
  have hb := binade_pos F
  unfold bigR magR upR
  generalize F.binade = b at *
  by_cases h1 : r + 1 < b
  · rw [if_pos (by omega), if_pos (by omega), if_pos h1, if_pos h1]; omega
  · by_cases h2 : r < b
    · have e : r + 1 = b := by omega
      rw [if_pos h2, if_pos h2, if_neg h1, if_neg h1, e, Nat.mod_self, Nat.div_self hb]
      simp; omega
    · rw [if_neg h2, if_neg h2, if_neg h1, if_neg h1]
      have hq : 1 ≤ r / b := (Nat.one_le_div_iff hb).2 (by omega)
      have hm := Nat.mod_lt r hb
      have hd := Nat.div_add_mod r b
      by_cases h3 : r % b + 1 < b
      · have e1 : (r + 1) / b = r / b := by
          rw [Nat.div_eq_iff hb]
          refine ⟨?_, ?_⟩
          · rw [Nat.mul_comm]; omega
          · rw [Nat.mul_comm]; omega
        have e2 : (r + 1) % b = r % b + 1 := by
          have := Nat.div_add_mod (r + 1) b
          rw [e1] at this; omega
        rw [e1, e2]
        exact Nat.mul_lt_mul_of_pos_right (by omega) (Nat.two_pow_pos _)
      · have e3 : r + 1 = b * (r / b + 1) := by rw [Nat.mul_add]; omega
        have e1 : (r + 1) / b = r / b + 1 := by rw [e3]; exact Nat.mul_div_cancel_left _ hb
        have e2 : (r + 1) % b = 0 := by rw [e3]; exact Nat.mul_mod_right _ _
        rw [e1, e2]
        have e4 : r / b + 1 - 1 = (r / b - 1) + 1 := by omega
        rw [e4, Nat.pow_succ, Nat.add_zero, Nat.mul_comm (2 ^ (r / b - 1)) 2, ← Nat.mul_assoc]
        exact Nat.mul_lt_mul_of_pos_right (by omega) (Nat.two_pow_pos _)

theorem bigR_mono (F : Format) (r s : Nat) (h : r < s) : bigR F r < bigR F s := by
  induction s with
  | zero => omega
  | succ s ih =>
    by_cases e : r = s
    · subst e; exact bigR_succ F r
    · exact Nat.lt_trans (ih (by omega)) (bigR_succ F s)

theorem bigR_lt (F : Format) (r s : Nat) : bigR F r < bigR F s ↔ r < s := by
  refine ⟨fun h => ?_, bigR_mono F r s⟩
  by_cases e : r = s
  · subst e; omega
  · by_cases g : s < r
    · have := bigR_mono F s r g; omega
    · omega

theorem bigR_eq (F : Format) (r s : Nat) : bigR F r = bigR F s ↔ r = s := by
  refine ⟨fun h => ?_, fun h => by rw [h]⟩
  have h1 := bigR_lt F r s
  have h2 := bigR_lt F s r
  omega

def keyW (F : Format) (x : Nat) : Int := if (x / F.signWeight % 2 == 1) = true then -((x % F.signWeight : Nat) : Int) else ((x % F.signWeight : Nat) : Int)
def nanW (F : Format) (x : Nat) : Bool := decide (F.infRung < x % F.signWeight)

theorem cmp_congr {a b c d : Int} (h1 : a < b ↔ c < d) (h2 : a = b ↔ c = d) : compare a b = compare c d := by
  show compareOfLessAndEq a b = compareOfLessAndEq c d
  unfold compareOfLessAndEq
  by_cases e1 : a < b
  · rw [if_pos e1, if_pos (h1.1 e1)]
  · rw [if_neg e1, if_neg (fun h => e1 (h1.2 h))]
    by_cases e2 : a = b
    · rw [if_pos e2, if_pos (h2.1 e2)]
    · rw [if_neg e2, if_neg (fun h => e2 (h2.2 h))]

theorem cmp_lt {a b : Int} (h : a < b) : compare a b = .lt := by
  show compareOfLessAndEq a b = _
  unfold compareOfLessAndEq; rw [if_pos h]
theorem cmp_gt {a b : Int} (h : b < a) : compare a b = .gt := by
  show compareOfLessAndEq a b = _
  unfold compareOfLessAndEq; rw [if_neg (by omega), if_neg (by omega)]
theorem cmp_eq {a b : Int} (h : a = b) : compare a b = .eq := by
  show compareOfLessAndEq a b = _
  unfold compareOfLessAndEq; rw [if_neg (by omega), if_pos h]

theorem cross (F : Format) (r s : Nat) :
    (magR F r * 2 ^ (upR F r - min (upR F r) (upR F s)) < magR F s * 2 ^ (upR F s - min (upR F r) (upR F s)) ↔ r < s) ∧
    (magR F r * 2 ^ (upR F r - min (upR F r) (upR F s)) = magR F s * 2 ^ (upR F s - min (upR F r) (upR F s)) ↔ r = s) := by
  have h1 : magR F r * 2 ^ (upR F r - min (upR F r) (upR F s)) * 2 ^ min (upR F r) (upR F s) = bigR F r := by
    unfold bigR; rw [Nat.mul_assoc, ← Nat.pow_add, Nat.sub_add_cancel (Nat.min_le_left _ _)]
  have h2 : magR F s * 2 ^ (upR F s - min (upR F r) (upR F s)) * 2 ^ min (upR F r) (upR F s) = bigR F s := by
    unfold bigR; rw [Nat.mul_assoc, ← Nat.pow_add, Nat.sub_add_cancel (Nat.min_le_right _ _)]
  rw [← bigR_lt F r s, ← bigR_eq F r s, ← h1, ← h2]
  have hp : 0 < 2 ^ min (upR F r) (upR F s) := Nat.two_pow_pos _
  exact ⟨(Nat.mul_lt_mul_right hp).symm, ⟨fun h => by rw [h], fun h => Nat.eq_of_mul_eq_mul_right hp h⟩⟩

theorem sgn_congr (s t : Bool) (A B r q : Nat) (h1 : A < B ↔ r < q) (h2 : A = B ↔ r = q) (hA : A = 0 ↔ r = 0) (hB : B = 0 ↔ q = 0) :
    compare (if s = true then -(A : Int) else (A : Int)) (if t = true then -(B : Int) else (B : Int)) = compare (if s = true then -(r : Int) else (r : Int)) (if t = true then -(q : Int) else (q : Int)) := by
  apply cmp_congr <;> cases s <;> cases t <;> simp <;> omega

theorem mag_zero (F : Format) (r : Nat) (k : Nat) : magR F r * 2 ^ k = 0 ↔ r = 0 := by
  have hb := binade_pos F
  have hp : 0 < 2 ^ k := Nat.two_pow_pos _
  rw [Nat.mul_eq_zero]
  unfold magR
  split <;> omega

theorem order_key (F : Format) (hb : F.binade ≤ F.infRung) (x y : Nat) (hx : nanW F x = false) (hy : nanW F y = false) :
    F.order x y = some (compare (keyW F x) (keyW F y)) := by
  unfold nanW at hx hy
  simp only [decide_eq_false_iff_not, Nat.not_lt] at hx hy
  unfold Format.order keyW
  by_cases ex : x % F.signWeight = F.infRung
  · rw [read_inf F x ex hb]
    by_cases ey : y % F.signWeight = F.infRung
    · rw [read_inf F y ey hb, ex, ey]
      have hp : 0 < F.infRung := Nat.lt_of_lt_of_le (binade_pos F) hb
      generalize (x / F.signWeight % 2 == 1) = s
      generalize (y / F.signWeight % 2 == 1) = t
      cases s <;> cases t <;> simp only [Datum.order, Bool.toNat_true, Bool.toNat_false]
      · rw [cmp_eq (by simp)]; rfl
      · rw [cmp_gt (by simp; omega)]; rfl
      · rw [cmp_lt (by simp; omega)]; rfl
      · rw [cmp_eq (by simp)]; rfl
    · rw [read_finite F y (by omega), ex]
      have hp : 0 < F.infRung := Nat.lt_of_lt_of_le (binade_pos F) hb
      generalize (x / F.signWeight % 2 == 1) = s
      generalize (y / F.signWeight % 2 == 1) = t
      cases s <;> cases t <;> simp only [Datum.order]
      · rw [cmp_gt (by simp; omega)]; rfl
      · rw [cmp_gt (by simp; omega)]; rfl
      · rw [cmp_lt (by simp; omega)]; rfl
      · rw [cmp_lt (by simp; omega)]; rfl
  · rw [read_finite F x (by omega)]
    by_cases ey : y % F.signWeight = F.infRung
    · rw [read_inf F y ey hb, ey]
      have hp : 0 < F.infRung := Nat.lt_of_lt_of_le (binade_pos F) hb
      generalize (x / F.signWeight % 2 == 1) = s
      generalize (y / F.signWeight % 2 == 1) = t
      cases s <;> cases t <;> simp only [Datum.order]
      · rw [cmp_lt (by simp; omega)]; rfl
      · rw [cmp_gt (by simp; omega)]; rfl
      · rw [cmp_lt (by simp; omega)]; rfl
      · rw [cmp_gt (by simp; omega)]; rfl
    · rw [read_finite F y (by omega)]
      generalize hs : (x / F.signWeight % 2 == 1) = s
      generalize ht : (y / F.signWeight % 2 == 1) = t
      generalize x % F.signWeight = r at *
      generalize y % F.signWeight = q at *
      simp only [Datum.order, signed, Nat.shiftLeft_eq]
      have e1 : (F.leastPlace + (upR F r : Nat) - min (F.leastPlace + (upR F r : Nat)) (F.leastPlace + (upR F q : Nat))).toNat = upR F r - min (upR F r) (upR F q) := by omega
      have e2 : (F.leastPlace + (upR F q : Nat) - min (F.leastPlace + (upR F r : Nat)) (F.leastPlace + (upR F q : Nat))).toNat = upR F q - min (upR F r) (upR F q) := by omega
      rw [e1, e2]
      have hc := cross F r q
      exact congrArg some (sgn_congr s t _ _ r q hc.1 hc.2 (mag_zero F _ _) (mag_zero F _ _))

theorem order_nan_left (F : Format) (hb : F.binade ≤ F.infRung) (x y : Nat) (hx : nanW F x = true) : F.order x y = none := by
  unfold nanW at hx
  simp only [decide_eq_true_eq] at hx
  unfold Format.order
  rw [read_nan F x hx hb]; rfl
theorem order_nan_right (F : Format) (hb : F.binade ≤ F.infRung) (x y : Nat) (hy : nanW F y = true) : F.order x y = none := by
  unfold nanW at hy
  simp only [decide_eq_true_eq] at hy
  unfold Format.order
  rw [read_nan F y hy hb]
  cases F.read x <;> rfl
end FL
end Go.Proofs.Ytbkdfhlbjaiahaa
