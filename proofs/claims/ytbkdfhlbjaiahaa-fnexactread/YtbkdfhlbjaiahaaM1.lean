import Derived.Test.YtbkdfhlbjaiahaaRows
import Derived.WalkKit
import Derived.WalkSpells
import Derived.WalkLawsBesides
import Derived.Outline
import Derived.Deep.Light
import Ieee.Arith
import Derived.Laws.FloatBits
import Derived.Laws.FloatArith
import Derived.Laws.ComplexArith
import Derived.Laws.Externs
import Derived.Deep.QuietTactic
import Derived.BigQuiet
import Derived.Deep.RegionWith
import Derived.BigRegion
import Derived.OwnWalk
import Derived.Carry
import Derived.ChangeSlices
import Derived.ChangeAlike
import Derived.RegionTactic
import Derived.Deep.RegionHeld3
import Derived.ProofKit
import Derived.OpenShut
import Derived.Deep.Slices
import Derived.Deep.Strs
import Derived.Lib.SmallJoins
namespace Go.Proofs.Ytbkdfhlbjaiahaa
open Go.RowKit
set_option linter.unusedSimpArgs false
set_option linter.unusedVariables false

def kindL (dt : Int) : Int :=
  if dt = 1 then 0 else if 2 ≤ dt ∧ dt ≤ 6 then 1 else if dt = 7 ∨ dt = 8 then 2 else if dt = 9 then 3 else -1
def isDtB (dt : Int) : Bool := decide (1 ≤ dt ∧ dt ≤ 9)
def skindL (dt : Int) : Int := if dt = 1 then 0 else if dt ≤ 6 then 1 else if dt ≤ 8 then 2 else 3
def bytesL (dt : Int) : Int := if 1 ≤ dt ∧ dt ≤ 3 then 1 else if dt = 4 then 2 else if dt = 5 ∨ dt = 7 then 4 else if dt = 9 then 16 else 8

theorem ret_int {k : IntKind} {a b : Int} (h : a = b) : Ending.returned (.int k a) = .returned (.int k b) := by rw [h]
theorem ret_bool {a b : Bool} (h : a = b) : Ending.returned (.bool a) = .returned (.bool b) := by rw [h]

theorem kind_neg (dt : Int) : (kindL dt != -1) = isDtB dt := by
  unfold kindL isDtB
  rw [Bool.eq_iff_iff]; simp only [bne_iff_ne, decide_eq_true_eq]
  repeat' split
  all_goals omega

set_option maxHeartbeats 400000 in
theorem kindOf_any (dt : Int) (w : World) :
    Calls Try.prog 65 #[.int .i64 dt] w fun e w' => e = .returned (.int .i64 (kindL dt)) ∧ w' = w := by
  go_enter Try.func65, Try.ntmps65
  go_wp2
  all_goals go_ret
  all_goals refine ⟨ret_int ?_, rfl⟩
  all_goals (unfold kindL; simp only [beq_iff_eq, beq_eq_false_iff_ne, ne_eq] at *; repeat' split)
  all_goals omega

set_option maxHeartbeats 400000 in
theorem isDType_any (dt : Int) (w : World) :
    Calls Try.prog 46 #[.int .i64 dt] w fun e w' => e = .returned (.bool (isDtB dt)) ∧ w' = w := by
  go_enter Try.func46, Try.ntmps46
  go_wp2_with (go_at_call 65; refine (kindOf_any _ _).mono ?_; rintro e w' ⟨rfl, rfl⟩)
  go_ret
  exact ⟨ret_bool (kind_neg dt), rfl⟩

set_option maxHeartbeats 400000 in
theorem l1IsDType_any (dt : Int) (w : World) :
    Calls Try.prog 24 #[.int .i64 dt] w fun e w' => e = .returned (.bool (isDtB dt)) ∧ w' = w := by
  go_enter Try.func24, Try.ntmps24
  go_wp2
  all_goals go_ret
  all_goals (refine ⟨ret_bool ?_, rfl⟩; unfold isDtB; rw [Bool.eq_iff_iff]; simp only [decide_eq_true_eq, Bool.false_eq_true, false_iff]; omega)

set_option maxHeartbeats 400000 in
theorem l1Kind_any (dt : Int) (w : World) :
    Calls Try.prog 40 #[.int .i64 dt] w fun e w' => e = .returned (.int .i64 (skindL dt)) ∧ w' = w := by
  go_enter Try.func40, Try.ntmps40
  go_wp2
  all_goals go_ret
  all_goals refine ⟨ret_int ?_, rfl⟩
  all_goals (unfold skindL; simp only [beq_iff_eq, beq_eq_false_iff_ne, ne_eq] at *; repeat' split)
  all_goals omega

def promL (a b : Int) : Int :=
  if ¬ (1 ≤ a ∧ a ≤ 9) ∨ ¬ (1 ≤ b ∧ b ≤ 9) then 0
  else if min a b = 2 ∧ max a b = 3 then 4
  else if max a b = 7 ∧ (min a b = 5 ∨ min a b = 6) then 8
  else max a b


end Go.Proofs.Ytbkdfhlbjaiahaa
namespace Go.Proofs.Ytbkdfhlbjaiahaa
open Go.RowKit
set_option linter.unusedSimpArgs false
set_option linter.unusedVariables false

theorem skind_eq (dt : Int) (h : 1 ≤ dt ∧ dt ≤ 9) : skindL dt = kindL dt := by unfold skindL kindL; omega

def castL (f t r : Int) : Bool :=
  decide ((1 ≤ f ∧ f ≤ 9) ∧ (1 ≤ t ∧ t ≤ 9) ∧ ((r = 0 ∧ promL f t = t) ∨ (r = 1 ∧ (promL f t = t ∨ kindL f ≤ kindL t)) ∨ r = 2))

end Go.Proofs.Ytbkdfhlbjaiahaa
namespace Go.Proofs.Ytbkdfhlbjaiahaa
namespace FL
open Ieee
set_option linter.unusedSimpArgs false
set_option linter.unusedVariables false

def magR (F : Format) (r : Nat) : Nat := if r < F.binade then r else F.binade + r % F.binade
def upR (F : Format) (r : Nat) : Nat := if r < F.binade then 0 else r / F.binade - 1
def bigR (F : Format) (r : Nat) : Nat := magR F r * 2 ^ upR F r

theorem binade_pos (F : Format) : 0 < F.binade := Nat.two_pow_pos _

theorem read_finite (F : Format) (x : Nat) (h : x % F.signWeight < F.infRung) :
    F.read x = .number (x / F.signWeight % 2 == 1) (magR F (x % F.signWeight)) (F.leastPlace + (upR F (x % F.signWeight) : Nat)) := by
  unfold Format.read magR upR
  dsimp only
  split
  · simp
  · rfl

theorem read_inf (F : Format) (x : Nat) (h : x % F.signWeight = F.infRung) (hb : F.binade ≤ F.infRung) : F.read x = .infinity (x / F.signWeight % 2 == 1) := by
  unfold Format.read
  dsimp only
  rw [if_neg (by omega), if_neg (by omega), if_pos h]

theorem read_nan (F : Format) (x : Nat) (h : F.infRung < x % F.signWeight) (hb : F.binade ≤ F.infRung) : F.read x = .nan (x / F.signWeight % 2 == 1) (x % F.signWeight - F.infRung) := by
  unfold Format.read
  dsimp only
  rw [if_neg (by omega), if_neg (by omega), if_neg (by omega)]

theorem bigR_succ (F : Format) (r : Nat) : bigR F r < bigR F (r + 1) := by
  have hb := binade_pos F
  unfold bigR magR upR
  generalize F.binade = b at *
  by_cases h1 : r + 1 < b
  · rw [if_pos (by omega), if_pos (by omega), if_pos h1, if_pos h1]; omega
  · by_cases h2 : r < b
    · have e : r + 1 = b := by omega
      rw [if_pos h2, if_pos h2, if_neg h1, if_neg h1, e, Nat.mod_self, Nat.div_self hb]
      simp; omega
    · rw [if_neg h2, if_neg h2, if_neg h1, if_neg h1]
      have hq : 1 ≤ r / b := (Nat.one_le_div_iff hb).2 (by omega)
      have hm := Nat.mod_lt r hb
      have hd := Nat.div_add_mod r b
      by_cases h3 : r % b + 1 < b
      · have e1 : (r + 1) / b = r / b := by
          rw [Nat.div_eq_iff hb]
          refine ⟨?_, ?_⟩
          · rw [Nat.mul_comm]; omega
          · rw [Nat.mul_comm]; omega
        have e2 : (r + 1) % b = r % b + 1 := by
          have := Nat.div_add_mod (r + 1) b
          rw [e1] at this; omega
        rw [e1, e2]
        exact Nat.mul_lt_mul_of_pos_right (by omega) (Nat.two_pow_pos _)
      · have e3 : r + 1 = b * (r / b + 1) := by rw [Nat.mul_add]; omega
        have e1 : (r + 1) / b = r / b + 1 := by rw [e3]; exact Nat.mul_div_cancel_left _ hb
        have e2 : (r + 1) % b = 0 := by rw [e3]; exact Nat.mul_mod_right _ _
        rw [e1, e2]
        have e4 : r / b + 1 - 1 = (r / b - 1) + 1 := by omega
        rw [e4, Nat.pow_succ, Nat.add_zero, Nat.mul_comm (2 ^ (r / b - 1)) 2, ← Nat.mul_assoc]
        exact Nat.mul_lt_mul_of_pos_right (by omega) (Nat.two_pow_pos _)

theorem bigR_mono (F : Format) (r s : Nat) (h : r < s) : bigR F r < bigR F s := by
  induction s with
  | zero => omega
  | succ s ih =>
    by_cases e : r = s
    · subst e; exact bigR_succ F r
    · exact Nat.lt_trans (ih (by omega)) (bigR_succ F s)

theorem bigR_lt (F : Format) (r s : Nat) : bigR F r < bigR F s ↔ r < s := by
  refine ⟨fun h => ?_, bigR_mono F r s⟩
  by_cases e : r = s
  · subst e; omega
  · by_cases g : s < r
    · have := bigR_mono F s r g; omega
    · omega

theorem bigR_eq (F : Format) (r s : Nat) : bigR F r = bigR F s ↔ r = s := by
  refine ⟨fun h => ?_, fun h => by rw [h]⟩
  have h1 := bigR_lt F r s
  have h2 := bigR_lt F s r
  omega

def keyW (F : Format) (x : Nat) : Int := if (x / F.signWeight % 2 == 1) = true then -((x % F.signWeight : Nat) : Int) else ((x % F.signWeight : Nat) : Int)
def nanW (F : Format) (x : Nat) : Bool := decide (F.infRung < x % F.signWeight)

theorem cmp_congr {a b c d : Int} (h1 : a < b ↔ c < d) (h2 : a = b ↔ c = d) : compare a b = compare c d := by
  show compareOfLessAndEq a b = compareOfLessAndEq c d
  unfold compareOfLessAndEq
  by_cases e1 : a < b
  · rw [if_pos e1, if_pos (h1.1 e1)]
  · rw [if_neg e1, if_neg (fun h => e1 (h1.2 h))]
    by_cases e2 : a = b
    · rw [if_pos e2, if_pos (h2.1 e2)]
    · rw [if_neg e2, if_neg (fun h => e2 (h2.2 h))]

theorem cmp_lt {a b : Int} (h : a < b) : compare a b = .lt := by
  show compareOfLessAndEq a b = _
  unfold compareOfLessAndEq; rw [if_pos h]
theorem cmp_gt {a b : Int} (h : b < a) : compare a b = .gt := by
  show compareOfLessAndEq a b = _
  unfold compareOfLessAndEq; rw [if_neg (by omega), if_neg (by omega)]
theorem cmp_eq {a b : Int} (h : a = b) : compare a b = .eq := by
  show compareOfLessAndEq a b = _
  unfold compareOfLessAndEq; rw [if_neg (by omega), if_pos h]

theorem cross (F : Format) (r s : Nat) :
    (magR F r * 2 ^ (upR F r - min (upR F r) (upR F s)) < magR F s * 2 ^ (upR F s - min (upR F r) (upR F s)) ↔ r < s) ∧
    (magR F r * 2 ^ (upR F r - min (upR F r) (upR F s)) = magR F s * 2 ^ (upR F s - min (upR F r) (upR F s)) ↔ r = s) := by
  have h1 : magR F r * 2 ^ (upR F r - min (upR F r) (upR F s)) * 2 ^ min (upR F r) (upR F s) = bigR F r := by
    unfold bigR; rw [Nat.mul_assoc, ← Nat.pow_add, Nat.sub_add_cancel (Nat.min_le_left _ _)]
  have h2 : magR F s * 2 ^ (upR F s - min (upR F r) (upR F s)) * 2 ^ min (upR F r) (upR F s) = bigR F s := by
    unfold bigR; rw [Nat.mul_assoc, ← Nat.pow_add, Nat.sub_add_cancel (Nat.min_le_right _ _)]
  rw [← bigR_lt F r s, ← bigR_eq F r s, ← h1, ← h2]
  have hp : 0 < 2 ^ min (upR F r) (upR F s) := Nat.two_pow_pos _
  exact ⟨(Nat.mul_lt_mul_right hp).symm, ⟨fun h => by rw [h], fun h => Nat.eq_of_mul_eq_mul_right hp h⟩⟩

theorem sgn_congr (s t : Bool) (A B r q : Nat) (h1 : A < B ↔ r < q) (h2 : A = B ↔ r = q) (hA : A = 0 ↔ r = 0) (hB : B = 0 ↔ q = 0) :
    compare (if s = true then -(A : Int) else (A : Int)) (if t = true then -(B : Int) else (B : Int)) = compare (if s = true then -(r : Int) else (r : Int)) (if t = true then -(q : Int) else (q : Int)) := by
  apply cmp_congr <;> cases s <;> cases t <;> simp <;> omega

theorem mag_zero (F : Format) (r : Nat) (k : Nat) : magR F r * 2 ^ k = 0 ↔ r = 0 := by
  have hb := binade_pos F
  have hp : 0 < 2 ^ k := Nat.two_pow_pos _
  rw [Nat.mul_eq_zero]
  unfold magR
  split <;> omega

theorem order_key (F : Format) (hb : F.binade ≤ F.infRung) (x y : Nat) (hx : nanW F x = false) (hy : nanW F y = false) :
    F.order x y = some (compare (keyW F x) (keyW F y)) := by
  unfold nanW at hx hy
  simp only [decide_eq_false_iff_not, Nat.not_lt] at hx hy
  unfold Format.order keyW
  by_cases ex : x % F.signWeight = F.infRung
  · rw [read_inf F x ex hb]
    by_cases ey : y % F.signWeight = F.infRung
    · rw [read_inf F y ey hb, ex, ey]
      have hp : 0 < F.infRung := Nat.lt_of_lt_of_le (binade_pos F) hb
      generalize (x / F.signWeight % 2 == 1) = s
      generalize (y / F.signWeight % 2 == 1) = t
      cases s <;> cases t <;> simp only [Datum.order, Bool.toNat_true, Bool.toNat_false]
      · rw [cmp_eq (by simp)]; rfl
      · rw [cmp_gt (by simp; omega)]; rfl
      · rw [cmp_lt (by simp; omega)]; rfl
      · rw [cmp_eq (by simp)]; rfl
    · rw [read_finite F y (by omega), ex]
      have hp : 0 < F.infRung := Nat.lt_of_lt_of_le (binade_pos F) hb
      generalize (x / F.signWeight % 2 == 1) = s
      generalize (y / F.signWeight % 2 == 1) = t
      cases s <;> cases t <;> simp only [Datum.order]
      · rw [cmp_gt (by simp; omega)]; rfl
      · rw [cmp_gt (by simp; omega)]; rfl
      · rw [cmp_lt (by simp; omega)]; rfl
      · rw [cmp_lt (by simp; omega)]; rfl
  · rw [read_finite F x (by omega)]
    by_cases ey : y % F.signWeight = F.infRung
    · rw [read_inf F y ey hb, ey]
      have hp : 0 < F.infRung := Nat.lt_of_lt_of_le (binade_pos F) hb
      generalize (x / F.signWeight % 2 == 1) = s
      generalize (y / F.signWeight % 2 == 1) = t
      cases s <;> cases t <;> simp only [Datum.order]
      · rw [cmp_lt (by simp; omega)]; rfl
      · rw [cmp_gt (by simp; omega)]; rfl
      · rw [cmp_lt (by simp; omega)]; rfl
      · rw [cmp_gt (by simp; omega)]; rfl
    · rw [read_finite F y (by omega)]
      generalize hs : (x / F.signWeight % 2 == 1) = s
      generalize ht : (y / F.signWeight % 2 == 1) = t
      generalize x % F.signWeight = r at *
      generalize y % F.signWeight = q at *
      simp only [Datum.order, signed, Nat.shiftLeft_eq]
      have e1 : (F.leastPlace + (upR F r : Nat) - min (F.leastPlace + (upR F r : Nat)) (F.leastPlace + (upR F q : Nat))).toNat = upR F r - min (upR F r) (upR F q) := by omega
      have e2 : (F.leastPlace + (upR F q : Nat) - min (F.leastPlace + (upR F r : Nat)) (F.leastPlace + (upR F q : Nat))).toNat = upR F q - min (upR F r) (upR F q) := by omega
      rw [e1, e2]
      have hc := cross F r q
      exact congrArg some (sgn_congr s t _ _ r q hc.1 hc.2 (mag_zero F _ _) (mag_zero F _ _))

theorem order_nan_left (F : Format) (hb : F.binade ≤ F.infRung) (x y : Nat) (hx : nanW F x = true) : F.order x y = none := by
  unfold nanW at hx
  simp only [decide_eq_true_eq] at hx
  unfold Format.order
  rw [read_nan F x hx hb]; rfl
theorem order_nan_right (F : Format) (hb : F.binade ≤ F.infRung) (x y : Nat) (hy : nanW F y = true) : F.order x y = none := by
  unfold nanW at hy
  simp only [decide_eq_true_eq] at hy
  unfold Format.order
  rw [read_nan F y hy hb]
  cases F.read x <;> rfl
end FL
end Go.Proofs.Ytbkdfhlbjaiahaa
namespace Go.Proofs.Ytbkdfhlbjaiahaa
namespace FL
open Ieee
set_option linter.unusedSimpArgs false
set_option linter.unusedVariables false

theorem log2_mul (m k : Nat) (h : 0 < m) : (m * 2 ^ k).log2 = m.log2 + k := by
  have hm : m ≠ 0 := by omega
  have hp : 0 < 2 ^ k := Nat.two_pow_pos _
  have hn : m * 2 ^ k ≠ 0 := Nat.mul_ne_zero hm (by omega)
  rw [Nat.log2_eq_iff hn]
  have h1 := (Nat.log2_eq_iff (k := m.log2) hm).1 rfl
  refine ⟨?_, ?_⟩
  · rw [Nat.pow_add]; exact Nat.mul_le_mul_right _ h1.1
  · rw [show m.log2 + k + 1 = m.log2 + 1 + k by omega, Nat.pow_add]; exact Nat.mul_lt_mul_of_pos_right h1.2 hp

/-- A cut of a multiple is exact. -/
theorem cut_exact (way : Toward) (neg : Bool) (m k : Nat) (h : 0 < m) : way.cut neg (m * 2 ^ k) k = m := by
  unfold Toward.cut
  have hl := log2_mul m k h
  have hmin : min k ((m * 2 ^ k).log2 + 2) = k := by omega
  rw [hmin]
  have hp : 0 < 2 ^ k := Nat.two_pow_pos _
  simp only [Nat.shiftLeft_eq, Nat.one_mul, Nat.mul_div_cancel _ hp, Nat.mul_mod_left]
  cases way <;> simp

theorem mag_normal (F : Format) (r : Nat) (h : F.binade ≤ r) : (magR F r).log2 = F.fractionBits := by
  have hb := binade_pos F
  have hm := Nat.mod_lt r hb
  unfold magR
  rw [if_neg (by omega)]
  have hb2 : F.binade = 2 ^ F.fractionBits := rfl
  rw [Nat.log2_eq_iff (by omega), Nat.pow_succ]
  omega

theorem mag_sub (F : Format) (r : Nat) (h0 : 0 < r) (h : r < F.binade) : (magR F r).log2 ≤ F.fractionBits := by
  unfold magR
  rw [if_pos h]
  have hb2 : F.binade = 2 ^ F.fractionBits := rfl
  have := (Nat.log2_lt (by omega : r ≠ 0) (k := F.fractionBits)).2 (by omega)
  omega

theorem mag_pos (F : Format) (r : Nat) (h0 : 0 < r) : 0 < magR F r := by
  have hb := binade_pos F
  unfold magR; split <;> omega

theorem last_eq (F : Format) (r : Nat) (h0 : 0 < r) :
    max (F.leastPlace + (upR F r : Nat) + ((magR F r).log2 : Nat) - F.fractionBits) F.leastPlace = F.leastPlace + (upR F r : Nat) := by
  by_cases h : r < F.binade
  · have := mag_sub F r h0 h
    have e : upR F r = 0 := by unfold upR; rw [if_pos h]
    rw [e]; omega
  · have := mag_normal F r (by omega)
    omega

theorem rung_eq (F : Format) (r : Nat) : upR F r * F.binade + magR F r = r := by
  have hb := binade_pos F
  unfold upR magR
  by_cases h : r < F.binade
  · rw [if_pos h, if_pos h]; omega
  · rw [if_neg h, if_neg h]
    have hq : 1 ≤ r / F.binade := (Nat.one_le_div_iff hb).2 (by omega)
    have hd := Nat.div_add_mod r F.binade
    obtain ⟨q, hq'⟩ : ∃ q, r / F.binade = q + 1 := ⟨r / F.binade - 1, by omega⟩
    rw [hq'] at hd ⊢
    rw [Nat.mul_add, Nat.mul_comm] at hd
    simp only [Nat.add_sub_cancel]
    omega

theorem nearest_up (F : Format) (neg : Bool) (r k : Nat) (h0 : 0 < r) (hi : r < F.infRung) :
    F.nearest neg (magR F r * 2 ^ k) (F.leastPlace + (upR F r : Nat) - k) = F.word neg r := by
  have hm := mag_pos F r h0
  have hp : 0 < 2 ^ k := Nat.two_pow_pos _
  unfold Format.nearest
  rw [if_neg (Nat.mul_ne_zero (by omega) (by omega))]
  dsimp only
  rw [log2_mul _ _ hm]
  have e0 := last_eq F r h0
  have e1 : max (F.leastPlace + (upR F r : Nat) - (k : Int) + ((magR F r).log2 + k : Nat) - F.fractionBits) F.leastPlace = F.leastPlace + (upR F r : Nat) := by
    rw [← e0]; congr 1; omega
  rw [e1]
  have e2 : (F.leastPlace + (upR F r : Nat) - (k : Int) - (F.leastPlace + (upR F r : Nat))).toNat = 0 := by omega
  have e3 : (F.leastPlace + (upR F r : Nat) - (F.leastPlace + (upR F r : Nat) - (k : Int))).toNat = k := by omega
  have e4 : (F.leastPlace + (upR F r : Nat) - F.leastPlace).toNat = upR F r := by omega
  rw [e2, e3, e4, Nat.shiftLeft_zero, cut_exact _ _ _ _ hm, rung_eq, Nat.min_eq_left (by omega)]

theorem nearest_down (F : Format) (neg : Bool) (r m k : Nat) (h0 : 0 < r) (hi : r < F.infRung) (hk : magR F r = m * 2 ^ k) :
    F.nearest neg m (F.leastPlace + (upR F r : Nat) + k) = F.word neg r := by
  have hm0 := mag_pos F r h0
  have hm : 0 < m := by
    cases m with
    | zero => omega
    | succ m => omega
  unfold Format.nearest
  rw [if_neg (by omega)]
  dsimp only
  have e0 := last_eq F r h0
  rw [hk, log2_mul _ _ hm] at e0
  have e1 : max (F.leastPlace + (upR F r : Nat) + (k : Int) + (m.log2 : Nat) - F.fractionBits) F.leastPlace = F.leastPlace + (upR F r : Nat) := by
    rw [← e0]; congr 1; omega
  rw [e1]
  have e2 : (F.leastPlace + (upR F r : Nat) + (k : Int) - (F.leastPlace + (upR F r : Nat))).toNat = k := by omega
  have e3 : (F.leastPlace + (upR F r : Nat) - (F.leastPlace + (upR F r : Nat) + (k : Int))).toNat = 0 := by omega
  have e4 : (F.leastPlace + (upR F r : Nat) - F.leastPlace).toNat = upR F r := by omega
  rw [e2, e3, e4, Nat.shiftLeft_eq, ← hk]
  have e5 := cut_exact .even neg (magR F r) 0 hm0
  rw [Nat.pow_zero, Nat.mul_one] at e5
  rw [e5, rung_eq, Nat.min_eq_left (by omega)]

theorem nearest_zero (F : Format) (neg : Bool) (p : Int) : F.nearest neg 0 p = F.word neg 0 := by
  unfold Format.nearest; rw [if_pos rfl]

/-- Of every number that fits the format there is a rung. -/
theorem has_rung (F : Format) (m : Nat) (p : Int) (h0 : 0 < m) (hm : m < 2 ^ (F.fractionBits + 1)) (hp : F.leastPlace ≤ p) :
    ∃ r k : Nat, 0 < r ∧ magR F r = m * 2 ^ k ∧ p = F.leastPlace + (upR F r : Nat) + k ∧ r < ((p - F.leastPlace).toNat + 2) * F.binade := by
  have hb := binade_pos F
  have hb2 : F.binade = 2 ^ F.fractionBits := rfl
  have hL := (Nat.log2_eq_iff (k := m.log2) (by omega : m ≠ 0)).1 rfl
  have hLf : m.log2 ≤ F.fractionBits := by
    have := (Nat.log2_lt (by omega : m ≠ 0) (k := F.fractionBits + 1)).2 hm
    omega
  obtain ⟨j, hj⟩ : ∃ j : Nat, p = F.leastPlace + j := ⟨(p - F.leastPlace).toNat, by omega⟩
  by_cases hn : F.fractionBits - m.log2 ≤ j
  · -- a normal rung
    generalize hd : F.fractionBits - m.log2 = d at *
    have h1 : F.binade ≤ m * 2 ^ d := by
      rw [hb2, show F.fractionBits = m.log2 + d by omega, Nat.pow_add]; exact Nat.mul_le_mul_right _ hL.1
    have h2 : m * 2 ^ d < 2 * F.binade := by
      rw [hb2, show F.fractionBits = m.log2 + d by omega, ← Nat.pow_succ', show (m.log2 + d).succ = m.log2 + 1 + d by omega, Nat.pow_add]
      exact Nat.mul_lt_mul_of_pos_right hL.2 (Nat.two_pow_pos _)
    refine ⟨(j - d) * F.binade + m * 2 ^ d, d, by omega, ?_, ?_, ?_⟩
    · unfold magR
      have hge : F.binade ≤ (j - d) * F.binade + m * 2 ^ d := by omega
      rw [if_neg (by omega), Nat.add_comm ((j - d) * F.binade), Nat.add_mul_mod_self_right]
      have : (m * 2 ^ d) % F.binade = m * 2 ^ d - F.binade := by
        rw [Nat.mod_eq_sub_mod h1]; exact Nat.mod_eq_of_lt (by omega)
      omega
    · unfold upR
      have hge : F.binade ≤ (j - d) * F.binade + m * 2 ^ d := by omega
      rw [if_neg (by omega), Nat.add_comm ((j - d) * F.binade), Nat.add_mul_div_right _ _ hb]
      have : m * 2 ^ d / F.binade = 1 := by
        rw [Nat.div_eq_iff hb]; omega
      rw [this]; omega
    · rw [hj]
      have e : (F.leastPlace + (j : Int) - F.leastPlace).toNat = j := by omega
      rw [e, Nat.add_mul]
      have : (j - d) * F.binade ≤ j * F.binade := Nat.mul_le_mul_right _ (by omega)
      omega
  · -- a subnormal one
    have h2 : m * 2 ^ j < F.binade := by
      rw [hb2]
      have : 2 ^ F.fractionBits = 2 ^ (m.log2 + 1 + j) * 2 ^ (F.fractionBits - (m.log2 + 1 + j)) := by
        rw [← Nat.pow_add]; congr 1; omega
      rw [this]
      refine Nat.lt_of_lt_of_le ?_ (Nat.le_mul_of_pos_right _ (Nat.two_pow_pos _))
      rw [Nat.pow_add]; exact Nat.mul_lt_mul_of_pos_right hL.2 (Nat.two_pow_pos _)
    have h3 : 0 < m * 2 ^ j := Nat.mul_pos h0 (Nat.two_pow_pos _)
    refine ⟨m * 2 ^ j, j, h3, ?_, ?_, ?_⟩
    · unfold magR; rw [if_pos h2]
    · unfold upR; rw [if_pos h2]; omega
    · have : F.binade ≤ ((p - F.leastPlace).toNat + 2) * F.binade := Nat.le_mul_of_pos_left _ (by omega)
      omega

theorem word_mod (F : Format) (neg : Bool) (r : Nat) (h : r < F.signWeight) : F.word neg r % F.signWeight = r ∧ (F.word neg r / F.signWeight % 2 == 1) = neg := by
  have hp : 0 < F.signWeight := Nat.two_pow_pos _
  unfold Format.word
  cases neg
  · simp only [Bool.false_eq_true, if_false]
    rw [Nat.mod_eq_of_lt h, Nat.div_eq_of_lt h]; exact ⟨rfl, rfl⟩
  · simp only [if_true]
    rw [Nat.add_mod_left, Nat.mod_eq_of_lt h, Nat.add_div_left _ hp, Nat.div_eq_of_lt h]; exact ⟨rfl, rfl⟩

theorem read_word (F : Format) (neg : Bool) (r : Nat) (h : r < F.infRung) : F.read (F.word neg r) = .number neg (magR F r) (F.leastPlace + (upR F r : Nat)) := by
  have hl := F.infRung_lt
  have hw := word_mod F neg r (by omega)
  rw [read_finite F _ (by rw [hw.1]; exact h), hw.1, hw.2]

theorem word_of (F : Format) (x : Nat) (h : x < 2 * F.signWeight) : F.word (x / F.signWeight % 2 == 1) (x % F.signWeight) = x := by
  have hp : 0 < F.signWeight := Nat.two_pow_pos _
  unfold Format.word
  by_cases hx : x < F.signWeight
  · rw [Nat.div_eq_of_lt hx, Nat.mod_eq_of_lt hx]; rfl
  · have e : x / F.signWeight = 1 := by rw [Nat.div_eq_iff hp]; omega
    have e2 : x % F.signWeight = x - F.signWeight := by rw [Nat.mod_eq_sub_mod (by omega)]; exact Nat.mod_eq_of_lt (by omega)
    rw [e, e2]; simp; omega

/-- What a number that fits is written and read as: the same number. -/
theorem write_read (F : Format) (neg : Bool) (m : Nat) (p : Int) (h0 : 0 < m) (hm : m < 2 ^ (F.fractionBits + 1)) (hp : F.leastPlace ≤ p) (hi : ((p - F.leastPlace).toNat + 2) * F.binade ≤ F.infRung) :
    ∃ r k : Nat, 0 < r ∧ r < F.infRung ∧ magR F r = m * 2 ^ k ∧ p = F.leastPlace + (upR F r : Nat) + k ∧ F.nearest neg m p = F.word neg r ∧ F.read (F.nearest neg m p) = .number neg (m * 2 ^ k) (p - k) := by
  obtain ⟨r, k, hr, hk, hpk, hlt⟩ := has_rung F m p h0 hm hp
  have hri : r < F.infRung := by omega
  have hn : F.nearest neg m p = F.word neg r := by rw [hpk]; exact nearest_down F neg r m k hr hri hk
  refine ⟨r, k, hr, hri, hk, hpk, hn, ?_⟩
  rw [hn, read_word F neg r hri, hk]
  congr 1; omega
end FL
end Go.Proofs.Ytbkdfhlbjaiahaa
namespace Go.Proofs.Ytbkdfhlbjaiahaa
namespace FL
open Ieee
set_option linter.unusedSimpArgs false
set_option linter.unusedVariables false

def nanD (x : Nat) : Bool := nanW double x
def nanS (x : Nat) : Bool := nanW single x
def keyD (x : Nat) : Int := keyW double x
def feq (x y : Nat) : Bool := !nanD x && !nanD y && decide (keyD x = keyD y)
def flt (x y : Nat) : Bool := !nanD x && !nanD y && decide (keyD x < keyD y)

theorem dW : double.signWeight = 9223372036854775808 := by decide
theorem dI : double.infRung = 9218868437227405312 := by decide
theorem dB : double.binade = 4503599627370496 := by decide
theorem dL : double.leastPlace = -1074 := by decide
theorem sW : single.signWeight = 2147483648 := by decide
theorem sI : single.infRung = 2139095040 := by decide
theorem sB : single.binade = 8388608 := by decide
theorem sL : single.leastPlace = -149 := by decide
theorem dBI : double.binade ≤ double.infRung := by decide
theorem sBI : single.binade ≤ single.infRung := by decide

theorem nanD_iff (x : Nat) : nanD x = true ↔ 9218868437227405312 < x % 9223372036854775808 := by
  unfold nanD nanW; rw [dW, dI]; simp
theorem nanS_iff (x : Nat) : nanS x = true ↔ 2139095040 < x % 2147483648 := by
  unfold nanS nanW; rw [sW, sI]; simp
theorem keyD_eq (x : Nat) (h : x < 18446744073709551616) : keyD x = if x < 9223372036854775808 then (x : Int) else 9223372036854775808 - (x : Int) := by
  unfold keyD keyW; rw [dW]
  simp only [beq_iff_eq]
  split <;> split <;> omega

theorem order_feq (x y : Nat) : (double.order x y == some .eq) = feq x y := by
  unfold feq
  cases hx : nanD x
  · cases hy : nanD y
    · rw [order_key double dBI x y hx hy]
      by_cases h : keyW double x = keyW double y
      · rw [cmp_eq h]; simp [keyD, h]
      · by_cases h2 : keyW double x < keyW double y
        · rw [cmp_lt h2]; simp [keyD, h]
        · rw [cmp_gt (by omega)]; simp [keyD, h]
    · rw [order_nan_right double dBI x y hy]; simp
  · rw [order_nan_left double dBI x y hx]; simp

theorem order_flt (x y : Nat) : (double.order x y == some .lt) = flt x y := by
  unfold flt
  cases hx : nanD x
  · cases hy : nanD y
    · rw [order_key double dBI x y hx hy]
      by_cases h : keyW double x = keyW double y
      · rw [cmp_eq h]; simp [keyD, h]
      · by_cases h2 : keyW double x < keyW double y
        · rw [cmp_lt h2]; simp [keyD, h2]
        · rw [cmp_gt (by omega)]; simp [keyD, h2]
    · rw [order_nan_right double dBI x y hy]; simp
  · rw [order_nan_left double dBI x y hx]; simp

theorem order_fgt (x y : Nat) : (double.order x y == some .gt) = flt y x := by
  unfold flt
  cases hx : nanD x
  · cases hy : nanD y
    · rw [order_key double dBI x y hx hy]
      by_cases h : keyW double x = keyW double y
      · rw [cmp_eq h]; simp [keyD, h]
      · by_cases h2 : keyW double x < keyW double y
        · have h3 : ¬ keyW double y < keyW double x := by omega
          rw [cmp_lt h2]; simp [keyD, h3]
        · have h3 : keyW double y < keyW double x := by omega
          rw [cmp_gt h3]; simp [keyD, h3, hx, hy]
    · rw [order_nan_right double dBI x y hy]; simp
  · rw [order_nan_left double dBI x y hx]; simp

theorem feq_self (x : Nat) : feq x x = !nanD x := by unfold feq; cases nanD x <;> simp

theorem key_inj (a b : Nat) (ha : a < 18446744073709551616) (hb : b < 18446744073709551616) (h : keyD a = keyD b) : a = b ∨ (a = 0 ∧ b = 9223372036854775808) ∨ (a = 9223372036854775808 ∧ b = 0) := by
  rw [keyD_eq a ha, keyD_eq b hb] at h
  split at h <;> split at h <;> omega

/-! ### single and double -/
def narrow (x : Nat) : Nat := single.write (double.read x)
def wide (u : Nat) : Nat := double.write (single.read u)
def over (x : Nat) : Bool := match double.read x with
  | .number .. => (single.read (narrow x)).isInfinity
  | _ => false
def sngB (x : Nat) : Bool := nanD x || (!over x && wide (narrow x) == x)

theorem mag_lt (F : Format) (r : Nat) : magR F r < 2 ^ (F.fractionBits + 1) := by
  have hb := binade_pos F
  have hm := Nat.mod_lt r hb
  have hb2 : F.binade = 2 ^ F.fractionBits := rfl
  unfold magR
  rw [Nat.pow_succ]
  split <;> omega

theorem upR_le (F : Format) (r n : Nat) (h : r < (n + 1) * F.binade) (hn : 0 < n) : upR F r ≤ n - 1 := by
  have hb := binade_pos F
  unfold upR
  split
  · omega
  · have : r / F.binade < n + 1 := (Nat.div_lt_iff_lt_mul hb).2 h
    omega

/-- A finite single that is not zero: what it is as a double, and back. -/
theorem wide_finite (u : Nat) (hu : u < 4294967296) (h0 : 0 < u % 2147483648) (h : u % 2147483648 < 2139095040) :
    ∃ r, 0 < r ∧ r < double.infRung ∧ wide u = double.word (u / 2147483648 % 2 == 1) r ∧ narrow (wide u) = u := by
  have hr := read_finite single u (by rw [sW, sI]; exact h)
  rw [sW] at hr
  have hup := upR_le single (u % 2147483648) 254 (by rw [sB]; omega) (by omega)
  have hml := mag_lt single (u % 2147483648)
  have hmp := mag_pos single _ h0
  have hf : (2 : Nat) ^ (single.fractionBits + 1) = 16777216 := by decide
  have hf2 : (2 : Nat) ^ (double.fractionBits + 1) = 9007199254740992 := by decide
  rw [hf] at hml
  generalize hneg : (u / 2147483648 % 2 == 1) = neg at *
  obtain ⟨r, k, hr0, hri, hk, hpk, hn, hrd⟩ := write_read double neg (magR single (u % 2147483648)) (single.leastPlace + (upR single (u % 2147483648) : Nat)) hmp (by rw [hf2]; omega)
    (by rw [dL, sL]; omega) (by rw [dL, sL, dB, dI]; omega)
  refine ⟨r, hr0, hri, ?_, ?_⟩
  · unfold wide; rw [hr]; exact hn
  · unfold narrow wide
    rw [hr]
    show single.write (double.read (double.nearest _ _ _)) = u
    rw [hrd]
    show single.nearest _ _ _ = u
    rw [nearest_up single neg (u % 2147483648) k h0 (by rw [sI]; exact h)]
    have := word_of single u (by rw [sW]; omega)
    rw [sW, hneg] at this
    exact this

theorem wide_zero (u : Nat) (hu : u < 4294967296) (h0 : u % 2147483648 = 0) : wide u = double.word (u / 2147483648 % 2 == 1) 0 ∧ narrow (wide u) = u := by
  have : u = 0 ∨ u = 2147483648 := by omega
  rcases this with rfl | rfl <;> decide

theorem wide_inf (u : Nat) (hu : u < 4294967296) (h0 : u % 2147483648 = 2139095040) : wide u = double.word (u / 2147483648 % 2 == 1) double.infRung ∧ narrow (wide u) = u := by
  have : u = 2139095040 ∨ u = 4286578688 := by omega
  rcases this with rfl | rfl <;> decide

theorem wide_lt (u : Nat) : wide u < 18446744073709551616 := double.write_lt _
theorem narrow_lt (u : Nat) : narrow u < 4294967296 := single.write_lt _

theorem word_cases (neg : Bool) (r : Nat) (h : r < 9223372036854775808) : double.word neg r % 9223372036854775808 = r := by
  have := (word_mod double neg r (by rw [dW]; exact h)).1
  rw [dW] at this; exact this

theorem wide_narrow (u : Nat) (hu : u < 4294967296) (hn : nanS u = false) : narrow (wide u) = u ∧ nanD (wide u) = false := by
  have hn' : ¬ 2139095040 < u % 2147483648 := fun h => by rw [(nanS_iff u).2 h] at hn; cases hn
  have key : ∀ x : Nat, x % 9223372036854775808 ≤ 9218868437227405312 → nanD x = false := fun x h => by
    cases e : nanD x
    · rfl
    · have := (nanD_iff x).1 e; omega
  by_cases h0 : u % 2147483648 = 0
  · have := wide_zero u hu h0
    refine ⟨this.2, key _ ?_⟩
    rw [this.1, word_cases _ _ (by omega)]; omega
  · by_cases hi : u % 2147483648 = 2139095040
    · have := wide_inf u hu hi
      refine ⟨this.2, key _ ?_⟩
      rw [this.1, word_cases _ _ (by rw [dI]; omega), dI]; omega
    · obtain ⟨r, h1, h2, h3, h4⟩ := wide_finite u hu (by omega) (by omega)
      rw [dI] at h2
      refine ⟨h4, key _ ?_⟩
      rw [h3, word_cases _ _ (by omega)]; omega

theorem over_wide (u : Nat) (hu : u < 4294967296) (hn : nanS u = false) : over (wide u) = false := by
  have hn' : ¬ 2139095040 < u % 2147483648 := fun h => by rw [(nanS_iff u).2 h] at hn; cases hn
  have hw := (wide_narrow u hu hn).1
  by_cases hi : u % 2147483648 = 2139095040
  · have : u = 2139095040 ∨ u = 4286578688 := by omega
    rcases this with rfl | rfl <;> decide
  · unfold over
    rw [hw, read_finite single u (by rw [sW, sI]; omega)]
    split <;> rfl

theorem nanS_narrow (x : Nat) (hx : nanD x = false) : nanS (narrow x) = false := by
  have hx' : ¬ 9218868437227405312 < x % 9223372036854775808 := fun h => by rw [(nanD_iff x).2 h] at hx; cases hx
  have key : ∀ y : Nat, y % 2147483648 ≤ 2139095040 → nanS y = false := fun y h => by
    cases e : nanS y
    · rfl
    · have := (nanS_iff y).1 e; omega
  have word : ∀ neg r, r ≤ 2139095040 → single.word neg r % 2147483648 ≤ 2139095040 := fun neg r h => by
    have := (word_mod single neg r (by rw [sW]; omega)).1
    rw [sW] at this; omega
  apply key
  unfold narrow
  by_cases hi : x % 9223372036854775808 = 9218868437227405312
  · rw [read_inf double x (by rw [dW, dI]; exact hi) dBI]
    show single.word _ single.infRung % _ ≤ _
    exact word _ _ (by rw [sI]; omega)
  · rw [read_finite double x (by rw [dW, dI]; omega)]
    show single.nearest _ _ _ % _ ≤ _
    unfold Format.nearest
    split
    · exact word _ _ (by omega)
    · refine word _ _ ?_
      rw [← sI]; exact Nat.min_le_right _ _

def SingleR (x r : Nat) : Prop :=
  r < 18446744073709551616 ∧ ((nanD x = true ∧ nanD r = true) ∨ (nanD x = false ∧ ∃ u, u < 4294967296 ∧ (over x = true ∨ u = narrow x) ∧ ((nanS u = true ∧ nanD r = true) ∨ (nanS u = false ∧ r = wide u))))

theorem singR_same {x r : Nat} (h : SingleR x r) (hs : sngB x = true) : (nanD x = true ∧ nanD r = true) ∨ (nanD x = false ∧ r = x) := by
  rcases h.2 with h1 | ⟨h1, u, hu, h2, h3⟩
  · exact Or.inl h1
  · right
    unfold sngB at hs
    simp only [h1, Bool.false_or, Bool.and_eq_true, Bool.not_eq_true', beq_iff_eq] at hs
    rcases h2 with h2 | h2
    · rw [hs.1] at h2; cases h2
    · rcases h3 with h3 | h3
      · rw [h2, nanS_narrow x h1] at h3; cases h3.1
      · exact ⟨h1, by rw [h3.2, h2, hs.2]⟩

theorem singR_not {x r : Nat} (hx : x < 18446744073709551616) (h : SingleR x r) (hs : sngB x = false) : nanD x = false ∧ feq r x = false := by
  unfold sngB at hs
  simp only [Bool.or_eq_false_iff] at hs
  refine ⟨hs.1, ?_⟩
  rcases h.2 with h1 | ⟨h1, u, hu, h2, h3⟩
  · rw [hs.1] at h1; cases h1.1
  · rcases h3 with h3 | h3
    · unfold feq; rw [h3.2]; rfl
    · cases e : feq r x
      · rfl
      · unfold feq at e
        simp only [Bool.and_eq_true, decide_eq_true_eq] at e
        have hi := key_inj r x h.1 hx e.2
        have hz : x = 0 ∨ x = 9223372036854775808 → False := by
          intro hz
          have : (!over x && wide (narrow x) == x) = true := by rcases hz with rfl | rfl <;> decide
          rw [this] at hs; cases hs.2
        have hrx : r = x := by
          rcases hi with hi | hi | hi
          · exact hi
          · exact (hz (Or.inr hi.2)).elim
          · exact (hz (Or.inl hi.2)).elim
        have hxw : x = wide u := by rw [← hrx]; exact h3.2
        have : (!over x && wide (narrow x) == x) = true := by
          rw [hxw, over_wide u hu h3.1, (wide_narrow u hu h3.1).1]; simp
        rw [this] at hs; cases hs.2

theorem singR_sng {x r : Nat} (h : SingleR x r) : sngB r = true := by
  have hw : ∀ u, u < 4294967296 → nanS u = false → sngB (wide u) = true := fun u hu hn => by
    unfold sngB
    rw [over_wide u hu hn, (wide_narrow u hu hn).1]; simp
  have hnan : nanD r = true → sngB r = true := fun e => by unfold sngB; rw [e]; rfl
  rcases h.2 with h1 | ⟨h1, u, hu, h2, h3⟩
  · exact hnan h1.2
  · rcases h3 with h3 | h3
    · exact hnan h3.2
    · rw [h3.2]; exact hw u hu h3.1

/-! ### minus one times -/
def flip (x : Nat) : Nat := if x < 9223372036854775808 then x + 9223372036854775808 else x - 9223372036854775808

theorem flip_word (x : Nat) (hx : x < 18446744073709551616) : double.word (!(x / 9223372036854775808 % 2 == 1)) (x % 9223372036854775808) = flip x := by
  unfold Format.word flip
  rw [dW]
  by_cases h : x < 9223372036854775808
  · have e : x / 9223372036854775808 % 2 = 0 := by omega
    rw [if_pos h, e]; simp; omega
  · have e : x / 9223372036854775808 % 2 = 1 := by omega
    rw [if_neg h, e]; simp; omega

theorem neg_mul (x : Nat) (hx : x < 18446744073709551616) (hn : nanD x = false) : double.mul 13830554455654793216 x = some (flip x) := by
  have hx' : ¬ 9218868437227405312 < x % 9223372036854775808 := fun h => by rw [(nanD_iff x).2 h] at hn; cases hn
  have hone : double.read 13830554455654793216 = .number true 4503599627370496 (-52) := by decide
  unfold Format.mul
  rw [hone, ← flip_word x hx]
  by_cases hi : x % 9223372036854775808 = 9218868437227405312
  · rw [read_inf double x (by rw [dW, dI]; exact hi) dBI, dW, hi]
    show some (double.word _ double.infRung) = _
    rw [dI]; cases (x / 9223372036854775808 % 2 == 1) <;> rfl
  · rw [read_finite double x (by rw [dW, dI]; omega), dW]
    show some (double.nearest _ _ _) = _
    congr 1
    by_cases h0 : x % 9223372036854775808 = 0
    · have hm : magR double (x % 9223372036854775808) = 0 := by rw [h0]; decide
      rw [hm, Nat.mul_zero, nearest_zero, h0]
      cases (x / 9223372036854775808 % 2 == 1) <;> rfl
    · have := nearest_up double (!(x / 9223372036854775808 % 2 == 1)) (x % 9223372036854775808) 52 (by omega) (by rw [dI]; omega)
      rw [← this]
      have e1 : (true ^^ (x / 9223372036854775808 % 2 == 1)) = !(x / 9223372036854775808 % 2 == 1) := by cases (x / 9223372036854775808 % 2 == 1) <;> rfl
      rw [e1, Nat.mul_comm]
      congr 1
      omega
end FL
end Go.Proofs.Ytbkdfhlbjaiahaa
namespace Go.Proofs.Ytbkdfhlbjaiahaa
open Go.RowKit FL
set_option linter.unusedSimpArgs false
set_option linter.unusedVariables false

@[go_sem] theorem run_store_float (P : Program) (w : World) (a : Addr) (m : Mode) (k : FloatKind) (b : Nat) : (store a (.float k b) m).run P w = stored P w a (.float k b) m := run_store P w a _ m rfl
@[go_sem] theorem run_store_complex (P : Program) (w : World) (a : Addr) (m : Mode) (k : FloatKind) (b c : Nat) : (store a (.complex k b c) m).run P w = stored P w a (.complex k b c) m := run_store P w a _ m rfl

def B64 (x : Nat) : Prop := x < 18446744073709551616
def hiB (x : Nat) : Bool := decide (9223372036854775808 ≤ x)
def mzB (x : Nat) : Bool := decide (x = 9223372036854775808)
def pzB (x : Nat) : Bool := decide (x = 0)
def sameB (a b : Nat) : Bool := (nanD a && nanD b) || (!nanD a && !nanD b && decide (a = b))

@[go_sem] theorem ord_eq (x y : Nat) : (FloatKind.f64.format.order x y == some Ordering.eq) = feq x y := order_feq x y
@[go_sem] theorem ord_ne (x y : Nat) : (FloatKind.f64.format.order x y != some Ordering.eq) = !feq x y := congrArg (!·) (order_feq x y)
@[go_sem] theorem ord_lt (x y : Nat) : (FloatKind.f64.format.order x y == some Ordering.lt) = flt x y := order_flt x y
@[go_sem] theorem ord_gt (x y : Nat) : (FloatKind.f64.format.order x y == some Ordering.gt) = flt y x := order_fgt x y
theorem ord_eq' (x y : Nat) : (FloatKind.f64.format.order x y = some Ordering.eq) ↔ feq x y = true := by rw [← ord_eq, beq_iff_eq]
theorem ord_lt' (x y : Nat) : (FloatKind.f64.format.order x y = some Ordering.lt) ↔ flt x y = true := by rw [← ord_lt, beq_iff_eq]
theorem ord_gt' (x y : Nat) : (FloatKind.f64.format.order x y = some Ordering.gt) ↔ flt y x = true := by rw [← ord_gt, beq_iff_eq]

theorem nan_zero : nanD 0 = false := by decide
theorem key_zero : keyD 0 = 0 := by decide

theorem feq_zero (x : Nat) (h : B64 x) : feq x 0 = (pzB x || mzB x) := by
  unfold B64 at h
  have hk := keyD_eq x h
  have hn := nanD_iff x
  unfold feq pzB mzB
  rw [nan_zero, key_zero, hk]
  cases e : nanD x
  · by_cases h0 : x = 0
    · subst h0; rfl
    · by_cases h1 : x = 9223372036854775808
      · subst h1; rfl
      · simp [h0, h1]; split <;> omega
  · have := hn.1 e
    have h0 : x ≠ 0 := by omega
    have h1 : x ≠ 9223372036854775808 := by omega
    simp [h0, h1]

theorem isNaN_any (f : Nat) (w : World) :
    Calls Try.prog 77 #[.float .f64 f] w fun e w' => e = .returned (.bool (nanD f)) ∧ w' = w := by
  go_enter Try.func77, Try.ntmps77
  go_wp2
  go_ret
  exact ⟨ret_bool (by rw [feq_self, Bool.not_not]), rfl⟩

theorem l1IsNaN_any (f : Nat) (w : World) :
    Calls Try.prog 61 #[.float .f64 f] w fun e w' => e = .returned (.bool (nanD f)) ∧ w' = w := by
  go_enter Try.func61, Try.ntmps61
  go_wp2
  go_ret
  exact ⟨ret_bool (by rw [feq_self, Bool.not_not]), rfl⟩

theorem run_float64bits (x : Nat) (w : World) : (callFunc 78 #[.float .f64 x]).run Try.prog w = .ok (.value (.int .u64 x)) w := by
  rw [run_callFunc_extern Try.func78 (by kernel_rfl) (by kernel_rfl) (by kernel_rfl) (e := Extern.MathFloatBits.float64bits) (by kernel_rfl)]; rfl
theorem wrap64_hi (f : Nat) (h : B64 f) : decide (wrap64 (f : Int) < 0) = hiB f := by
  unfold B64 at h
  unfold hiB
  rw [Bool.eq_iff_iff]
  simp only [decide_eq_true_eq, wrap64, IntKind.wrap_i64]
  omega

theorem signbit_any (f : Nat) (h : B64 f) (w : World) :
    Calls Try.prog 76 #[.float .f64 f] w fun e w' => e = .returned (.bool (hiB f)) ∧ w' = w := by
  have hb := run_float64bits f
  go_enter Try.func76, Try.ntmps76
  go_wp2
  go_ret
  exact ⟨ret_bool (wrap64_hi f h), rfl⟩

theorem hi_zero (f : Nat) (h : feq f 0 = true) (hf : B64 f) : (!hiB f) = pzB f := by
  rw [feq_zero f hf] at h
  unfold pzB mzB at h
  unfold hiB pzB
  simp only [Bool.or_eq_true, decide_eq_true_eq] at h
  rcases h with rfl | rfl <;> decide

theorem pz_not (f : Nat) (h : ¬ feq f 0 = true) (hf : B64 f) : pzB f = false ∧ mzB f = false := by
  rw [feq_zero f hf] at h
  simpa using h

theorem isPlusZero_any (f : Nat) (h : B64 f) (w : World) :
    Calls Try.prog 66 #[.float .f64 f] w fun e w' => e = .returned (.bool (pzB f)) ∧ w' = w := by
  by_cases hz : feq f 0 = true
  · have hh := hi_zero f hz h
    go_enter Try.func66, Try.ntmps66
    go_wp2_with (go_at_call 76; refine (signbit_any _ h _).mono ?_; rintro e w' ⟨rfl, rfl⟩)
    go_ret
    exact ⟨rfl, rfl⟩
  · have hh := pz_not f hz h
    simp only [Bool.not_eq_true] at hz
    go_enter Try.func66, Try.ntmps66
    go_wp2
    go_ret
    exact ⟨ret_bool hh.1.symm, rfl⟩

theorem l1Minus_any (f : Nat) (h : B64 f) (w : World) :
    Calls Try.prog 62 #[.float .f64 f] w fun e w' => e = .returned (.bool (mzB f)) ∧ w' = w := by
  have q1 := fun w => run_float_arith (P := Try.prog) w .quo 57 .f64 4607182418800017408 0 9218868437227405312 (by decide)
  have q2 := fun w => run_float_arith (P := Try.prog) w .quo 57 .f64 4607182418800017408 9223372036854775808 18442240474082181120 (by decide)
  by_cases hz : feq f 0 = true
  · have h2 := hz
    rw [feq_zero f h] at h2
    unfold pzB mzB at h2
    simp only [Bool.or_eq_true, decide_eq_true_eq] at h2
    rcases h2 with rfl | rfl
    · have l1 : flt 9218868437227405312 0 = false := by decide
      have l2 : mzB 0 = false := by decide
      go_enter Try.func62, Try.ntmps62
      go_wp2
      go_ret
      exact ⟨rfl, rfl⟩
    · have l1 : flt 18442240474082181120 0 = true := by decide
      have l2 : mzB 9223372036854775808 = true := by decide
      go_enter Try.func62, Try.ntmps62
      go_wp2
      go_ret
      exact ⟨rfl, rfl⟩
  · have hh := pz_not f hz h
    simp only [Bool.not_eq_true] at hz
    go_enter Try.func62, Try.ntmps62
    go_wp2
    go_ret
    exact ⟨ret_bool hh.2.symm, rfl⟩

theorem same_num (a b : Nat) (ha : B64 a) (hb : B64 b) (na : nanD a = false) (nb : nanD b = false) : (feq a b && (mzB a == mzB b)) = decide (a = b) := by
  unfold feq
  rw [na, nb]
  unfold B64 at ha hb
  rw [Bool.eq_iff_iff]
  unfold mzB
  simp only [Bool.not_false, Bool.true_and, Bool.and_eq_true, decide_eq_true_eq, beq_iff_eq, decide_eq_decide]
  rw [keyD_eq a ha, keyD_eq b hb]
  split <;> split <;> omega

theorem hide {p : Prop} (h : p) : Hid p := h

theorem l1SameFloat_any (a b : Nat) (ha : B64 a) (hb : B64 b) (w : World) :
    Calls Try.prog 43 #[.float .f64 a, .float .f64 b] w fun e w' => e = .returned (.bool (sameB a b)) ∧ w' = w := by
  have Hs := hide (same_num a b ha hb)
  go_enter Try.func43, Try.ntmps43
  go_wp2_with (first | (go_at_call 61; refine (l1IsNaN_any _ _).mono ?_; rintro e w' ⟨rfl, rfl⟩) | (go_at_call 62; refine (l1Minus_any _ ?_ _).mono ?_; assumption; rintro e w' ⟨rfl, rfl⟩))
  all_goals go_ret
  all_goals go_light
  all_goals refine ⟨ret_bool ?_, rfl⟩
  all_goals (unfold sameB; have hs := Hs.out)
  all_goals (simp_all; done)

theorem zero_cases (f : Nat) (h : B64 f) (hz : feq f 0 = true) : f = 0 ∨ f = 9223372036854775808 := by
  rw [feq_zero f h] at hz
  unfold pzB mzB at hz
  simpa using hz

theorem same_nz (a b : Nat) (ha : B64 a) (hb : B64 b) (na : nanD a = false) (nb : nanD b = false) (h : ¬ (feq a 0 = true ∧ feq b 0 = true)) : feq a b = sameB a b := by
  have h1 := same_num a b ha hb na nb
  unfold sameB
  rw [na, nb]
  simp only [Bool.and_self, Bool.false_or, Bool.not_false, Bool.true_and]
  rw [← h1]
  cases hf : feq a b
  · rfl
  · have hk : keyD a = keyD b := by
      unfold feq at hf
      rw [na, nb] at hf
      simpa using hf
    rcases key_inj a b ha hb hk with e | e | e
    · rw [e]; simp
    · exact (h (by rw [e.1, e.2]; decide)).elim
    · exact (h (by rw [e.1, e.2]; decide)).elim

set_option maxHeartbeats 1000000 in
theorem sameFloat_any (a b : Nat) (ha : B64 a) (hb : B64 b) (w : World) :
    Calls Try.prog 58 #[.float .f64 a, .float .f64 b] w fun e w' => e = .returned (.bool (sameB a b)) ∧ w' = w := by
  have ea := feq_self a
  have eb := feq_self b
  cases na : nanD a <;> cases nb : nanD b <;> rw [na] at ea <;> rw [nb] at eb <;> simp only [Bool.not_true, Bool.not_false] at ea eb
  · cases za : feq a 0 <;> cases zb : feq b 0
    case true.true =>
      have l1 : flt 0 9218868437227405312 = true := by decide
      have l2 : flt 0 18442240474082181120 = false := by decide
      have q1 := fun w => run_float_arith (P := Try.prog) w .quo 57 .f64 4607182418800017408 0 9218868437227405312 (by decide)
      have q2 := fun w => run_float_arith (P := Try.prog) w .quo 57 .f64 4607182418800017408 9223372036854775808 18442240474082181120 (by decide)
      rcases zero_cases a ha za with rfl | rfl <;> rcases zero_cases b hb zb with rfl | rfl
      all_goals
        go_enter Try.func58, Try.ntmps58
        go_wp2
        go_ret
        exact ⟨ret_bool (by decide), rfl⟩
    all_goals
      have Hs := hide (same_nz a b ha hb na nb (by rw [za, zb]; simp))
      go_enter Try.func58, Try.ntmps58
      go_wp2
      go_ret
      exact ⟨ret_bool Hs.out, rfl⟩
  all_goals
    go_enter Try.func58, Try.ntmps58
    go_wp2
    go_ret
    exact ⟨ret_bool (by unfold sameB; rw [na, nb]; rfl), rfl⟩

theorem und114 : (Try.prog.underlying 114).isSome = true := by rw [Try.underlying114]; rfl
theorem und57 : (Try.prog.underlying 57).isSome = true := by rw [Try.underlying57]; rfl

theorem run_nan_conv (w : World) (src dst : TypeId) (s k : FloatKind) (b : Nat) (hs : (Try.prog.underlying src).isSome = true) (hd : Try.prog.underlying dst = some (.float k)) (hne : s ≠ k) (hn : (s.decode b).isNaN = true) :
    (convert src dst (.float s b)).run Try.prog w = .ok (.float k ((Question.nanConv k b).cut (w.tape w.drawn (Question.nanConv k b)))) w.drew := by
  obtain ⟨u, hs'⟩ := Option.isSome_iff_exists.1 hs
  cases hdec : s.decode b with
  | nan sg fr => cases u <;> simp [convert, run_underlying hs', run_underlying hd, Conv.floatToFloat, hne, hdec, run_choose_drew, Question.forced]
  | number _ _ _ => rw [hdec] at hn; cases hn
  | infinity _ => rw [hdec] at hn; cases hn

theorem run_over_conv (w : World) (b : Nat) (hn : nanD b = false) (ho : over b = true) :
    (convert 57 114 (.float .f64 b)).run Try.prog w = .ok (.float .f32 ((Question.floatToFloat b).cut (w.tape w.drawn (Question.floatToFloat b)))) w.drew := by
  obtain ⟨u, hs'⟩ := Option.isSome_iff_exists.1 und57
  unfold over at ho
  cases hdec : Ieee.double.read b with
  | nan sg fr => rw [hdec] at ho; cases ho
  | infinity _ => rw [hdec] at ho; cases ho
  | number sg m e =>
    rw [hdec] at ho
    have hdec' : FloatKind.f64.decode b = .number sg m e := hdec
    have ho' : (FloatKind.f32.decode (FloatKind.f32.encode (.number sg m e))).isInfinity = true := by
      have : narrow b = FloatKind.f32.encode (.number sg m e) := by unfold narrow; rw [hdec]; rfl
      rw [← this]; exact ho
    cases u <;> simp [convert, run_underlying hs', run_underlying Try.underlying114, Conv.floatToFloat, hdec', ho', run_choose_drew, Question.forced]

theorem nan_cut32 (b t : Nat) : nanS ((Question.nanConv .f32 b).cut t) = true ∧ (Question.nanConv .f32 b).cut t < 4294967296 := by
  rw [nanS_iff]
  simp only [Question.cut]
  rcases Nat.mod_two_eq_zero_or_one t with h | h <;> rw [h] <;> omega
theorem nan_cut64 (b t : Nat) : nanD ((Question.nanConv .f64 b).cut t) = true ∧ (Question.nanConv .f64 b).cut t < 18446744073709551616 := by
  rw [nanD_iff]
  simp only [Question.cut]
  rcases Nat.mod_two_eq_zero_or_one t with h | h <;> rw [h] <;> omega
theorem over_cut (b t : Nat) : (Question.floatToFloat b).cut t < 4294967296 := by
  simp only [Question.cut]
  omega

theorem dec_nanD (b : Nat) (h : nanD b = true) : (FloatKind.f64.decode b).isNaN = true := by
  have h' := (nanD_iff b).1 h
  show (Ieee.double.read b).isNaN = true
  rw [read_nan Ieee.double b (by rw [dW, dI]; exact h') dBI]; rfl
theorem dec_nanS (b : Nat) (h : nanS b = true) : (FloatKind.f32.decode b).isNaN = true := by
  have h' := (nanS_iff b).1 h
  show (Ieee.single.read b).isNaN = true
  rw [read_nan Ieee.single b (by rw [sW, sI]; exact h') sBI]; rfl

theorem narrow_ok (b : Nat) (hn : nanD b = false) (ho : over b = false) : floatToFloatBits .f64 b .f32 = some (narrow b) := by
  unfold floatToFloatBits
  rw [if_neg (by decide)]
  have hnn : ¬ (Ieee.double.infRung < b % Ieee.double.signWeight) := fun h => by
    have : nanD b = true := by unfold nanD nanW; simpa using h
    rw [this] at hn; cases hn
  unfold over at ho
  unfold narrow at *
  show (match Ieee.double.read b with | .nan _ _ => none | .infinity s => some (Ieee.single.write (.infinity s)) | .number s m e => if (Ieee.single.read (Ieee.single.write (.number s m e))).isInfinity then none else some (Ieee.single.write (.number s m e))) = _
  cases hdec : Ieee.double.read b with
  | nan sg fr =>
    exfalso
    unfold Ieee.Format.read at hdec
    dsimp only at hdec
    split at hdec
    · cases hdec
    · split at hdec
      · cases hdec
      · split at hdec
        · cases hdec
        · omega
  | infinity _ => rfl
  | number sg m e =>
    rw [hdec] at ho
    simp only at ho ⊢
    rw [ho]; rfl

theorem wide_ok (u : Nat) (hu : u < 4294967296) (hn : nanS u = false) : floatToFloatBits .f32 u .f64 = some (wide u) := by
  unfold floatToFloatBits
  rw [if_neg (by decide)]
  have hn' : ¬ 2139095040 < u % 2147483648 := fun h => by rw [(nanS_iff u).2 h] at hn; cases hn
  show (match Ieee.single.read u with | .nan _ _ => none | .infinity s => some (Ieee.double.write (.infinity s)) | .number s m e => if (Ieee.double.read (Ieee.double.write (.number s m e))).isInfinity then none else some (Ieee.double.write (.number s m e))) = _
  by_cases hi : u % 2147483648 = 2139095040
  · unfold wide
    rw [read_inf Ieee.single u (by rw [sW, sI]; exact hi) sBI]
  · have hr := read_finite Ieee.single u (by rw [sW, sI]; omega)
    have hw : (Ieee.double.read (wide u)).isInfinity = false := by
      by_cases h0 : u % 2147483648 = 0
      · rw [(wide_zero u hu h0).1, read_word _ _ _ (by rw [dI]; omega)]; rfl
      · obtain ⟨r, h1, h2, h3, h4⟩ := wide_finite u hu (by omega) (by omega)
        rw [h3, read_word _ _ _ h2]; rfl
    unfold wide at *
    rw [hr] at hw ⊢
    simp only
    rw [hw]; rfl

/-- 'float64(float32(x))'. -/
theorem l1Single_any (x : Nat) (hx : B64 x) (w : World) :
    Calls Try.prog 63 #[.float .f64 x] w fun e w' => ∃ r n, e = .returned (.float .f64 r) ∧ SingleR x r ∧ w' = w.drewN n := by
  cases hn : nanD x
  · have up : ∀ (u : Nat) (w1 : World), u < 4294967296 → (nanS u = true ∧ (convert 114 57 (.float .f32 u)).run Try.prog w1 = .ok (.float .f64 ((Question.nanConv .f64 u).cut (w1.tape w1.drawn (Question.nanConv .f64 u)))) w1.drew) ∨ (nanS u = false ∧ (convert 114 57 (.float .f32 u)).run Try.prog w1 = .ok (.float .f64 (wide u)) w1) := fun u w1 hu => by
      cases hs : nanS u
      · exact Or.inr ⟨rfl, run_convert_float_float w1 114 57 .f32 .f64 u (wide u) und114 Try.underlying57 (wide_ok u hu hs)⟩
      · exact Or.inl ⟨rfl, run_nan_conv w1 114 57 .f32 .f64 u und114 Try.underlying57 (by decide) (dec_nanS u hs)⟩
    cases ho : over x
    · have c1 := run_convert_float_float (P := Try.prog) w 57 114 .f64 .f32 x (narrow x) und57 Try.underlying114 (narrow_ok x hn ho)
      have c2 := run_convert_float_float (P := Try.prog) w 114 57 .f32 .f64 (narrow x) (wide (narrow x)) und114 Try.underlying57 (wide_ok _ (narrow_lt x) (nanS_narrow x hn))
      have Hn := hide (nanS_narrow x hn)
      go_enter Try.func63, Try.ntmps63
      go_wp2
      go_ret
      exact ⟨_, 0, rfl, ⟨wide_lt _, Or.inr ⟨hn, narrow x, narrow_lt x, Or.inr rfl, Or.inr ⟨Hn.out, rfl⟩⟩⟩, rfl⟩
    · have c1 := run_over_conv w x hn ho
      have hu := over_cut x (w.tape w.drawn (Question.floatToFloat x))
      generalize hc : (Question.floatToFloat x).cut (w.tape w.drawn (Question.floatToFloat x)) = u at *
      have Hc := hide hc
      clear hc
      rcases up u w.drew hu with ⟨h1, h2⟩ | ⟨h1, h2⟩
      · have hq := nan_cut64 u (w.drew.tape w.drew.drawn (Question.nanConv .f64 u))
        generalize hd : (Question.nanConv .f64 u).cut (w.drew.tape w.drew.drawn (Question.nanConv .f64 u)) = r at *
        have Hd := hide hd
        clear hd
        go_enter Try.func63, Try.ntmps63
        go_wp2
        go_ret
        exact ⟨_, 2, rfl, ⟨hq.2, Or.inr ⟨hn, u, hu, Or.inl ho, Or.inl ⟨h1, hq.1⟩⟩⟩, rfl⟩
      · go_enter Try.func63, Try.ntmps63
        go_wp2
        go_ret
        exact ⟨_, 1, rfl, ⟨wide_lt _, Or.inr ⟨hn, u, hu, Or.inl ho, Or.inr ⟨h1, rfl⟩⟩⟩, rfl⟩
  · have c1 := run_nan_conv w 57 114 .f64 .f32 x und57 Try.underlying114 (by decide) (dec_nanD x hn)
    have hu := nan_cut32 x (w.tape w.drawn (Question.nanConv .f32 x))
    generalize hc : (Question.nanConv .f32 x).cut (w.tape w.drawn (Question.nanConv .f32 x)) = u at *
    have Hc := hide hc
    clear hc
    have c2 := run_nan_conv w.drew 114 57 .f32 .f64 u und114 Try.underlying57 (by decide) (dec_nanS u hu.1)
    have hq := nan_cut64 u (w.drew.tape w.drew.drawn (Question.nanConv .f64 u))
    generalize hd : (Question.nanConv .f64 u).cut (w.drew.tape w.drew.drawn (Question.nanConv .f64 u)) = r at *
    have Hd := hide hd
    clear hd
    go_enter Try.func63, Try.ntmps63
    go_wp2
    go_ret
    exact ⟨_, 2, rfl, ⟨hq.2, Or.inl ⟨hn, hq.1⟩⟩, rfl⟩
end Go.Proofs.Ytbkdfhlbjaiahaa
namespace Go.Proofs.Ytbkdfhlbjaiahaa
open Go.RowKit FL
set_option linter.unusedSimpArgs false
set_option linter.unusedVariables false

/-- The world has new blocks and draws alone. -/
structure Ext (w w' : World) : Prop where
  bl : Below w.heap.size w w'
  fz : ∀ a, w'.frozen? a = w.frozen? a

theorem Ext.refl (w : World) : Ext w w := ⟨Below.refl _ _, fun _ => rfl⟩
theorem Ext.trans {a b c : World} (h : Ext a b) (k : Ext b c) : Ext a c :=
  ⟨h.bl.trans (k.bl.mono h.bl.size), fun x => (k.fz x).trans (h.fz x)⟩
theorem Ext.drew {a b : World} (h : Ext a b) : Ext a b.drew := ⟨h.bl.drew, h.fz⟩
theorem Ext.drewN {a b : World} (h : Ext a b) (n : Nat) : Ext a (b.drewN n) := ⟨below_drewN h.bl n, h.fz⟩
theorem Ext.alloc {a b : World} (h : Ext a b) (c : Array Value) (t : TypeId) : Ext a (b.alloc (.cells c t)) :=
  ⟨h.bl.alloc h.bl.size _, fun x => (frozen?_alloc_cells _ _ _ x).trans (h.fz x)⟩
theorem Ext.setCell {a b : World} (h : Ext a b) {p : Addr} (hp : a.heap.size ≤ p.block) (v : Value) : Ext a (b.setCell p v) :=
  ⟨h.bl.setCell hp v, fun x => (World.frozen?_setCell _ _ _ _).trans (h.fz x)⟩
theorem Ext.cells {W w1 : World} (h : Ext W w1) : (∀ b o, b < W.heap.size → w1.cell? ⟨b, o, none⟩ = W.cell? ⟨b, o, none⟩) ∧ (∀ b o, w1.frozen? ⟨b, o, none⟩ = W.frozen? ⟨b, o, none⟩) ∧ W.heap.size ≤ w1.heap.size :=
  ⟨fun b o hb => h.bl.cell (p := ⟨b, o, none⟩) hb, fun b o => h.fz _, h.bl.size⟩

theorem Ext.box {W w1 : World} (h : Ext W w1) {b o : Nat} {v : Value} (hc : W.cell? ⟨b, o, none⟩ = some v) : w1.cell? ⟨b, o, none⟩ = some v := by
  have hb : b < W.heap.size := by
    by_cases e : b < W.heap.size
    · exact e
    · have e2 : W.heap[b]? = none := by simp; omega
      simp [World.cell?, e2] at hc
  rw [h.bl.cell (p := ⟨b, o, none⟩) hb, hc]

theorem toCell_any (i : Int) (f g : Nat) (w : World) :
    Calls Try.prog 75 #[.agg #[.int .i64 i, .float .f64 f, .float .f64 g]] w fun e w' => e = .returned (.agg #[.int .i64 i, .float .f64 f, .float .f64 g]) ∧ Ext w w' := by
  go_enter Try.func75, Try.ntmps75
  go_wp2
  exact bodyPost_ret (v := .agg #[.int .i64 i, .float .f64 f, .float .f64 g]) (by simp [results, Try.results75, go_sem]) rfl ⟨rfl, by repeat (first | exact Ext.refl _ | apply Ext.drew | apply Ext.alloc)⟩

theorem l1Round7 (x : Nat) (hx : B64 x) (w : World) :
    Calls Try.prog 44 #[.int .i64 7, .float .f64 x] w fun e w' => ∃ r n, e = .returned (.float .f64 r) ∧ SingleR x r ∧ w' = w.drewN n := by
  go_enter Try.func44, Try.ntmps44
  go_wp2_with (go_at_call 63; refine (l1Single_any x hx _).mono ?_; rintro e w' ⟨r, n, rfl, hr, rfl⟩)
  go_ret
  exact ⟨r, n, rfl, hr, rfl⟩

theorem l1RoundN (dt : Int) (hd : (dt == 7) = false) (x : Nat) (w : World) :
    Calls Try.prog 44 #[.int .i64 dt, .float .f64 x] w fun e w' => e = .returned (.float .f64 x) ∧ w' = w := by
  go_enter Try.func44, Try.ntmps44
  go_wp2
  go_ret
  exact ⟨rfl, rfl⟩

theorem isSingle_any (x : Nat) (hx : B64 x) (w : World) :
    Calls Try.prog 68 #[.float .f64 x] w fun e w' => e = .returned (.bool (sngB x)) ∧ ∃ n, w' = w.drewN n := by
  cases hn : nanD x
  · have fin : ∀ r, SingleR x r → feq r x = sngB x := fun r h => by
      cases hs : sngB x
      · exact (singR_not hx h hs).2
      · rcases singR_same h hs with ⟨h1, _⟩ | ⟨h1, h2⟩
        · rw [hn] at h1; cases h1
        · rw [h2, feq_self, hn]; rfl
    have up : ∀ (u : Nat) (w1 : World), u < 4294967296 → (nanS u = true ∧ (convert 114 57 (.float .f32 u)).run Try.prog w1 = .ok (.float .f64 ((Question.nanConv .f64 u).cut (w1.tape w1.drawn (Question.nanConv .f64 u)))) w1.drew) ∨ (nanS u = false ∧ (convert 114 57 (.float .f32 u)).run Try.prog w1 = .ok (.float .f64 (wide u)) w1) := fun u w1 hu => by
      cases hs : nanS u
      · exact Or.inr ⟨rfl, run_convert_float_float w1 114 57 .f32 .f64 u (wide u) und114 Try.underlying57 (wide_ok u hu hs)⟩
      · exact Or.inl ⟨rfl, run_nan_conv w1 114 57 .f32 .f64 u und114 Try.underlying57 (by decide) (dec_nanS u hs)⟩
    cases ho : over x
    · have c1 := run_convert_float_float (P := Try.prog) w 57 114 .f64 .f32 x (narrow x) und57 Try.underlying114 (narrow_ok x hn ho)
      have c2 := run_convert_float_float (P := Try.prog) w 114 57 .f32 .f64 (narrow x) (wide (narrow x)) und114 Try.underlying57 (wide_ok _ (narrow_lt x) (nanS_narrow x hn))
      have Hn := hide (nanS_narrow x hn)
      have Hf := hide (fin (wide (narrow x)) ⟨wide_lt _, Or.inr ⟨hn, narrow x, narrow_lt x, Or.inr rfl, Or.inr ⟨Hn.out, rfl⟩⟩⟩)
      clear fin up
      go_enter Try.func68, Try.ntmps68
      go_wp2_with (go_at_call 77; refine (isNaN_any _ _).mono ?_; rintro e w' ⟨rfl, rfl⟩)
      go_ret
      exact ⟨ret_bool Hf.out, 0, rfl⟩
    · have c1 := run_over_conv w x hn ho
      have hu := over_cut x (w.tape w.drawn (Question.floatToFloat x))
      generalize hc : (Question.floatToFloat x).cut (w.tape w.drawn (Question.floatToFloat x)) = u at *
      have Hc := hide hc
      clear hc
      rcases up u w.drew hu with ⟨h1, h2⟩ | ⟨h1, h2⟩
      · have hq := nan_cut64 u (w.drew.tape w.drew.drawn (Question.nanConv .f64 u))
        generalize hd : (Question.nanConv .f64 u).cut (w.drew.tape w.drew.drawn (Question.nanConv .f64 u)) = r at *
        have Hd := hide hd
        clear hd
        have Hf := hide (fin r ⟨hq.2, Or.inr ⟨hn, u, hu, Or.inl ho, Or.inl ⟨h1, hq.1⟩⟩⟩)
        clear fin up hq
        go_enter Try.func68, Try.ntmps68
        go_wp2_with (go_at_call 77; refine (isNaN_any _ _).mono ?_; rintro e w' ⟨rfl, rfl⟩)
        go_ret
        exact ⟨ret_bool Hf.out, 2, rfl⟩
      · have Hf := hide (fin (wide u) ⟨wide_lt _, Or.inr ⟨hn, u, hu, Or.inl ho, Or.inr ⟨h1, rfl⟩⟩⟩)
        clear fin up
        go_enter Try.func68, Try.ntmps68
        go_wp2_with (go_at_call 77; refine (isNaN_any _ _).mono ?_; rintro e w' ⟨rfl, rfl⟩)
        go_ret
        exact ⟨ret_bool Hf.out, 1, rfl⟩
  · go_enter Try.func68, Try.ntmps68
    go_wp2_with (go_at_call 77; refine (isNaN_any _ _).mono ?_; rintro e w' ⟨rfl, rfl⟩)
    go_ret
    exact ⟨ret_bool (by unfold sngB; rw [hn]; rfl), 0, rfl⟩

def lowL (dt : Int) : Int := if dt = 1 ∨ dt = 3 then 0 else if dt = 2 then -128 else if dt = 4 then -32768 else if dt = 5 then -2147483648 else -9223372036854775808
def highL (dt : Int) : Int := if dt = 1 then 1 else if dt = 3 then 255 else if dt = 2 then 127 else if dt = 4 then 32767 else if dt = 5 then 2147483647 else 9223372036854775807

theorem l1Low_any (dt : Int) (w : World) :
    Calls Try.prog 41 #[.int .i64 dt] w fun e w' => e = .returned (.int .i64 (lowL dt)) ∧ w' = w := by
  go_enter Try.func41, Try.ntmps41
  go_wp2
  all_goals go_ret
  all_goals refine ⟨ret_int ?_, rfl⟩
  all_goals go_light
  all_goals (unfold lowL; simp only [beq_iff_eq, beq_eq_false_iff_ne, ne_eq] at *; omega)
theorem l1High_any (dt : Int) (w : World) :
    Calls Try.prog 42 #[.int .i64 dt] w fun e w' => e = .returned (.int .i64 (highL dt)) ∧ w' = w := by
  go_enter Try.func42, Try.ntmps42
  go_wp2
  all_goals go_ret
  all_goals refine ⟨ret_int ?_, rfl⟩
  all_goals go_light
  all_goals (unfold highL; simp only [beq_iff_eq, beq_eq_false_iff_ne, ne_eq] at *; omega)

def cutL (dt i : Int) : Int :=
  if dt = 2 then (i + 128) % 256 - 128 else if dt = 3 then i % 256 else if dt = 4 then (i + 32768) % 65536 - 32768 else if dt = 5 then (i + 2147483648) % 4294967296 - 2147483648 else i

theorem wrap_i8' (n : Int) : IntKind.i8.wrap n = (n + 128) % 256 - 128 := by
  simp only [IntKind.wrap, IntKind.bits, IntKind.signed, Bool.true_and, decide_eq_true_eq]
  simp; split <;> omega
theorem wrap_i16' (n : Int) : IntKind.i16.wrap n = (n + 32768) % 65536 - 32768 := by
  simp only [IntKind.wrap, IntKind.bits, IntKind.signed, Bool.true_and, decide_eq_true_eq]
  simp; split <;> omega

theorem cutBits_any (dt i : Int) (w : World) :
    Calls Try.prog 67 #[.int .i64 dt, .int .i64 i] w fun e w' => e = .returned (.int .i64 (cutL dt i)) ∧ w' = w := by
  go_enter Try.func67, Try.ntmps67
  go_wp2
  all_goals go_ret
  all_goals refine ⟨ret_int ?_, rfl⟩
  all_goals go_light
  all_goals (unfold cutL; simp only [beq_iff_eq, beq_eq_false_iff_ne, ne_eq, wrap64, wrap32, IntKind.wrap_i64, IntKind.wrap_i32, wrap_i8', wrap_i16'] at *; omega)

def I64 (i : Int) : Prop := -9223372036854775808 ≤ i ∧ i ≤ 9223372036854775807

theorem cut_fix (dt i : Int) (h : 2 ≤ dt ∧ dt ≤ 6) (hi : I64 i) : (cutL dt i == i) = decide (lowL dt ≤ i ∧ i ≤ highL dt) := by
  unfold I64 at hi
  rw [Bool.eq_iff_iff]
  simp only [beq_iff_eq, decide_eq_true_eq]
  unfold cutL lowL highL
  have : dt = 2 ∨ dt = 3 ∨ dt = 4 ∨ dt = 5 ∨ dt = 6 := by omega
  rcases this with rfl | rfl | rfl | rfl | rfl <;> simp <;> omega

def rngB (dt i : Int) : Bool := decide (lowL dt ≤ i ∧ i ≤ highL dt)
def validB (dt i : Int) (f g : Nat) : Bool :=
  if 1 ≤ dt ∧ dt ≤ 6 then rngB dt i && pzB f && pzB g
  else if dt = 7 then i == 0 && pzB g && sngB f
  else if dt = 8 then i == 0 && pzB g
  else if dt = 9 then i == 0 else false

set_option maxHeartbeats 1000000 in
theorem iValid_int (dt i : Int) (f g : Nat) (h : 2 ≤ dt ∧ dt ≤ 6) (hi : I64 i) (hf : B64 f) (hg : B64 g) (w : World) :
    Calls Try.prog 47 #[.int .i64 dt, .agg #[.int .i64 i, .float .f64 f, .float .f64 g]] w fun e w' => e = .returned (.bool (rngB dt i && pzB f && pzB g)) ∧ Ext w w' := by
  have hk : kindL dt = 1 := by unfold kindL; omega
  have hc := cut_fix dt i h hi
  rw [show decide (lowL dt ≤ i ∧ i ≤ highL dt) = rngB dt i from rfl] at hc
  have Hh := hide h
  clear h
  cases h1 : rngB dt i <;> cases h2 : pzB f <;> rw [h1] at hc
  all_goals
    go_enter Try.func47, Try.ntmps47
    go_wp2_with (go_at_call 65; refine (kindOf_any _ _).mono ?_; rintro e w' ⟨rfl, rfl⟩)
    go_quiet (first | (go_at_call 67; exact Calls.quiet_of_same (cutBits_any _ _ _)) | (go_at_call 66; exact Calls.quiet_of_same (isPlusZero_any _ (by assumption) _)))
    go_wp2
    go_ret
    exact ⟨rfl, by repeat (first | exact Ext.refl _ | apply Ext.drewN | apply Ext.drew | apply Ext.alloc)⟩

set_option maxHeartbeats 1000000 in
theorem iValid_bool (i : Int) (f g : Nat) (hf : B64 f) (hg : B64 g) (w : World) :
    Calls Try.prog 47 #[.int .i64 1, .agg #[.int .i64 i, .float .f64 f, .float .f64 g]] w fun e w' => e = .returned (.bool (rngB 1 i && pzB f && pzB g)) ∧ Ext w w' := by
  have hk : kindL 1 = 0 := by decide
  have hr : rngB 1 i = (i == 0 || i == 1) := by
    unfold rngB lowL highL
    rw [Bool.eq_iff_iff]; simp; omega
  rw [hr]
  clear hr
  cases h0 : (i == 0) <;> cases h1 : (i == 1) <;> cases h2 : pzB f
  all_goals
    go_enter Try.func47, Try.ntmps47
    go_wp2_with (first | (go_at_call 65; refine (kindOf_any _ _).mono ?_; rintro e w' ⟨rfl, rfl⟩) | (go_at_call 66; refine (isPlusZero_any _ ?_ _).mono ?_; assumption; rintro e w' ⟨rfl, rfl⟩))
    go_ret
    exact ⟨rfl, by repeat (first | exact Ext.refl _ | apply Ext.drewN | apply Ext.drew | apply Ext.alloc)⟩

set_option maxHeartbeats 1000000 in
theorem iValid_f64 (i : Int) (f g : Nat) (hf : B64 f) (hg : B64 g) (w : World) :
    Calls Try.prog 47 #[.int .i64 8, .agg #[.int .i64 i, .float .f64 f, .float .f64 g]] w fun e w' => e = .returned (.bool (i == 0 && pzB g)) ∧ Ext w w' := by
  have hk : kindL 8 = 2 := by decide
  cases h0 : (i == 0) <;> cases h2 : pzB g
  all_goals
    go_enter Try.func47, Try.ntmps47
    go_wp2_with (first | (go_at_call 65; refine (kindOf_any _ _).mono ?_; rintro e w' ⟨rfl, rfl⟩) | (go_at_call 66; refine (isPlusZero_any _ ?_ _).mono ?_; assumption; rintro e w' ⟨rfl, rfl⟩))
    go_ret
    exact ⟨rfl, by repeat (first | exact Ext.refl _ | apply Ext.drewN | apply Ext.drew | apply Ext.alloc)⟩

set_option maxHeartbeats 1000000 in
theorem iValid_f32 (i : Int) (f g : Nat) (hf : B64 f) (hg : B64 g) (w : World) :
    Calls Try.prog 47 #[.int .i64 7, .agg #[.int .i64 i, .float .f64 f, .float .f64 g]] w fun e w' => e = .returned (.bool (i == 0 && pzB g && sngB f)) ∧ Ext w w' := by
  have hk : kindL 7 = 2 := by decide
  cases h0 : (i == 0) <;> cases h2 : pzB g
  all_goals
    go_enter Try.func47, Try.ntmps47
    go_wp2_with (first | (go_at_call 65; refine (kindOf_any _ _).mono ?_; rintro e w' ⟨rfl, rfl⟩) | (go_at_call 66; refine (isPlusZero_any _ ?_ _).mono ?_; assumption; rintro e w' ⟨rfl, rfl⟩) | (go_at_call 68; refine (isSingle_any _ ?_ _).mono ?_; assumption; rintro e w' ⟨rfl, n, rfl⟩))
    go_ret
    exact ⟨rfl, by repeat (first | exact Ext.refl _ | apply Ext.drewN | apply Ext.drew | apply Ext.alloc)⟩

set_option maxHeartbeats 1000000 in
theorem iValid_c128 (i : Int) (f g : Nat) (hf : B64 f) (hg : B64 g) (w : World) :
    Calls Try.prog 47 #[.int .i64 9, .agg #[.int .i64 i, .float .f64 f, .float .f64 g]] w fun e w' => e = .returned (.bool (i == 0)) ∧ Ext w w' := by
  have hk : kindL 9 = 3 := by decide
  go_enter Try.func47, Try.ntmps47
  go_wp2_with (first | (go_at_call 65; refine (kindOf_any _ _).mono ?_; rintro e w' ⟨rfl, rfl⟩))
  go_ret
  exact ⟨rfl, by repeat (first | exact Ext.refl _ | apply Ext.drewN | apply Ext.drew | apply Ext.alloc)⟩

set_option maxHeartbeats 1000000 in
theorem iValid_no (dt i : Int) (f g : Nat) (h : ¬ (1 ≤ dt ∧ dt ≤ 9)) (w : World) :
    Calls Try.prog 47 #[.int .i64 dt, .agg #[.int .i64 i, .float .f64 f, .float .f64 g]] w fun e w' => e = .returned (.bool false) ∧ Ext w w' := by
  have hk : kindL dt = -1 := by unfold kindL; omega
  clear h
  go_enter Try.func47, Try.ntmps47
  go_wp2_with (first | (go_at_call 65; refine (kindOf_any _ _).mono ?_; rintro e w' ⟨rfl, rfl⟩))
  go_ret
  exact ⟨rfl, by repeat (first | exact Ext.refl _ | apply Ext.drewN | apply Ext.drew | apply Ext.alloc)⟩

theorem iValid_any (dt i : Int) (f g : Nat) (hi : I64 i) (hf : B64 f) (hg : B64 g) (w : World) :
    Calls Try.prog 47 #[.int .i64 dt, .agg #[.int .i64 i, .float .f64 f, .float .f64 g]] w fun e w' => e = .returned (.bool (validB dt i f g)) ∧ Ext w w' := by
  by_cases h1 : dt = 1
  · subst h1; exact iValid_bool i f g hf hg w
  by_cases h2 : 2 ≤ dt ∧ dt ≤ 6
  · have e : validB dt i f g = (rngB dt i && pzB f && pzB g) := by unfold validB; rw [if_pos (by omega)]
    rw [e]; exact iValid_int dt i f g h2 hi hf hg w
  by_cases h7 : dt = 7
  · subst h7; exact iValid_f32 i f g hf hg w
  by_cases h8 : dt = 8
  · subst h8; exact iValid_f64 i f g hf hg w
  by_cases h9 : dt = 9
  · subst h9; exact iValid_c128 i f g hf hg w
  have e : validB dt i f g = false := by unfold validB; rw [if_neg (by omega), if_neg h7, if_neg h8, if_neg h9]
  rw [e]; exact iValid_no dt i f g (by omega) w
end Go.Proofs.Ytbkdfhlbjaiahaa
namespace Go.Proofs.Ytbkdfhlbjaiahaa
open Go.ChangeShapes Go.RowKit FL
set_option linter.unusedSimpArgs false
set_option linter.unusedVariables false

theorem cell_lt {W : World} {b o : Nat} {v : Value} (hc : W.cell? ⟨b, o, none⟩ = some v) : b < W.heap.size := by
  by_cases e : b < W.heap.size
  · exact e
  · have e2 : W.heap[b]? = none := by simp; omega
    simp [World.cell?, e2] at hc
theorem frozen_new (w : World) (b o : Nat) (h : w.heap.size ≤ b) : w.frozen? ⟨b, o, none⟩ = false := by
  have e : w.heap[b]? = none := by simp; omega
  simp [World.frozen?, e]
theorem Ext.unfrozen {w w1 : World} (h : Ext w w1) {b : Nat} (hb : w.heap.size ≤ b) (o : Nat) : w1.frozen? ⟨b, o, none⟩ = false := by
  rw [h.fz, frozen_new w b o hb]
theorem near {W : World} {b o q : Nat} {v x : Value} (hne : o ≠ q) (h : W.cell? ⟨b, q, none⟩ = some x) : (W.setCell ⟨b, o, none⟩ v).cell? ⟨b, q, none⟩ = some x := by
  rw [World.cell?_setCell_other _ _ _ _ (by intro e; simp only [Addr.mk.injEq] at e; omega)]; exact h
theorem new_cell (W : World) (cs : Array Value) (t b : Nat) (hb : b = W.heap.size) (j : Nat) : (W.alloc (.cells cs t)).cell? ⟨b, j, none⟩ = cs[j]? := by
  subst hb
  rw [cell_of_row _ W.heap.size j cs t (0, 0) (heap_alloc_new W _)]
abbrev Bel (w w' : World) : Prop := Below w.heap.size w w'
theorem Bel.box {w w' : World} (x : Bel w w') {b o : Nat} {v : Value} (h : w.cell? ⟨b, o, none⟩ = some v) : w'.cell? ⟨b, o, none⟩ = some v := (Below.cell x (p := ⟨b, o, none⟩) (cell_lt h)).trans h
theorem Bel.tr {a b c : World} (x : Bel a b) (y : Bel b c) : Bel a c := Below.trans x (Below.mono y (Below.size x))
def LawOk (w : World) (e : Ending) (w' : World) : Prop := e = .returned (.bool true) ∧ Below w.heap.size w w'

/-- A cell of an array: an integer and two floats. -/
abbrev C3 := Int × Nat × Nat
def k0 : C3 := (0, 0, 0)
/-- Cells in block b from place off on. -/
def CRow (w : World) (b off : Nat) (cs : List C3) : Prop := ∀ j, j < cs.length → w.cell? ⟨b, off + j * 3, none⟩ = some (.int .i64 (cs.getD j k0).1) ∧ w.cell? ⟨b, off + j * 3 + 1, none⟩ = some (.float .f64 (cs.getD j k0).2.1) ∧ w.cell? ⟨b, off + j * 3 + 2, none⟩ = some (.float .f64 (cs.getD j k0).2.2)
/-- v is a slice of these cells, not in block x. -/
def CV (w : World) (v : Value) (cs : List C3) : Prop := ∃ sa cap, v = .slice sa cs.length cap ∧ (cs = [] ∨ ∃ b off, sa = some ⟨b, off, none⟩ ∧ CRow w b off cs)
/-- .. whose block is at or behind lo. -/
def CVL (w : World) (lo : Nat) (v : Value) (cs : List C3) : Prop := ∃ sa cap, v = .slice sa cs.length cap ∧ (cs = [] ∨ ∃ b off, sa = some ⟨b, off, none⟩ ∧ lo ≤ b ∧ CRow w b off cs)
theorem CVL.cv {w : World} {lo : Nat} {v : Value} {cs : List C3} (h : CVL w lo v cs) : CV w v cs := by
  obtain ⟨sa, cap, h1, h2⟩ := h
  exact ⟨sa, cap, h1, h2.imp id fun ⟨b, off, h3, _, h4⟩ => ⟨b, off, h3, h4⟩⟩
theorem CRow.keep {w w' : World} {b off : Nat} {cs : List C3} (h : CRow w b off cs) (x : Bel w w') : CRow w' b off cs := fun j hj => ⟨x.box (h j hj).1, x.box (h j hj).2.1, x.box (h j hj).2.2⟩
theorem CV.keep {w w' : World} {v : Value} {cs : List C3} (h : CV w v cs) (x : Bel w w') : CV w' v cs := by
  obtain ⟨sa, cap, h1, h2⟩ := h
  exact ⟨sa, cap, h1, h2.imp id fun ⟨b, off, h3, h4⟩ => ⟨b, off, h3, h4.keep x⟩⟩
theorem CVL.keep {w w' : World} {lo : Nat} {v : Value} {cs : List C3} (h : CVL w lo v cs) (x : Bel w w') : CVL w' lo v cs := by
  obtain ⟨sa, cap, h1, h2⟩ := h
  exact ⟨sa, cap, h1, h2.imp id fun ⟨b, off, h3, h5, h4⟩ => ⟨b, off, h3, h5, h4.keep x⟩⟩
theorem CVL.le {w : World} {lo lo' : Nat} {v : Value} {cs : List C3} (h : CVL w lo v cs) (hl : lo' ≤ lo) : CVL w lo' v cs := by
  obtain ⟨sa, cap, h1, h2⟩ := h
  exact ⟨sa, cap, h1, h2.imp id fun ⟨b, off, h3, h5, h4⟩ => ⟨b, off, h3, Nat.le_trans hl h5, h4⟩⟩
theorem CVL.far {w : World} {lo b o : Nat} {v u : Value} {cs : List C3} (h : CVL w lo v cs) (hb : b < lo) : CVL (w.setCell ⟨b, o, none⟩ u) lo v cs := by
  obtain ⟨sa, cap, h1, h2⟩ := h
  refine ⟨sa, cap, h1, h2.imp id fun ⟨c, off, h3, h5, h4⟩ => ⟨c, off, h3, h5, ?_⟩⟩
  have hk : (w.setCell ⟨b, o, none⟩ u).heap[c]? = w.heap[c]? := Below.heap_setCell _ _ _ _ (by show c ≠ b; omega)
  have hc : ∀ {q x}, w.cell? ⟨c, q, none⟩ = some x → (w.setCell ⟨b, o, none⟩ u).cell? ⟨c, q, none⟩ = some x := fun {q x} hx => (World.cell?_of_block (w := w) (a := ⟨c, q, none⟩) hk).trans hx
  exact fun j hj => ⟨hc (h4 j hj).1, hc (h4 j hj).2.1, hc (h4 j hj).2.2⟩
theorem CRow.set {w : World} {g off : Nat} {cs : List C3} (h : CRow w g off cs) (i : Nat) (hi : i < cs.length) (t : C3) :
    CRow (((w.setCell ⟨g, off + i * 3, none⟩ (.int .i64 t.1)).setCell ⟨g, off + i * 3 + 1, none⟩ (.float .f64 t.2.1)).setCell ⟨g, off + i * 3 + 2, none⟩ (.float .f64 t.2.2)) g off (cs.set i t) := fun j hj => by
  rw [List.length_set] at hj
  have e0 : (cs.set i t).getD j k0 = if i = j then t else cs.getD j k0 := by
    rw [List.getD_eq_getElem?_getD, List.getElem?_set, List.getD_eq_getElem?_getD]
    by_cases e : i = j
    · subst e; simp [hi]
    · simp [e]
  rw [e0]
  obtain ⟨a, b, c⟩ := h j hj
  by_cases e : i = j
  · subst e
    rw [if_pos rfl]
    exact ⟨near (by omega) (near (by omega) (World.cell?_setCell_same _ _ _ a)), near (by omega) (World.cell?_setCell_same _ _ _ (near (by omega) b)), World.cell?_setCell_same _ _ _ (near (by omega) (near (by omega) c))⟩
  · rw [if_neg e]
    exact ⟨near (by omega) (near (by omega) (near (by omega) a)), near (by omega) (near (by omega) (near (by omega) b)), near (by omega) (near (by omega) (near (by omega) c))⟩
/-- The first k are in, the rest is zero. -/
def fillD {α : Type} (d : α) (xs : List α) (k : Nat) : List α := xs.take k ++ List.replicate (xs.length - k) d
theorem fillD_len {α : Type} (d : α) (xs : List α) (k : Nat) : (fillD d xs k).length = xs.length := by
  unfold fillD; simp; omega
theorem fillD_set {α : Type} (d : α) (xs : List α) (k : Nat) (hk : k < xs.length) : (fillD d xs k).set k (xs.getD k d) = fillD d xs (k + 1) := by
  unfold fillD
  apply List.ext_getElem?
  intro j
  simp only [List.getElem?_set, List.getElem?_append, List.length_append, List.length_take, List.length_replicate, List.getElem?_take, List.getElem?_replicate, List.getD_eq_getElem?_getD]
  by_cases e : k = j
  · subst e
    have h1 : min k xs.length = k := by omega
    have h2 : min (k + 1) xs.length = k + 1 := by omega
    simp [h1, h2, hk]
    omega
  · have h1 : min k xs.length = k := by omega
    have h2 : min (k + 1) xs.length = k + 1 := by omega
    simp only [h1, h2, e, if_false]
    by_cases h : j < k
    · have : j < k + 1 := by omega
      simp [h, this]
    · have h3 : ¬ j < k + 1 := by omega
      simp only [h, h3, if_false]
      by_cases h4 : j - k < xs.length - k
      · have : j - (k + 1) < xs.length - (k + 1) := by omega
        simp [h4, this]
      · have : ¬ j - (k + 1) < xs.length - (k + 1) := by omega
        simp [h4, this]
theorem fillD_zero {α : Type} (d : α) (xs : List α) : fillD d xs 0 = List.replicate xs.length d := by unfold fillD; simp
theorem fillD_full {α : Type} (d : α) (xs : List α) : fillD d xs xs.length = xs := by unfold fillD; simp
theorem crow_new (w : World) (n : Nat) (t : TypeId) : CRow (w.alloc (.cells (madeCells #[.int .i64 0, .float .f64 0, .float .f64 0] (n * 3)) t)) w.heap.size 0 (List.replicate n k0) := by
  intro j hj
  rw [List.length_replicate] at hj
  have e : (List.replicate n k0).getD j k0 = k0 := by simp [List.getD_eq_getElem?_getD, hj]
  rw [e]
  have hc := fun o => cell_of_row _ w.heap.size o _ t (0, 0) (heap_alloc_new w (.cells (madeCells #[.int .i64 0, .float .f64 0, .float .f64 0] (n * 3)) t))
  have l0 : 0 + j * 3 < n * 3 := by omega
  have l1 : 0 + j * 3 + 1 < n * 3 := by omega
  have l2 : 0 + j * 3 + 2 < n * 3 := by omega
  refine ⟨(hc _).trans ?_, (hc _).trans ?_, (hc _).trans ?_⟩
  · simp only [madeCells]
    rw [Array.getElem?_map, Array.getElem?_range, if_pos l0]
    simp [k0]
  · simp only [madeCells]
    rw [Array.getElem?_map, Array.getElem?_range, if_pos l1]
    simp [k0]
  · simp only [madeCells]
    rw [Array.getElem?_map, Array.getElem?_range, if_pos l2]
    simp [k0]
/-- Values as Go has them. -/
def CG (cs : List C3) : Prop := ∀ c ∈ cs, I64 c.1 ∧ B64 c.2.1 ∧ B64 c.2.2
theorem CG.at {cs : List C3} (h : CG cs) (j : Nat) (hj : j < cs.length) : I64 (cs.getD j k0).1 ∧ B64 (cs.getD j k0).2.1 ∧ B64 (cs.getD j k0).2.2 := by
  rw [List.getD_eq_getElem?_getD, List.getElem?_eq_getElem hj]
  exact h _ (List.getElem_mem hj)
/-- A store: its dtype and its cells. -/
abbrev St := Int × List C3
def s0 : St := (0, [])
def SRow (w : World) (b off : Nat) (ss : List St) : Prop := ∀ j, j < ss.length → w.cell? ⟨b, off + j * 2, none⟩ = some (.int .i64 (ss.getD j s0).1) ∧ ∃ u, w.cell? ⟨b, off + j * 2 + 1, none⟩ = some u ∧ CV w u (ss.getD j s0).2
def SRowL (w : World) (lo b off : Nat) (ss : List St) : Prop := ∀ j, j < ss.length → w.cell? ⟨b, off + j * 2, none⟩ = some (.int .i64 (ss.getD j s0).1) ∧ ∃ u, w.cell? ⟨b, off + j * 2 + 1, none⟩ = some u ∧ CVL w lo u (ss.getD j s0).2
def SV (w : World) (v : Value) (ss : List St) : Prop := ∃ sa cap, v = .slice sa ss.length cap ∧ (ss = [] ∨ ∃ b off, sa = some ⟨b, off, none⟩ ∧ SRow w b off ss)
theorem SRowL.srow {w : World} {lo b off : Nat} {ss : List St} (h : SRowL w lo b off ss) : SRow w b off ss := fun j hj => by
  obtain ⟨h1, u, h2, h3⟩ := h j hj
  exact ⟨h1, u, h2, h3.cv⟩
theorem SRow.keep {w w' : World} {b off : Nat} {ss : List St} (h : SRow w b off ss) (x : Bel w w') : SRow w' b off ss := fun j hj => by
  obtain ⟨h1, u, h2, h3⟩ := h j hj
  exact ⟨x.box h1, u, x.box h2, h3.keep x⟩
theorem SRowL.keep {w w' : World} {lo b off : Nat} {ss : List St} (h : SRowL w lo b off ss) (x : Bel w w') : SRowL w' lo b off ss := fun j hj => by
  obtain ⟨h1, u, h2, h3⟩ := h j hj
  exact ⟨x.box h1, u, x.box h2, h3.keep x⟩
theorem SV.keep {w w' : World} {v : Value} {ss : List St} (h : SV w v ss) (x : Bel w w') : SV w' v ss := by
  obtain ⟨sa, cap, h1, h2⟩ := h
  exact ⟨sa, cap, h1, h2.imp id fun ⟨b, off, h3, h4⟩ => ⟨b, off, h3, h4.keep x⟩⟩
theorem SRowL.set {w : World} {lo b off : Nat} {ss : List St} (h : SRowL w lo b off ss) (hb : b < lo) (i : Nat) (hi : i < ss.length) (dt : Int) (u : Value) (cs : List C3) (hu : CVL w lo u cs) :
    SRowL ((w.setCell ⟨b, off + i * 2, none⟩ (.int .i64 dt)).setCell ⟨b, off + i * 2 + 1, none⟩ u) lo b off (ss.set i (dt, cs)) := fun j hj => by
  rw [List.length_set] at hj
  have e0 : (ss.set i (dt, cs)).getD j s0 = if i = j then (dt, cs) else ss.getD j s0 := by
    rw [List.getD_eq_getElem?_getD, List.getElem?_set, List.getD_eq_getElem?_getD]
    by_cases e : i = j
    · subst e; simp [hi]
    · simp [e]
  rw [e0]
  obtain ⟨a, u', c, d⟩ := h j hj
  by_cases e : i = j
  · subst e
    rw [if_pos rfl]
    exact ⟨near (by omega) (World.cell?_setCell_same _ _ _ a), u, World.cell?_setCell_same _ _ _ (near (by omega) c), (hu.far hb).far hb⟩
  · rw [if_neg e]
    exact ⟨near (by omega) (near (by omega) a), u', near (by omega) (near (by omega) c), (d.far hb).far hb⟩
theorem SRowL.far {w : World} {lo b off c o : Nat} {u : Value} {ss : List St} (h : SRowL w lo b off ss) (hc : c ≠ b) (hl : c < lo) : SRowL (w.setCell ⟨c, o, none⟩ u) lo b off ss := fun j hj => by
  have hk : (w.setCell ⟨c, o, none⟩ u).heap[b]? = w.heap[b]? := Below.heap_setCell _ _ _ _ (by show b ≠ c; omega)
  have hcc : ∀ {q x}, w.cell? ⟨b, q, none⟩ = some x → (w.setCell ⟨c, o, none⟩ u).cell? ⟨b, q, none⟩ = some x := fun {q x} hx => (World.cell?_of_block (w := w) (a := ⟨b, q, none⟩) hk).trans hx
  obtain ⟨h1, v, h2, h3⟩ := h j hj
  exact ⟨hcc h1, v, hcc h2, h3.far hl⟩
theorem srow_new (w : World) (lo n : Nat) (t : TypeId) : SRowL (w.alloc (.cells (madeCells #[.int .i64 0, .slice none 0 0] (n * 2)) t)) lo w.heap.size 0 (List.replicate n s0) := by
  intro j hj
  rw [List.length_replicate] at hj
  have e : (List.replicate n s0).getD j s0 = s0 := by simp [List.getD_eq_getElem?_getD, hj]
  rw [e]
  have hc := fun o => cell_of_row _ w.heap.size o _ t (0, 0) (heap_alloc_new w (.cells (madeCells #[.int .i64 0, .slice none 0 0] (n * 2)) t))
  have l0 : 0 + j * 2 < n * 2 := by omega
  have l1 : 0 + j * 2 + 1 < n * 2 := by omega
  refine ⟨(hc _).trans ?_, .slice none 0 0, (hc _).trans ?_, ⟨none, 0, rfl, Or.inl rfl⟩⟩
  · simp only [madeCells]
    rw [Array.getElem?_map, Array.getElem?_range, if_pos l0]
    simp [s0]
  · simp only [madeCells]
    rw [Array.getElem?_map, Array.getElem?_range, if_pos l1]
    simp
theorem SRowL.sv {w : World} {lo b n cap : Nat} {ss : List St} (h : SRowL w lo b 0 ss) (hn : n = ss.length) : SV w (.slice (some ⟨b, 0, none⟩) n cap) ss := ⟨_, _, by rw [hn], Or.inr ⟨b, 0, rfl, h.srow⟩⟩
def SG (ss : List St) : Prop := ∀ s ∈ ss, CG s.2
theorem SG.at {ss : List St} (h : SG ss) (j : Nat) (hj : j < ss.length) : CG (ss.getD j s0).2 := by
  rw [List.getD_eq_getElem?_getD, List.getElem?_eq_getElem hj]
  exact h _ (List.getElem_mem hj)
/-- Few enough. -/
def SL (ss : List St) (n : Nat) : Prop := ss.length ≤ n ∧ ∀ s ∈ ss, s.2.length ≤ n
theorem SL.at {ss : List St} {n : Nat} (h : SL ss n) (j : Nat) (hj : j < ss.length) : (ss.getD j s0).2.length ≤ n := by
  rw [List.getD_eq_getElem?_getD, List.getElem?_eq_getElem hj]
  exact h.2 _ (List.getElem_mem hj)
def vStore (s : St) : Bool := isDtB s.1 && decide (s.2.length ≤ 4096) && s.2.all fun c => validB s.1 c.1 c.2.1 c.2.2
def vHeap (ss : List St) : Bool := decide (ss.length ≤ 64) && ss.all vStore
theorem all_no {α : Type} (d : α) {p : α → Bool} {xs : List α} {k : Nat} (hk : k < xs.length) (h : p (xs.getD k d) = false) : xs.all p = false := by
  rw [List.all_eq_false]
  refine ⟨xs.getD k d, ?_, by rw [h]; simp⟩
  rw [List.getD_eq_getElem?_getD, List.getElem?_eq_getElem hk]
  exact List.getElem_mem hk
theorem all_yes {α : Type} (d : α) {p : α → Bool} {xs : List α} (h : ∀ j, j < xs.length → p (xs.getD j d) = true) : xs.all p = true := by
  rw [List.all_eq_true]
  intro x hx
  obtain ⟨j, hj, rfl⟩ := List.getElem_of_mem hx
  have := h j hj
  rw [List.getD_eq_getElem?_getD, List.getElem?_eq_getElem hj] at this
  exact this
end Go.Proofs.Ytbkdfhlbjaiahaa
namespace Go.Proofs.Ytbkdfhlbjaiahaa
open Go.ChangeShapes Go.RowKit FL
set_option linter.unusedSimpArgs false
set_option linter.unusedVariables false
/-- No list is longer than Go's. -/
def SB (ss : List St) : Prop := ss.length ≤ 9223372036854775807 ∧ ∀ s ∈ ss, s.2.length ≤ 9223372036854775807
theorem SB.at {ss : List St} (h : SB ss) (j : Nat) (hj : j < ss.length) : (ss.getD j s0).2.length ≤ 9223372036854775807 := by
  rw [List.getD_eq_getElem?_getD, List.getElem?_eq_getElem hj]
  exact h.2 _ (List.getElem_mem hj)
def SzOk (left : Int) (good : Prop) (e : Ending) : Prop := ∃ r : Int, e = .returned (.int .i64 r) ∧ (r < 0 ∨ (0 ≤ r ∧ r ≤ left ∧ good))

set_option maxRecDepth 100000 in
theorem szCells_any (w : World) (sa : Option Addr) (n cap : Nat) (left : Int) (hl : 0 ≤ left ∧ left ≤ 1048576) (hn : (n : Int) ≤ 9223372036854775807) :
    Calls Try.prog 60 #[.slice sa n cap, .int .i64 left] w fun e w' => SzOk left (n ≤ 1048576) e ∧ w' = w := by
  by_cases h : left - (n : Int) < 0
  · go_enter Try.func60, Try.ntmps60
    go_wp2
    go_ret
    exact ⟨⟨_, rfl, Or.inl (by omega)⟩, rfl⟩
  · go_enter Try.func60, Try.ntmps60
    go_wp2
    go_ret
    exact ⟨⟨_, rfl, Or.inr ⟨by omega, by omega, by omega⟩⟩, rfl⟩

set_option maxRecDepth 100000 in
theorem szStore_any (w : World) (dt : Int) (sa : Option Addr) (n cap : Nat) (left : Int) (hl : 0 ≤ left ∧ left ≤ 1048576) (hn : (n : Int) ≤ 9223372036854775807) :
    Calls Try.prog 39 #[.agg #[.int .i64 dt, .slice sa n cap], .int .i64 left] w fun e w' => SzOk left (n ≤ 1048576) e ∧ Ext w w' := by
  have x0 : Hid (Ext w (w.alloc (.cells #[.int .i64 dt, .slice sa n cap] 85))) := (Ext.refl w).alloc _ _
  go_enter Try.func39, Try.ntmps39
  go_wp2_with fail
  refine (szCells_any _ sa n cap left hl hn).mono ?_
  rintro e w1 ⟨⟨r, rfl, hr⟩, rfl⟩
  rcases hr with hr | ⟨h1, h2, h3⟩
  · go_wp2
    go_ret
    exact ⟨⟨_, rfl, Or.inl (by omega)⟩, x0.out⟩
  · have hr : ¬ r < 0 := by omega
    go_wp2
    go_ret
    exact ⟨⟨_, rfl, Or.inr ⟨by omega, by omega, h3⟩⟩, x0.out⟩

set_option maxRecDepth 100000 in
set_option maxHeartbeats 1000000 in
theorem szStores_any {w : World} {v : Value} {ss : List St} (h : SV w v ss) (hb : SB ss) (left : Int) (hl : 0 ≤ left ∧ left ≤ 1048576) :
    Calls Try.prog 23 #[v, .int .i64 left] w fun e w' => SzOk left (SL ss 1048576) e ∧ Ext w w' := by
  obtain ⟨sa, cap, rfl, hx⟩ := h
  have HX := hide hx
  have hb1 := hb.1
  clear hx
  by_cases h0 : left - (ss.length : Int) < 0
  · go_enter Try.func23, Try.ntmps23
    go_wp2
    go_ret
    exact ⟨⟨_, rfl, Or.inl (by omega)⟩, Ext.refl w⟩
  · have h0' : ¬ left - (ss.length : Int) < 0 := h0
    have hsl : ss.length ≤ 1048576 := by omega
    go_enter Try.func23, Try.ntmps23
    go_wp2_with fail
    go_loopw [1, 5] (fun l i wr => ∃ (k : Nat) (x : Int), i = .int .i64 k ∧ l = .int .i64 x ∧ k ≤ ss.length ∧ (0 ≤ x ∧ x ≤ left) ∧ Hid (∀ j, j < k → (ss.getD j s0).2.length ≤ 1048576) ∧ Ext w wr) (fun l i _ => ss.length - (intOf i).toNat)
    case atStart => exact ⟨0, _, rfl, rfl, by omega, ⟨by omega, by omega⟩, fun j hj => absurd hj (Nat.not_lt_zero _), Ext.refl w⟩
    case round =>
      obtain ⟨k, x, rfl, rfl, hk, hx, hv, hw⟩ := hrel
      have HW := hide hw
      clear hw
      by_cases hlt : k < ss.length
      · rcases HX.out with h1 | ⟨b, off, rfl, hrow⟩
        · rw [h1] at hlt; simp at hlt
        obtain ⟨q0, u, q1, c1⟩ := (hrow.keep HW.out.bl) k hlt
        have hbk := hb.at k hlt
        have hk0 : (0 : Int) ≤ (k : Int) := Int.natCast_nonneg _
        have hk1 : (k : Int) < (ss.length : Int) := by omega
        have hvk : Hid ((ss.getD k s0).2.length ≤ 1048576 → ∀ j, j < k + 1 → (ss.getD j s0).2.length ≤ 1048576) := fun hh j hj => by
          by_cases e : j = k
          · rw [e]; exact hh
          · exact hv.out j (by omega)
        generalize (ss.getD k s0).1 = A at q0
        generalize (ss.getD k s0).2 = cs at c1 hbk hvk
        clear hrow
        obtain ⟨s1, d1, rfl, _⟩ := c1
        go_wp2_with fail
        refine (szStore_any _ A s1 cs.length d1 x ⟨hx.1, by omega⟩ (by omega)).mono ?_
        rintro e w2 ⟨⟨r, rfl, hr⟩, x2⟩
        have HW2 := hide (HW.out.trans x2)
        clear x2
        rcases hr with hr | ⟨r1, r2, r3⟩
        · go_wp2
          go_ret
          exact ⟨⟨_, rfl, Or.inl (by omega)⟩, HW2.out⟩
        · have hr : ¬ r < 0 := by omega
          go_wp2
          go_roundw
          · exact ⟨k + 1, r, by go_num, rfl, by omega, ⟨by omega, by omega⟩, hvk.out r3, HW2.out⟩
          · simp [intOf]; omega
      · have hkk : k = ss.length := by omega
        subst hkk
        go_wp2
        go_ret
        refine ⟨⟨_, rfl, Or.inr ⟨by omega, by omega, hsl, fun s hs => ?_⟩⟩, HW.out⟩
        obtain ⟨j, hj, rfl⟩ := List.getElem_of_mem hs
        have := hv.out j hj
        rw [List.getD_eq_getElem?_getD, List.getElem?_eq_getElem hj] at this
        exact this

set_option maxRecDepth 100000 in
theorem szHeap_any {w : World} {v : Value} {ss : List St} (h : SV w v ss) (hb : SB ss) (left : Int) (hl : 0 ≤ left ∧ left ≤ 1048576) :
    Calls Try.prog 6 #[.agg #[v], .int .i64 left] w fun e w' => SzOk left (SL ss 1048576) e ∧ Ext w w' := by
  obtain ⟨sa, cap, rfl, hx⟩ := h
  have x0 : Ext w (w.alloc (.cells #[.slice sa ss.length cap] 24)) := (Ext.refl w).alloc _ _
  have h : SV w (.slice sa ss.length cap) ss := ⟨sa, cap, rfl, hx⟩
  have HS := hide (szStores_any (h.keep x0.bl) hb left hl)
  have HX := hide x0
  clear hx h x0
  go_enter Try.func6, Try.ntmps6
  go_wp2_with fail
  refine HS.out.mono ?_
  rintro e w1 ⟨⟨r, rfl, hr⟩, x1⟩
  have HX1 := hide (HX.out.trans x1)
  clear x1
  rcases hr with hr | ⟨h1, h2, h3⟩
  · go_wp2
    go_ret
    exact ⟨⟨_, rfl, Or.inl (by omega)⟩, HX1.out⟩
  · have hr : ¬ r < 0 := by omega
    go_wp2
    go_ret
    exact ⟨⟨_, rfl, Or.inr ⟨by omega, by omega, h3⟩⟩, HX1.out⟩
end Go.Proofs.Ytbkdfhlbjaiahaa
namespace Go.Proofs.Ytbkdfhlbjaiahaa
open Go.ChangeShapes Go.WideShapes Go.ChangeAt Go.RowKit Go.Deep FL
set_option linter.unusedVariables false
set_option linter.unusedSimpArgs false
theorem ownK : ownKnob Try.prog.godebug = none := by kernel_rfl
theorem laidOut : laidOutB Try.prog = true := by kernel_rfl
theorem cells2 : Try.prog.cellsOf 2 = 1 := by kernel_rfl
theorem cells57 : Try.prog.cellsOf 57 = 1 := by kernel_rfl
theorem cells83 : Try.prog.cellsOf 83 = 1 := by kernel_rfl
theorem cells22 : Try.prog.cellsOf 22 = 1 := by kernel_rfl
theorem cells116 : Try.prog.cellsOf 116 = 3 := by kernel_rfl
theorem cells85 : Try.prog.cellsOf 85 = 2 := by kernel_rfl
theorem cells24 : Try.prog.cellsOf 24 = 1 := by kernel_rfl
theorem wf_I64 {i : Int} (h : (Lit.int .i64 i).wf = true) : I64 i := by
  have := bounds_i64 h
  unfold I64; omega
theorem wf_B64 {f : Nat} (h : (Lit.float .f64 f).wf = true) : B64 f := by
  simpa [Lit.wf, B64] using h
theorem no_spot {w : World} {a : Addr} {v : Value} (h : w.cell? a = some v) : a.spot = none := by
  unfold World.cell? at h
  split at h
  · cases e : a.spot with
    | none => rfl
    | some x => rw [e] at h; simp at h
  · cases h
section
variable {H : Type} {enc : TypeId × Value → H} {W : World} {base : Nat} {spare : Nat → Bool} {held : Bool}
theorem trod_float {k : FloatKind} {fuel : Nat} {t : TypeId} {cs : List Value} {x : DataW H × List MemPlace} (ht : Try.prog.underlying t = some (.float k)) (h : DataW.trod enc Try.prog W base spare held fuel t cs = some x) : ∃ n, cs = [.float k n] ∧ x = (.lit (.float k n), []) ∧ (Lit.float k n).wf = true := by
  cases fuel with
  | zero => simp [DataW.trod] at h
  | succ n =>
    unfold DataW.trod at h
    rw [ht] at h
    split at h <;> simp_all
set_option maxRecDepth 100000 in
theorem cells_of {u : Value} {n : Nat} {y : DataW H × List MemPlace} (h : DataW.trod enc Try.prog W 0 (fun _ => true) true n 83 [u] = some y) : ∃ cs : List C3, CV W u cs ∧ CG cs ∧ cs.length ≤ 9223372036854775807 := by
  rcases open_slice Try.underlying83 h with ⟨hcs, hx⟩ | ⟨a, len, cap, m, n', D, Pl, hcs, _, hl, hm, hmm, hx, hi⟩
  · simp at hcs
    subst hcs
    exact ⟨[], ⟨none, 0, rfl, Or.inl rfl⟩, fun c hc => by simp at hc, by simp⟩
  · simp at hcs
    subst hcs
    simp only [if_true] at hmm
    subst hmm
    have each : ∀ i, i < len → ∃ q : C3, (W.cell? (a.add (i * 3)) = some (.int .i64 q.1) ∧ W.cell? ((a.add (i * 3)).add 1) = some (.float .f64 q.2.1) ∧ W.cell? ((a.add (i * 3)).add 2) = some (.float .f64 q.2.2)) ∧ I64 q.1 ∧ B64 q.2.1 ∧ B64 q.2.2 := fun i hlt => by
      obtain ⟨cs', h1, h2⟩ := hi i (by omega)
      rw [cells116] at h1
      obtain ⟨_, hlen, hcell⟩ := World.cells?_some h1
      obtain ⟨y0, y1, y2, k, _, _, g0, g1, g2⟩ := trod_struct3 Try.underlying116 h2
      match cs', hlen with
      | [v0, v1, v2], _ =>
        simp [cells2, cells57] at g0 g1 g2
        obtain ⟨x0, e0, _, w0⟩ := DataW.trod_int Try.underlying2 g0
        obtain ⟨x1, e1, _, w1⟩ := trod_float Try.underlying57 g1
        obtain ⟨x2, e2, _, w2⟩ := trod_float Try.underlying57 g2
        simp at e0 e1 e2
        subst e0 e1 e2
        have c0 := hcell 0 (by omega)
        have c1 := hcell 1 (by omega)
        have c2 := hcell 2 (by omega)
        have z : (a.add (i * 3)).add 0 = a.add (i * 3) := by simp [Addr.add]
        rw [z] at c0
        exact ⟨(x0, x1, x2), ⟨by simpa using c0, by simpa using c1, by simpa using c2⟩, wf_I64 w0, wf_B64 w1, wf_B64 w2⟩
    obtain ⟨f, hfq⟩ := choose_lt each
    have hlen : ((List.range len).map f).length = len := by simp
    refine ⟨(List.range len).map f, ⟨some a, _, by rw [hlen], ?_⟩, fun c hc => ?_, by rw [hlen]; unfold maxLen at hm; omega⟩
    · by_cases e : len = 0
      · subst e; exact Or.inl rfl
      · have hs : a.spot = none := no_spot (by have := (hfq 0 (by omega)).1.1; simpa [Addr.add] using this)
        obtain ⟨b, off, spot⟩ := a
        simp only at hs
        subst hs
        refine Or.inr ⟨b, off, rfl, fun j hj => ?_⟩
        rw [hlen] at hj
        have e2 : ((List.range len).map f).getD j k0 = f j := by simp [List.getD_eq_getElem?_getD, hj]
        rw [e2]
        obtain ⟨⟨c0, c1, c2⟩, _⟩ := hfq j hj
        rw [add_add] at c1 c2
        rw [Addr.add_lit] at c0 c1 c2
        exact ⟨c0, by rw [Nat.add_assoc]; exact c1, by rw [Nat.add_assoc]; exact c2⟩
    · simp only [List.mem_map, List.mem_range] at hc
      obtain ⟨i, hi', rfl⟩ := hc
      exact (hfq i hi').2
set_option maxRecDepth 100000 in
theorem stores_of {u : Value} {n : Nat} {y : DataW H × List MemPlace} (h : DataW.trod enc Try.prog W 0 (fun _ => true) true n 22 [u] = some y) : ∃ ss : List St, SV W u ss ∧ SB ss ∧ SG ss := by
  rcases open_slice Try.underlying22 h with ⟨hcs, hx⟩ | ⟨a, len, cap, m, n', D, Pl, hcs, _, hl, hm, hmm, hx, hi⟩
  · simp at hcs
    subst hcs
    exact ⟨[], ⟨none, 0, rfl, Or.inl rfl⟩, ⟨by simp, fun s hs => by simp at hs⟩, fun s hs => by simp at hs⟩
  · simp at hcs
    subst hcs
    simp only [if_true] at hmm
    subst hmm
    have each : ∀ i, i < len → ∃ q : St, (W.cell? (a.add (i * 2)) = some (.int .i64 q.1) ∧ ∃ u, W.cell? ((a.add (i * 2)).add 1) = some u ∧ CV W u q.2) ∧ CG q.2 ∧ q.2.length ≤ 9223372036854775807 := fun i hlt => by
      obtain ⟨cs', h1, h2⟩ := hi i (by omega)
      rw [cells85] at h1
      obtain ⟨_, hlen, hcell⟩ := World.cells?_some h1
      obtain ⟨y0, y1, k, _, _, g0, g1⟩ := trod_struct2 Try.underlying85 h2
      match cs', hlen with
      | [v0, v1], _ =>
        simp [cells2, cells83] at g0 g1
        obtain ⟨x0, e0, _, w0⟩ := DataW.trod_int Try.underlying2 g0
        simp at e0
        subst e0
        obtain ⟨cs, hcv, hcg, hcl⟩ := cells_of g1
        have c0 := hcell 0 (by omega)
        have c1 := hcell 1 (by omega)
        have z : (a.add (i * 2)).add 0 = a.add (i * 2) := by simp [Addr.add]
        rw [z] at c0
        exact ⟨(x0, cs), ⟨by simpa using c0, v1, by simpa using c1, hcv⟩, hcg, hcl⟩
    obtain ⟨f, hfq⟩ := choose_lt each
    have hlen : ((List.range len).map f).length = len := by simp
    refine ⟨(List.range len).map f, ⟨some a, _, by rw [hlen], ?_⟩, ⟨by rw [hlen]; unfold maxLen at hm; omega, fun s hs => ?_⟩, fun s hs => ?_⟩
    · by_cases e : len = 0
      · subst e; exact Or.inl rfl
      · have hs : a.spot = none := no_spot (by have := (hfq 0 (by omega)).1.1; simpa [Addr.add] using this)
        obtain ⟨b, off, spot⟩ := a
        simp only at hs
        subst hs
        refine Or.inr ⟨b, off, rfl, fun j hj => ?_⟩
        rw [hlen] at hj
        have e2 : ((List.range len).map f).getD j s0 = f j := by simp [List.getD_eq_getElem?_getD, hj]
        rw [e2]
        obtain ⟨⟨c0, u, c1, c2⟩, _⟩ := hfq j hj
        rw [add_add] at c1
        rw [Addr.add_lit] at c0 c1
        exact ⟨c0, u, by rw [Nat.add_assoc]; exact c1, c2⟩
    · simp only [List.mem_map, List.mem_range] at hs
      obtain ⟨i, hi', rfl⟩ := hs
      exact (hfq i hi').2.2
    · simp only [List.mem_map, List.mem_range] at hs
      obtain ⟨i, hi', rfl⟩ := hs
      exact (hfq i hi').2.1
set_option maxRecDepth 100000 in
theorem heap_of {b0 : Nat} {v : Value} {d : DataW H} {p : List MemPlace} (hv : Value.okWide Try.prog W .any b0 24 v)
    (h : DataW.Trod enc Try.prog W 0 (fun _ => true) true 24 v d p) : ∃ (u : Value) (ss : List St), v = .agg #[u] ∧ SV W u ss ∧ SB ss ∧ SG ss := by
  obtain ⟨cs, rfl, hsz⟩ := okWide_struct Try.underlying24 hv
  rw [cells24] at hsz
  obtain ⟨c0, rfl⟩ : ∃ c0, cs = #[c0] := by
    obtain ⟨l⟩ := cs
    match l, hsz with
    | [c0], _ => exact ⟨c0, rfl⟩
  obtain ⟨fuel, hf⟩ := h
  obtain ⟨y0, n, _, _, h0⟩ := trod_struct1 Try.underlying24 hf
  simp [Value.cells, cells22] at h0
  obtain ⟨ss, h1, h2, h3⟩ := stores_of h0
  exact ⟨c0, ss, rfl, h1, h2, h3⟩
end
end Go.Proofs.Ytbkdfhlbjaiahaa
namespace Go.Proofs.Ytbkdfhlbjaiahaa
open Go.ChangeShapes Go.RowKit
set_option linter.unusedSimpArgs false
set_option linter.unusedVariables false

def Hid (p : Prop) : Prop := p
theorem Hid.out {p : Prop} (h : Hid p) : p := h

/-- Of what was there, block b alone may have turned; new blocks and draws. -/
structure Mut (b : Nat) (w w' : World) : Prop where
  os : w'.os = w.os
  tape : w'.tape = w.tape
  output : w'.output = w.output
  size : w.heap.size ≤ w'.heap.size
  block : ∀ k, k < w.heap.size → k ≠ b → w'.heap[k]? = w.heap[k]?
  fz : ∀ a, w'.frozen? a = w.frozen? a

theorem Mut.refl (b : Nat) (w : World) : Mut b w w := ⟨rfl, rfl, rfl, Nat.le_refl _, fun _ _ _ => rfl, fun _ => rfl⟩
theorem Mut.trans {b : Nat} {a c d : World} (h : Mut b a c) (k : Mut b c d) : Mut b a d :=
  ⟨k.os.trans h.os, k.tape.trans h.tape, k.output.trans h.output, Nat.le_trans h.size k.size, fun i hi hn => (k.block i (Nat.lt_of_lt_of_le hi h.size) hn).trans (h.block i hi hn), fun a => (k.fz a).trans (h.fz a)⟩
theorem Ext.mut {a c : World} (h : Ext a c) (b : Nat) : Mut b a c :=
  ⟨h.bl.os, h.bl.tape, h.bl.output, h.bl.size, fun i hi _ => h.bl.block i hi, h.fz⟩
theorem Mut.setCell {b : Nat} {a c : World} (h : Mut b a c) (o : Nat) (v : Value) : Mut b a (c.setCell ⟨b, o, none⟩ v) :=
  h.trans ⟨rfl, rfl, rfl, by simp [World.setCell], fun k hk hn => Below.heap_setCell _ _ _ _ hn, fun x => World.frozen?_setCell _ _ _ _⟩
theorem Mut.drewN {b : Nat} {a c : World} (h : Mut b a c) (n : Nat) : Mut b a (c.drewN n) := ⟨h.os, h.tape, h.output, h.size, h.block, h.fz⟩
theorem Mut.drew {b : Nat} {a c : World} (h : Mut b a c) : Mut b a c.drew := ⟨h.os, h.tape, h.output, h.size, h.block, h.fz⟩
theorem Mut.box {b : Nat} {W w1 : World} (h : Mut b W w1) {k o : Nat} {v : Value} (hk : k ≠ b) (hc : W.cell? ⟨k, o, none⟩ = some v) : w1.cell? ⟨k, o, none⟩ = some v := by
  rw [← hc]
  exact World.cell?_of_block (w := W) (a := ⟨k, o, none⟩) (h.block k (cell_lt hc) hk)
theorem Mut.ext {b : Nat} {a c d : World} (h : Mut b c d) (x : Ext a c) (hb : a.heap.size ≤ b) : Ext a d :=
  ⟨x.bl.trans ⟨h.os, h.tape, h.output, h.size, fun k hk => h.block k (Nat.lt_of_lt_of_le hk x.bl.size) (by omega)⟩, fun y => (h.fz y).trans (x.fz y)⟩

/-- The integers xs lie in block b from place off on. -/
def Row (w : World) (b off : Nat) (xs : List Int) : Prop := ∀ j, j < xs.length → w.cell? ⟨b, off + j, none⟩ = some (.int .i64 (xs.getD j 0))
/-- v is a slice of these integers. -/
def Ints (w : World) (v : Value) (xs : List Int) : Prop := ∃ sa cap, v = .slice sa xs.length cap ∧ (xs = [] ∨ ∃ b off, sa = some ⟨b, off, none⟩ ∧ Row w b off xs)

theorem Row.ext {w w' : World} {b off : Nat} {xs : List Int} (h : Row w b off xs) (x : Ext w w') : Row w' b off xs := fun j hj => x.box (h j hj)
theorem Row.mut {w w' : World} {b off c : Nat} {xs : List Int} (h : Row w b off xs) (x : Mut c w w') (hb : b ≠ c) : Row w' b off xs := fun j hj => x.box hb (h j hj)
theorem Ints.ext {w w' : World} {v : Value} {xs : List Int} (h : Ints w v xs) (x : Ext w w') : Ints w' v xs := by
  obtain ⟨sa, cap, rfl, h⟩ := h
  refine ⟨sa, cap, rfl, ?_⟩
  rcases h with h | ⟨b, off, h1, h2⟩
  · exact Or.inl h
  · exact Or.inr ⟨b, off, h1, h2.ext x⟩
theorem Row.ints {w : World} {b off cap n : Nat} {xs : List Int} (h : Row w b off xs) (hn : n = xs.length) : Ints w (.slice (some ⟨b, off, none⟩) n cap) xs := ⟨_, _, by rw [hn], Or.inr ⟨b, off, rfl, h⟩⟩

theorem Row.set {w : World} {b off k : Nat} {xs : List Int} (h : Row w b off xs) (hk : k < xs.length) (x : Int) : Row (w.setCell ⟨b, off + k, none⟩ (.int .i64 x)) b off (xs.set k x) :=
  ints_set h hk
theorem info2 : (Try.prog.info? 2).map (fun i => (i.zero, i.size, i.bytes)) = some (some (.int .i64 0), 1, 8) := by kernel_rfl
end Go.Proofs.Ytbkdfhlbjaiahaa
namespace Go.Proofs.Ytbkdfhlbjaiahaa
open Go.ChangeShapes Go.WideShapes Go.ChangeAt Go.RowKit Go.Deep FL
set_option linter.unusedVariables false
set_option linter.unusedSimpArgs false
theorem cells33 : Try.prog.cellsOf 33 = 1 := by kernel_rfl
theorem cells35 : Try.prog.cellsOf 35 = 3 := by kernel_rfl
theorem cells37 : Try.prog.cellsOf 37 = 4 := by kernel_rfl
section
variable {H : Type} {enc : TypeId × Value → H} {W : World}
set_option maxRecDepth 100000 in
theorem ints_of {u : Value} {n : Nat} {y : DataW H × List MemPlace} (h : DataW.trod enc Try.prog W 0 (fun _ => true) true n 33 [u] = some y) : ∃ xs : List Int, Ints W u xs ∧ xs.length ≤ 9223372036854775807 := by
  rcases open_ints Try.underlying33 Try.underlying2 cells2 h with ⟨hcs, hx⟩ | ⟨a, len, cap, zs, hcs, _, hl, hm, hz, hx, hcell, hwz⟩
  · simp at hcs
    subst hcs
    exact ⟨[], ⟨none, 0, rfl, Or.inl rfl⟩, by simp⟩
  · simp at hcs
    subst hcs
    simp only [if_true] at hz
    have hlen : (zs.take len).length = len := by rw [List.length_take]; omega
    refine ⟨zs.take len, ⟨some a, cap, by rw [hlen], ?_⟩, by rw [hlen]; unfold maxLen at hm; omega⟩
    by_cases e : len = 0
    · subst e; exact Or.inl (by simp)
    · have hs : a.spot = none := no_spot (by have := hcell 0 (by omega); simpa [Addr.add] using this)
      obtain ⟨b, off, spot⟩ := a
      simp only at hs
      subst hs
      refine Or.inr ⟨b, off, rfl, fun j hj => ?_⟩
      rw [hlen] at hj
      have h1 := hcell j (by omega)
      rw [Addr.add_lit] at h1
      rw [h1, List.getD_eq_getElem?_getD, List.getD_eq_getElem?_getD, List.getElem?_take, if_pos hj]
set_option maxRecDepth 100000 in
theorem array_of {b0 : Nat} {v : Value} {d : DataW H} {p : List MemPlace} (hv : Value.okWide Try.prog W .any b0 37 v)
    (h : DataW.Trod enc Try.prog W 0 (fun _ => true) true 37 v d p) : ∃ (st : Int) (vS vT : Value) (off : Int) (xs sv : List Int), v = .agg #[.int .i64 st, vS, vT, .int .i64 off] ∧ Ints W vS xs ∧ Ints W vT sv ∧ xs.length ≤ 9223372036854775807 ∧ sv.length ≤ 9223372036854775807 := by
  obtain ⟨cs, rfl, hsz⟩ := okWide_struct Try.underlying37 hv
  rw [cells37] at hsz
  obtain ⟨c0, c1, c2, c3, rfl⟩ : ∃ c0 c1 c2 c3, cs = #[c0, c1, c2, c3] := by
    obtain ⟨l⟩ := cs
    match l, hsz with
    | [c0, c1, c2, c3], _ => exact ⟨c0, c1, c2, c3, rfl⟩
  obtain ⟨fuel, hf⟩ := h
  obtain ⟨y0, y1, n, _, _, h0, h1⟩ := trod_struct2 Try.underlying37 hf
  simp [Value.cells, cells2, cells35] at h0 h1
  obtain ⟨st, e0, _, _⟩ := DataW.trod_int Try.underlying2 h0
  simp at e0
  subst e0
  obtain ⟨z0, z1, z2, m, _, _, g0, g1, g2⟩ := trod_struct3 Try.underlying35 h1
  simp [cells2, cells33] at g0 g1 g2
  obtain ⟨off, e3, _, _⟩ := DataW.trod_int Try.underlying2 g2
  simp at e3
  subst e3
  obtain ⟨xs, hx, lx⟩ := ints_of g0
  obtain ⟨sv, hs, ls⟩ := ints_of g1
  exact ⟨st, c1, c2, off, xs, sv, rfl, hx, hs, lx, ls⟩
end
end Go.Proofs.Ytbkdfhlbjaiahaa
namespace Go.Proofs.Ytbkdfhlbjaiahaa
open Go.ChangeShapes Go.RowKit
set_option linter.unusedSimpArgs false
set_option linter.unusedVariables false

/-- The first k are in, the rest is 0. -/
def fill (xs : List Int) (k : Nat) : List Int := xs.take k ++ List.replicate (xs.length - k) 0
theorem fill_len (xs : List Int) (k : Nat) : (fill xs k).length = xs.length := by
  unfold fill; simp; omega
theorem fill_set (xs : List Int) (k : Nat) (hk : k < xs.length) : (fill xs k).set k (xs.getD k 0) = fill xs (k + 1) := by
  unfold fill
  apply List.ext_getElem?
  intro j
  simp only [List.getElem?_set, List.getElem?_append, List.length_append, List.length_take, List.length_replicate, List.getElem?_take, List.getElem?_replicate, List.getD_eq_getElem?_getD]
  by_cases e : k = j
  · subst e
    have h1 : min k xs.length = k := by omega
    have h2 : min (k + 1) xs.length = k + 1 := by omega
    simp [h1, h2, hk]
    omega
  · have h1 : min k xs.length = k := by omega
    have h2 : min (k + 1) xs.length = k + 1 := by omega
    simp only [h1, h2, e, if_false]
    by_cases h : j < k
    · have : j < k + 1 := by omega
      simp [h, this]
    · have h3 : ¬ j < k + 1 := by omega
      simp only [h, h3, if_false]
      by_cases h4 : j - k < xs.length - k
      · have : j - (k + 1) < xs.length - (k + 1) := by omega
        simp [h4, this]
      · have : ¬ j - (k + 1) < xs.length - (k + 1) := by omega
        simp [h4, this]
theorem fill_zero (xs : List Int) : fill xs 0 = List.replicate xs.length 0 := by unfold fill; simp
theorem fill_full (xs : List Int) : fill xs xs.length = xs := by unfold fill; simp

theorem row_new (w : World) (n : Nat) : Row (w.alloc (.cells (madeCells #[.int .i64 0] n) 2)) w.heap.size 0 (List.replicate n 0) := by
  intro j hj
  rw [List.length_replicate] at hj
  rw [cell_of_row _ w.heap.size (0 + j) _ 2 (0, 0) (heap_alloc_new w _)]
  simp [madeCells, hj, Nat.mod_one]

set_option maxRecDepth 100000 in
set_option maxHeartbeats 1000000 in
theorem toInts_any {w : World} {v : Value} {xs : List Int} (h : Ints w v xs) (hl : xs.length ≤ 1048576) :
    Calls Try.prog 52 #[v] w fun e w' => e = .returned (.slice (some ⟨w.heap.size, 0, none⟩) xs.length xs.length) ∧ Row w' w.heap.size 0 xs ∧ Ext w w' ∧ w.heap.size < w'.heap.size := by
  obtain ⟨i0, hi0, hz0, hz1, hz2⟩ := info_parts info2
  obtain ⟨sa, cap, rfl, hx⟩ := h
  have hmk := run_make (P := Try.prog) w 33 2 i0 (.int .i64 0) Try.underlying33 hi0 hz0 .i64 .i64 xs.length xs.length (by omega) (Int.le_refl _) (by rw [hz2]; omega) (by omega)
  simp only [Int.toNat_natCast] at hmk
  have HX := hide hx
  clear hx
  have R0 := hide (row_new w xs.length)
  go_enter Try.func52, Try.ntmps52
  go_wp2
  go_loopw [4] (fun i wr => ∃ k : Nat, i = .int .i64 k ∧ k ≤ xs.length ∧ Row wr w.heap.size 0 (fill xs k) ∧ Ext w wr ∧ w.heap.size < wr.heap.size) (fun i _ => xs.length - (intOf i).toNat)
  case atStart => exact ⟨0, rfl, by omega, by rw [fill_zero]; exact R0.out, (Ext.refl w).alloc _ _, by simp⟩
  case round =>
    obtain ⟨k, rfl, hk, hr, he, hs⟩ := hrel
    have HR := hide hr
    have HE := hide he
    clear hr he
    by_cases hlt : k < xs.length
    · rcases HX.out with h0 | ⟨b, off, rfl, hrow⟩
      · rw [h0] at hlt; simp at hlt
      have q0 := HE.out.box (hrow k hlt)
      have q1 := HR.out k (by rw [fill_len]; exact hlt)
      rw [Nat.zero_add] at q1
      have qf := HE.out.unfrozen (Nat.le_refl _) k
      have hk0 : (0 : Int) ≤ (k : Int) := Int.natCast_nonneg _
      have hk1 : (k : Int) < (xs.length : Int) := by omega
      have St := HR.out.set (k := k) (by rw [fill_len]; exact hlt) (xs.getD k 0)
      rw [fill_set xs k hlt, Nat.zero_add] at St
      generalize xs.getD k 0 = x at q0 St
      have HSt := hide St
      clear St
      go_wp2
      go_roundw
      · exact ⟨k + 1, by go_num, by omega, HSt.out, HE.out.setCell (Nat.le_refl _) _, by simpa [World.setCell] using hs⟩
      · simp [intOf]; omega
    · have hkk : k = xs.length := by omega
      go_wp2
      go_ret
      refine ⟨rfl, ?_, HE.out, hs⟩
      have := HR.out
      rw [hkk, fill_full] at this
      exact this

/-- The first places where two lists of one length part. -/
theorem eq_of_getD {xs ys : List Int} (hl : xs.length = ys.length) (h : ∀ j, j < xs.length → xs.getD j 0 = ys.getD j 0) : xs = ys := by
  apply List.ext_getElem hl
  intro j h1 h2
  have := h j h1
  simpa [List.getD_eq_getElem?_getD, h1, h2] using this

set_option maxRecDepth 100000 in
set_option maxHeartbeats 1000000 in
theorem eqInts_any {w : World} {v u : Value} {xs ys : List Int} (h : Ints w v xs) (g : Ints w u ys) (hl : xs.length ≤ 1000000000000) :
    Calls Try.prog 55 #[v, u] w fun e w' => e = .returned (.bool (decide (xs = ys))) ∧ Ext w w' := by
  obtain ⟨sa, cap, rfl, hx⟩ := h
  obtain ⟨ta, dap, rfl, hy⟩ := g
  have HX := hide hx
  have HY := hide hy
  clear hx hy
  by_cases hle : xs.length = ys.length
  · have hle' : (xs.length : Int) = (ys.length : Int) := by omega
    go_enter Try.func55, Try.ntmps55
    go_wp2
    go_loopw [5] (fun i wr => ∃ k : Nat, i = .int .i64 k ∧ k ≤ xs.length ∧ Hid (∀ j, j < k → xs.getD j 0 = ys.getD j 0) ∧ Ext w wr) (fun i _ => xs.length - (intOf i).toNat)
    case atStart => exact ⟨0, rfl, by omega, fun j hj => absurd hj (Nat.not_lt_zero _), Ext.refl w⟩
    case round =>
      obtain ⟨k, rfl, hk, he, hw⟩ := hrel
      have HW := hide hw
      clear hw
      by_cases hlt : k < xs.length
      · rcases HX.out with h0 | ⟨b, off, rfl, hrow⟩
        · rw [h0] at hlt; simp at hlt
        rcases HY.out with h0 | ⟨b2, off2, rfl, hrow2⟩
        · rw [hle, h0] at hlt; simp at hlt
        have q0 := HW.out.box (hrow k hlt)
        have q1 := HW.out.box (hrow2 k (by omega))
        have hk0 : (0 : Int) ≤ (k : Int) := Int.natCast_nonneg _
        have hk1 : (k : Int) < (xs.length : Int) := by omega
        have hk2 : (k : Int) < (ys.length : Int) := by omega
        by_cases hq : xs.getD k 0 = ys.getD k 0
        · have he2 : Hid (∀ j, j < k + 1 → xs.getD j 0 = ys.getD j 0) := fun j hj => by
            by_cases e : j = k
            · rw [e]; exact hq
            · exact he.out j (by omega)
          rw [hq] at q0
          clear hq
          generalize ys.getD k 0 = x at q0 q1
          clear hrow hrow2
          go_wp2_with fail
          go_region
          all_goals go_wp2
          all_goals go_roundw
          all_goals first | exact ⟨k + 1, by go_num, by omega, he2, HW.out.drew⟩ | (simp [intOf]; omega)
        · have hne : ¬ xs = ys := fun e => hq (by rw [e])
          have hd : Hid (decide (xs = ys) = false) := decide_eq_false hne
          generalize xs.getD k 0 = x at q0 hq
          generalize ys.getD k 0 = y at q1 hq
          have hq2 : (x != y) = true := by simp [hq]
          clear hrow hrow2 hne
          go_wp2_with fail
          go_region
          all_goals go_wp2
          all_goals go_ret
          all_goals exact ⟨ret_bool hd.out.symm, HW.out.drew⟩
      · have hkk : k = xs.length := by omega
        subst hkk
        have hd : Hid (decide (xs = ys) = true) := decide_eq_true (eq_of_getD hle he.out)
        go_wp2
        go_ret
        exact ⟨ret_bool hd.out.symm, HW.out⟩
  · have hd : Hid (decide (xs = ys) = false) := decide_eq_false (fun e => hle (by rw [e]))
    have hne : ¬ (xs.length : Int) = (ys.length : Int) := by omega
    go_enter Try.func55, Try.ntmps55
    go_wp2
    go_ret
    exact ⟨ret_bool hd.out.symm, Ext.refl w⟩

/-- What mark lays: k, k + 1, .. -/
def counted (n : Nat) (k : Int) : List Int := (List.range n).map fun (j : Nat) => k + (j : Int)
theorem counted_len (n : Nat) (k : Int) : (counted n k).length = n := by simp [counted]
theorem counted_getD (n : Nat) (k : Int) (j : Nat) (hj : j < n) : (counted n k).getD j 0 = k + (j : Int) := by simp [counted, List.getD_eq_getElem?_getD, hj]

/-- Marked up to i. -/
def marked (xs : List Int) (k : Int) (i : Nat) : List Int := counted i k ++ xs.drop i
theorem marked_len (xs : List Int) (k : Int) (i : Nat) (hi : i ≤ xs.length) : (marked xs k i).length = xs.length := by
  unfold marked; simp [counted_len]; omega
theorem marked_set (xs : List Int) (k : Int) (i : Nat) (hi : i < xs.length) : (marked xs k i).set i (k + i) = marked xs k (i + 1) := by
  unfold marked counted
  apply List.ext_getElem?
  intro j
  simp only [List.getElem?_set, List.getElem?_append, List.length_append, List.length_map, List.length_range, List.length_drop, List.getElem?_map, List.getElem?_drop]
  by_cases e : i = j
  · subst e
    have : i + (xs.length - i) = xs.length := by omega
    simp [this, hi]
  · simp only [e, if_false]
    by_cases h : j < i
    · have : j < i + 1 := by omega
      simp [h, this]
    · have h3 : ¬ j < i + 1 := by omega
      have h5 : i + (j - i) = i + 1 + (j - (i + 1)) := by omega
      simp only [h, h3, if_false, h5]
theorem marked_zero (xs : List Int) (k : Int) : marked xs k 0 = xs := by simp [marked, counted]
theorem marked_full (xs : List Int) (k : Int) : marked xs k xs.length = counted xs.length k := by simp [marked]

set_option maxRecDepth 100000 in
set_option maxHeartbeats 1000000 in
theorem markInts_any {w : World} {b off cap : Nat} {xs : List Int} (h : Row w b off xs) (hf : ∀ o, w.frozen? ⟨b, o, none⟩ = false) (k : Int) (hk : 0 ≤ k ∧ k ≤ 1000000000000) (hl : xs.length ≤ 1000000000000) :
    Calls Try.prog 59 #[.slice (some ⟨b, off, none⟩) xs.length cap, .int .i64 k] w fun e w' => e = .returned (.int .i64 (k + xs.length)) ∧ Row w' b off (counted xs.length k) ∧ Mut b w w' := by
  have H := hide h
  clear h
  go_enter Try.func59, Try.ntmps59
  go_wp2
  go_loopw [1, 5] (fun m i wr => ∃ j : Nat, i = .int .i64 j ∧ m = .int .i64 (k + j) ∧ j ≤ xs.length ∧ Row wr b off (marked xs k j) ∧ Mut b w wr) (fun m i _ => xs.length - (intOf i).toNat)
  case atStart => exact ⟨0, rfl, by simp, by omega, by rw [marked_zero]; exact H.out, Mut.refl _ _⟩
  case round =>
    obtain ⟨j, rfl, rfl, hj, hr, hm⟩ := hrel
    have HR := hide hr
    have HM := hide hm
    clear hr hm
    by_cases hlt : j < xs.length
    · have hml : j < (marked xs k j).length := by rw [marked_len xs k j hj]; exact hlt
      have q0 := HR.out j hml
      have qf := (HM.out.fz ⟨b, off + j, none⟩).trans (hf _)
      have hj0 : (0 : Int) ≤ (j : Int) := Int.natCast_nonneg _
      have hj1 : (j : Int) < (xs.length : Int) := by omega
      have St := HR.out.set (k := j) hml (k + j)
      rw [marked_set xs k j hlt] at St
      have HSt := hide St
      clear St
      generalize (marked xs k j).getD j 0 = x at q0
      go_wp2
      go_roundw
      · exact ⟨j + 1, by go_num, by go_num, by omega, HSt.out, HM.out.setCell _ _⟩
      · simp [intOf]; omega
    · have hjj : j = xs.length := by omega
      subst hjj
      go_wp2
      go_ret
      refine ⟨rfl, ?_, HM.out⟩
      have := HR.out
      rw [marked_full] at this
      exact this

end Go.Proofs.Ytbkdfhlbjaiahaa
namespace Go.Proofs.Ytbkdfhlbjaiahaa
open Go.ChangeShapes Go.RowKit
set_option linter.unusedSimpArgs false
set_option linter.unusedVariables false

def prod (xs : List Int) : Int := xs.foldl (· * ·) 1
theorem prod_take (xs : List Int) (k : Nat) (hk : k < xs.length) : prod (xs.take (k + 1)) = prod (xs.take k) * xs.getD k 0 := by
  unfold prod
  rw [List.take_add_one, List.foldl_append, List.getD_eq_getElem?_getD, List.getElem?_eq_getElem hk]
  rfl
/-- All lengths up to k are in range. -/
abbrev InR (xs : List Int) (k : Nat) : Prop := ∀ j, j < k → 0 ≤ xs.getD j 0 ∧ xs.getD j 0 ≤ 4096
theorem InR.step {xs : List Int} {k : Nat} (h : InR xs k) (hx : 0 ≤ xs.getD k 0 ∧ xs.getD k 0 ≤ 4096) : InR xs (k + 1) := fun j hj => by
  by_cases e : j = k
  · rw [e]; exact hx
  · exact h j (by omega)
theorem mul_bd {n x B : Int} (hn : 0 ≤ n ∧ n ≤ B) (hx : 0 ≤ x ∧ x ≤ 4096) : 0 ≤ n * x ∧ n * x ≤ B * 4096 :=
  ⟨Int.mul_nonneg hn.1 hx.1, Int.mul_le_mul hn.2 hx.2 hx.1 (Int.le_trans hn.1 hn.2)⟩
def bd (k : Nat) : Int := if k = 0 then 1 else if k = 1 then 4096 else if k = 2 then 16777216 else if k = 3 then 68719476736 else 281474976710656
theorem bd_le (k : Nat) : bd k ≤ 281474976710656 := by unfold bd; repeat' split
                                                       all_goals omega
theorem prod_bd (xs : List Int) : ∀ k, k ≤ 4 → k ≤ xs.length → InR xs k → 0 ≤ prod (xs.take k) ∧ prod (xs.take k) ≤ bd k
  | 0, _, _, _ => by simp [prod, bd]
  | k + 1, h4, hl, h => by
    have ih := prod_bd xs k (by omega) (by omega) (fun j hj => h j (by omega))
    rw [prod_take xs k (by omega)]
    have := mul_bd ih (h k (by omega))
    have hb : bd k * 4096 = bd (k + 1) := by
      obtain rfl | rfl | rfl | rfl : k = 0 ∨ k = 1 ∨ k = 2 ∨ k = 3 := by omega
      all_goals rfl
    rw [hb] at this
    exact this

/-- A good shape. -/
abbrev Good (xs : List Int) : Prop := xs.length ≤ 4 ∧ InR xs xs.length ∧ prod xs ≤ 4096
def goodB (xs : List Int) : Bool := decide (Good xs)
def cntL (xs : List Int) : Int := if Good xs then prod xs else -1

set_option maxRecDepth 100000 in
set_option maxHeartbeats 1000000 in
theorem l2Count_any {w : World} {v : Value} {xs : List Int} (h : Ints w v xs) (hl : xs.length ≤ 1000000000000) :
    Calls Try.prog 69 #[v] w fun e w' => e = .returned (.int .i64 (cntL xs)) ∧ w' = w := by
  obtain ⟨sa, cap, rfl, hx⟩ := h
  have HX := hide hx
  clear hx
  by_cases h4 : xs.length ≤ 4
  · have h4' : (xs.length : Int) ≤ 4 := by omega
    go_enter Try.func69, Try.ntmps69
    go_wp2
    go_loopw [3, 4] (fun m i wr => ∃ k : Nat, i = .int .i64 k ∧ m = .int .i64 (prod (xs.take k)) ∧ k ≤ xs.length ∧ Hid (InR xs k) ∧ wr = w) (fun m i _ => xs.length - (intOf i).toNat)
    case atStart => exact ⟨0, rfl, rfl, by omega, fun j hj => absurd hj (Nat.not_lt_zero _), rfl⟩
    case round =>
      obtain ⟨k, rfl, rfl, hk, hin, rfl⟩ := hrel
      have hb := prod_bd xs k (by omega) hk hin.out
      have hb2 := bd_le k
      by_cases hlt : k < xs.length
      · rcases HX.out with h0 | ⟨b, off, rfl, hrow⟩
        · rw [h0] at hlt; simp at hlt
        have q0 := hrow k hlt
        have hk0 : (0 : Int) ≤ (k : Int) := Int.natCast_nonneg _
        have hk1 : (k : Int) < (xs.length : Int) := by omega
        have hp := prod_take xs k hlt
        by_cases hr : 0 ≤ xs.getD k 0 ∧ xs.getD k 0 ≤ 4096
        · have hin2 : Hid (InR xs (k + 1)) := hin.out.step hr
          have hB := prod_bd xs (k + 1) (by omega) (by omega) hin2.out
          have hB2 := bd_le (k + 1)
          generalize bd (k + 1) = B1 at hB hB2
          generalize bd k = B0 at hb hb2
          generalize hP1 : prod (xs.take (k + 1)) = P1 at hp hB
          have HP1 := hide hP1
          clear hP1
          generalize prod (xs.take k) = P0 at hp hb ⊢
          generalize xs.getD k 0 = x at q0 hp hr
          have hw1 : wrap64 (P0 * x) = P1 := by rw [← hp]; unfold wrap64; omega
          clear hrow hp
          have hlo : ¬ x < 0 := by omega
          have hhi : ¬ 4096 < x := by omega
          go_wp2
          go_roundw
          · exact ⟨k + 1, by go_num, by first | (rw [HP1.out]; done) | (rw [HP1.out, hw1]), by omega, hin2, by trivial⟩
          · simp [intOf]; omega
        · have hng : Hid (cntL xs = -1) := by
            show cntL xs = -1
            unfold cntL
            exact if_neg (fun g => hr (g.2.1 k hlt))
          generalize xs.getD k 0 = x at q0 hp hr
          clear hp hrow hb hb2
          by_cases hlo : x < 0
          · go_wp2
            go_ret
            exact ⟨ret_int hng.out.symm, rfl⟩
          · have hhi : 4096 < x := by omega
            go_wp2
            go_ret
            exact ⟨ret_int hng.out.symm, rfl⟩
      · have hkk : k = xs.length := by omega
        subst hkk
        rw [List.take_length] at hb ⊢
        by_cases hp : prod xs ≤ 4096
        · have hg : Hid (cntL xs = prod xs) := if_pos ⟨h4, hin.out, hp⟩
          generalize prod xs = P at hp hg hb ⊢
          go_wp2
          go_ret
          exact ⟨ret_int hg.out.symm, rfl⟩
        · have hg : Hid (cntL xs = -1) := if_neg (fun g => hp g.2.2)
          generalize prod xs = P at hp hg hb ⊢
          have hp2 : 4096 < P := by omega
          go_wp2
          go_ret
          exact ⟨ret_int hg.out.symm, rfl⟩
  · have hg : Hid (cntL xs = -1) := if_neg (fun g => h4 g.1)
    have h4' : 4 < (xs.length : Int) := by omega
    go_enter Try.func69, Try.ntmps69
    go_wp2
    go_ret
    exact ⟨ret_int hg.out.symm, rfl⟩

/-- A shape as the program keeps it. -/
def shp (xs : List Int) : Array Value := #[.int .i64 xs.length, .int .i64 (xs.getD 0 0), .int .i64 (xs.getD 1 0), .int .i64 (xs.getD 2 0), .int .i64 (xs.getD 3 0)]

set_option maxRecDepth 100000 in
set_option maxHeartbeats 1000000 in
theorem count_any (w : World) (xs : List Int) (h4 : xs.length ≤ 4) (hr : InR xs xs.length) :
    Calls Try.prog 56 #[.agg (shp xs)] w fun e w' => e = .returned (.int .i64 (prod xs)) ∧ w' = w.alloc (.cells (shp xs) 73) := by
  have HR := hide hr
  clear hr
  have h4' : (xs.length : Int) ≤ 4 := by omega
  go_enter Try.func56, Try.ntmps56
  simp only [shp]
  have R0 : ∀ j, j < xs.length → (w.alloc (.cells (shp xs) 73)).cell? ⟨w.heap.size, 1 + j, none⟩ = some (.int .i64 (xs.getD j 0)) := fun j hj => by
    obtain rfl | rfl | rfl | rfl : j = 0 ∨ j = 1 ∨ j = 2 ∨ j = 3 := by omega
    all_goals simp [shp]
  have HR0 := hide R0
  clear R0
  go_wp2
  go_loopw [3, 11] (fun m i wr => ∃ k : Nat, i = .int .i64 k ∧ m = .int .i64 (prod (xs.take k)) ∧ k ≤ xs.length ∧ wr = w.alloc (.cells (shp xs) 73)) (fun m i _ => xs.length - (intOf i).toNat)
  case atStart => exact ⟨0, rfl, rfl, by omega, rfl⟩
  case round =>
    obtain ⟨k, rfl, rfl, hk, rfl⟩ := hrel
    have hb := prod_bd xs k (by omega) hk (fun j hj => HR.out j (by omega))
    have hb2 := bd_le k
    by_cases hlt : k < xs.length
    · have q0 := HR0.out k hlt
      have hk0 : (0 : Int) ≤ (k : Int) := Int.natCast_nonneg _
      have hk1 : (k : Int) < (xs.length : Int) := by omega
      have hp := prod_take xs k hlt
      have hB := prod_bd xs (k + 1) (by omega) (by omega) (fun j hj => HR.out j (by omega))
      have hB2 := bd_le (k + 1)
      generalize bd (k + 1) = B1 at hB hB2
      generalize bd k = B0 at hb hb2
      generalize hP1 : prod (xs.take (k + 1)) = P1 at hp hB
      have HP1 := hide hP1
      clear hP1
      generalize prod (xs.take k) = P0 at hp hb ⊢
      generalize xs.getD k 0 = x at q0 hp
      have hw1 : wrap64 (P0 * x) = P1 := by rw [← hp]; unfold wrap64; omega
      clear hp
      go_wp2
      go_roundw
      · exact ⟨k + 1, by go_num, by first | (rw [HP1.out]; done) | (rw [HP1.out, hw1]), by omega, by trivial⟩
      · simp [intOf]; omega
    · have hkk : k = xs.length := by omega
      subst hkk
      rw [List.take_length]
      go_wp2
      go_ret
      exact ⟨rfl, rfl⟩
end Go.Proofs.Ytbkdfhlbjaiahaa
