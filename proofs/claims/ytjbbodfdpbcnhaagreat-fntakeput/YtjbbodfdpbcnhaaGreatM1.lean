import Derived.Test.YtjbbodfdpbcnhaaGreatRows
import Derived.WalkKit
import Derived.WalkSpells
import Derived.WalkLawsBesides
import Derived.Outline
import Derived.Deep.Light
import Ieee.Arith
import Derived.Laws.FloatBits
import Derived.Laws.FloatArith
import Derived.Laws.ComplexArith
import Derived.Laws.Externs
import Derived.Deep.QuietTactic
import Derived.BigQuiet
import Derived.Deep.RegionWith
import Derived.BigRegion
import Derived.OwnWalk
import Derived.Carry
import Derived.ChangeSlices
import Derived.ChangeAlike
import Derived.RegionTactic
import Derived.Deep.RegionHeld3
set_option linter.unusedSimpArgs false
set_option linter.unusedVariables false
set_option maxRecDepth 100000
set_option maxHeartbeats 8000000
namespace Go.Proofs.YtjbbodfdpbcnhaaGreat
open Go.Value renaming int → O, slice → σ, agg → γ
open Go.IntKind renaming i64 → ι
open Go.Obj renaming cells → χ
section
open Go.RowKit
def kindL (dt : Int) : Int :=
 if dt = 1 then 0 else if 2 ≤ dt ∧ dt ≤ 6 then 1 else if dt = 7 ∨ dt = 8 then 2 else if dt = 9 then 3 else -1
def isDtB (dt : Int) : Bool := decide (1 ≤ dt ∧ dt ≤ 9)
def skindL (dt : Int) : Int := if dt = 1 then 0 else if dt ≤ 6 then 1 else if dt ≤ 8 then 2 else 3
def bytesL (dt : Int) : Int := if 1 ≤ dt ∧ dt ≤ 3 then 1 else if dt = 4 then 2 else if dt = 5 ∨ dt = 7 then 4 else if dt = 9 then 16 else 8
theorem zm1 {k : IntKind} {a b : Int} (h : a = b) : Ending.returned (.int k a) = .returned (.int k b) := by rw [h]
theorem zn {a b : Bool} (h : a = b) : Ending.returned (.bool a) = .returned (.bool b) := by rw [h]
theorem zl18 (dt : Int) : (kindL dt != -1) = isDtB dt := by
 unfold kindL isDtB
 rw [Bool.eq_iff_iff]; simp only [bne_iff_ne, decide_eq_true_eq]
 repeat' split
 all_goals omega
theorem zx1 (dt : Int) (w : World) :
  Calls Tryz.prog 89 #[O ι dt] w fun e w' => e = .returned (O ι (kindL dt)) ∧ w' = w := by
 go_enter Tryz.func89, Tryz.ntmps89
 go_wp2
 all_goals go_ret
 all_goals refine ⟨zm1 ?_, rfl⟩
 all_goals (unfold kindL; simp only [beq_iff_eq, beq_eq_false_iff_ne, ne_eq] at *; repeat' split)
 all_goals omega
theorem zd2 (dt : Int) (w : World) :
  Calls Tryz.prog 87 #[O ι dt] w fun e w' => e = .returned (.bool (isDtB dt)) ∧ w' = w := by
 go_enter Tryz.func87, Tryz.ntmps87
 go_wp2_with (go_at_call 89; refine (zx1 _ _).mono ?_; rintro e w' ⟨rfl, rfl⟩)
 go_ret
 exact ⟨zn (zl18 dt), rfl⟩
theorem zk (dt : Int) (w : World) :
  Calls Tryz.prog 55 #[O ι dt] w fun e w' => e = .returned (.bool (isDtB dt)) ∧ w' = w := by
 go_enter Tryz.func55, Tryz.ntmps55
 go_wp2
 all_goals go_ret
 all_goals (refine ⟨zn ?_, rfl⟩; unfold isDtB; rw [Bool.eq_iff_iff]; simp only [decide_eq_true_eq, Bool.false_eq_true, false_iff]; omega)
theorem zo (dt : Int) (w : World) :
  Calls Tryz.prog 71 #[O ι dt] w fun e w' => e = .returned (O ι (skindL dt)) ∧ w' = w := by
 go_enter Tryz.func71, Tryz.ntmps71
 go_wp2
 all_goals go_ret
 all_goals refine ⟨zm1 ?_, rfl⟩
 all_goals (unfold skindL; simp only [beq_iff_eq, beq_eq_false_iff_ne, ne_eq] at *; repeat' split)
 all_goals omega
def promL (a b : Int) : Int :=
 if ¬ (1 ≤ a ∧ a ≤ 9) ∨ ¬ (1 ≤ b ∧ b ≤ 9) then 0
 else if min a b = 2 ∧ max a b = 3 then 4
 else if max a b = 7 ∧ (min a b = 5 ∨ min a b = 6) then 8
 else max a b
theorem zm6 (dt : Int) (h : 1 ≤ dt ∧ dt ≤ 9) : skindL dt = kindL dt := by unfold skindL kindL; omega
def castL (f t r : Int) : Bool :=
 decide ((1 ≤ f ∧ f ≤ 9) ∧ (1 ≤ t ∧ t ≤ 9) ∧ ((r = 0 ∧ promL f t = t) ∨ (r = 1 ∧ (promL f t = t ∨ kindL f ≤ kindL t)) ∨ r = 2))
end
section
namespace FL
open Ieee
set_option linter.unusedSimpArgs false
set_option linter.unusedVariables false
def magR (F : Format) (r : Nat) : Nat := if r < F.binade then r else F.binade + r % F.binade
def upR (F : Format) (r : Nat) : Nat := if r < F.binade then 0 else r / F.binade - 1
def bigR (F : Format) (r : Nat) : Nat := magR F r * 2 ^ upR F r
theorem zi1 (F : Format) : 0 < F.binade := Nat.two_pow_pos _
theorem zn1 (F : Format) (x : Nat) (h : x % F.signWeight < F.infRung) :
  F.read x = .number (x / F.signWeight % 2 == 1) (magR F (x % F.signWeight)) (F.leastPlace + (upR F (x % F.signWeight) : Nat)) := by
 unfold Format.read magR upR
 dsimp only
 split
 ·simp
 ·rfl
theorem zu4 (F : Format) (x : Nat) (h : x % F.signWeight = F.infRung) (hb : F.binade ≤ F.infRung) : F.read x = .infinity (x / F.signWeight % 2 == 1) := by
 unfold Format.read
 dsimp only
 rw [if_neg (by omega), if_neg (by omega), if_pos h]
theorem zo6 (F : Format) (x : Nat) (h : F.infRung < x % F.signWeight) (hb : F.binade ≤ F.infRung) : F.read x = .nan (x / F.signWeight % 2 == 1) (x % F.signWeight - F.infRung) := by
 unfold Format.read
 dsimp only
 rw [if_neg (by omega), if_neg (by omega), if_neg (by omega)]
theorem zt11 (F : Format) (r : Nat) : bigR F r < bigR F (r + 1) := by
 have hb := zi1 F
 unfold bigR magR upR
 generalize F.binade = b at *
 by_cases h1 : r + 1 < b
 ·rw [if_pos (by omega), if_pos (by omega), if_pos h1, if_pos h1]; omega
 ·by_cases h2 : r < b
  ·have e : r + 1 = b := by omega
   rw [if_pos h2, if_pos h2, if_neg h1, if_neg h1, e, Nat.mod_self, Nat.div_self hb]
   simp; omega
  ·rw [if_neg h2, if_neg h2, if_neg h1, if_neg h1]
   have hq : 1 ≤ r / b := (Nat.one_le_div_iff hb).2 (by omega)
   have hm := Nat.mod_lt r hb
   have hd := Nat.div_add_mod r b
   by_cases h3 : r % b + 1 < b
   ·have e1 : (r + 1) / b = r / b := by
     rw [Nat.div_eq_iff hb]
     refine ⟨?_, ?_⟩
     ·rw [Nat.mul_comm]; omega
     ·rw [Nat.mul_comm]; omega
    have e2 : (r + 1) % b = r % b + 1 := by
     have := Nat.div_add_mod (r + 1) b
     rw [e1] at this; omega
    rw [e1, e2]
    exact Nat.mul_lt_mul_of_pos_right (by omega) (Nat.two_pow_pos _)
   ·have e3 : r + 1 = b * (r / b + 1) := by rw [Nat.mul_add]; omega
    have e1 : (r + 1) / b = r / b + 1 := by rw [e3]; exact Nat.mul_div_cancel_left _ hb
    have e2 : (r + 1) % b = 0 := by rw [e3]; exact Nat.mul_mod_right _ _
    rw [e1, e2]
    have e4 : r / b + 1 - 1 = (r / b - 1) + 1 := by omega
    rw [e4, Nat.pow_succ, Nat.add_zero, Nat.mul_comm (2 ^ (r / b - 1)) 2, ← Nat.mul_assoc]
    exact Nat.mul_lt_mul_of_pos_right (by omega) (Nat.two_pow_pos _)
theorem zu11 (F : Format) (r s : Nat) (h : r < s) : bigR F r < bigR F s := by
 induction s with
 | zero => omega
 | succ s ih =>
  by_cases e : r = s
  ·subst e; exact zt11 F r
  ·exact Nat.lt_trans (ih (by omega)) (zt11 F s)
theorem zb13 (F : Format) (r s : Nat) : bigR F r < bigR F s ↔ r < s := by
 refine ⟨fun h => ?_, zu11 F r s⟩
 by_cases e : r = s
 ·subst e; omega
 ·by_cases g : s < r
  ·have := zu11 F s r g; omega
  ·omega
theorem zf21 (F : Format) (r s : Nat) : bigR F r = bigR F s ↔ r = s := by
 refine ⟨fun h => ?_, fun h => by rw [h]⟩
 have h1 := zb13 F r s
 have h2 := zb13 F s r
 omega
def keyW (F : Format) (x : Nat) : Int := if (x / F.signWeight % 2 == 1) = true then -((x % F.signWeight : Nat) : Int) else ((x % F.signWeight : Nat) : Int)
def nanW (F : Format) (x : Nat) : Bool := decide (F.infRung < x % F.signWeight)
theorem zm17 {a b c d : Int} (h1 : a < b ↔ c < d) (h2 : a = b ↔ c = d) : compare a b = compare c d := by
 show compareOfLessAndEq a b = compareOfLessAndEq c d
 unfold compareOfLessAndEq
 by_cases e1 : a < b
 ·rw [if_pos e1, if_pos (h1.1 e1)]
 ·rw [if_neg e1, if_neg (fun h => e1 (h1.2 h))]
  by_cases e2 : a = b
  ·rw [if_pos e2, if_pos (h2.1 e2)]
  ·rw [if_neg e2, if_neg (fun h => e2 (h2.2 h))]
theorem zi6 {a b : Int} (h : a < b) : compare a b = .lt := by
 show compareOfLessAndEq a b = _
 unfold compareOfLessAndEq; rw [if_pos h]
theorem zj6 {a b : Int} (h : b < a) : compare a b = .gt := by
 show compareOfLessAndEq a b = _
 unfold compareOfLessAndEq; rw [if_neg (by omega), if_neg (by omega)]
theorem zp11 {a b : Int} (h : a = b) : compare a b = .eq := by
 show compareOfLessAndEq a b = _
 unfold compareOfLessAndEq; rw [if_neg (by omega), if_pos h]
theorem zq22 (F : Format) (r s : Nat) :
  (magR F r * 2 ^ (upR F r - min (upR F r) (upR F s)) < magR F s * 2 ^ (upR F s - min (upR F r) (upR F s)) ↔ r < s) ∧
  (magR F r * 2 ^ (upR F r - min (upR F r) (upR F s)) = magR F s * 2 ^ (upR F s - min (upR F r) (upR F s)) ↔ r = s) := by
 have h1 : magR F r * 2 ^ (upR F r - min (upR F r) (upR F s)) * 2 ^ min (upR F r) (upR F s) = bigR F r := by
  unfold bigR; rw [Nat.mul_assoc, ← Nat.pow_add, Nat.sub_add_cancel (Nat.min_le_left _ _)]
 have h2 : magR F s * 2 ^ (upR F s - min (upR F r) (upR F s)) * 2 ^ min (upR F r) (upR F s) = bigR F s := by
  unfold bigR; rw [Nat.mul_assoc, ← Nat.pow_add, Nat.sub_add_cancel (Nat.min_le_right _ _)]
 rw [← zb13 F r s, ← zf21 F r s, ← h1, ← h2]
 have hp : 0 < 2 ^ min (upR F r) (upR F s) := Nat.two_pow_pos _
 exact ⟨(Nat.mul_lt_mul_right hp).symm, ⟨fun h => by rw [h], fun h => Nat.eq_of_mul_eq_mul_right hp h⟩⟩
theorem zt15 (s t : Bool) (A B r q : Nat) (h1 : A < B ↔ r < q) (h2 : A = B ↔ r = q) (hA : A = 0 ↔ r = 0) (hB : B = 0 ↔ q = 0) :
  compare (if s = true then -(A : Int) else (A : Int)) (if t = true then -(B : Int) else (B : Int)) = compare (if s = true then -(r : Int) else (r : Int)) (if t = true then -(q : Int) else (q : Int)) := by
 apply zm17 <;> cases s <;> cases t <;> simp <;> omega
theorem za14 (F : Format) (r : Nat) (k : Nat) : magR F r * 2 ^ k = 0 ↔ r = 0 := by
 have hb := zi1 F
 have hp : 0 < 2 ^ k := Nat.two_pow_pos _
 rw [Nat.mul_eq_zero]
 unfold magR
 split <;> omega
theorem zi7 (F : Format) (hb : F.binade ≤ F.infRung) (x y : Nat) (hx : nanW F x = false) (hy : nanW F y = false) :
  F.order x y = some (compare (keyW F x) (keyW F y)) := by
 unfold nanW at hx hy
 simp only [decide_eq_false_iff_not, Nat.not_lt] at hx hy
 unfold Format.order keyW
 by_cases ex : x % F.signWeight = F.infRung
 ·rw [zu4 F x ex hb]
  by_cases ey : y % F.signWeight = F.infRung
  ·rw [zu4 F y ey hb, ex, ey]
   have hp : 0 < F.infRung := Nat.lt_of_lt_of_le (zi1 F) hb
   generalize (x / F.signWeight % 2 == 1) = s
   generalize (y / F.signWeight % 2 == 1) = t
   cases s <;> cases t <;> simp only [Datum.order, Bool.toNat_true, Bool.toNat_false]
   ·rw [zp11 (by simp)]; rfl
   ·rw [zj6 (by simp; omega)]; rfl
   ·rw [zi6 (by simp; omega)]; rfl
   ·rw [zp11 (by simp)]; rfl
  ·rw [zn1 F y (by omega), ex]
   have hp : 0 < F.infRung := Nat.lt_of_lt_of_le (zi1 F) hb
   generalize (x / F.signWeight % 2 == 1) = s
   generalize (y / F.signWeight % 2 == 1) = t
   cases s <;> cases t <;> simp only [Datum.order]
   ·rw [zj6 (by simp; omega)]; rfl
   ·rw [zj6 (by simp; omega)]; rfl
   ·rw [zi6 (by simp; omega)]; rfl
   ·rw [zi6 (by simp; omega)]; rfl
 ·rw [zn1 F x (by omega)]
  by_cases ey : y % F.signWeight = F.infRung
  ·rw [zu4 F y ey hb, ey]
   have hp : 0 < F.infRung := Nat.lt_of_lt_of_le (zi1 F) hb
   generalize (x / F.signWeight % 2 == 1) = s
   generalize (y / F.signWeight % 2 == 1) = t
   cases s <;> cases t <;> simp only [Datum.order]
   ·rw [zi6 (by simp; omega)]; rfl
   ·rw [zj6 (by simp; omega)]; rfl
   ·rw [zi6 (by simp; omega)]; rfl
   ·rw [zj6 (by simp; omega)]; rfl
  ·rw [zn1 F y (by omega)]
   generalize hs : (x / F.signWeight % 2 == 1) = s
   generalize ht : (y / F.signWeight % 2 == 1) = t
   generalize x % F.signWeight = r at *
   generalize y % F.signWeight = q at *
   simp only [Datum.order, signed, Nat.shiftLeft_eq]
   have e1 : (F.leastPlace + (upR F r : Nat) - min (F.leastPlace + (upR F r : Nat)) (F.leastPlace + (upR F q : Nat))).toNat = upR F r - min (upR F r) (upR F q) := by omega
   have e2 : (F.leastPlace + (upR F q : Nat) - min (F.leastPlace + (upR F r : Nat)) (F.leastPlace + (upR F q : Nat))).toNat = upR F q - min (upR F r) (upR F q) := by omega
   rw [e1, e2]
   have hc := zq22 F r q
   exact congrArg some (zt15 s t _ _ r q hc.1 hc.2 (za14 F _ _) (za14 F _ _))
theorem zx2 (F : Format) (hb : F.binade ≤ F.infRung) (x y : Nat) (hx : nanW F x = true) : F.order x y = none := by
 unfold nanW at hx
 simp only [decide_eq_true_eq] at hx
 unfold Format.order
 rw [zo6 F x hx hb]; rfl
theorem zo2 (F : Format) (hb : F.binade ≤ F.infRung) (x y : Nat) (hy : nanW F y = true) : F.order x y = none := by
 unfold nanW at hy
 simp only [decide_eq_true_eq] at hy
 unfold Format.order
 rw [zo6 F y hy hb]
 cases F.read x <;> rfl
end FL
namespace FL
open Ieee
set_option linter.unusedSimpArgs false
set_option linter.unusedVariables false
theorem zp9 (m k : Nat) (h : 0 < m) : (m * 2 ^ k).log2 = m.log2 + k := by
 have hm : m ≠ 0 := by omega
 have hp : 0 < 2 ^ k := Nat.two_pow_pos _
 have hn : m * 2 ^ k ≠ 0 := Nat.mul_ne_zero hm (by omega)
 rw [Nat.log2_eq_iff hn]
 have h1 := (Nat.log2_eq_iff (k := m.log2) hm).1 rfl
 refine ⟨?_, ?_⟩
 ·rw [Nat.pow_add]; exact Nat.mul_le_mul_right _ h1.1
 ·rw [show m.log2 + k + 1 = m.log2 + 1 + k by omega, Nat.pow_add]; exact Nat.mul_lt_mul_of_pos_right h1.2 hp
theorem zn11 (way : Toward) (neg : Bool) (m k : Nat) (h : 0 < m) : way.cut neg (m * 2 ^ k) k = m := by
 unfold Toward.cut
 have hl := zp9 m k h
 have hmin : min k ((m * 2 ^ k).log2 + 2) = k := by omega
 rw [hmin]
 have hp : 0 < 2 ^ k := Nat.two_pow_pos _
 simp only [Nat.shiftLeft_eq, Nat.one_mul, Nat.mul_div_cancel _ hp, Nat.mul_mod_left]
 cases way <;> simp
theorem zx14 (F : Format) (r : Nat) (h : F.binade ≤ r) : (magR F r).log2 = F.fractionBits := by
 have hb := zi1 F
 have hm := Nat.mod_lt r hb
 unfold magR
 rw [if_neg (by omega)]
 have hb2 : F.binade = 2 ^ F.fractionBits := rfl
 rw [Nat.log2_eq_iff (by omega), Nat.pow_succ]
 omega
theorem zo20 (F : Format) (r : Nat) (h0 : 0 < r) (h : r < F.binade) : (magR F r).log2 ≤ F.fractionBits := by
 unfold magR
 rw [if_pos h]
 have hb2 : F.binade = 2 ^ F.fractionBits := rfl
 have := (Nat.log2_lt (by omega : r ≠ 0) (k := F.fractionBits)).2 (by omega)
 omega
theorem zl12 (F : Format) (r : Nat) (h0 : 0 < r) : 0 < magR F r := by
 have hb := zi1 F
 unfold magR; split <;> omega
theorem zu16 (F : Format) (r : Nat) (h0 : 0 < r) :
  max (F.leastPlace + (upR F r : Nat) + ((magR F r).log2 : Nat) - F.fractionBits) F.leastPlace = F.leastPlace + (upR F r : Nat) := by
 by_cases h : r < F.binade
 ·have := zo20 F r h0 h
  have e : upR F r = 0 := by unfold upR; rw [if_pos h]
  rw [e]; omega
 ·have := zx14 F r (by omega)
  omega
theorem zy15 (F : Format) (r : Nat) : upR F r * F.binade + magR F r = r := by
 have hb := zi1 F
 unfold upR magR
 by_cases h : r < F.binade
 ·rw [if_pos h, if_pos h]; omega
 ·rw [if_neg h, if_neg h]
  have hq : 1 ≤ r / F.binade := (Nat.one_le_div_iff hb).2 (by omega)
  have hd := Nat.div_add_mod r F.binade
  obtain ⟨q, hq'⟩ : ∃ q, r / F.binade = q + 1 := ⟨r / F.binade - 1, by omega⟩
  rw [hq'] at hd ⊢
  rw [Nat.mul_add, Nat.mul_comm] at hd
  simp only [Nat.add_sub_cancel]
  omega
theorem zv14 (F : Format) (neg : Bool) (r k : Nat) (h0 : 0 < r) (hi : r < F.infRung) :
  F.nearest neg (magR F r * 2 ^ k) (F.leastPlace + (upR F r : Nat) - k) = F.word neg r := by
 have hm := zl12 F r h0
 have hp : 0 < 2 ^ k := Nat.two_pow_pos _
 unfold Format.nearest
 rw [if_neg (Nat.mul_ne_zero (by omega) (by omega))]
 dsimp only
 rw [zp9 _ _ hm]
 have e0 := zu16 F r h0
 have e1 : max (F.leastPlace + (upR F r : Nat) - (k : Int) + ((magR F r).log2 + k : Nat) - F.fractionBits) F.leastPlace = F.leastPlace + (upR F r : Nat) := by
  rw [← e0]; congr 1; omega
 rw [e1]
 have e2 : (F.leastPlace + (upR F r : Nat) - (k : Int) - (F.leastPlace + (upR F r : Nat))).toNat = 0 := by omega
 have e3 : (F.leastPlace + (upR F r : Nat) - (F.leastPlace + (upR F r : Nat) - (k : Int))).toNat = k := by omega
 have e4 : (F.leastPlace + (upR F r : Nat) - F.leastPlace).toNat = upR F r := by omega
 rw [e2, e3, e4, Nat.shiftLeft_zero, zn11 _ _ _ _ hm, zy15, Nat.min_eq_left (by omega)]
theorem zr10 (F : Format) (neg : Bool) (r m k : Nat) (h0 : 0 < r) (hi : r < F.infRung) (hk : magR F r = m * 2 ^ k) :
  F.nearest neg m (F.leastPlace + (upR F r : Nat) + k) = F.word neg r := by
 have hm0 := zl12 F r h0
 have hm : 0 < m := by
  cases m with
  | zero => omega
  | succ m => omega
 unfold Format.nearest
 rw [if_neg (by omega)]
 dsimp only
 have e0 := zu16 F r h0
 rw [hk, zp9 _ _ hm] at e0
 have e1 : max (F.leastPlace + (upR F r : Nat) + (k : Int) + (m.log2 : Nat) - F.fractionBits) F.leastPlace = F.leastPlace + (upR F r : Nat) := by
  rw [← e0]; congr 1; omega
 rw [e1]
 have e2 : (F.leastPlace + (upR F r : Nat) + (k : Int) - (F.leastPlace + (upR F r : Nat))).toNat = k := by omega
 have e3 : (F.leastPlace + (upR F r : Nat) - (F.leastPlace + (upR F r : Nat) + (k : Int))).toNat = 0 := by omega
 have e4 : (F.leastPlace + (upR F r : Nat) - F.leastPlace).toNat = upR F r := by omega
 rw [e2, e3, e4, Nat.shiftLeft_eq, ← hk]
 have e5 := zn11 .even neg (magR F r) 0 hm0
 rw [Nat.pow_zero, Nat.mul_one] at e5
 rw [e5, zy15, Nat.min_eq_left (by omega)]
theorem zo18 (F : Format) (m : Nat) (p : Int) (h0 : 0 < m) (hm : m < 2 ^ (F.fractionBits + 1)) (hp : F.leastPlace ≤ p) :
  ∃ r k : Nat, 0 < r ∧ magR F r = m * 2 ^ k ∧ p = F.leastPlace + (upR F r : Nat) + k ∧ r < ((p - F.leastPlace).toNat + 2) * F.binade := by
 have hb := zi1 F
 have hb2 : F.binade = 2 ^ F.fractionBits := rfl
 have hL := (Nat.log2_eq_iff (k := m.log2) (by omega : m ≠ 0)).1 rfl
 have hLf : m.log2 ≤ F.fractionBits := by
  have := (Nat.log2_lt (by omega : m ≠ 0) (k := F.fractionBits + 1)).2 hm
  omega
 obtain ⟨j, hj⟩ : ∃ j : Nat, p = F.leastPlace + j := ⟨(p - F.leastPlace).toNat, by omega⟩
 by_cases hn : F.fractionBits - m.log2 ≤ j
 · -- a normal rung
  generalize hd : F.fractionBits - m.log2 = d at *
  have h1 : F.binade ≤ m * 2 ^ d := by
   rw [hb2, show F.fractionBits = m.log2 + d by omega, Nat.pow_add]; exact Nat.mul_le_mul_right _ hL.1
  have h2 : m * 2 ^ d < 2 * F.binade := by
   rw [hb2, show F.fractionBits = m.log2 + d by omega, ← Nat.pow_succ', show (m.log2 + d).succ = m.log2 + 1 + d by omega, Nat.pow_add]
   exact Nat.mul_lt_mul_of_pos_right hL.2 (Nat.two_pow_pos _)
  refine ⟨(j - d) * F.binade + m * 2 ^ d, d, by omega, ?_, ?_, ?_⟩
  ·unfold magR
   have hge : F.binade ≤ (j - d) * F.binade + m * 2 ^ d := by omega
   rw [if_neg (by omega), Nat.add_comm ((j - d) * F.binade), Nat.add_mul_mod_self_right]
   have : (m * 2 ^ d) % F.binade = m * 2 ^ d - F.binade := by
    rw [Nat.mod_eq_sub_mod h1]; exact Nat.mod_eq_of_lt (by omega)
   omega
  ·unfold upR
   have hge : F.binade ≤ (j - d) * F.binade + m * 2 ^ d := by omega
   rw [if_neg (by omega), Nat.add_comm ((j - d) * F.binade), Nat.add_mul_div_right _ _ hb]
   have : m * 2 ^ d / F.binade = 1 := by
    rw [Nat.div_eq_iff hb]; omega
   rw [this]; omega
  ·rw [hj]
   have e : (F.leastPlace + (j : Int) - F.leastPlace).toNat = j := by omega
   rw [e, Nat.add_mul]
   have : (j - d) * F.binade ≤ j * F.binade := Nat.mul_le_mul_right _ (by omega)
   omega
 · -- a subnormal one
  have h2 : m * 2 ^ j < F.binade := by
   rw [hb2]
   have : 2 ^ F.fractionBits = 2 ^ (m.log2 + 1 + j) * 2 ^ (F.fractionBits - (m.log2 + 1 + j)) := by
    rw [← Nat.pow_add]; congr 1; omega
   rw [this]
   refine Nat.lt_of_lt_of_le ?_ (Nat.le_mul_of_pos_right _ (Nat.two_pow_pos _))
   rw [Nat.pow_add]; exact Nat.mul_lt_mul_of_pos_right hL.2 (Nat.two_pow_pos _)
  have h3 : 0 < m * 2 ^ j := Nat.mul_pos h0 (Nat.two_pow_pos _)
  refine ⟨m * 2 ^ j, j, h3, ?_, ?_, ?_⟩
  ·unfold magR; rw [if_pos h2]
  ·unfold upR; rw [if_pos h2]; omega
  ·have : F.binade ≤ ((p - F.leastPlace).toNat + 2) * F.binade := Nat.le_mul_of_pos_left _ (by omega)
   omega
theorem zc9 (F : Format) (neg : Bool) (r : Nat) (h : r < F.signWeight) : F.word neg r % F.signWeight = r ∧ (F.word neg r / F.signWeight % 2 == 1) = neg := by
 have hp : 0 < F.signWeight := Nat.two_pow_pos _
 unfold Format.word
 cases neg
 ·simp only [Bool.false_eq_true, if_false]
  rw [Nat.mod_eq_of_lt h, Nat.div_eq_of_lt h]; exact ⟨rfl, rfl⟩
 ·simp only [if_true]
  rw [Nat.add_mod_left, Nat.mod_eq_of_lt h, Nat.add_div_left _ hp, Nat.div_eq_of_lt h]; exact ⟨rfl, rfl⟩
theorem zf7 (F : Format) (neg : Bool) (r : Nat) (h : r < F.infRung) : F.read (F.word neg r) = .number neg (magR F r) (F.leastPlace + (upR F r : Nat)) := by
 have hl := F.infRung_lt
 have hw := zc9 F neg r (by omega)
 rw [zn1 F _ (by rw [hw.1]; exact h), hw.1, hw.2]
theorem zi19 (F : Format) (x : Nat) (h : x < 2 * F.signWeight) : F.word (x / F.signWeight % 2 == 1) (x % F.signWeight) = x := by
 have hp : 0 < F.signWeight := Nat.two_pow_pos _
 unfold Format.word
 by_cases hx : x < F.signWeight
 ·rw [Nat.div_eq_of_lt hx, Nat.mod_eq_of_lt hx]; rfl
 ·have e : x / F.signWeight = 1 := by rw [Nat.div_eq_iff hp]; omega
  have e2 : x % F.signWeight = x - F.signWeight := by rw [Nat.mod_eq_sub_mod (by omega)]; exact Nat.mod_eq_of_lt (by omega)
  rw [e, e2]; simp; omega
theorem zl14 (F : Format) (neg : Bool) (m : Nat) (p : Int) (h0 : 0 < m) (hm : m < 2 ^ (F.fractionBits + 1)) (hp : F.leastPlace ≤ p) (hi : ((p - F.leastPlace).toNat + 2) * F.binade ≤ F.infRung) :
  ∃ r k : Nat, 0 < r ∧ r < F.infRung ∧ magR F r = m * 2 ^ k ∧ p = F.leastPlace + (upR F r : Nat) + k ∧ F.nearest neg m p = F.word neg r ∧ F.read (F.nearest neg m p) = .number neg (m * 2 ^ k) (p - k) := by
 obtain ⟨r, k, hr, hk, hpk, hlt⟩ := zo18 F m p h0 hm hp
 have hri : r < F.infRung := by omega
 have hn : F.nearest neg m p = F.word neg r := by rw [hpk]; exact zr10 F neg r m k hr hri hk
 refine ⟨r, k, hr, hri, hk, hpk, hn, ?_⟩
 rw [hn, zf7 F neg r hri, hk]
 congr 1; omega
end FL
namespace FL
open Ieee
set_option linter.unusedSimpArgs false
set_option linter.unusedVariables false
def nanD (x : Nat) : Bool := nanW double x
def nanS (x : Nat) : Bool := nanW single x
def keyD (x : Nat) : Int := keyW double x
def feq (x y : Nat) : Bool := !nanD x && !nanD y && decide (keyD x = keyD y)
def flt (x y : Nat) : Bool := !nanD x && !nanD y && decide (keyD x < keyD y)
theorem zj23 : double.signWeight = 9223372036854775808 := by decide
theorem zk23 : double.infRung = 9218868437227405312 := by decide
theorem zg23 : double.binade = 4503599627370496 := by decide
theorem zi23 : double.leastPlace = -1074 := by decide
theorem zl23 : single.signWeight = 2147483648 := by decide
theorem zn23 : single.infRung = 2139095040 := by decide
theorem zp23 : single.binade = 8388608 := by decide
theorem zh23 : single.leastPlace = -149 := by decide
theorem zf23 : double.binade ≤ double.infRung := by decide
theorem zc23 : single.binade ≤ single.infRung := by decide
theorem zk3 (x : Nat) : nanD x = true ↔ 9218868437227405312 < x % 9223372036854775808 := by
 unfold nanD nanW; rw [zj23, zk23]; simp
theorem ze4 (x : Nat) : nanS x = true ↔ 2139095040 < x % 2147483648 := by
 unfold nanS nanW; rw [zl23, zn23]; simp
theorem zo7 (x : Nat) (h : x < 18446744073709551616) : keyD x = if x < 9223372036854775808 then (x : Int) else 9223372036854775808 - (x : Int) := by
 unfold keyD keyW; rw [zj23]
 simp only [beq_iff_eq]
 split <;> split <;> omega
theorem zo10 (x y : Nat) : (double.order x y == some .eq) = feq x y := by
 unfold feq
 cases hx : nanD x
 ·cases hy : nanD y
  ·rw [zi7 double zf23 x y hx hy]
   by_cases h : keyW double x = keyW double y
   ·rw [zp11 h]; simp [keyD, h]
   ·by_cases h2 : keyW double x < keyW double y
    ·rw [zi6 h2]; simp [keyD, h]
    ·rw [zj6 (by omega)]; simp [keyD, h]
  ·rw [zo2 double zf23 x y hy]; simp
 ·rw [zx2 double zf23 x y hx]; simp
theorem zg16 (x y : Nat) : (double.order x y == some .lt) = flt x y := by
 unfold flt
 cases hx : nanD x
 ·cases hy : nanD y
  ·rw [zi7 double zf23 x y hx hy]
   by_cases h : keyW double x = keyW double y
   ·rw [zp11 h]; simp [keyD, h]
   ·by_cases h2 : keyW double x < keyW double y
    ·rw [zi6 h2]; simp [keyD, h2]
    ·rw [zj6 (by omega)]; simp [keyD, h2]
  ·rw [zo2 double zf23 x y hy]; simp
 ·rw [zx2 double zf23 x y hx]; simp
theorem zh16 (x y : Nat) : (double.order x y == some .gt) = flt y x := by
 unfold flt
 cases hx : nanD x
 ·cases hy : nanD y
  ·rw [zi7 double zf23 x y hx hy]
   by_cases h : keyW double x = keyW double y
   ·rw [zp11 h]; simp [keyD, h]
   ·by_cases h2 : keyW double x < keyW double y
    ·have h3 : ¬ keyW double y < keyW double x := by omega
     rw [zi6 h2]; simp [keyD, h3]
    ·have h3 : keyW double y < keyW double x := by omega
     rw [zj6 h3]; simp [keyD, h3, hx, hy]
  ·rw [zo2 double zf23 x y hy]; simp
 ·rw [zx2 double zf23 x y hx]; simp
theorem zn3 (x : Nat) : feq x x = !nanD x := by unfold feq; cases nanD x <;> simp
theorem zw16 (a b : Nat) (ha : a < 18446744073709551616) (hb : b < 18446744073709551616) (h : keyD a = keyD b) : a = b ∨ (a = 0 ∧ b = 9223372036854775808) ∨ (a = 9223372036854775808 ∧ b = 0) := by
 rw [zo7 a ha, zo7 b hb] at h
 split at h <;> split at h <;> omega
/-! ### single and double -/
def narrow (x : Nat) : Nat := single.write (double.read x)
def wide (u : Nat) : Nat := double.write (single.read u)
def over (x : Nat) : Bool := match double.read x with
 | .number .. => (single.read (narrow x)).isInfinity
 | _ => false
def sngB (x : Nat) : Bool := nanD x || (!over x && wide (narrow x) == x)
theorem zu21 (F : Format) (r : Nat) : magR F r < 2 ^ (F.fractionBits + 1) := by
 have hb := zi1 F
 have hm := Nat.mod_lt r hb
 have hb2 : F.binade = 2 ^ F.fractionBits := rfl
 unfold magR
 rw [Nat.pow_succ]
 split <;> omega
theorem zh21 (F : Format) (r n : Nat) (h : r < (n + 1) * F.binade) (hn : 0 < n) : upR F r ≤ n - 1 := by
 have hb := zi1 F
 unfold upR
 split
 ·omega
 ·have : r / F.binade < n + 1 := (Nat.div_lt_iff_lt_mul hb).2 h
  omega
theorem zz6 (u : Nat) (hu : u < 4294967296) (h0 : 0 < u % 2147483648) (h : u % 2147483648 < 2139095040) :
  ∃ r, 0 < r ∧ r < double.infRung ∧ wide u = double.word (u / 2147483648 % 2 == 1) r ∧ narrow (wide u) = u := by
 have hr := zn1 single u (by rw [zl23, zn23]; exact h)
 rw [zl23] at hr
 have hup := zh21 single (u % 2147483648) 254 (by rw [zp23]; omega) (by omega)
 have hml := zu21 single (u % 2147483648)
 have hmp := zl12 single _ h0
 have hf : (2 : Nat) ^ (single.fractionBits + 1) = 16777216 := by decide
 have hf2 : (2 : Nat) ^ (double.fractionBits + 1) = 9007199254740992 := by decide
 rw [hf] at hml
 generalize hneg : (u / 2147483648 % 2 == 1) = neg at *
 obtain ⟨r, k, hr0, hri, hk, hpk, hn, hrd⟩ := zl14 double neg (magR single (u % 2147483648)) (single.leastPlace + (upR single (u % 2147483648) : Nat)) hmp (by rw [hf2]; omega)
  (by rw [zi23, zh23]; omega) (by rw [zi23, zh23, zg23, zk23]; omega)
 refine ⟨r, hr0, hri, ?_, ?_⟩
 ·unfold wide; rw [hr]; exact hn
 ·unfold narrow wide
  rw [hr]
  show single.write (double.read (double.nearest _ _ _)) = u
  rw [hrd]
  show single.nearest _ _ _ = u
  rw [zv14 single neg (u % 2147483648) k h0 (by rw [zn23]; exact h)]
  have := zi19 single u (by rw [zl23]; omega)
  rw [zl23, hneg] at this
  exact this
theorem za10 (u : Nat) (hu : u < 4294967296) (h0 : u % 2147483648 = 0) : wide u = double.word (u / 2147483648 % 2 == 1) 0 ∧ narrow (wide u) = u := by
 have : u = 0 ∨ u = 2147483648 := by omega
 rcases this with rfl | rfl <;> decide
theorem zp17 (u : Nat) (hu : u < 4294967296) (h0 : u % 2147483648 = 2139095040) : wide u = double.word (u / 2147483648 % 2 == 1) double.infRung ∧ narrow (wide u) = u := by
 have : u = 2139095040 ∨ u = 4286578688 := by omega
 rcases this with rfl | rfl <;> decide
theorem ze9 (u : Nat) : wide u < 18446744073709551616 := double.write_lt _
theorem zy4 (u : Nat) : narrow u < 4294967296 := single.write_lt _
theorem zo5 (neg : Bool) (r : Nat) (h : r < 9223372036854775808) : double.word neg r % 9223372036854775808 = r := by
 have := (zc9 double neg r (by rw [zj23]; exact h)).1
 rw [zj23] at this; exact this
theorem zy6 (u : Nat) (hu : u < 4294967296) (hn : nanS u = false) : narrow (wide u) = u ∧ nanD (wide u) = false := by
 have hn' : ¬ 2139095040 < u % 2147483648 := fun h => by rw [(ze4 u).2 h] at hn; cases hn
 have key : ∀ x : Nat, x % 9223372036854775808 ≤ 9218868437227405312 → nanD x = false := fun x h => by
  cases e : nanD x
  ·rfl
  ·have := (zk3 x).1 e; omega
 by_cases h0 : u % 2147483648 = 0
 ·have := za10 u hu h0
  refine ⟨this.2, key _ ?_⟩
  rw [this.1, zo5 _ _ (by omega)]; omega
 ·by_cases hi : u % 2147483648 = 2139095040
  ·have := zp17 u hu hi
   refine ⟨this.2, key _ ?_⟩
   rw [this.1, zo5 _ _ (by rw [zk23]; omega), zk23]; omega
  ·obtain ⟨r, h1, h2, h3, h4⟩ := zz6 u hu (by omega) (by omega)
   rw [zk23] at h2
   refine ⟨h4, key _ ?_⟩
   rw [h3, zo5 _ _ (by omega)]; omega
theorem zf16 (u : Nat) (hu : u < 4294967296) (hn : nanS u = false) : over (wide u) = false := by
 have hn' : ¬ 2139095040 < u % 2147483648 := fun h => by rw [(ze4 u).2 h] at hn; cases hn
 have hw := (zy6 u hu hn).1
 by_cases hi : u % 2147483648 = 2139095040
 ·have : u = 2139095040 ∨ u = 4286578688 := by omega
  rcases this with rfl | rfl <;> decide
 ·unfold over
  rw [hw, zn1 single u (by rw [zl23, zn23]; omega)]
  split <;> rfl
theorem zq2 (x : Nat) (hx : nanD x = false) : nanS (narrow x) = false := by
 have hx' : ¬ 9218868437227405312 < x % 9223372036854775808 := fun h => by rw [(zk3 x).2 h] at hx; cases hx
 have key : ∀ y : Nat, y % 2147483648 ≤ 2139095040 → nanS y = false := fun y h => by
  cases e : nanS y
  ·rfl
  ·have := (ze4 y).1 e; omega
 have word : ∀ neg r, r ≤ 2139095040 → single.word neg r % 2147483648 ≤ 2139095040 := fun neg r h => by
  have := (zc9 single neg r (by rw [zl23]; omega)).1
  rw [zl23] at this; omega
 apply key
 unfold narrow
 by_cases hi : x % 9223372036854775808 = 9218868437227405312
 ·rw [zu4 double x (by rw [zj23, zk23]; exact hi) zf23]
  show single.word _ single.infRung % _ ≤ _
  exact word _ _ (by rw [zn23]; omega)
 ·rw [zn1 double x (by rw [zj23, zk23]; omega)]
  show single.nearest _ _ _ % _ ≤ _
  unfold Format.nearest
  split
  ·exact word _ _ (by omega)
  ·refine word _ _ ?_
   rw [← zn23]; exact Nat.min_le_right _ _
def SingleR (x r : Nat) : Prop :=
 r < 18446744073709551616 ∧ ((nanD x = true ∧ nanD r = true) ∨ (nanD x = false ∧ ∃ u, u < 4294967296 ∧ (over x = true ∨ u = narrow x) ∧ ((nanS u = true ∧ nanD r = true) ∨ (nanS u = false ∧ r = wide u))))
theorem zf8 {x r : Nat} (h : SingleR x r) (hs : sngB x = true) : (nanD x = true ∧ nanD r = true) ∨ (nanD x = false ∧ r = x) := by
 rcases h.2 with h1 | ⟨h1, u, hu, h2, h3⟩
 ·exact Or.inl h1
 ·right
  unfold sngB at hs
  simp only [h1, Bool.false_or, Bool.and_eq_true, Bool.not_eq_true', beq_iff_eq] at hs
  rcases h2 with h2 | h2
  ·rw [hs.1] at h2; cases h2
  ·rcases h3 with h3 | h3
   ·rw [h2, zq2 x h1] at h3; cases h3.1
   ·exact ⟨h1, by rw [h3.2, h2, hs.2]⟩
theorem zd10 {x r : Nat} (hx : x < 18446744073709551616) (h : SingleR x r) (hs : sngB x = false) : nanD x = false ∧ feq r x = false := by
 unfold sngB at hs
 simp only [Bool.or_eq_false_iff] at hs
 refine ⟨hs.1, ?_⟩
 rcases h.2 with h1 | ⟨h1, u, hu, h2, h3⟩
 ·rw [hs.1] at h1; cases h1.1
 ·rcases h3 with h3 | h3
  ·unfold feq; rw [h3.2]; rfl
  ·cases e : feq r x
   ·rfl
   ·unfold feq at e
    simp only [Bool.and_eq_true, decide_eq_true_eq] at e
    have hi := zw16 r x h.1 hx e.2
    have hz : x = 0 ∨ x = 9223372036854775808 → False := by
     intro hz
     have : (!over x && wide (narrow x) == x) = true := by rcases hz with rfl | rfl <;> decide
     rw [this] at hs; cases hs.2
    have hrx : r = x := by
     rcases hi with hi | hi | hi
     ·exact hi
     ·exact (hz (Or.inr hi.2)).elim
     ·exact (hz (Or.inl hi.2)).elim
    have hxw : x = wide u := by rw [← hrx]; exact h3.2
    have : (!over x && wide (narrow x) == x) = true := by
     rw [hxw, zf16 u hu h3.1, (zy6 u hu h3.1).1]; simp
    rw [this] at hs; cases hs.2
def flip (x : Nat) : Nat := if x < 9223372036854775808 then x + 9223372036854775808 else x - 9223372036854775808
end FL
end
section
open Go.RowKit FL
@[go_sem] theorem run_store_float (P : Program) (w : World) (a : Addr) (m : Mode) (k : FloatKind) (b : Nat) : (store a (.float k b) m).run P w = stored P w a (.float k b) m := run_store P w a _ m rfl
@[go_sem] theorem run_store_complex (P : Program) (w : World) (a : Addr) (m : Mode) (k : FloatKind) (b c : Nat) : (store a (.complex k b c) m).run P w = stored P w a (.complex k b c) m := run_store P w a _ m rfl
def B64 (x : Nat) : Prop := x < 18446744073709551616
def hiB (x : Nat) : Bool := decide (9223372036854775808 ≤ x)
def mzB (x : Nat) : Bool := decide (x = 9223372036854775808)
def pzB (x : Nat) : Bool := decide (x = 0)
def sameB (a b : Nat) : Bool := (nanD a && nanD b) || (!nanD a && !nanD b && decide (a = b))
@[go_sem] theorem ord_eq (x y : Nat) : (FloatKind.f64.format.order x y == some Ordering.eq) = feq x y := zo10 x y
@[go_sem] theorem ord_ne (x y : Nat) : (FloatKind.f64.format.order x y != some Ordering.eq) = !feq x y := congrArg (!·) (zo10 x y)
@[go_sem] theorem ord_lt (x y : Nat) : (FloatKind.f64.format.order x y == some Ordering.lt) = flt x y := zg16 x y
@[go_sem] theorem ord_gt (x y : Nat) : (FloatKind.f64.format.order x y == some Ordering.gt) = flt y x := zh16 x y
theorem zz13 : nanD 0 = false := by decide
theorem zm18 : keyD 0 = 0 := by decide
theorem zv6 (x : Nat) (h : B64 x) : feq x 0 = (pzB x || mzB x) := by
 unfold B64 at h
 have hk := zo7 x h
 have hn := zk3 x
 unfold feq pzB mzB
 rw [zz13, zm18, hk]
 cases e : nanD x
 ·by_cases h0 : x = 0
  ·subst h0; rfl
  ·by_cases h1 : x = 9223372036854775808
   ·subst h1; rfl
   ·simp [h0, h1]; split <;> omega
 ·have := hn.1 e
  have h0 : x ≠ 0 := by omega
  have h1 : x ≠ 9223372036854775808 := by omega
  simp [h0, h1]
theorem zf5 (f : Nat) (w : World) :
  Calls Tryz.prog 108 #[.float .f64 f] w fun e w' => e = .returned (.bool (nanD f)) ∧ w' = w := by
 go_enter Tryz.func108, Tryz.ntmps108
 go_wp2
 go_ret
 exact ⟨zn (by rw [zn3, Bool.not_not]), rfl⟩
theorem zq12 (f : Nat) (w : World) :
  Calls Tryz.prog 96 #[.float .f64 f] w fun e w' => e = .returned (.bool (nanD f)) ∧ w' = w := by
 go_enter Tryz.func96, Tryz.ntmps96
 go_wp2
 go_ret
 exact ⟨zn (by rw [zn3, Bool.not_not]), rfl⟩
theorem ze7 (x : Nat) (w : World) : (callFunc 111 #[.float .f64 x]).run Tryz.prog w = .ok (.value (.int .u64 x)) w := by
 rw [run_callFunc_extern Tryz.func111 (by kernel_rfl) (by kernel_rfl) (by kernel_rfl) (e := Extern.MathFloatBits.float64bits) (by kernel_rfl)]; rfl
theorem zl15 (f : Nat) (h : B64 f) : decide (wrap64 (f : Int) < 0) = hiB f := by
 unfold B64 at h
 unfold hiB
 rw [Bool.eq_iff_iff]
 simp only [decide_eq_true_eq, wrap64, IntKind.wrap_i64]
 omega
theorem zz11 (f : Nat) (h : B64 f) (w : World) :
  Calls Tryz.prog 107 #[.float .f64 f] w fun e w' => e = .returned (.bool (hiB f)) ∧ w' = w := by
 have hb := ze7 f
 go_enter Tryz.func107, Tryz.ntmps107
 go_wp2
 go_ret
 exact ⟨zn (zl15 f h), rfl⟩
theorem zy20 (f : Nat) (h : feq f 0 = true) (hf : B64 f) : (!hiB f) = pzB f := by
 rw [zv6 f hf] at h
 unfold pzB mzB at h
 unfold hiB pzB
 simp only [Bool.or_eq_true, decide_eq_true_eq] at h
 rcases h with rfl | rfl <;> decide
theorem zy18 (f : Nat) (h : ¬ feq f 0 = true) (hf : B64 f) : pzB f = false ∧ mzB f = false := by
 rw [zv6 f hf] at h
 simpa using h
theorem zf2 (f : Nat) (h : B64 f) (w : World) :
  Calls Tryz.prog 101 #[.float .f64 f] w fun e w' => e = .returned (.bool (pzB f)) ∧ w' = w := by
 by_cases hz : feq f 0 = true
 ·have hh := zy20 f hz h
  go_enter Tryz.func101, Tryz.ntmps101
  go_wp2_with (go_at_call 107; refine (zz11 _ h _).mono ?_; rintro e w' ⟨rfl, rfl⟩)
  go_ret
  exact ⟨rfl, rfl⟩
 ·have hh := zy18 f hz h
  simp only [Bool.not_eq_true] at hz
  go_enter Tryz.func101, Tryz.ntmps101
  go_wp2
  go_ret
  exact ⟨zn hh.1.symm, rfl⟩
theorem zp12 (f : Nat) (h : B64 f) (w : World) :
  Calls Tryz.prog 100 #[.float .f64 f] w fun e w' => e = .returned (.bool (mzB f)) ∧ w' = w := by
 have q1 := fun w => run_float_arith (P := Tryz.prog) w .quo 45 .f64 4607182418800017408 0 9218868437227405312 (by decide)
 have q2 := fun w => run_float_arith (P := Tryz.prog) w .quo 45 .f64 4607182418800017408 9223372036854775808 18442240474082181120 (by decide)
 by_cases hz : feq f 0 = true
 ·have h2 := hz
  rw [zv6 f h] at h2
  unfold pzB mzB at h2
  simp only [Bool.or_eq_true, decide_eq_true_eq] at h2
  rcases h2 with rfl | rfl
  ·have l1 : flt 9218868437227405312 0 = false := by decide
   have l2 : mzB 0 = false := by decide
   go_enter Tryz.func100, Tryz.ntmps100
   go_wp2
   go_ret
   exact ⟨rfl, rfl⟩
  ·have l1 : flt 18442240474082181120 0 = true := by decide
   have l2 : mzB 9223372036854775808 = true := by decide
   go_enter Tryz.func100, Tryz.ntmps100
   go_wp2
   go_ret
   exact ⟨rfl, rfl⟩
 ·have hh := zy18 f hz h
  simp only [Bool.not_eq_true] at hz
  go_enter Tryz.func100, Tryz.ntmps100
  go_wp2
  go_ret
  exact ⟨zn hh.2.symm, rfl⟩
theorem zg13 (a b : Nat) (ha : B64 a) (hb : B64 b) (na : nanD a = false) (nb : nanD b = false) : (feq a b && (mzB a == mzB b)) = decide (a = b) := by
 unfold feq
 rw [na, nb]
 unfold B64 at ha hb
 rw [Bool.eq_iff_iff]
 unfold mzB
 simp only [Bool.not_false, Bool.true_and, Bool.and_eq_true, decide_eq_true_eq, beq_iff_eq, decide_eq_decide]
 rw [zo7 a ha, zo7 b hb]
 split <;> split <;> omega
theorem hide {p : Prop} (h : p) : Hid p := h
theorem zb2 (a b : Nat) (ha : B64 a) (hb : B64 b) (w : World) :
  Calls Tryz.prog 84 #[.float .f64 a, .float .f64 b] w fun e w' => e = .returned (.bool (sameB a b)) ∧ w' = w := by
 have Hs := hide (zg13 a b ha hb)
 go_enter Tryz.func84, Tryz.ntmps84
 go_wp2_with (first | (go_at_call 96; refine (zq12 _ _).mono ?_; rintro e w' ⟨rfl, rfl⟩) | (go_at_call 100; refine (zp12 _ ?_ _).mono ?_; assumption; rintro e w' ⟨rfl, rfl⟩))
 all_goals go_ret
 all_goals go_light
 all_goals refine ⟨zn ?_, rfl⟩
 all_goals (unfold sameB; have hs := Hs.out)
 all_goals (simp_all; done)
theorem za8 (f : Nat) (h : B64 f) (hz : feq f 0 = true) : f = 0 ∨ f = 9223372036854775808 := by
 rw [zv6 f h] at hz
 unfold pzB mzB at hz
 simpa using hz
theorem zs19 (a b : Nat) (ha : B64 a) (hb : B64 b) (na : nanD a = false) (nb : nanD b = false) (h : ¬ (feq a 0 = true ∧ feq b 0 = true)) : feq a b = sameB a b := by
 have h1 := zg13 a b ha hb na nb
 unfold sameB
 rw [na, nb]
 simp only [Bool.and_self, Bool.false_or, Bool.not_false, Bool.true_and]
 rw [← h1]
 cases hf : feq a b
 ·rfl
 ·have hk : keyD a = keyD b := by
   unfold feq at hf
   rw [na, nb] at hf
   simpa using hf
  rcases zw16 a b ha hb hk with e | e | e
  ·rw [e]; simp
  ·exact (h (by rw [e.1, e.2]; decide)).elim
  ·exact (h (by rw [e.1, e.2]; decide)).elim
theorem za7 : (Tryz.prog.underlying 116).isSome = true := by rw [Tryz.underlying116]; rfl
theorem zr17 : (Tryz.prog.underlying 45).isSome = true := by rw [Tryz.underlying45]; rfl
theorem zr2 (w : World) (src dst : TypeId) (s k : FloatKind) (b : Nat) (hs : (Tryz.prog.underlying src).isSome = true) (hd : Tryz.prog.underlying dst = some (.float k)) (hne : s ≠ k) (hn : (s.decode b).isNaN = true) :
  (convert src dst (.float s b)).run Tryz.prog w = .ok (.float k ((Question.nanConv k b).cut (w.tape w.drawn (Question.nanConv k b)))) w.drew := by
 obtain ⟨u, hs'⟩ := Option.isSome_iff_exists.1 hs
 cases hdec : s.decode b with
 | nan sg fr => cases u <;> simp [convert, run_underlying hs', run_underlying hd, Conv.floatToFloat, hne, hdec, run_choose_drew, Question.forced]
 | number _ _ _ => rw [hdec] at hn; cases hn
 | infinity _ => rw [hdec] at hn; cases hn
theorem zt4 (w : World) (b : Nat) (hn : nanD b = false) (ho : over b = true) :
  (convert 45 116 (.float .f64 b)).run Tryz.prog w = .ok (.float .f32 ((Question.floatToFloat b).cut (w.tape w.drawn (Question.floatToFloat b)))) w.drew := by
 obtain ⟨u, hs'⟩ := Option.isSome_iff_exists.1 zr17
 unfold over at ho
 cases hdec : Ieee.double.read b with
 | nan sg fr => rw [hdec] at ho; cases ho
 | infinity _ => rw [hdec] at ho; cases ho
 | number sg m e =>
  rw [hdec] at ho
  have hdec' : FloatKind.f64.decode b = .number sg m e := hdec
  have ho' : (FloatKind.f32.decode (FloatKind.f32.encode (.number sg m e))).isInfinity = true := by
   have : narrow b = FloatKind.f32.encode (.number sg m e) := by unfold narrow; rw [hdec]; rfl
   rw [← this]; exact ho
  cases u <;> simp [convert, run_underlying hs', run_underlying Tryz.underlying116, Conv.floatToFloat, hdec', ho', run_choose_drew, Question.forced]
theorem zo16 (b t : Nat) : nanS ((Question.nanConv .f32 b).cut t) = true ∧ (Question.nanConv .f32 b).cut t < 4294967296 := by
 rw [ze4]
 simp only [Question.cut]
 rcases Nat.mod_two_eq_zero_or_one t with h | h <;> rw [h] <;> omega
theorem zj7 (b t : Nat) : nanD ((Question.nanConv .f64 b).cut t) = true ∧ (Question.nanConv .f64 b).cut t < 18446744073709551616 := by
 rw [zk3]
 simp only [Question.cut]
 rcases Nat.mod_two_eq_zero_or_one t with h | h <;> rw [h] <;> omega
theorem zw13 (b t : Nat) : (Question.floatToFloat b).cut t < 4294967296 := by
 simp only [Question.cut]
 omega
theorem zt18 (b : Nat) (h : nanD b = true) : (FloatKind.f64.decode b).isNaN = true := by
 have h' := (zk3 b).1 h
 show (Ieee.double.read b).isNaN = true
 rw [zo6 Ieee.double b (by rw [zj23, zk23]; exact h') zf23]; rfl
theorem zv9 (b : Nat) (h : nanS b = true) : (FloatKind.f32.decode b).isNaN = true := by
 have h' := (ze4 b).1 h
 show (Ieee.single.read b).isNaN = true
 rw [zo6 Ieee.single b (by rw [zl23, zn23]; exact h') zc23]; rfl
theorem zs10 (b : Nat) (hn : nanD b = false) (ho : over b = false) : floatToFloatBits .f64 b .f32 = some (narrow b) := by
 unfold floatToFloatBits
 rw [if_neg (by decide)]
 have hnn : ¬ (Ieee.double.infRung < b % Ieee.double.signWeight) := fun h => by
  have : nanD b = true := by unfold nanD nanW; simpa using h
  rw [this] at hn; cases hn
 unfold over at ho
 unfold narrow at *
 show (match Ieee.double.read b with | .nan _ _ => none | .infinity s => some (Ieee.single.write (.infinity s)) | .number s m e => if (Ieee.single.read (Ieee.single.write (.number s m e))).isInfinity then none else some (Ieee.single.write (.number s m e))) = _
 cases hdec : Ieee.double.read b with
 | nan sg fr =>
  exfalso
  unfold Ieee.Format.read at hdec
  dsimp only at hdec
  split at hdec
  ·cases hdec
  ·split at hdec
   ·cases hdec
   ·split at hdec
    ·cases hdec
    ·omega
 | infinity _ => rfl
 | number sg m e =>
  rw [hdec] at ho
  simp only at ho ⊢
  rw [ho]; rfl
theorem zd9 (u : Nat) (hu : u < 4294967296) (hn : nanS u = false) : floatToFloatBits .f32 u .f64 = some (wide u) := by
 unfold floatToFloatBits
 rw [if_neg (by decide)]
 have hn' : ¬ 2139095040 < u % 2147483648 := fun h => by rw [(ze4 u).2 h] at hn; cases hn
 show (match Ieee.single.read u with | .nan _ _ => none | .infinity s => some (Ieee.double.write (.infinity s)) | .number s m e => if (Ieee.double.read (Ieee.double.write (.number s m e))).isInfinity then none else some (Ieee.double.write (.number s m e))) = _
 by_cases hi : u % 2147483648 = 2139095040
 ·unfold wide
  rw [zu4 Ieee.single u (by rw [zl23, zn23]; exact hi) zc23]
 ·have hr := zn1 Ieee.single u (by rw [zl23, zn23]; omega)
  have hw : (Ieee.double.read (wide u)).isInfinity = false := by
   by_cases h0 : u % 2147483648 = 0
   ·rw [(za10 u hu h0).1, zf7 _ _ _ (by rw [zk23]; omega)]; rfl
   ·obtain ⟨r, h1, h2, h3, h4⟩ := zz6 u hu (by omega) (by omega)
    rw [h3, zf7 _ _ _ h2]; rfl
  unfold wide at *
  rw [hr] at hw ⊢
  simp only
  rw [hw]; rfl
theorem zv10 (x : Nat) (hx : B64 x) (w : World) :
  Calls Tryz.prog 97 #[.float .f64 x] w fun e w' => ∃ r n, e = .returned (.float .f64 r) ∧ SingleR x r ∧ w' = w.drewN n := by
 cases hn : nanD x
 ·have up : ∀ (u : Nat) (w1 : World), u < 4294967296 → (nanS u = true ∧ (convert 116 45 (.float .f32 u)).run Tryz.prog w1 = .ok (.float .f64 ((Question.nanConv .f64 u).cut (w1.tape w1.drawn (Question.nanConv .f64 u)))) w1.drew) ∨ (nanS u = false ∧ (convert 116 45 (.float .f32 u)).run Tryz.prog w1 = .ok (.float .f64 (wide u)) w1) := fun u w1 hu => by
   cases hs : nanS u
   ·exact Or.inr ⟨rfl, run_convert_float_float w1 116 45 .f32 .f64 u (wide u) za7 Tryz.underlying45 (zd9 u hu hs)⟩
   ·exact Or.inl ⟨rfl, zr2 w1 116 45 .f32 .f64 u za7 Tryz.underlying45 (by decide) (zv9 u hs)⟩
  cases ho : over x
  ·have c1 := run_convert_float_float (P := Tryz.prog) w 45 116 .f64 .f32 x (narrow x) zr17 Tryz.underlying116 (zs10 x hn ho)
   have c2 := run_convert_float_float (P := Tryz.prog) w 116 45 .f32 .f64 (narrow x) (wide (narrow x)) za7 Tryz.underlying45 (zd9 _ (zy4 x) (zq2 x hn))
   have Hn := hide (zq2 x hn)
   go_enter Tryz.func97, Tryz.ntmps97
   go_wp2
   go_ret
   exact ⟨_, 0, rfl, ⟨ze9 _, Or.inr ⟨hn, narrow x, zy4 x, Or.inr rfl, Or.inr ⟨Hn.out, rfl⟩⟩⟩, rfl⟩
  ·have c1 := zt4 w x hn ho
   have hu := zw13 x (w.tape w.drawn (Question.floatToFloat x))
   generalize hc : (Question.floatToFloat x).cut (w.tape w.drawn (Question.floatToFloat x)) = u at *
   have Hc := hide hc
   clear hc
   rcases up u w.drew hu with ⟨h1, h2⟩ | ⟨h1, h2⟩
   ·have hq := zj7 u (w.drew.tape w.drew.drawn (Question.nanConv .f64 u))
    generalize hd : (Question.nanConv .f64 u).cut (w.drew.tape w.drew.drawn (Question.nanConv .f64 u)) = r at *
    have Hd := hide hd
    clear hd
    go_enter Tryz.func97, Tryz.ntmps97
    go_wp2
    go_ret
    exact ⟨_, 2, rfl, ⟨hq.2, Or.inr ⟨hn, u, hu, Or.inl ho, Or.inl ⟨h1, hq.1⟩⟩⟩, rfl⟩
   ·go_enter Tryz.func97, Tryz.ntmps97
    go_wp2
    go_ret
    exact ⟨_, 1, rfl, ⟨ze9 _, Or.inr ⟨hn, u, hu, Or.inl ho, Or.inr ⟨h1, rfl⟩⟩⟩, rfl⟩
 ·have c1 := zr2 w 45 116 .f64 .f32 x zr17 Tryz.underlying116 (by decide) (zt18 x hn)
  have hu := zo16 x (w.tape w.drawn (Question.nanConv .f32 x))
  generalize hc : (Question.nanConv .f32 x).cut (w.tape w.drawn (Question.nanConv .f32 x)) = u at *
  have Hc := hide hc
  clear hc
  have c2 := zr2 w.drew 116 45 .f32 .f64 u za7 Tryz.underlying45 (by decide) (zv9 u hu.1)
  have hq := zj7 u (w.drew.tape w.drew.drawn (Question.nanConv .f64 u))
  generalize hd : (Question.nanConv .f64 u).cut (w.drew.tape w.drew.drawn (Question.nanConv .f64 u)) = r at *
  have Hd := hide hd
  clear hd
  go_enter Tryz.func97, Tryz.ntmps97
  go_wp2
  go_ret
  exact ⟨_, 2, rfl, ⟨hq.2, Or.inl ⟨hn, hq.1⟩⟩, rfl⟩
structure Ext (w w' : World) : Prop where
 bl : Below w.heap.size w w'
 fz : ∀ a, w'.frozen? a = w.frozen? a
theorem Ext.refl (w : World) : Ext w w := ⟨Below.refl _ _, fun _ => rfl⟩
theorem Ext.trans {a b c : World} (h : Ext a b) (k : Ext b c) : Ext a c :=
 ⟨h.bl.trans (k.bl.mono h.bl.size), fun x => (k.fz x).trans (h.fz x)⟩
theorem Ext.drew {a b : World} (h : Ext a b) : Ext a b.drew := ⟨h.bl.drew, h.fz⟩
theorem Ext.drewN {a b : World} (h : Ext a b) (n : Nat) : Ext a (b.drewN n) := ⟨below_drewN h.bl n, h.fz⟩
theorem Ext.alloc {a b : World} (h : Ext a b) (c : Array Value) (t : TypeId) : Ext a (b.alloc (χ c t)) :=
 ⟨h.bl.alloc h.bl.size _, fun x => (frozen?_alloc_cells _ _ _ x).trans (h.fz x)⟩
theorem Ext.setCell {a b : World} (h : Ext a b) {p : Addr} (hp : a.heap.size ≤ p.block) (v : Value) : Ext a (b.setCell p v) :=
 ⟨h.bl.setCell hp v, fun x => (World.frozen?_setCell _ _ _ _).trans (h.fz x)⟩
theorem Ext.box {W w1 : World} (h : Ext W w1) {b o : Nat} {v : Value} (hc : W.cell? ⟨b, o, none⟩ = some v) : w1.cell? ⟨b, o, none⟩ = some v := by
 have hb : b < W.heap.size := by
  by_cases e : b < W.heap.size
  ·exact e
  ·have e2 : W.heap[b]? = none := by simp; omega
   simp [World.cell?, e2] at hc
 rw [h.bl.cell (p := ⟨b, o, none⟩) hb, hc]
theorem zc14 (x : Nat) (hx : B64 x) (w : World) :
  Calls Tryz.prog 74 #[O ι 7, .float .f64 x] w fun e w' => ∃ r n, e = .returned (.float .f64 r) ∧ SingleR x r ∧ w' = w.drewN n := by
 go_enter Tryz.func74, Tryz.ntmps74
 go_wp2_with (go_at_call 97; refine (zv10 x hx _).mono ?_; rintro e w' ⟨r, n, rfl, hr, rfl⟩)
 go_ret
 exact ⟨r, n, rfl, hr, rfl⟩
theorem zb14 (dt : Int) (hd : (dt == 7) = false) (x : Nat) (w : World) :
  Calls Tryz.prog 74 #[O ι dt, .float .f64 x] w fun e w' => e = .returned (.float .f64 x) ∧ w' = w := by
 go_enter Tryz.func74, Tryz.ntmps74
 go_wp2
 go_ret
 exact ⟨rfl, rfl⟩
theorem zx10 (x : Nat) (hx : B64 x) (w : World) :
  Calls Tryz.prog 103 #[.float .f64 x] w fun e w' => e = .returned (.bool (sngB x)) ∧ ∃ n, w' = w.drewN n := by
 cases hn : nanD x
 ·have fin : ∀ r, SingleR x r → feq r x = sngB x := fun r h => by
   cases hs : sngB x
   ·exact (zd10 hx h hs).2
   ·rcases zf8 h hs with ⟨h1, _⟩ | ⟨h1, h2⟩
    ·rw [hn] at h1; cases h1
    ·rw [h2, zn3, hn]; rfl
  have up : ∀ (u : Nat) (w1 : World), u < 4294967296 → (nanS u = true ∧ (convert 116 45 (.float .f32 u)).run Tryz.prog w1 = .ok (.float .f64 ((Question.nanConv .f64 u).cut (w1.tape w1.drawn (Question.nanConv .f64 u)))) w1.drew) ∨ (nanS u = false ∧ (convert 116 45 (.float .f32 u)).run Tryz.prog w1 = .ok (.float .f64 (wide u)) w1) := fun u w1 hu => by
   cases hs : nanS u
   ·exact Or.inr ⟨rfl, run_convert_float_float w1 116 45 .f32 .f64 u (wide u) za7 Tryz.underlying45 (zd9 u hu hs)⟩
   ·exact Or.inl ⟨rfl, zr2 w1 116 45 .f32 .f64 u za7 Tryz.underlying45 (by decide) (zv9 u hs)⟩
  cases ho : over x
  ·have c1 := run_convert_float_float (P := Tryz.prog) w 45 116 .f64 .f32 x (narrow x) zr17 Tryz.underlying116 (zs10 x hn ho)
   have c2 := run_convert_float_float (P := Tryz.prog) w 116 45 .f32 .f64 (narrow x) (wide (narrow x)) za7 Tryz.underlying45 (zd9 _ (zy4 x) (zq2 x hn))
   have Hn := hide (zq2 x hn)
   have Hf := hide (fin (wide (narrow x)) ⟨ze9 _, Or.inr ⟨hn, narrow x, zy4 x, Or.inr rfl, Or.inr ⟨Hn.out, rfl⟩⟩⟩)
   clear fin up
   go_enter Tryz.func103, Tryz.ntmps103
   go_wp2_with (go_at_call 108; refine (zf5 _ _).mono ?_; rintro e w' ⟨rfl, rfl⟩)
   go_ret
   exact ⟨zn Hf.out, 0, rfl⟩
  ·have c1 := zt4 w x hn ho
   have hu := zw13 x (w.tape w.drawn (Question.floatToFloat x))
   generalize hc : (Question.floatToFloat x).cut (w.tape w.drawn (Question.floatToFloat x)) = u at *
   have Hc := hide hc
   clear hc
   rcases up u w.drew hu with ⟨h1, h2⟩ | ⟨h1, h2⟩
   ·have hq := zj7 u (w.drew.tape w.drew.drawn (Question.nanConv .f64 u))
    generalize hd : (Question.nanConv .f64 u).cut (w.drew.tape w.drew.drawn (Question.nanConv .f64 u)) = r at *
    have Hd := hide hd
    clear hd
    have Hf := hide (fin r ⟨hq.2, Or.inr ⟨hn, u, hu, Or.inl ho, Or.inl ⟨h1, hq.1⟩⟩⟩)
    clear fin up hq
    go_enter Tryz.func103, Tryz.ntmps103
    go_wp2_with (go_at_call 108; refine (zf5 _ _).mono ?_; rintro e w' ⟨rfl, rfl⟩)
    go_ret
    exact ⟨zn Hf.out, 2, rfl⟩
   ·have Hf := hide (fin (wide u) ⟨ze9 _, Or.inr ⟨hn, u, hu, Or.inl ho, Or.inr ⟨h1, rfl⟩⟩⟩)
    clear fin up
    go_enter Tryz.func103, Tryz.ntmps103
    go_wp2_with (go_at_call 108; refine (zf5 _ _).mono ?_; rintro e w' ⟨rfl, rfl⟩)
    go_ret
    exact ⟨zn Hf.out, 1, rfl⟩
 ·go_enter Tryz.func103, Tryz.ntmps103
  go_wp2_with (go_at_call 108; refine (zf5 _ _).mono ?_; rintro e w' ⟨rfl, rfl⟩)
  go_ret
  exact ⟨zn (by unfold sngB; rw [hn]; rfl), 0, rfl⟩
def lowL (dt : Int) : Int := if dt = 1 ∨ dt = 3 then 0 else if dt = 2 then -128 else if dt = 4 then -32768 else if dt = 5 then -2147483648 else -9223372036854775808
def highL (dt : Int) : Int := if dt = 1 then 1 else if dt = 3 then 255 else if dt = 2 then 127 else if dt = 4 then 32767 else if dt = 5 then 2147483647 else 9223372036854775807
theorem zw10 (dt : Int) (w : World) :
  Calls Tryz.prog 82 #[O ι dt] w fun e w' => e = .returned (O ι (lowL dt)) ∧ w' = w := by
 go_enter Tryz.func82, Tryz.ntmps82
 go_wp2
 all_goals go_ret
 all_goals refine ⟨zm1 ?_, rfl⟩
 all_goals go_light
 all_goals (unfold lowL; simp only [beq_iff_eq, beq_eq_false_iff_ne, ne_eq] at *; omega)
theorem zm2 (dt : Int) (w : World) :
  Calls Tryz.prog 83 #[O ι dt] w fun e w' => e = .returned (O ι (highL dt)) ∧ w' = w := by
 go_enter Tryz.func83, Tryz.ntmps83
 go_wp2
 all_goals go_ret
 all_goals refine ⟨zm1 ?_, rfl⟩
 all_goals go_light
 all_goals (unfold highL; simp only [beq_iff_eq, beq_eq_false_iff_ne, ne_eq] at *; omega)
def cutL (dt i : Int) : Int :=
 if dt = 2 then (i + 128) % 256 - 128 else if dt = 3 then i % 256 else if dt = 4 then (i + 32768) % 65536 - 32768 else if dt = 5 then (i + 2147483648) % 4294967296 - 2147483648 else i
theorem wrap_i8' (n : Int) : IntKind.i8.wrap n = (n + 128) % 256 - 128 := by
 simp only [IntKind.wrap, IntKind.bits, IntKind.signed, Bool.true_and, decide_eq_true_eq]
 simp; split <;> omega
theorem wrap_i16' (n : Int) : IntKind.i16.wrap n = (n + 32768) % 65536 - 32768 := by
 simp only [IntKind.wrap, IntKind.bits, IntKind.signed, Bool.true_and, decide_eq_true_eq]
 simp; split <;> omega
theorem zz12 (dt i : Int) (w : World) :
  Calls Tryz.prog 102 #[O ι dt, O ι i] w fun e w' => e = .returned (O ι (cutL dt i)) ∧ w' = w := by
 go_enter Tryz.func102, Tryz.ntmps102
 go_wp2
 all_goals go_ret
 all_goals refine ⟨zm1 ?_, rfl⟩
 all_goals go_light
 all_goals (unfold cutL; simp only [beq_iff_eq, beq_eq_false_iff_ne, ne_eq, wrap64, wrap32, IntKind.wrap_i64, IntKind.wrap_i32, wrap_i8', wrap_i16'] at *; omega)
def I64 (i : Int) : Prop := -9223372036854775808 ≤ i ∧ i ≤ 9223372036854775807
theorem zc21 (dt i : Int) (h : 2 ≤ dt ∧ dt ≤ 6) (hi : I64 i) : (cutL dt i == i) = decide (lowL dt ≤ i ∧ i ≤ highL dt) := by
 unfold I64 at hi
 rw [Bool.eq_iff_iff]
 simp only [beq_iff_eq, decide_eq_true_eq]
 unfold cutL lowL highL
 have : dt = 2 ∨ dt = 3 ∨ dt = 4 ∨ dt = 5 ∨ dt = 6 := by omega
 rcases this with rfl | rfl | rfl | rfl | rfl <;> simp <;> omega
def rngB (dt i : Int) : Bool := decide (lowL dt ≤ i ∧ i ≤ highL dt)
def validB (dt i : Int) (f g : Nat) : Bool :=
 if 1 ≤ dt ∧ dt ≤ 6 then rngB dt i && pzB f && pzB g
 else if dt = 7 then i == 0 && pzB g && sngB f
 else if dt = 8 then i == 0 && pzB g
 else if dt = 9 then i == 0 else false
theorem zz14 (dt i : Int) (f g : Nat) (h : 2 ≤ dt ∧ dt ≤ 6) (hi : I64 i) (hf : B64 f) (hg : B64 g) (w : World) :
  Calls Tryz.prog 90 #[O ι dt, γ #[O ι i, .float .f64 f, .float .f64 g]] w fun e w' => e = .returned (.bool (rngB dt i && pzB f && pzB g)) ∧ Ext w w' := by
 have hk : kindL dt = 1 := by unfold kindL; omega
 have hc := zc21 dt i h hi
 rw [show decide (lowL dt ≤ i ∧ i ≤ highL dt) = rngB dt i from rfl] at hc
 have Hh := hide h
 clear h
 cases h1 : rngB dt i <;> cases h2 : pzB f <;> rw [h1] at hc
 all_goals
  go_enter Tryz.func90, Tryz.ntmps90
  go_wp2_with (go_at_call 89; refine (zx1 _ _).mono ?_; rintro e w' ⟨rfl, rfl⟩)
  go_quiet (first | (go_at_call 102; exact Calls.quiet_of_same (zz12 _ _ _)) | (go_at_call 101; exact Calls.quiet_of_same (zf2 _ (by assumption) _)))
  go_wp2
  go_ret
  exact ⟨rfl, by repeat (first | exact Ext.refl _ | apply Ext.drewN | apply Ext.drew | apply Ext.alloc)⟩
theorem zt12 (i : Int) (f g : Nat) (hf : B64 f) (hg : B64 g) (w : World) :
  Calls Tryz.prog 90 #[O ι 1, γ #[O ι i, .float .f64 f, .float .f64 g]] w fun e w' => e = .returned (.bool (rngB 1 i && pzB f && pzB g)) ∧ Ext w w' := by
 have hk : kindL 1 = 0 := by decide
 have hr : rngB 1 i = (i == 0 || i == 1) := by
  unfold rngB lowL highL
  rw [Bool.eq_iff_iff]; simp; omega
 rw [hr]
 clear hr
 cases h0 : (i == 0) <;> cases h1 : (i == 1) <;> cases h2 : pzB f
 all_goals
  go_enter Tryz.func90, Tryz.ntmps90
  go_wp2_with (first | (go_at_call 89; refine (zx1 _ _).mono ?_; rintro e w' ⟨rfl, rfl⟩) | (go_at_call 101; refine (zf2 _ ?_ _).mono ?_; assumption; rintro e w' ⟨rfl, rfl⟩))
  go_ret
  exact ⟨rfl, by repeat (first | exact Ext.refl _ | apply Ext.drewN | apply Ext.drew | apply Ext.alloc)⟩
theorem za15 (i : Int) (f g : Nat) (hf : B64 f) (hg : B64 g) (w : World) :
  Calls Tryz.prog 90 #[O ι 8, γ #[O ι i, .float .f64 f, .float .f64 g]] w fun e w' => e = .returned (.bool (i == 0 && pzB g)) ∧ Ext w w' := by
 have hk : kindL 8 = 2 := by decide
 cases h0 : (i == 0) <;> cases h2 : pzB g
 all_goals
  go_enter Tryz.func90, Tryz.ntmps90
  go_wp2_with (first | (go_at_call 89; refine (zx1 _ _).mono ?_; rintro e w' ⟨rfl, rfl⟩) | (go_at_call 101; refine (zf2 _ ?_ _).mono ?_; assumption; rintro e w' ⟨rfl, rfl⟩))
  go_ret
  exact ⟨rfl, by repeat (first | exact Ext.refl _ | apply Ext.drewN | apply Ext.drew | apply Ext.alloc)⟩
theorem zb15 (i : Int) (f g : Nat) (hf : B64 f) (hg : B64 g) (w : World) :
  Calls Tryz.prog 90 #[O ι 7, γ #[O ι i, .float .f64 f, .float .f64 g]] w fun e w' => e = .returned (.bool (i == 0 && pzB g && sngB f)) ∧ Ext w w' := by
 have hk : kindL 7 = 2 := by decide
 cases h0 : (i == 0) <;> cases h2 : pzB g
 all_goals
  go_enter Tryz.func90, Tryz.ntmps90
  go_wp2_with (first | (go_at_call 89; refine (zx1 _ _).mono ?_; rintro e w' ⟨rfl, rfl⟩) | (go_at_call 101; refine (zf2 _ ?_ _).mono ?_; assumption; rintro e w' ⟨rfl, rfl⟩) | (go_at_call 103; refine (zx10 _ ?_ _).mono ?_; assumption; rintro e w' ⟨rfl, n, rfl⟩))
  go_ret
  exact ⟨rfl, by repeat (first | exact Ext.refl _ | apply Ext.drewN | apply Ext.drew | apply Ext.alloc)⟩
theorem zs12 (i : Int) (f g : Nat) (hf : B64 f) (hg : B64 g) (w : World) :
  Calls Tryz.prog 90 #[O ι 9, γ #[O ι i, .float .f64 f, .float .f64 g]] w fun e w' => e = .returned (.bool (i == 0)) ∧ Ext w w' := by
 have hk : kindL 9 = 3 := by decide
 go_enter Tryz.func90, Tryz.ntmps90
 go_wp2_with (first | (go_at_call 89; refine (zx1 _ _).mono ?_; rintro e w' ⟨rfl, rfl⟩))
 go_ret
 exact ⟨rfl, by repeat (first | exact Ext.refl _ | apply Ext.drewN | apply Ext.drew | apply Ext.alloc)⟩
theorem zy16 (dt i : Int) (f g : Nat) (h : ¬ (1 ≤ dt ∧ dt ≤ 9)) (w : World) :
  Calls Tryz.prog 90 #[O ι dt, γ #[O ι i, .float .f64 f, .float .f64 g]] w fun e w' => e = .returned (.bool false) ∧ Ext w w' := by
 have hk : kindL dt = -1 := by unfold kindL; omega
 clear h
 go_enter Tryz.func90, Tryz.ntmps90
 go_wp2_with (first | (go_at_call 89; refine (zx1 _ _).mono ?_; rintro e w' ⟨rfl, rfl⟩))
 go_ret
 exact ⟨rfl, by repeat (first | exact Ext.refl _ | apply Ext.drewN | apply Ext.drew | apply Ext.alloc)⟩
theorem zt8 (dt i : Int) (f g : Nat) (hi : I64 i) (hf : B64 f) (hg : B64 g) (w : World) :
  Calls Tryz.prog 90 #[O ι dt, γ #[O ι i, .float .f64 f, .float .f64 g]] w fun e w' => e = .returned (.bool (validB dt i f g)) ∧ Ext w w' := by
 by_cases h1 : dt = 1
 ·subst h1; exact zt12 i f g hf hg w
 by_cases h2 : 2 ≤ dt ∧ dt ≤ 6
 ·have e : validB dt i f g = (rngB dt i && pzB f && pzB g) := by unfold validB; rw [if_pos (by omega)]
  rw [e]; exact zz14 dt i f g h2 hi hf hg w
 by_cases h7 : dt = 7
 ·subst h7; exact zb15 i f g hf hg w
 by_cases h8 : dt = 8
 ·subst h8; exact za15 i f g hf hg w
 by_cases h9 : dt = 9
 ·subst h9; exact zs12 i f g hf hg w
 have e : validB dt i f g = false := by unfold validB; rw [if_neg (by omega), if_neg h7, if_neg h8, if_neg h9]
 rw [e]; exact zy16 dt i f g (by omega) w
end
section
open Go.ChangeShapes Go.RowKit FL
theorem zl {W : World} {b o : Nat} {v : Value} (hc : W.cell? ⟨b, o, none⟩ = some v) : b < W.heap.size := by
 by_cases e : b < W.heap.size
 ·exact e
 ·have e2 : W.heap[b]? = none := by simp; omega
  simp [World.cell?, e2] at hc
theorem ze15 (w : World) (b o : Nat) (h : w.heap.size ≤ b) : w.frozen? ⟨b, o, none⟩ = false := by
 have e : w.heap[b]? = none := by simp; omega
 simp [World.frozen?, e]
theorem Ext.unfrozen {w w1 : World} (h : Ext w w1) {b : Nat} (hb : w.heap.size ≤ b) (o : Nat) : w1.frozen? ⟨b, o, none⟩ = false := by
 rw [h.fz, ze15 w b o hb]
theorem zy1 {W : World} {b o q : Nat} {v x : Value} (hne : o ≠ q) (h : W.cell? ⟨b, q, none⟩ = some x) : (W.setCell ⟨b, o, none⟩ v).cell? ⟨b, q, none⟩ = some x := by
 rw [World.cell?_setCell_other _ _ _ _ (by intro e; simp only [Addr.mk.injEq] at e; omega)]; exact h
theorem zg (W : World) (cs : Array Value) (t b : Nat) (hb : b = W.heap.size) (j : Nat) : (W.alloc (χ cs t)).cell? ⟨b, j, none⟩ = cs[j]? := by
 subst hb
 rw [cell_of_row _ W.heap.size j cs t (0, 0) (heap_alloc_new W _)]
abbrev Bel (w w' : World) : Prop := Below w.heap.size w w'
theorem Bel.box {w w' : World} (x : Bel w w') {b o : Nat} {v : Value} (h : w.cell? ⟨b, o, none⟩ = some v) : w'.cell? ⟨b, o, none⟩ = some v := (Below.cell x (p := ⟨b, o, none⟩) (zl h)).trans h
theorem Bel.tr {a b c : World} (x : Bel a b) (y : Bel b c) : Bel a c := Below.trans x (Below.mono y (Below.size x))
def LawOk (w : World) (e : Ending) (w' : World) : Prop := e = .returned (.bool true) ∧ Below w.heap.size w w'
abbrev C3 := Int × Nat × Nat
def k0 : C3 := (0, 0, 0)
def CRow (w : World) (b off : Nat) (cs : List C3) : Prop := ∀ j, j < cs.length → w.cell? ⟨b, off + j * 3, none⟩ = some (O ι (cs.getD j k0).1) ∧ w.cell? ⟨b, off + j * 3 + 1, none⟩ = some (.float .f64 (cs.getD j k0).2.1) ∧ w.cell? ⟨b, off + j * 3 + 2, none⟩ = some (.float .f64 (cs.getD j k0).2.2)
def CV (w : World) (v : Value) (cs : List C3) : Prop := ∃ sa cap, v = σ sa cs.length cap ∧ (cs = [] ∨ ∃ b off, sa = some ⟨b, off, none⟩ ∧ CRow w b off cs)
def CVL (w : World) (lo : Nat) (v : Value) (cs : List C3) : Prop := ∃ sa cap, v = σ sa cs.length cap ∧ (cs = [] ∨ ∃ b off, sa = some ⟨b, off, none⟩ ∧ lo ≤ b ∧ CRow w b off cs)
theorem CRow.keep {w w' : World} {b off : Nat} {cs : List C3} (h : CRow w b off cs) (x : Bel w w') : CRow w' b off cs := fun j hj => ⟨x.box (h j hj).1, x.box (h j hj).2.1, x.box (h j hj).2.2⟩
theorem CV.keep {w w' : World} {v : Value} {cs : List C3} (h : CV w v cs) (x : Bel w w') : CV w' v cs := by
 obtain ⟨sa, cap, h1, h2⟩ := h
 exact ⟨sa, cap, h1, h2.imp id fun ⟨b, off, h3, h4⟩ => ⟨b, off, h3, h4.keep x⟩⟩
theorem CRow.set {w : World} {g off : Nat} {cs : List C3} (h : CRow w g off cs) (i : Nat) (hi : i < cs.length) (t : C3) :
  CRow (((w.setCell ⟨g, off + i * 3, none⟩ (O ι t.1)).setCell ⟨g, off + i * 3 + 1, none⟩ (.float .f64 t.2.1)).setCell ⟨g, off + i * 3 + 2, none⟩ (.float .f64 t.2.2)) g off (cs.set i t) := fun j hj => by
 rw [List.length_set] at hj
 have e0 : (cs.set i t).getD j k0 = if i = j then t else cs.getD j k0 := by
  rw [List.getD_eq_getElem?_getD, List.getElem?_set, List.getD_eq_getElem?_getD]
  by_cases e : i = j
  ·subst e; simp [hi]
  ·simp [e]
 rw [e0]
 obtain ⟨a, b, c⟩ := h j hj
 by_cases e : i = j
 ·subst e
  rw [if_pos rfl]
  exact ⟨zy1 (by omega) (zy1 (by omega) (World.cell?_setCell_same _ _ _ a)), zy1 (by omega) (World.cell?_setCell_same _ _ _ (zy1 (by omega) b)), World.cell?_setCell_same _ _ _ (zy1 (by omega) (zy1 (by omega) c))⟩
 ·rw [if_neg e]
  exact ⟨zy1 (by omega) (zy1 (by omega) (zy1 (by omega) a)), zy1 (by omega) (zy1 (by omega) (zy1 (by omega) b)), zy1 (by omega) (zy1 (by omega) (zy1 (by omega) c))⟩
def fillD {α : Type} (d : α) (xs : List α) (k : Nat) : List α := xs.take k ++ List.replicate (xs.length - k) d
theorem zu18 (w : World) (n : Nat) (t : TypeId) : CRow (w.alloc (χ (madeCells #[O ι 0, .float .f64 0, .float .f64 0] (n * 3)) t)) w.heap.size 0 (List.replicate n k0) := by
 intro j hj
 rw [List.length_replicate] at hj
 have e : (List.replicate n k0).getD j k0 = k0 := by simp [List.getD_eq_getElem?_getD, hj]
 rw [e]
 have hc := fun o => cell_of_row _ w.heap.size o _ t (0, 0) (heap_alloc_new w (χ (madeCells #[O ι 0, .float .f64 0, .float .f64 0] (n * 3)) t))
 have l0 : 0 + j * 3 < n * 3 := by omega
 have l1 : 0 + j * 3 + 1 < n * 3 := by omega
 have l2 : 0 + j * 3 + 2 < n * 3 := by omega
 refine ⟨(hc _).trans ?_, (hc _).trans ?_, (hc _).trans ?_⟩
 ·simp only [madeCells]
  rw [Array.getElem?_map, Array.getElem?_range, if_pos l0]
  simp [k0]
 ·simp only [madeCells]
  rw [Array.getElem?_map, Array.getElem?_range, if_pos l1]
  simp [k0]
 ·simp only [madeCells]
  rw [Array.getElem?_map, Array.getElem?_range, if_pos l2]
  simp [k0]
def CG (cs : List C3) : Prop := ∀ c ∈ cs, I64 c.1 ∧ B64 c.2.1 ∧ B64 c.2.2
theorem CG.at {cs : List C3} (h : CG cs) (j : Nat) (hj : j < cs.length) : I64 (cs.getD j k0).1 ∧ B64 (cs.getD j k0).2.1 ∧ B64 (cs.getD j k0).2.2 := by
 rw [List.getD_eq_getElem?_getD, List.getElem?_eq_getElem hj]
 exact h _ (List.getElem_mem hj)
abbrev St := Int × List C3
def s0 : St := (0, [])
def SRow (w : World) (b off : Nat) (ss : List St) : Prop := ∀ j, j < ss.length → w.cell? ⟨b, off + j * 2, none⟩ = some (O ι (ss.getD j s0).1) ∧ ∃ u, w.cell? ⟨b, off + j * 2 + 1, none⟩ = some u ∧ CV w u (ss.getD j s0).2
def SRowL (w : World) (lo b off : Nat) (ss : List St) : Prop := ∀ j, j < ss.length → w.cell? ⟨b, off + j * 2, none⟩ = some (O ι (ss.getD j s0).1) ∧ ∃ u, w.cell? ⟨b, off + j * 2 + 1, none⟩ = some u ∧ CVL w lo u (ss.getD j s0).2
def SV (w : World) (v : Value) (ss : List St) : Prop := ∃ sa cap, v = σ sa ss.length cap ∧ (ss = [] ∨ ∃ b off, sa = some ⟨b, off, none⟩ ∧ SRow w b off ss)
theorem SRow.keep {w w' : World} {b off : Nat} {ss : List St} (h : SRow w b off ss) (x : Bel w w') : SRow w' b off ss := fun j hj => by
 obtain ⟨h1, u, h2, h3⟩ := h j hj
 exact ⟨x.box h1, u, x.box h2, h3.keep x⟩
theorem SV.keep {w w' : World} {v : Value} {ss : List St} (h : SV w v ss) (x : Bel w w') : SV w' v ss := by
 obtain ⟨sa, cap, h1, h2⟩ := h
 exact ⟨sa, cap, h1, h2.imp id fun ⟨b, off, h3, h4⟩ => ⟨b, off, h3, h4.keep x⟩⟩
def SG (ss : List St) : Prop := ∀ s ∈ ss, CG s.2
theorem SG.at {ss : List St} (h : SG ss) (j : Nat) (hj : j < ss.length) : CG (ss.getD j s0).2 := by
 rw [List.getD_eq_getElem?_getD, List.getElem?_eq_getElem hj]
 exact h _ (List.getElem_mem hj)
def SL (ss : List St) (n : Nat) : Prop := ss.length ≤ n ∧ ∀ s ∈ ss, s.2.length ≤ n
theorem SL.at {ss : List St} {n : Nat} (h : SL ss n) (j : Nat) (hj : j < ss.length) : (ss.getD j s0).2.length ≤ n := by
 rw [List.getD_eq_getElem?_getD, List.getElem?_eq_getElem hj]
 exact h.2 _ (List.getElem_mem hj)
def vStore (s : St) : Bool := isDtB s.1 && decide (s.2.length ≤ 4096) && s.2.all fun c => validB s.1 c.1 c.2.1 c.2.2
def vHeap (ss : List St) : Bool := decide (ss.length ≤ 64) && ss.all vStore
theorem zb9 {α : Type} (d : α) {p : α → Bool} {xs : List α} {k : Nat} (hk : k < xs.length) (h : p (xs.getD k d) = false) : xs.all p = false := by
 rw [List.all_eq_false]
 refine ⟨xs.getD k d, ?_, by rw [h]; simp⟩
 rw [List.getD_eq_getElem?_getD, List.getElem?_eq_getElem hk]
 exact List.getElem_mem hk
theorem zy9 {α : Type} (d : α) {p : α → Bool} {xs : List α} (h : ∀ j, j < xs.length → p (xs.getD j d) = true) : xs.all p = true := by
 rw [List.all_eq_true]
 intro x hx
 obtain ⟨j, hj, rfl⟩ := List.getElem_of_mem hx
 have := h j hj
 rw [List.getD_eq_getElem?_getD, List.getElem?_eq_getElem hj] at this
 exact this
end
section
open Go.ChangeShapes Go.RowKit
def Hid (p : Prop) : Prop := p
theorem Hid.out {p : Prop} (h : Hid p) : p := h
structure Mut (b : Nat) (w w' : World) : Prop where
 os : w'.os = w.os
 tape : w'.tape = w.tape
 output : w'.output = w.output
 size : w.heap.size ≤ w'.heap.size
 block : ∀ k, k < w.heap.size → k ≠ b → w'.heap[k]? = w.heap[k]?
 fz : ∀ a, w'.frozen? a = w.frozen? a
theorem Mut.refl (b : Nat) (w : World) : Mut b w w := ⟨rfl, rfl, rfl, Nat.le_refl _, fun _ _ _ => rfl, fun _ => rfl⟩
theorem Mut.trans {b : Nat} {a c d : World} (h : Mut b a c) (k : Mut b c d) : Mut b a d :=
 ⟨k.os.trans h.os, k.tape.trans h.tape, k.output.trans h.output, Nat.le_trans h.size k.size, fun i hi hn => (k.block i (Nat.lt_of_lt_of_le hi h.size) hn).trans (h.block i hi hn), fun a => (k.fz a).trans (h.fz a)⟩
theorem Ext.mut {a c : World} (h : Ext a c) (b : Nat) : Mut b a c :=
 ⟨h.bl.os, h.bl.tape, h.bl.output, h.bl.size, fun i hi _ => h.bl.block i hi, h.fz⟩
theorem Mut.setCell {b : Nat} {a c : World} (h : Mut b a c) (o : Nat) (v : Value) : Mut b a (c.setCell ⟨b, o, none⟩ v) :=
 h.trans ⟨rfl, rfl, rfl, by simp [World.setCell], fun k hk hn => Below.heap_setCell _ _ _ _ hn, fun x => World.frozen?_setCell _ _ _ _⟩
theorem Mut.drewN {b : Nat} {a c : World} (h : Mut b a c) (n : Nat) : Mut b a (c.drewN n) := ⟨h.os, h.tape, h.output, h.size, h.block, h.fz⟩
theorem Mut.box {b : Nat} {W w1 : World} (h : Mut b W w1) {k o : Nat} {v : Value} (hk : k ≠ b) (hc : W.cell? ⟨k, o, none⟩ = some v) : w1.cell? ⟨k, o, none⟩ = some v := by
 rw [← hc]
 exact World.cell?_of_block (w := W) (a := ⟨k, o, none⟩) (h.block k (zl hc) hk)
def Row (w : World) (b off : Nat) (xs : List Int) : Prop := ∀ j, j < xs.length → w.cell? ⟨b, off + j, none⟩ = some (O ι (xs.getD j 0))
def Ints (w : World) (v : Value) (xs : List Int) : Prop := ∃ sa cap, v = σ sa xs.length cap ∧ (xs = [] ∨ ∃ b off, sa = some ⟨b, off, none⟩ ∧ Row w b off xs)
theorem Row.ext {w w' : World} {b off : Nat} {xs : List Int} (h : Row w b off xs) (x : Ext w w') : Row w' b off xs := fun j hj => x.box (h j hj)
theorem Ints.ext {w w' : World} {v : Value} {xs : List Int} (h : Ints w v xs) (x : Ext w w') : Ints w' v xs := by
 obtain ⟨sa, cap, rfl, h⟩ := h
 refine ⟨sa, cap, rfl, ?_⟩
 rcases h with h | ⟨b, off, h1, h2⟩
 ·exact Or.inl h
 ·exact Or.inr ⟨b, off, h1, h2.ext x⟩
theorem zy7 : (Tryz.prog.info? 2).map (fun i => (i.zero, i.size, i.bytes)) = some (some (O ι 0), 1, 8) := by kernel_rfl
def fill (xs : List Int) (k : Nat) : List Int := xs.take k ++ List.replicate (xs.length - k) 0
def counted (n : Nat) (k : Int) : List Int := (List.range n).map fun (j : Nat) => k + (j : Int)
def marked (xs : List Int) (k : Int) (i : Nat) : List Int := counted i k ++ xs.drop i
def prod (xs : List Int) : Int := xs.foldl (· * ·) 1
theorem za3 (xs : List Int) (k : Nat) (hk : k < xs.length) : prod (xs.take (k + 1)) = prod (xs.take k) * xs.getD k 0 := by
 unfold prod
 rw [List.take_add_one, List.foldl_append, List.getD_eq_getElem?_getD, List.getElem?_eq_getElem hk]
 rfl
abbrev InR (xs : List Int) (k : Nat) : Prop := ∀ j, j < k → 0 ≤ xs.getD j 0 ∧ xs.getD j 0 ≤ 4096
theorem InR.step {xs : List Int} {k : Nat} (h : InR xs k) (hx : 0 ≤ xs.getD k 0 ∧ xs.getD k 0 ≤ 4096) : InR xs (k + 1) := fun j hj => by
 by_cases e : j = k
 ·rw [e]; exact hx
 ·exact h j (by omega)
theorem zr21 {n x B : Int} (hn : 0 ≤ n ∧ n ≤ B) (hx : 0 ≤ x ∧ x ≤ 4096) : 0 ≤ n * x ∧ n * x ≤ B * 4096 :=
 ⟨Int.mul_nonneg hn.1 hx.1, Int.mul_le_mul hn.2 hx.2 hx.1 (Int.le_trans hn.1 hn.2)⟩
def bd (k : Nat) : Int := if k = 0 then 1 else if k = 1 then 4096 else if k = 2 then 16777216 else if k = 3 then 68719476736 else 281474976710656
theorem zx9 (k : Nat) : bd k ≤ 281474976710656 := by unfold bd; repeat' split; all_goals omega
theorem zh2 (xs : List Int) : ∀ k, k ≤ 4 → k ≤ xs.length → InR xs k → 0 ≤ prod (xs.take k) ∧ prod (xs.take k) ≤ bd k
 | 0, _, _, _ => by simp [prod, bd]
 | k + 1, h4, hl, h => by
  have ih := zh2 xs k (by omega) (by omega) (fun j hj => h j (by omega))
  rw [za3 xs k (by omega)]
  have := zr21 ih (h k (by omega))
  have hb : bd k * 4096 = bd (k + 1) := by
   obtain rfl | rfl | rfl | rfl : k = 0 ∨ k = 1 ∨ k = 2 ∨ k = 3 := by omega
   all_goals rfl
  rw [hb] at this
  exact this
abbrev Good (xs : List Int) : Prop := xs.length ≤ 4 ∧ InR xs xs.length ∧ prod xs ≤ 4096
def goodB (xs : List Int) : Bool := decide (Good xs)
def cntL (xs : List Int) : Int := if Good xs then prod xs else -1
theorem zj1 {w : World} {v : Value} {xs : List Int} (h : Ints w v xs) (hl : xs.length ≤ 1000000000000) :
  Calls Tryz.prog 57 #[v] w fun e w' => e = .returned (O ι (cntL xs)) ∧ w' = w := by
 obtain ⟨sa, cap, rfl, hx⟩ := h
 have HX := hide hx
 clear hx
 by_cases h4 : xs.length ≤ 4
 ·have h4' : (xs.length : Int) ≤ 4 := by omega
  go_enter Tryz.func57, Tryz.ntmps57
  go_wp2
  go_loopw [3, 4] (fun m i wr => ∃ k : Nat, i = O ι k ∧ m = O ι (prod (xs.take k)) ∧ k ≤ xs.length ∧ Hid (InR xs k) ∧ wr = w) (fun m i _ => xs.length - (intOf i).toNat)
  case atStart => exact ⟨0, rfl, rfl, by omega, fun j hj => absurd hj (Nat.not_lt_zero _), rfl⟩
  case round =>
   obtain ⟨k, rfl, rfl, hk, hin, rfl⟩ := hrel
   have hb := zh2 xs k (by omega) hk hin.out
   have hb2 := zx9 k
   by_cases hlt : k < xs.length
   ·rcases HX.out with h0 | ⟨b, off, rfl, hrow⟩
    ·rw [h0] at hlt; simp at hlt
    have q0 := hrow k hlt
    have hk0 : (0 : Int) ≤ (k : Int) := Int.natCast_nonneg _
    have hk1 : (k : Int) < (xs.length : Int) := by omega
    have hp := za3 xs k hlt
    by_cases hr : 0 ≤ xs.getD k 0 ∧ xs.getD k 0 ≤ 4096
    ·have hin2 : Hid (InR xs (k + 1)) := hin.out.step hr
     have hB := zh2 xs (k + 1) (by omega) (by omega) hin2.out
     have hB2 := zx9 (k + 1)
     generalize bd (k + 1) = B1 at hB hB2
     generalize bd k = B0 at hb hb2
     generalize hP1 : prod (xs.take (k + 1)) = P1 at hp hB
     have HP1 := hide hP1
     clear hP1
     generalize prod (xs.take k) = P0 at hp hb ⊢
     generalize xs.getD k 0 = x at q0 hp hr
     have hw1 : wrap64 (P0 * x) = P1 := by rw [← hp]; unfold wrap64; omega
     clear hrow hp
     have hlo : ¬ x < 0 := by omega
     have hhi : ¬ 4096 < x := by omega
     go_wp2
     go_roundw
     ·exact ⟨k + 1, by go_num, by first | (rw [HP1.out]; done) | (rw [HP1.out, hw1]), by omega, hin2, by trivial⟩
     ·simp [intOf]; omega
    ·have hng : Hid (cntL xs = -1) := by
      show cntL xs = -1
      unfold cntL
      exact if_neg (fun g => hr (g.2.1 k hlt))
     generalize xs.getD k 0 = x at q0 hp hr
     clear hp hrow hb hb2
     by_cases hlo : x < 0
     ·go_wp2
      go_ret
      exact ⟨zm1 hng.out.symm, rfl⟩
     ·have hhi : 4096 < x := by omega
      go_wp2
      go_ret
      exact ⟨zm1 hng.out.symm, rfl⟩
   ·have hkk : k = xs.length := by omega
    subst hkk
    rw [List.take_length] at hb ⊢
    by_cases hp : prod xs ≤ 4096
    ·have hg : Hid (cntL xs = prod xs) := if_pos ⟨h4, hin.out, hp⟩
     generalize prod xs = P at hp hg hb ⊢
     go_wp2
     go_ret
     exact ⟨zm1 hg.out.symm, rfl⟩
    ·have hg : Hid (cntL xs = -1) := if_neg (fun g => hp g.2.2)
     generalize prod xs = P at hp hg hb ⊢
     have hp2 : 4096 < P := by omega
     go_wp2
     go_ret
     exact ⟨zm1 hg.out.symm, rfl⟩
 ·have hg : Hid (cntL xs = -1) := if_neg (fun g => h4 g.1)
  have h4' : 4 < (xs.length : Int) := by omega
  go_enter Tryz.func57, Tryz.ntmps57
  go_wp2
  go_ret
  exact ⟨zm1 hg.out.symm, rfl⟩
def shp (xs : List Int) : Array Value := #[O ι xs.length, O ι (xs.getD 0 0), O ι (xs.getD 1 0), O ι (xs.getD 2 0), O ι (xs.getD 3 0)]
theorem zp1 (w : World) (xs : List Int) (h4 : xs.length ≤ 4) (hr : InR xs xs.length) :
  Calls Tryz.prog 23 #[γ (shp xs)] w fun e w' => e = .returned (O ι (prod xs)) ∧ w' = w.alloc (χ (shp xs) 63) := by
 have HR := hide hr
 clear hr
 have h4' : (xs.length : Int) ≤ 4 := by omega
 go_enter Tryz.func23, Tryz.ntmps23
 simp only [shp]
 have R0 : ∀ j, j < xs.length → (w.alloc (χ (shp xs) 63)).cell? ⟨w.heap.size, 1 + j, none⟩ = some (O ι (xs.getD j 0)) := fun j hj => by
  obtain rfl | rfl | rfl | rfl : j = 0 ∨ j = 1 ∨ j = 2 ∨ j = 3 := by omega
  all_goals simp [shp]
 have HR0 := hide R0
 clear R0
 go_wp2
 go_loopw [3, 11] (fun m i wr => ∃ k : Nat, i = O ι k ∧ m = O ι (prod (xs.take k)) ∧ k ≤ xs.length ∧ wr = w.alloc (χ (shp xs) 63)) (fun m i _ => xs.length - (intOf i).toNat)
 case atStart => exact ⟨0, rfl, rfl, by omega, rfl⟩
 case round =>
  obtain ⟨k, rfl, rfl, hk, rfl⟩ := hrel
  have hb := zh2 xs k (by omega) hk (fun j hj => HR.out j (by omega))
  have hb2 := zx9 k
  by_cases hlt : k < xs.length
  ·have q0 := HR0.out k hlt
   have hk0 : (0 : Int) ≤ (k : Int) := Int.natCast_nonneg _
   have hk1 : (k : Int) < (xs.length : Int) := by omega
   have hp := za3 xs k hlt
   have hB := zh2 xs (k + 1) (by omega) (by omega) (fun j hj => HR.out j (by omega))
   have hB2 := zx9 (k + 1)
   generalize bd (k + 1) = B1 at hB hB2
   generalize bd k = B0 at hb hb2
   generalize hP1 : prod (xs.take (k + 1)) = P1 at hp hB
   have HP1 := hide hP1
   clear hP1
   generalize prod (xs.take k) = P0 at hp hb ⊢
   generalize xs.getD k 0 = x at q0 hp
   have hw1 : wrap64 (P0 * x) = P1 := by rw [← hp]; unfold wrap64; omega
   clear hp
   go_wp2
   go_roundw
   ·exact ⟨k + 1, by go_num, by first | (rw [HP1.out]; done) | (rw [HP1.out, hw1]), by omega, by trivial⟩
   ·simp [intOf]; omega
  ·have hkk : k = xs.length := by omega
   subst hkk
   rw [List.take_length]
   go_wp2
   go_ret
   exact ⟨rfl, rfl⟩
end
end Go.Proofs.YtjbbodfdpbcnhaaGreat
