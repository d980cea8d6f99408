import Derived.Test.YtfhcpicddegblaaGreatRows
import Derived.WalkKit
import Derived.WalkSpells
import Derived.WalkLawsBesides
import Derived.Outline
import Derived.Deep.Light
import Ieee.Arith
import Derived.Laws.FloatBits
import Derived.Laws.FloatArith
import Derived.Laws.ComplexArith
import Derived.Laws.Externs
import Derived.Deep.QuietTactic
import Derived.BigQuiet
import Derived.Deep.RegionWith
import Derived.BigRegion
import Derived.OwnWalk
import Derived.Carry
import Derived.ChangeSlices
import Derived.ChangeAlike
import Derived.RegionTactic
import Derived.Deep.RegionHeld3
import Derived.ProofKit
import Derived.OpenShut
import Derived.Deep.Slices
import Derived.Deep.Strs
import Derived.Lib.SmallJoins
import Derived.Laws.DeepNot64
set_option linter.unusedSimpArgs false
set_option linter.unusedVariables false
set_option maxRecDepth 100000
set_option maxHeartbeats 8000000
namespace Go.Proofs.YtfhcpicddegblaaGreat
open Go.Value renaming int → O, slice → σ, agg → γ
open Go.IntKind renaming i64 → ι
open Go.Obj renaming cells → χ
section
open Go.RowKit
def kindL (dt : Int) : Int :=
 if dt = 1 then 0 else if 2 ≤ dt ∧ dt ≤ 6 then 1 else if dt = 7 ∨ dt = 8 then 2 else if dt = 9 then 3 else -1
def isDtB (dt : Int) : Bool := decide (1 ≤ dt ∧ dt ≤ 9)
def skindL (dt : Int) : Int := if dt = 1 then 0 else if dt ≤ 6 then 1 else if dt ≤ 8 then 2 else 3
def bytesL (dt : Int) : Int := if 1 ≤ dt ∧ dt ≤ 3 then 1 else if dt = 4 then 2 else if dt = 5 ∨ dt = 7 then 4 else if dt = 9 then 16 else 8
theorem zl1 {k : IntKind} {a b : Int} (h : a = b) : Ending.returned (.int k a) = .returned (.int k b) := by rw [h]
theorem zm {a b : Bool} (h : a = b) : Ending.returned (.bool a) = .returned (.bool b) := by rw [h]
theorem zu21 (dt : Int) : (kindL dt != -1) = isDtB dt := by
 unfold kindL isDtB
 rw [Bool.eq_iff_iff]; simp only [bne_iff_ne, decide_eq_true_eq]
 repeat' split
 all_goals omega
theorem zf1 (dt : Int) (w : World) :
  Calls Tryz.prog 118 #[O ι dt] w fun e w' => e = .returned (O ι (kindL dt)) ∧ w' = w := by
 go_enter Tryz.func118, Tryz.ntmps118
 go_wp2
 all_goals go_ret
 all_goals refine ⟨zl1 ?_, rfl⟩
 all_goals (unfold kindL; simp only [beq_iff_eq, beq_eq_false_iff_ne, ne_eq] at *; repeat' split)
 all_goals omega
theorem zp1 (dt : Int) (w : World) :
  Calls Tryz.prog 116 #[O ι dt] w fun e w' => e = .returned (.bool (isDtB dt)) ∧ w' = w := by
 go_enter Tryz.func116, Tryz.ntmps116
 go_wp2_with (go_at_call 118; refine (zf1 _ _).mono ?_; rintro e w' ⟨rfl, rfl⟩)
 go_ret
 exact ⟨zm (zu21 dt), rfl⟩
theorem zn (dt : Int) (w : World) :
  Calls Tryz.prog 103 #[O ι dt] w fun e w' => e = .returned (.bool (isDtB dt)) ∧ w' = w := by
 go_enter Tryz.func103, Tryz.ntmps103
 go_wp2
 all_goals go_ret
 all_goals (refine ⟨zm ?_, rfl⟩; unfold isDtB; rw [Bool.eq_iff_iff]; simp only [decide_eq_true_eq, Bool.false_eq_true, false_iff]; omega)
theorem zv (dt : Int) (w : World) :
  Calls Tryz.prog 109 #[O ι dt] w fun e w' => e = .returned (O ι (skindL dt)) ∧ w' = w := by
 go_enter Tryz.func109, Tryz.ntmps109
 go_wp2
 all_goals go_ret
 all_goals refine ⟨zl1 ?_, rfl⟩
 all_goals (unfold skindL; simp only [beq_iff_eq, beq_eq_false_iff_ne, ne_eq] at *; repeat' split)
 all_goals omega
def promL (a b : Int) : Int :=
 if ¬ (1 ≤ a ∧ a ≤ 9) ∨ ¬ (1 ≤ b ∧ b ≤ 9) then 0
 else if min a b = 2 ∧ max a b = 3 then 4
 else if max a b = 7 ∧ (min a b = 5 ∨ min a b = 6) then 8
 else max a b
theorem zy5 (dt : Int) (h : 1 ≤ dt ∧ dt ≤ 9) : skindL dt = kindL dt := by unfold skindL kindL; omega
def castL (f t r : Int) : Bool :=
 decide ((1 ≤ f ∧ f ≤ 9) ∧ (1 ≤ t ∧ t ≤ 9) ∧ ((r = 0 ∧ promL f t = t) ∨ (r = 1 ∧ (promL f t = t ∨ kindL f ≤ kindL t)) ∨ r = 2))
end
section
namespace FL
open Ieee
set_option linter.unusedSimpArgs false
set_option linter.unusedVariables false
def magR (F : Format) (r : Nat) : Nat := if r < F.binade then r else F.binade + r % F.binade
def upR (F : Format) (r : Nat) : Nat := if r < F.binade then 0 else r / F.binade - 1
def bigR (F : Format) (r : Nat) : Nat := magR F r * 2 ^ upR F r
theorem zi1 (F : Format) : 0 < F.binade := Nat.two_pow_pos _
theorem zn1 (F : Format) (x : Nat) (h : x % F.signWeight < F.infRung) :
  F.read x = .number (x / F.signWeight % 2 == 1) (magR F (x % F.signWeight)) (F.leastPlace + (upR F (x % F.signWeight) : Nat)) := by
 unfold Format.read magR upR
 dsimp only
 split
 ·simp
 ·rfl
theorem zm4 (F : Format) (x : Nat) (h : x % F.signWeight = F.infRung) (hb : F.binade ≤ F.infRung) : F.read x = .infinity (x / F.signWeight % 2 == 1) := by
 unfold Format.read
 dsimp only
 rw [if_neg (by omega), if_neg (by omega), if_pos h]
theorem za6 (F : Format) (x : Nat) (h : F.infRung < x % F.signWeight) (hb : F.binade ≤ F.infRung) : F.read x = .nan (x / F.signWeight % 2 == 1) (x % F.signWeight - F.infRung) := by
 unfold Format.read
 dsimp only
 rw [if_neg (by omega), if_neg (by omega), if_neg (by omega)]
theorem zk12 (F : Format) (r : Nat) : bigR F r < bigR F (r + 1) := by
 have hb := zi1 F
 unfold bigR magR upR
 generalize F.binade = b at *
 by_cases h1 : r + 1 < b
 ·rw [if_pos (by omega), if_pos (by omega), if_pos h1, if_pos h1]; omega
 ·by_cases h2 : r < b
  ·have e : r + 1 = b := by omega
   rw [if_pos h2, if_pos h2, if_neg h1, if_neg h1, e, Nat.mod_self, Nat.div_self hb]
   simp; omega
  ·rw [if_neg h2, if_neg h2, if_neg h1, if_neg h1]
   have hq : 1 ≤ r / b := (Nat.one_le_div_iff hb).2 (by omega)
   have hm := Nat.mod_lt r hb
   have hd := Nat.div_add_mod r b
   by_cases h3 : r % b + 1 < b
   ·have e1 : (r + 1) / b = r / b := by
     rw [Nat.div_eq_iff hb]
     refine ⟨?_, ?_⟩
     ·rw [Nat.mul_comm]; omega
     ·rw [Nat.mul_comm]; omega
    have e2 : (r + 1) % b = r % b + 1 := by
     have := Nat.div_add_mod (r + 1) b
     rw [e1] at this; omega
    rw [e1, e2]
    exact Nat.mul_lt_mul_of_pos_right (by omega) (Nat.two_pow_pos _)
   ·have e3 : r + 1 = b * (r / b + 1) := by rw [Nat.mul_add]; omega
    have e1 : (r + 1) / b = r / b + 1 := by rw [e3]; exact Nat.mul_div_cancel_left _ hb
    have e2 : (r + 1) % b = 0 := by rw [e3]; exact Nat.mul_mod_right _ _
    rw [e1, e2]
    have e4 : r / b + 1 - 1 = (r / b - 1) + 1 := by omega
    rw [e4, Nat.pow_succ, Nat.add_zero, Nat.mul_comm (2 ^ (r / b - 1)) 2, ← Nat.mul_assoc]
    exact Nat.mul_lt_mul_of_pos_right (by omega) (Nat.two_pow_pos _)
theorem zl12 (F : Format) (r s : Nat) (h : r < s) : bigR F r < bigR F s := by
 induction s with
 | zero => omega
 | succ s ih =>
  by_cases e : r = s
  ·subst e; exact zk12 F r
  ·exact Nat.lt_trans (ih (by omega)) (zk12 F s)
theorem zp14 (F : Format) (r s : Nat) : bigR F r < bigR F s ↔ r < s := by
 refine ⟨fun h => ?_, zl12 F r s⟩
 by_cases e : r = s
 ·subst e; omega
 ·by_cases g : s < r
  ·have := zl12 F s r g; omega
  ·omega
theorem zi25 (F : Format) (r s : Nat) : bigR F r = bigR F s ↔ r = s := by
 refine ⟨fun h => ?_, fun h => by rw [h]⟩
 have h1 := zp14 F r s
 have h2 := zp14 F s r
 omega
def keyW (F : Format) (x : Nat) : Int := if (x / F.signWeight % 2 == 1) = true then -((x % F.signWeight : Nat) : Int) else ((x % F.signWeight : Nat) : Int)
def nanW (F : Format) (x : Nat) : Bool := decide (F.infRung < x % F.signWeight)
theorem zi20 {a b c d : Int} (h1 : a < b ↔ c < d) (h2 : a = b ↔ c = d) : compare a b = compare c d := by
 show compareOfLessAndEq a b = compareOfLessAndEq c d
 unfold compareOfLessAndEq
 by_cases e1 : a < b
 ·rw [if_pos e1, if_pos (h1.1 e1)]
 ·rw [if_neg e1, if_neg (fun h => e1 (h1.2 h))]
  by_cases e2 : a = b
  ·rw [if_pos e2, if_pos (h2.1 e2)]
  ·rw [if_neg e2, if_neg (fun h => e2 (h2.2 h))]
theorem zt5 {a b : Int} (h : a < b) : compare a b = .lt := by
 show compareOfLessAndEq a b = _
 unfold compareOfLessAndEq; rw [if_pos h]
theorem zu5 {a b : Int} (h : b < a) : compare a b = .gt := by
 show compareOfLessAndEq a b = _
 unfold compareOfLessAndEq; rw [if_neg (by omega), if_neg (by omega)]
theorem zi12 {a b : Int} (h : a = b) : compare a b = .eq := by
 show compareOfLessAndEq a b = _
 unfold compareOfLessAndEq; rw [if_neg (by omega), if_pos h]
theorem zh27 (F : Format) (r s : Nat) :
  (magR F r * 2 ^ (upR F r - min (upR F r) (upR F s)) < magR F s * 2 ^ (upR F s - min (upR F r) (upR F s)) ↔ r < s) ∧
  (magR F r * 2 ^ (upR F r - min (upR F r) (upR F s)) = magR F s * 2 ^ (upR F s - min (upR F r) (upR F s)) ↔ r = s) := by
 have h1 : magR F r * 2 ^ (upR F r - min (upR F r) (upR F s)) * 2 ^ min (upR F r) (upR F s) = bigR F r := by
  unfold bigR; rw [Nat.mul_assoc, ← Nat.pow_add, Nat.sub_add_cancel (Nat.min_le_left _ _)]
 have h2 : magR F s * 2 ^ (upR F s - min (upR F r) (upR F s)) * 2 ^ min (upR F r) (upR F s) = bigR F s := by
  unfold bigR; rw [Nat.mul_assoc, ← Nat.pow_add, Nat.sub_add_cancel (Nat.min_le_right _ _)]
 rw [← zp14 F r s, ← zi25 F r s, ← h1, ← h2]
 have hp : 0 < 2 ^ min (upR F r) (upR F s) := Nat.two_pow_pos _
 exact ⟨(Nat.mul_lt_mul_right hp).symm, ⟨fun h => by rw [h], fun h => Nat.eq_of_mul_eq_mul_right hp h⟩⟩
theorem ze18 (s t : Bool) (A B r q : Nat) (h1 : A < B ↔ r < q) (h2 : A = B ↔ r = q) (hA : A = 0 ↔ r = 0) (hB : B = 0 ↔ q = 0) :
  compare (if s = true then -(A : Int) else (A : Int)) (if t = true then -(B : Int) else (B : Int)) = compare (if s = true then -(r : Int) else (r : Int)) (if t = true then -(q : Int) else (q : Int)) := by
 apply zi20 <;> cases s <;> cases t <;> simp <;> omega
theorem zn15 (F : Format) (r : Nat) (k : Nat) : magR F r * 2 ^ k = 0 ↔ r = 0 := by
 have hb := zi1 F
 have hp : 0 < 2 ^ k := Nat.two_pow_pos _
 rw [Nat.mul_eq_zero]
 unfold magR
 split <;> omega
theorem zv6 (F : Format) (hb : F.binade ≤ F.infRung) (x y : Nat) (hx : nanW F x = false) (hy : nanW F y = false) :
  F.order x y = some (compare (keyW F x) (keyW F y)) := by
 unfold nanW at hx hy
 simp only [decide_eq_false_iff_not, Nat.not_lt] at hx hy
 unfold Format.order keyW
 by_cases ex : x % F.signWeight = F.infRung
 ·rw [zm4 F x ex hb]
  by_cases ey : y % F.signWeight = F.infRung
  ·rw [zm4 F y ey hb, ex, ey]
   have hp : 0 < F.infRung := Nat.lt_of_lt_of_le (zi1 F) hb
   generalize (x / F.signWeight % 2 == 1) = s
   generalize (y / F.signWeight % 2 == 1) = t
   cases s <;> cases t <;> simp only [Datum.order, Bool.toNat_true, Bool.toNat_false]
   ·rw [zi12 (by simp)]; rfl
   ·rw [zu5 (by simp; omega)]; rfl
   ·rw [zt5 (by simp; omega)]; rfl
   ·rw [zi12 (by simp)]; rfl
  ·rw [zn1 F y (by omega), ex]
   have hp : 0 < F.infRung := Nat.lt_of_lt_of_le (zi1 F) hb
   generalize (x / F.signWeight % 2 == 1) = s
   generalize (y / F.signWeight % 2 == 1) = t
   cases s <;> cases t <;> simp only [Datum.order]
   ·rw [zu5 (by simp; omega)]; rfl
   ·rw [zu5 (by simp; omega)]; rfl
   ·rw [zt5 (by simp; omega)]; rfl
   ·rw [zt5 (by simp; omega)]; rfl
 ·rw [zn1 F x (by omega)]
  by_cases ey : y % F.signWeight = F.infRung
  ·rw [zm4 F y ey hb, ey]
   have hp : 0 < F.infRung := Nat.lt_of_lt_of_le (zi1 F) hb
   generalize (x / F.signWeight % 2 == 1) = s
   generalize (y / F.signWeight % 2 == 1) = t
   cases s <;> cases t <;> simp only [Datum.order]
   ·rw [zt5 (by simp; omega)]; rfl
   ·rw [zu5 (by simp; omega)]; rfl
   ·rw [zt5 (by simp; omega)]; rfl
   ·rw [zu5 (by simp; omega)]; rfl
  ·rw [zn1 F y (by omega)]
   generalize hs : (x / F.signWeight % 2 == 1) = s
   generalize ht : (y / F.signWeight % 2 == 1) = t
   generalize x % F.signWeight = r at *
   generalize y % F.signWeight = q at *
   simp only [Datum.order, signed, Nat.shiftLeft_eq]
   have e1 : (F.leastPlace + (upR F r : Nat) - min (F.leastPlace + (upR F r : Nat)) (F.leastPlace + (upR F q : Nat))).toNat = upR F r - min (upR F r) (upR F q) := by omega
   have e2 : (F.leastPlace + (upR F q : Nat) - min (F.leastPlace + (upR F r : Nat)) (F.leastPlace + (upR F q : Nat))).toNat = upR F q - min (upR F r) (upR F q) := by omega
   rw [e1, e2]
   have hc := zh27 F r q
   exact congrArg some (ze18 s t _ _ r q hc.1 hc.2 (zn15 F _ _) (zn15 F _ _))
theorem zx2 (F : Format) (hb : F.binade ≤ F.infRung) (x y : Nat) (hx : nanW F x = true) : F.order x y = none := by
 unfold nanW at hx
 simp only [decide_eq_true_eq] at hx
 unfold Format.order
 rw [za6 F x hx hb]; rfl
theorem zl2 (F : Format) (hb : F.binade ≤ F.infRung) (x y : Nat) (hy : nanW F y = true) : F.order x y = none := by
 unfold nanW at hy
 simp only [decide_eq_true_eq] at hy
 unfold Format.order
 rw [za6 F y hy hb]
 cases F.read x <;> rfl
end FL
namespace FL
open Ieee
set_option linter.unusedSimpArgs false
set_option linter.unusedVariables false
theorem zw9 (m k : Nat) (h : 0 < m) : (m * 2 ^ k).log2 = m.log2 + k := by
 have hm : m ≠ 0 := by omega
 have hp : 0 < 2 ^ k := Nat.two_pow_pos _
 have hn : m * 2 ^ k ≠ 0 := Nat.mul_ne_zero hm (by omega)
 rw [Nat.log2_eq_iff hn]
 have h1 := (Nat.log2_eq_iff (k := m.log2) hm).1 rfl
 refine ⟨?_, ?_⟩
 ·rw [Nat.pow_add]; exact Nat.mul_le_mul_right _ h1.1
 ·rw [show m.log2 + k + 1 = m.log2 + 1 + k by omega, Nat.pow_add]; exact Nat.mul_lt_mul_of_pos_right h1.2 hp
theorem zd12 (way : Toward) (neg : Bool) (m k : Nat) (h : 0 < m) : way.cut neg (m * 2 ^ k) k = m := by
 unfold Toward.cut
 have hl := zw9 m k h
 have hmin : min k ((m * 2 ^ k).log2 + 2) = k := by omega
 rw [hmin]
 have hp : 0 < 2 ^ k := Nat.two_pow_pos _
 simp only [Nat.shiftLeft_eq, Nat.one_mul, Nat.mul_div_cancel _ hp, Nat.mul_mod_left]
 cases way <;> simp
theorem za17 (F : Format) (r : Nat) (h : F.binade ≤ r) : (magR F r).log2 = F.fractionBits := by
 have hb := zi1 F
 have hm := Nat.mod_lt r hb
 unfold magR
 rw [if_neg (by omega)]
 have hb2 : F.binade = 2 ^ F.fractionBits := rfl
 rw [Nat.log2_eq_iff (by omega), Nat.pow_succ]
 omega
theorem za24 (F : Format) (r : Nat) (h0 : 0 < r) (h : r < F.binade) : (magR F r).log2 ≤ F.fractionBits := by
 unfold magR
 rw [if_pos h]
 have hb2 : F.binade = 2 ^ F.fractionBits := rfl
 have := (Nat.log2_lt (by omega : r ≠ 0) (k := F.fractionBits)).2 (by omega)
 omega
theorem zo13 (F : Format) (r : Nat) (h0 : 0 < r) : 0 < magR F r := by
 have hb := zi1 F
 unfold magR; split <;> omega
theorem zl19 (F : Format) (r : Nat) (h0 : 0 < r) :
  max (F.leastPlace + (upR F r : Nat) + ((magR F r).log2 : Nat) - F.fractionBits) F.leastPlace = F.leastPlace + (upR F r : Nat) := by
 by_cases h : r < F.binade
 ·have := za24 F r h0 h
  have e : upR F r = 0 := by unfold upR; rw [if_pos h]
  rw [e]; omega
 ·have := za17 F r (by omega)
  omega
theorem zj18 (F : Format) (r : Nat) : upR F r * F.binade + magR F r = r := by
 have hb := zi1 F
 unfold upR magR
 by_cases h : r < F.binade
 ·rw [if_pos h, if_pos h]; omega
 ·rw [if_neg h, if_neg h]
  have hq : 1 ≤ r / F.binade := (Nat.one_le_div_iff hb).2 (by omega)
  have hd := Nat.div_add_mod r F.binade
  obtain ⟨q, hq'⟩ : ∃ q, r / F.binade = q + 1 := ⟨r / F.binade - 1, by omega⟩
  rw [hq'] at hd ⊢
  rw [Nat.mul_add, Nat.mul_comm] at hd
  simp only [Nat.add_sub_cancel]
  omega
theorem zu16 (F : Format) (neg : Bool) (r k : Nat) (h0 : 0 < r) (hi : r < F.infRung) :
  F.nearest neg (magR F r * 2 ^ k) (F.leastPlace + (upR F r : Nat) - k) = F.word neg r := by
 have hm := zo13 F r h0
 have hp : 0 < 2 ^ k := Nat.two_pow_pos _
 unfold Format.nearest
 rw [if_neg (Nat.mul_ne_zero (by omega) (by omega))]
 dsimp only
 rw [zw9 _ _ hm]
 have e0 := zl19 F r h0
 have e1 : max (F.leastPlace + (upR F r : Nat) - (k : Int) + ((magR F r).log2 + k : Nat) - F.fractionBits) F.leastPlace = F.leastPlace + (upR F r : Nat) := by
  rw [← e0]; congr 1; omega
 rw [e1]
 have e2 : (F.leastPlace + (upR F r : Nat) - (k : Int) - (F.leastPlace + (upR F r : Nat))).toNat = 0 := by omega
 have e3 : (F.leastPlace + (upR F r : Nat) - (F.leastPlace + (upR F r : Nat) - (k : Int))).toNat = k := by omega
 have e4 : (F.leastPlace + (upR F r : Nat) - F.leastPlace).toNat = upR F r := by omega
 rw [e2, e3, e4, Nat.shiftLeft_zero, zd12 _ _ _ _ hm, zj18, Nat.min_eq_left (by omega)]
theorem zx10 (F : Format) (neg : Bool) (r m k : Nat) (h0 : 0 < r) (hi : r < F.infRung) (hk : magR F r = m * 2 ^ k) :
  F.nearest neg m (F.leastPlace + (upR F r : Nat) + k) = F.word neg r := by
 have hm0 := zo13 F r h0
 have hm : 0 < m := by
  cases m with
  | zero => omega
  | succ m => omega
 unfold Format.nearest
 rw [if_neg (by omega)]
 dsimp only
 have e0 := zl19 F r h0
 rw [hk, zw9 _ _ hm] at e0
 have e1 : max (F.leastPlace + (upR F r : Nat) + (k : Int) + (m.log2 : Nat) - F.fractionBits) F.leastPlace = F.leastPlace + (upR F r : Nat) := by
  rw [← e0]; congr 1; omega
 rw [e1]
 have e2 : (F.leastPlace + (upR F r : Nat) + (k : Int) - (F.leastPlace + (upR F r : Nat))).toNat = k := by omega
 have e3 : (F.leastPlace + (upR F r : Nat) - (F.leastPlace + (upR F r : Nat) + (k : Int))).toNat = 0 := by omega
 have e4 : (F.leastPlace + (upR F r : Nat) - F.leastPlace).toNat = upR F r := by omega
 rw [e2, e3, e4, Nat.shiftLeft_eq, ← hk]
 have e5 := zd12 .even neg (magR F r) 0 hm0
 rw [Nat.pow_zero, Nat.mul_one] at e5
 rw [e5, zj18, Nat.min_eq_left (by omega)]
theorem zb22 (F : Format) (m : Nat) (p : Int) (h0 : 0 < m) (hm : m < 2 ^ (F.fractionBits + 1)) (hp : F.leastPlace ≤ p) :
  ∃ r k : Nat, 0 < r ∧ magR F r = m * 2 ^ k ∧ p = F.leastPlace + (upR F r : Nat) + k ∧ r < ((p - F.leastPlace).toNat + 2) * F.binade := by
 have hb := zi1 F
 have hb2 : F.binade = 2 ^ F.fractionBits := rfl
 have hL := (Nat.log2_eq_iff (k := m.log2) (by omega : m ≠ 0)).1 rfl
 have hLf : m.log2 ≤ F.fractionBits := by
  have := (Nat.log2_lt (by omega : m ≠ 0) (k := F.fractionBits + 1)).2 hm
  omega
 obtain ⟨j, hj⟩ : ∃ j : Nat, p = F.leastPlace + j := ⟨(p - F.leastPlace).toNat, by omega⟩
 by_cases hn : F.fractionBits - m.log2 ≤ j
 · -- a normal rung
  generalize hd : F.fractionBits - m.log2 = d at *
  have h1 : F.binade ≤ m * 2 ^ d := by
   rw [hb2, show F.fractionBits = m.log2 + d by omega, Nat.pow_add]; exact Nat.mul_le_mul_right _ hL.1
  have h2 : m * 2 ^ d < 2 * F.binade := by
   rw [hb2, show F.fractionBits = m.log2 + d by omega, ← Nat.pow_succ', show (m.log2 + d).succ = m.log2 + 1 + d by omega, Nat.pow_add]
   exact Nat.mul_lt_mul_of_pos_right hL.2 (Nat.two_pow_pos _)
  refine ⟨(j - d) * F.binade + m * 2 ^ d, d, by omega, ?_, ?_, ?_⟩
  ·unfold magR
   have hge : F.binade ≤ (j - d) * F.binade + m * 2 ^ d := by omega
   rw [if_neg (by omega), Nat.add_comm ((j - d) * F.binade), Nat.add_mul_mod_self_right]
   have : (m * 2 ^ d) % F.binade = m * 2 ^ d - F.binade := by
    rw [Nat.mod_eq_sub_mod h1]; exact Nat.mod_eq_of_lt (by omega)
   omega
  ·unfold upR
   have hge : F.binade ≤ (j - d) * F.binade + m * 2 ^ d := by omega
   rw [if_neg (by omega), Nat.add_comm ((j - d) * F.binade), Nat.add_mul_div_right _ _ hb]
   have : m * 2 ^ d / F.binade = 1 := by
    rw [Nat.div_eq_iff hb]; omega
   rw [this]; omega
  ·rw [hj]
   have e : (F.leastPlace + (j : Int) - F.leastPlace).toNat = j := by omega
   rw [e, Nat.add_mul]
   have : (j - d) * F.binade ≤ j * F.binade := Nat.mul_le_mul_right _ (by omega)
   omega
 · -- a subnormal one
  have h2 : m * 2 ^ j < F.binade := by
   rw [hb2]
   have : 2 ^ F.fractionBits = 2 ^ (m.log2 + 1 + j) * 2 ^ (F.fractionBits - (m.log2 + 1 + j)) := by
    rw [← Nat.pow_add]; congr 1; omega
   rw [this]
   refine Nat.lt_of_lt_of_le ?_ (Nat.le_mul_of_pos_right _ (Nat.two_pow_pos _))
   rw [Nat.pow_add]; exact Nat.mul_lt_mul_of_pos_right hL.2 (Nat.two_pow_pos _)
  have h3 : 0 < m * 2 ^ j := Nat.mul_pos h0 (Nat.two_pow_pos _)
  refine ⟨m * 2 ^ j, j, h3, ?_, ?_, ?_⟩
  ·unfold magR; rw [if_pos h2]
  ·unfold upR; rw [if_pos h2]; omega
  ·have : F.binade ≤ ((p - F.leastPlace).toNat + 2) * F.binade := Nat.le_mul_of_pos_left _ (by omega)
   omega
theorem zw5 (F : Format) (neg : Bool) (r : Nat) (h : r < F.signWeight) : F.word neg r % F.signWeight = r ∧ (F.word neg r / F.signWeight % 2 == 1) = neg := by
 have hp : 0 < F.signWeight := Nat.two_pow_pos _
 unfold Format.word
 cases neg
 ·simp only [Bool.false_eq_true, if_false]
  rw [Nat.mod_eq_of_lt h, Nat.div_eq_of_lt h]; exact ⟨rfl, rfl⟩
 ·simp only [if_true]
  rw [Nat.add_mod_left, Nat.mod_eq_of_lt h, Nat.add_div_left _ hp, Nat.div_eq_of_lt h]; exact ⟨rfl, rfl⟩
theorem zq6 (F : Format) (neg : Bool) (r : Nat) (h : r < F.infRung) : F.read (F.word neg r) = .number neg (magR F r) (F.leastPlace + (upR F r : Nat)) := by
 have hl := F.infRung_lt
 have hw := zw5 F neg r (by omega)
 rw [zn1 F _ (by rw [hw.1]; exact h), hw.1, hw.2]
theorem zd23 (F : Format) (x : Nat) (h : x < 2 * F.signWeight) : F.word (x / F.signWeight % 2 == 1) (x % F.signWeight) = x := by
 have hp : 0 < F.signWeight := Nat.two_pow_pos _
 unfold Format.word
 by_cases hx : x < F.signWeight
 ·rw [Nat.div_eq_of_lt hx, Nat.mod_eq_of_lt hx]; rfl
 ·have e : x / F.signWeight = 1 := by rw [Nat.div_eq_iff hp]; omega
  have e2 : x % F.signWeight = x - F.signWeight := by rw [Nat.mod_eq_sub_mod (by omega)]; exact Nat.mod_eq_of_lt (by omega)
  rw [e, e2]; simp; omega
theorem za16 (F : Format) (neg : Bool) (m : Nat) (p : Int) (h0 : 0 < m) (hm : m < 2 ^ (F.fractionBits + 1)) (hp : F.leastPlace ≤ p) (hi : ((p - F.leastPlace).toNat + 2) * F.binade ≤ F.infRung) :
  ∃ r k : Nat, 0 < r ∧ r < F.infRung ∧ magR F r = m * 2 ^ k ∧ p = F.leastPlace + (upR F r : Nat) + k ∧ F.nearest neg m p = F.word neg r ∧ F.read (F.nearest neg m p) = .number neg (m * 2 ^ k) (p - k) := by
 obtain ⟨r, k, hr, hk, hpk, hlt⟩ := zb22 F m p h0 hm hp
 have hri : r < F.infRung := by omega
 have hn : F.nearest neg m p = F.word neg r := by rw [hpk]; exact zx10 F neg r m k hr hri hk
 refine ⟨r, k, hr, hri, hk, hpk, hn, ?_⟩
 rw [hn, zq6 F neg r hri, hk]
 congr 1; omega
end FL
namespace FL
open Ieee
set_option linter.unusedSimpArgs false
set_option linter.unusedVariables false
def nanD (x : Nat) : Bool := nanW double x
def nanS (x : Nat) : Bool := nanW single x
def keyD (x : Nat) : Int := keyW double x
def feq (x y : Nat) : Bool := !nanD x && !nanD y && decide (keyD x = keyD y)
def flt (x y : Nat) : Bool := !nanD x && !nanD y && decide (keyD x < keyD y)
theorem zs27 : double.signWeight = 9223372036854775808 := by decide
theorem zu27 : double.infRung = 9218868437227405312 := by decide
theorem zp27 : double.binade = 4503599627370496 := by decide
theorem zr27 : double.leastPlace = -1074 := by decide
theorem zv27 : single.signWeight = 2147483648 := by decide
theorem zt27 : single.infRung = 2139095040 := by decide
theorem zx27 : single.binade = 8388608 := by decide
theorem zq27 : single.leastPlace = -149 := by decide
theorem zo27 : double.binade ≤ double.infRung := by decide
theorem zm27 : single.binade ≤ single.infRung := by decide
theorem zx3 (x : Nat) : nanD x = true ↔ 9218868437227405312 < x % 9223372036854775808 := by
 unfold nanD nanW; rw [zs27, zu27]; simp
theorem zl3 (x : Nat) : nanS x = true ↔ 2139095040 < x % 2147483648 := by
 unfold nanS nanW; rw [zv27, zt27]; simp
theorem zd4 (x : Nat) (h : x < 18446744073709551616) : keyD x = if x < 9223372036854775808 then (x : Int) else 9223372036854775808 - (x : Int) := by
 unfold keyD keyW; rw [zs27]
 simp only [beq_iff_eq]
 split <;> split <;> omega
theorem zv10 (x y : Nat) : (double.order x y == some .eq) = feq x y := by
 unfold feq
 cases hx : nanD x
 ·cases hy : nanD y
  ·rw [zv6 double zo27 x y hx hy]
   by_cases h : keyW double x = keyW double y
   ·rw [zi12 h]; simp [keyD, h]
   ·by_cases h2 : keyW double x < keyW double y
    ·rw [zt5 h2]; simp [keyD, h]
    ·rw [zu5 (by omega)]; simp [keyD, h]
  ·rw [zl2 double zo27 x y hy]; simp
 ·rw [zx2 double zo27 x y hx]; simp
theorem zr18 (x y : Nat) : (double.order x y == some .lt) = flt x y := by
 unfold flt
 cases hx : nanD x
 ·cases hy : nanD y
  ·rw [zv6 double zo27 x y hx hy]
   by_cases h : keyW double x = keyW double y
   ·rw [zi12 h]; simp [keyD, h]
   ·by_cases h2 : keyW double x < keyW double y
    ·rw [zt5 h2]; simp [keyD, h2]
    ·rw [zu5 (by omega)]; simp [keyD, h2]
  ·rw [zl2 double zo27 x y hy]; simp
 ·rw [zx2 double zo27 x y hx]; simp
theorem zs18 (x y : Nat) : (double.order x y == some .gt) = flt y x := by
 unfold flt
 cases hx : nanD x
 ·cases hy : nanD y
  ·rw [zv6 double zo27 x y hx hy]
   by_cases h : keyW double x = keyW double y
   ·rw [zi12 h]; simp [keyD, h]
   ·by_cases h2 : keyW double x < keyW double y
    ·have h3 : ¬ keyW double y < keyW double x := by omega
     rw [zt5 h2]; simp [keyD, h3]
    ·have h3 : keyW double y < keyW double x := by omega
     rw [zu5 h3]; simp [keyD, h3, hx, hy]
  ·rw [zl2 double zo27 x y hy]; simp
 ·rw [zx2 double zo27 x y hx]; simp
theorem zn3 (x : Nat) : feq x x = !nanD x := by unfold feq; cases nanD x <;> simp
theorem zu13 (a b : Nat) (ha : a < 18446744073709551616) (hb : b < 18446744073709551616) (h : keyD a = keyD b) : a = b ∨ (a = 0 ∧ b = 9223372036854775808) ∨ (a = 9223372036854775808 ∧ b = 0) := by
 rw [zd4 a ha, zd4 b hb] at h
 split at h <;> split at h <;> omega
/-! ### single and double -/
def narrow (x : Nat) : Nat := single.write (double.read x)
def wide (u : Nat) : Nat := double.write (single.read u)
def zr16 (x : Nat) : Bool := match double.read x with
 | .number .. => (single.read (narrow x)).isInfinity
 | _ => false
def sngB (x : Nat) : Bool := nanD x || (!zr16 x && wide (narrow x) == x)
theorem zl26 (F : Format) (r : Nat) : magR F r < 2 ^ (F.fractionBits + 1) := by
 have hb := zi1 F
 have hm := Nat.mod_lt r hb
 have hb2 : F.binade = 2 ^ F.fractionBits := rfl
 unfold magR
 rw [Nat.pow_succ]
 split <;> omega
theorem zt25 (F : Format) (r n : Nat) (h : r < (n + 1) * F.binade) (hn : 0 < n) : upR F r ≤ n - 1 := by
 have hb := zi1 F
 unfold upR
 split
 ·omega
 ·have : r / F.binade < n + 1 := (Nat.div_lt_iff_lt_mul hb).2 h
  omega
theorem zj6 (u : Nat) (hu : u < 4294967296) (h0 : 0 < u % 2147483648) (h : u % 2147483648 < 2139095040) :
  ∃ r, 0 < r ∧ r < double.infRung ∧ wide u = double.word (u / 2147483648 % 2 == 1) r ∧ narrow (wide u) = u := by
 have hr := zn1 single u (by rw [zv27, zt27]; exact h)
 rw [zv27] at hr
 have hup := zt25 single (u % 2147483648) 254 (by rw [zx27]; omega) (by omega)
 have hml := zl26 single (u % 2147483648)
 have hmp := zo13 single _ h0
 have hf : (2 : Nat) ^ (single.fractionBits + 1) = 16777216 := by decide
 have hf2 : (2 : Nat) ^ (double.fractionBits + 1) = 9007199254740992 := by decide
 rw [hf] at hml
 generalize hneg : (u / 2147483648 % 2 == 1) = neg at *
 obtain ⟨r, k, hr0, hri, hk, hpk, hn, hrd⟩ := za16 double neg (magR single (u % 2147483648)) (single.leastPlace + (upR single (u % 2147483648) : Nat)) hmp (by rw [hf2]; omega)
  (by rw [zr27, zq27]; omega) (by rw [zr27, zq27, zp27, zu27]; omega)
 refine ⟨r, hr0, hri, ?_, ?_⟩
 ·unfold wide; rw [hr]; exact hn
 ·unfold narrow wide
  rw [hr]
  show single.write (double.read (double.nearest _ _ _)) = u
  rw [hrd]
  show single.nearest _ _ _ = u
  rw [zu16 single neg (u % 2147483648) k h0 (by rw [zt27]; exact h)]
  have := zd23 single u (by rw [zv27]; omega)
  rw [zv27, hneg] at this
  exact this
theorem zh10 (u : Nat) (hu : u < 4294967296) (h0 : u % 2147483648 = 0) : wide u = double.word (u / 2147483648 % 2 == 1) 0 ∧ narrow (wide u) = u := by
 have : u = 0 ∨ u = 2147483648 := by omega
 rcases this with rfl | rfl <;> decide
theorem zp20 (u : Nat) (hu : u < 4294967296) (h0 : u % 2147483648 = 2139095040) : wide u = double.word (u / 2147483648 % 2 == 1) double.infRung ∧ narrow (wide u) = u := by
 have : u = 2139095040 ∨ u = 4286578688 := by omega
 rcases this with rfl | rfl <;> decide
theorem zi6 (u : Nat) : wide u < 18446744073709551616 := double.write_lt _
theorem zs4 (u : Nat) : narrow u < 4294967296 := single.write_lt _
theorem zf5 (neg : Bool) (r : Nat) (h : r < 9223372036854775808) : double.word neg r % 9223372036854775808 = r := by
 have := (zw5 double neg r (by rw [zs27]; exact h)).1
 rw [zs27] at this; exact this
theorem zb4 (u : Nat) (hu : u < 4294967296) (hn : nanS u = false) : narrow (wide u) = u ∧ nanD (wide u) = false := by
 have hn' : ¬ 2139095040 < u % 2147483648 := fun h => by rw [(zl3 u).2 h] at hn; cases hn
 have key : ∀ x : Nat, x % 9223372036854775808 ≤ 9218868437227405312 → nanD x = false := fun x h => by
  cases e : nanD x
  ·rfl
  ·have := (zx3 x).1 e; omega
 by_cases h0 : u % 2147483648 = 0
 ·have := zh10 u hu h0
  refine ⟨this.2, key _ ?_⟩
  rw [this.1, zf5 _ _ (by omega)]; omega
 ·by_cases hi : u % 2147483648 = 2139095040
  ·have := zp20 u hu hi
   refine ⟨this.2, key _ ?_⟩
   rw [this.1, zf5 _ _ (by rw [zu27]; omega), zu27]; omega
  ·obtain ⟨r, h1, h2, h3, h4⟩ := zj6 u hu (by omega) (by omega)
   rw [zu27] at h2
   refine ⟨h4, key _ ?_⟩
   rw [h3, zf5 _ _ (by omega)]; omega
theorem zu10 (u : Nat) (hu : u < 4294967296) (hn : nanS u = false) : zr16 (wide u) = false := by
 have hn' : ¬ 2139095040 < u % 2147483648 := fun h => by rw [(zl3 u).2 h] at hn; cases hn
 have hw := (zb4 u hu hn).1
 by_cases hi : u % 2147483648 = 2139095040
 ·have : u = 2139095040 ∨ u = 4286578688 := by omega
  rcases this with rfl | rfl <;> decide
 ·unfold zr16
  rw [hw, zn1 single u (by rw [zv27, zt27]; omega)]
  split <;> rfl
theorem zm2 (x : Nat) (hx : nanD x = false) : nanS (narrow x) = false := by
 have hx' : ¬ 9218868437227405312 < x % 9223372036854775808 := fun h => by rw [(zx3 x).2 h] at hx; cases hx
 have key : ∀ y : Nat, y % 2147483648 ≤ 2139095040 → nanS y = false := fun y h => by
  cases e : nanS y
  ·rfl
  ·have := (zl3 y).1 e; omega
 have word : ∀ neg r, r ≤ 2139095040 → single.word neg r % 2147483648 ≤ 2139095040 := fun neg r h => by
  have := (zw5 single neg r (by rw [zv27]; omega)).1
  rw [zv27] at this; omega
 apply key
 unfold narrow
 by_cases hi : x % 9223372036854775808 = 9218868437227405312
 ·rw [zm4 double x (by rw [zs27, zu27]; exact hi) zo27]
  show single.word _ single.infRung % _ ≤ _
  exact word _ _ (by rw [zt27]; omega)
 ·rw [zn1 double x (by rw [zs27, zu27]; omega)]
  show single.nearest _ _ _ % _ ≤ _
  unfold Format.nearest
  split
  ·exact word _ _ (by omega)
  ·refine word _ _ ?_
   rw [← zt27]; exact Nat.min_le_right _ _
def SingleR (x r : Nat) : Prop :=
 r < 18446744073709551616 ∧ ((nanD x = true ∧ nanD r = true) ∨ (nanD x = false ∧ ∃ u, u < 4294967296 ∧ (zr16 x = true ∨ u = narrow x) ∧ ((nanS u = true ∧ nanD r = true) ∨ (nanS u = false ∧ r = wide u))))
theorem zh8 {x r : Nat} (h : SingleR x r) (hs : sngB x = true) : (nanD x = true ∧ nanD r = true) ∨ (nanD x = false ∧ r = x) := by
 rcases h.2 with h1 | ⟨h1, u, hu, h2, h3⟩
 ·exact Or.inl h1
 ·right
  unfold sngB at hs
  simp only [h1, Bool.false_or, Bool.and_eq_true, Bool.not_eq_true', beq_iff_eq] at hs
  rcases h2 with h2 | h2
  ·rw [hs.1] at h2; cases h2
  ·rcases h3 with h3 | h3
   ·rw [h2, zm2 x h1] at h3; cases h3.1
   ·exact ⟨h1, by rw [h3.2, h2, hs.2]⟩
theorem zl10 {x r : Nat} (hx : x < 18446744073709551616) (h : SingleR x r) (hs : sngB x = false) : nanD x = false ∧ feq r x = false := by
 unfold sngB at hs
 simp only [Bool.or_eq_false_iff] at hs
 refine ⟨hs.1, ?_⟩
 rcases h.2 with h1 | ⟨h1, u, hu, h2, h3⟩
 ·rw [hs.1] at h1; cases h1.1
 ·rcases h3 with h3 | h3
  ·unfold feq; rw [h3.2]; rfl
  ·cases e : feq r x
   ·rfl
   ·unfold feq at e
    simp only [Bool.and_eq_true, decide_eq_true_eq] at e
    have hi := zu13 r x h.1 hx e.2
    have hz : x = 0 ∨ x = 9223372036854775808 → False := by
     intro hz
     have : (!zr16 x && wide (narrow x) == x) = true := by rcases hz with rfl | rfl <;> decide
     rw [this] at hs; cases hs.2
    have hrx : r = x := by
     rcases hi with hi | hi | hi
     ·exact hi
     ·exact (hz (Or.inr hi.2)).elim
     ·exact (hz (Or.inl hi.2)).elim
    have hxw : x = wide u := by rw [← hrx]; exact h3.2
    have : (!zr16 x && wide (narrow x) == x) = true := by
     rw [hxw, zu10 u hu h3.1, (zb4 u hu h3.1).1]; simp
    rw [this] at hs; cases hs.2
theorem zd18 {x r : Nat} (h : SingleR x r) : sngB r = true := by
 have hw : ∀ u, u < 4294967296 → nanS u = false → sngB (wide u) = true := fun u hu hn => by
  unfold sngB
  rw [zu10 u hu hn, (zb4 u hu hn).1]; simp
 have hnan : nanD r = true → sngB r = true := fun e => by unfold sngB; rw [e]; rfl
 rcases h.2 with h1 | ⟨h1, u, hu, h2, h3⟩
 ·exact hnan h1.2
 ·rcases h3 with h3 | h3
  ·exact hnan h3.2
  ·rw [h3.2]; exact hw u hu h3.1
/-! ### minus one times -/
def flip (x : Nat) : Nat := if x < 9223372036854775808 then x + 9223372036854775808 else x - 9223372036854775808
end FL
end
section
open Go.RowKit FL
@[go_sem] theorem run_store_float (P : Program) (w : World) (a : Addr) (m : Mode) (k : FloatKind) (b : Nat) : (store a (.float k b) m).run P w = stored P w a (.float k b) m := run_store P w a _ m rfl
@[go_sem] theorem run_store_complex (P : Program) (w : World) (a : Addr) (m : Mode) (k : FloatKind) (b c : Nat) : (store a (.complex k b c) m).run P w = stored P w a (.complex k b c) m := run_store P w a _ m rfl
def B64 (x : Nat) : Prop := x < 18446744073709551616
def hiB (x : Nat) : Bool := decide (9223372036854775808 ≤ x)
def mzB (x : Nat) : Bool := decide (x = 9223372036854775808)
def pzB (x : Nat) : Bool := decide (x = 0)
def sameB (a b : Nat) : Bool := (nanD a && nanD b) || (!nanD a && !nanD b && decide (a = b))
@[go_sem] theorem ord_eq (x y : Nat) : (FloatKind.f64.format.order x y == some Ordering.eq) = feq x y := zv10 x y
@[go_sem] theorem ord_ne (x y : Nat) : (FloatKind.f64.format.order x y != some Ordering.eq) = !feq x y := congrArg (!·) (zv10 x y)
@[go_sem] theorem ord_lt (x y : Nat) : (FloatKind.f64.format.order x y == some Ordering.lt) = flt x y := zr18 x y
@[go_sem] theorem ord_gt (x y : Nat) : (FloatKind.f64.format.order x y == some Ordering.gt) = flt y x := zs18 x y
theorem zl15 : nanD 0 = false := by decide
theorem zv21 : keyD 0 = 0 := by decide
theorem zf6 (x : Nat) (h : B64 x) : feq x 0 = (pzB x || mzB x) := by
 unfold B64 at h
 have hk := zd4 x h
 have hn := zx3 x
 unfold feq pzB mzB
 rw [zl15, zv21, hk]
 cases e : nanD x
 ·by_cases h0 : x = 0
  ·subst h0; rfl
  ·by_cases h1 : x = 9223372036854775808
   ·subst h1; rfl
   ·simp [h0, h1]; split <;> omega
 ·have := hn.1 e
  have h0 : x ≠ 0 := by omega
  have h1 : x ≠ 9223372036854775808 := by omega
  simp [h0, h1]
theorem zo2 (f : Nat) (w : World) :
  Calls Tryz.prog 86 #[.float .f64 f] w fun e w' => e = .returned (.bool (nanD f)) ∧ w' = w := by
 go_enter Tryz.func86, Tryz.ntmps86
 go_wp2
 go_ret
 exact ⟨zm (by rw [zn3, Bool.not_not]), rfl⟩
theorem zh7 (f : Nat) (w : World) :
  Calls Tryz.prog 70 #[.float .f64 f] w fun e w' => e = .returned (.bool (nanD f)) ∧ w' = w := by
 go_enter Tryz.func70, Tryz.ntmps70
 go_wp2
 go_ret
 exact ⟨zm (by rw [zn3, Bool.not_not]), rfl⟩
theorem zo6 (x : Nat) (w : World) : (callFunc 143 #[.float .f64 x]).run Tryz.prog w = .ok (.value (.int .u64 x)) w := by
 rw [run_callFunc_extern Tryz.func143 (by kernel_rfl) (by kernel_rfl) (by kernel_rfl) (e := Extern.MathFloatBits.float64bits) (by kernel_rfl)]; rfl
theorem zy17 (f : Nat) (h : B64 f) : decide (wrap64 (f : Int) < 0) = hiB f := by
 unfold B64 at h
 unfold hiB
 rw [Bool.eq_iff_iff]
 simp only [decide_eq_true_eq, wrap64, IntKind.wrap_i64]
 omega
theorem zl6 (f : Nat) (h : B64 f) (w : World) :
  Calls Tryz.prog 152 #[.float .f64 f] w fun e w' => e = .returned (.bool (hiB f)) ∧ w' = w := by
 have hb := zo6 f
 go_enter Tryz.func152, Tryz.ntmps152
 go_wp2
 go_ret
 exact ⟨zm (zy17 f h), rfl⟩
theorem zo24 (f : Nat) (h : feq f 0 = true) (hf : B64 f) : (!hiB f) = pzB f := by
 rw [zf6 f hf] at h
 unfold pzB mzB at h
 unfold hiB pzB
 simp only [Bool.or_eq_true, decide_eq_true_eq] at h
 rcases h with rfl | rfl <;> decide
theorem zr22 (f : Nat) (h : ¬ feq f 0 = true) (hf : B64 f) : pzB f = false ∧ mzB f = false := by
 rw [zf6 f hf] at h
 simpa using h
theorem zb2 (f : Nat) (h : B64 f) (w : World) :
  Calls Tryz.prog 149 #[.float .f64 f] w fun e w' => e = .returned (.bool (pzB f)) ∧ w' = w := by
 by_cases hz : feq f 0 = true
 ·have hh := zo24 f hz h
  go_enter Tryz.func149, Tryz.ntmps149
  go_wp2_with (go_at_call 152; refine (zl6 _ h _).mono ?_; rintro e w' ⟨rfl, rfl⟩)
  go_ret
  exact ⟨rfl, rfl⟩
 ·have hh := zr22 f hz h
  simp only [Bool.not_eq_true] at hz
  go_enter Tryz.func149, Tryz.ntmps149
  go_wp2
  go_ret
  exact ⟨zm hh.1.symm, rfl⟩
theorem zg7 (f : Nat) (h : B64 f) (w : World) :
  Calls Tryz.prog 148 #[.float .f64 f] w fun e w' => e = .returned (.bool (mzB f)) ∧ w' = w := by
 have q1 := fun w => run_float_arith (P := Tryz.prog) w .quo 64 .f64 4607182418800017408 0 9218868437227405312 (by decide)
 have q2 := fun w => run_float_arith (P := Tryz.prog) w .quo 64 .f64 4607182418800017408 9223372036854775808 18442240474082181120 (by decide)
 by_cases hz : feq f 0 = true
 ·have h2 := hz
  rw [zf6 f h] at h2
  unfold pzB mzB at h2
  simp only [Bool.or_eq_true, decide_eq_true_eq] at h2
  rcases h2 with rfl | rfl
  ·have l1 : flt 9218868437227405312 0 = false := by decide
   have l2 : mzB 0 = false := by decide
   go_enter Tryz.func148, Tryz.ntmps148
   go_wp2
   go_ret
   exact ⟨rfl, rfl⟩
  ·have l1 : flt 18442240474082181120 0 = true := by decide
   have l2 : mzB 9223372036854775808 = true := by decide
   go_enter Tryz.func148, Tryz.ntmps148
   go_wp2
   go_ret
   exact ⟨rfl, rfl⟩
 ·have hh := zr22 f hz h
  simp only [Bool.not_eq_true] at hz
  go_enter Tryz.func148, Tryz.ntmps148
  go_wp2
  go_ret
  exact ⟨zm hh.2.symm, rfl⟩
theorem zd15 (a b : Nat) (ha : B64 a) (hb : B64 b) (na : nanD a = false) (nb : nanD b = false) : (feq a b && (mzB a == mzB b)) = decide (a = b) := by
 unfold feq
 rw [na, nb]
 unfold B64 at ha hb
 rw [Bool.eq_iff_iff]
 unfold mzB
 simp only [Bool.not_false, Bool.true_and, Bool.and_eq_true, decide_eq_true_eq, beq_iff_eq, decide_eq_decide]
 rw [zd4 a ha, zd4 b hb]
 split <;> split <;> omega
theorem hide {p : Prop} (h : p) : Hid p := h
theorem zx1 (a b : Nat) (ha : B64 a) (hb : B64 b) (w : World) :
  Calls Tryz.prog 137 #[.float .f64 a, .float .f64 b] w fun e w' => e = .returned (.bool (sameB a b)) ∧ w' = w := by
 have Hs := hide (zd15 a b ha hb)
 go_enter Tryz.func137, Tryz.ntmps137
 go_wp2_with (first | (go_at_call 70; refine (zh7 _ _).mono ?_; rintro e w' ⟨rfl, rfl⟩) | (go_at_call 148; refine (zg7 _ ?_ _).mono ?_; assumption; rintro e w' ⟨rfl, rfl⟩))
 all_goals go_ret
 all_goals go_light
 all_goals refine ⟨zm ?_, rfl⟩
 all_goals (unfold sameB; have hs := Hs.out)
 all_goals (simp_all; done)
theorem zb8 (f : Nat) (h : B64 f) (hz : feq f 0 = true) : f = 0 ∨ f = 9223372036854775808 := by
 rw [zf6 f h] at hz
 unfold pzB mzB at hz
 simpa using hz
theorem zj23 (a b : Nat) (ha : B64 a) (hb : B64 b) (na : nanD a = false) (nb : nanD b = false) (h : ¬ (feq a 0 = true ∧ feq b 0 = true)) : feq a b = sameB a b := by
 have h1 := zd15 a b ha hb na nb
 unfold sameB
 rw [na, nb]
 simp only [Bool.and_self, Bool.false_or, Bool.not_false, Bool.true_and]
 rw [← h1]
 cases hf : feq a b
 ·rfl
 ·have hk : keyD a = keyD b := by
   unfold feq at hf
   rw [na, nb] at hf
   simpa using hf
  rcases zu13 a b ha hb hk with e | e | e
  ·rw [e]; simp
  ·exact (h (by rw [e.1, e.2]; decide)).elim
  ·exact (h (by rw [e.1, e.2]; decide)).elim
theorem zh2 (a b : Nat) (ha : B64 a) (hb : B64 b) (w : World) :
  Calls Tryz.prog 157 #[.float .f64 a, .float .f64 b] w fun e w' => e = .returned (.bool (sameB a b)) ∧ w' = w := by
 have ea := zn3 a
 have eb := zn3 b
 cases na : nanD a <;> cases nb : nanD b <;> rw [na] at ea <;> rw [nb] at eb <;> simp only [Bool.not_true, Bool.not_false] at ea eb
 ·cases za : feq a 0 <;> cases zb : feq b 0
  case true.true =>
   have l1 : flt 0 9218868437227405312 = true := by decide
   have l2 : flt 0 18442240474082181120 = false := by decide
   have q1 := fun w => run_float_arith (P := Tryz.prog) w .quo 64 .f64 4607182418800017408 0 9218868437227405312 (by decide)
   have q2 := fun w => run_float_arith (P := Tryz.prog) w .quo 64 .f64 4607182418800017408 9223372036854775808 18442240474082181120 (by decide)
   rcases zb8 a ha za with rfl | rfl <;> rcases zb8 b hb zb with rfl | rfl
   all_goals
    go_enter Tryz.func157, Tryz.ntmps157
    go_wp2
    go_ret
    exact ⟨zm (by decide), rfl⟩
  all_goals
   have Hs := hide (zj23 a b ha hb na nb (by rw [za, zb]; simp))
   go_enter Tryz.func157, Tryz.ntmps157
   go_wp2
   go_ret
   exact ⟨zm Hs.out, rfl⟩
 all_goals
  go_enter Tryz.func157, Tryz.ntmps157
  go_wp2
  go_ret
  exact ⟨zm (by unfold sameB; rw [na, nb]; rfl), rfl⟩
theorem zg4 : (Tryz.prog.underlying 162).isSome = true := by rw [Tryz.underlying162]; rfl
theorem zq20 : (Tryz.prog.underlying 64).isSome = true := by rw [Tryz.underlying64]; rfl
theorem zr2 (w : World) (src dst : TypeId) (s k : FloatKind) (b : Nat) (hs : (Tryz.prog.underlying src).isSome = true) (hd : Tryz.prog.underlying dst = some (.float k)) (hne : s ≠ k) (hn : (s.decode b).isNaN = true) :
  (convert src dst (.float s b)).run Tryz.prog w = .ok (.float k ((Question.nanConv k b).cut (w.tape w.drawn (Question.nanConv k b)))) w.drew := by
 obtain ⟨u, hs'⟩ := Option.isSome_iff_exists.1 hs
 cases hdec : s.decode b with
 | nan sg fr => cases u <;> simp [convert, run_underlying hs', run_underlying hd, Conv.floatToFloat, hne, hdec, run_choose_drew, Question.forced]
 | number _ _ _ => rw [hdec] at hn; cases hn
 | infinity _ => rw [hdec] at hn; cases hn
theorem zj4 (w : World) (b : Nat) (hn : nanD b = false) (ho : zr16 b = true) :
  (convert 64 162 (.float .f64 b)).run Tryz.prog w = .ok (.float .f32 ((Question.floatToFloat b).cut (w.tape w.drawn (Question.floatToFloat b)))) w.drew := by
 obtain ⟨u, hs'⟩ := Option.isSome_iff_exists.1 zq20
 unfold zr16 at ho
 cases hdec : Ieee.double.read b with
 | nan sg fr => rw [hdec] at ho; cases ho
 | infinity _ => rw [hdec] at ho; cases ho
 | number sg m e =>
  rw [hdec] at ho
  have hdec' : FloatKind.f64.decode b = .number sg m e := hdec
  have ho' : (FloatKind.f32.decode (FloatKind.f32.encode (.number sg m e))).isInfinity = true := by
   have : narrow b = FloatKind.f32.encode (.number sg m e) := by unfold narrow; rw [hdec]; rfl
   rw [← this]; exact ho
  cases u <;> simp [convert, run_underlying hs', run_underlying Tryz.underlying162, Conv.floatToFloat, hdec', ho', run_choose_drew, Question.forced]
theorem zy18 (b t : Nat) : nanS ((Question.nanConv .f32 b).cut t) = true ∧ (Question.nanConv .f32 b).cut t < 4294967296 := by
 rw [zl3]
 simp only [Question.cut]
 rcases Nat.mod_two_eq_zero_or_one t with h | h <;> rw [h] <;> omega
theorem zz6 (b t : Nat) : nanD ((Question.nanConv .f64 b).cut t) = true ∧ (Question.nanConv .f64 b).cut t < 18446744073709551616 := by
 rw [zx3]
 simp only [Question.cut]
 rcases Nat.mod_two_eq_zero_or_one t with h | h <;> rw [h] <;> omega
theorem zj15 (b t : Nat) : (Question.floatToFloat b).cut t < 4294967296 := by
 simp only [Question.cut]
 omega
theorem zg22 (b : Nat) (h : nanD b = true) : (FloatKind.f64.decode b).isNaN = true := by
 have h' := (zx3 b).1 h
 show (Ieee.double.read b).isNaN = true
 rw [za6 Ieee.double b (by rw [zs27, zu27]; exact h') zo27]; rfl
theorem zd10 (b : Nat) (h : nanS b = true) : (FloatKind.f32.decode b).isNaN = true := by
 have h' := (zl3 b).1 h
 show (Ieee.single.read b).isNaN = true
 rw [za6 Ieee.single b (by rw [zv27, zt27]; exact h') zm27]; rfl
theorem zy10 (b : Nat) (hn : nanD b = false) (ho : zr16 b = false) : floatToFloatBits .f64 b .f32 = some (narrow b) := by
 unfold floatToFloatBits
 rw [if_neg (by decide)]
 have hnn : ¬ (Ieee.double.infRung < b % Ieee.double.signWeight) := fun h => by
  have : nanD b = true := by unfold nanD nanW; simpa using h
  rw [this] at hn; cases hn
 unfold zr16 at ho
 unfold narrow at *
 show (match Ieee.double.read b with | .nan _ _ => none | .infinity s => some (Ieee.single.write (.infinity s)) | .number s m e => if (Ieee.single.read (Ieee.single.write (.number s m e))).isInfinity then none else some (Ieee.single.write (.number s m e))) = _
 cases hdec : Ieee.double.read b with
 | nan sg fr =>
  exfalso
  unfold Ieee.Format.read at hdec
  dsimp only at hdec
  split at hdec
  ·cases hdec
  ·split at hdec
   ·cases hdec
   ·split at hdec
    ·cases hdec
    ·omega
 | infinity _ => rfl
 | number sg m e =>
  rw [hdec] at ho
  simp only at ho ⊢
  rw [ho]; rfl
theorem zg5 (u : Nat) (hu : u < 4294967296) (hn : nanS u = false) : floatToFloatBits .f32 u .f64 = some (wide u) := by
 unfold floatToFloatBits
 rw [if_neg (by decide)]
 have hn' : ¬ 2139095040 < u % 2147483648 := fun h => by rw [(zl3 u).2 h] at hn; cases hn
 show (match Ieee.single.read u with | .nan _ _ => none | .infinity s => some (Ieee.double.write (.infinity s)) | .number s m e => if (Ieee.double.read (Ieee.double.write (.number s m e))).isInfinity then none else some (Ieee.double.write (.number s m e))) = _
 by_cases hi : u % 2147483648 = 2139095040
 ·unfold wide
  rw [zm4 Ieee.single u (by rw [zv27, zt27]; exact hi) zm27]
 ·have hr := zn1 Ieee.single u (by rw [zv27, zt27]; omega)
  have hw : (Ieee.double.read (wide u)).isInfinity = false := by
   by_cases h0 : u % 2147483648 = 0
   ·rw [(zh10 u hu h0).1, zq6 _ _ _ (by rw [zu27]; omega)]; rfl
   ·obtain ⟨r, h1, h2, h3, h4⟩ := zj6 u hu (by omega) (by omega)
    rw [h3, zq6 _ _ _ h2]; rfl
  unfold wide at *
  rw [hr] at hw ⊢
  simp only
  rw [hw]; rfl
theorem zl11 (x : Nat) (hx : B64 x) (w : World) :
  Calls Tryz.prog 140 #[.float .f64 x] w fun e w' => ∃ r n, e = .returned (.float .f64 r) ∧ SingleR x r ∧ w' = w.drewN n := by
 cases hn : nanD x
 ·have up : ∀ (u : Nat) (w1 : World), u < 4294967296 → (nanS u = true ∧ (convert 162 64 (.float .f32 u)).run Tryz.prog w1 = .ok (.float .f64 ((Question.nanConv .f64 u).cut (w1.tape w1.drawn (Question.nanConv .f64 u)))) w1.drew) ∨ (nanS u = false ∧ (convert 162 64 (.float .f32 u)).run Tryz.prog w1 = .ok (.float .f64 (wide u)) w1) := fun u w1 hu => by
   cases hs : nanS u
   ·exact Or.inr ⟨rfl, run_convert_float_float w1 162 64 .f32 .f64 u (wide u) zg4 Tryz.underlying64 (zg5 u hu hs)⟩
   ·exact Or.inl ⟨rfl, zr2 w1 162 64 .f32 .f64 u zg4 Tryz.underlying64 (by decide) (zd10 u hs)⟩
  cases ho : zr16 x
  ·have c1 := run_convert_float_float (P := Tryz.prog) w 64 162 .f64 .f32 x (narrow x) zq20 Tryz.underlying162 (zy10 x hn ho)
   have c2 := run_convert_float_float (P := Tryz.prog) w 162 64 .f32 .f64 (narrow x) (wide (narrow x)) zg4 Tryz.underlying64 (zg5 _ (zs4 x) (zm2 x hn))
   have Hn := hide (zm2 x hn)
   go_enter Tryz.func140, Tryz.ntmps140
   go_wp2
   go_ret
   exact ⟨_, 0, rfl, ⟨zi6 _, Or.inr ⟨hn, narrow x, zs4 x, Or.inr rfl, Or.inr ⟨Hn.out, rfl⟩⟩⟩, rfl⟩
  ·have c1 := zj4 w x hn ho
   have hu := zj15 x (w.tape w.drawn (Question.floatToFloat x))
   generalize hc : (Question.floatToFloat x).cut (w.tape w.drawn (Question.floatToFloat x)) = u at *
   have Hc := hide hc
   clear hc
   rcases up u w.drew hu with ⟨h1, h2⟩ | ⟨h1, h2⟩
   ·have hq := zz6 u (w.drew.tape w.drew.drawn (Question.nanConv .f64 u))
    generalize hd : (Question.nanConv .f64 u).cut (w.drew.tape w.drew.drawn (Question.nanConv .f64 u)) = r at *
    have Hd := hide hd
    clear hd
    go_enter Tryz.func140, Tryz.ntmps140
    go_wp2
    go_ret
    exact ⟨_, 2, rfl, ⟨hq.2, Or.inr ⟨hn, u, hu, Or.inl ho, Or.inl ⟨h1, hq.1⟩⟩⟩, rfl⟩
   ·go_enter Tryz.func140, Tryz.ntmps140
    go_wp2
    go_ret
    exact ⟨_, 1, rfl, ⟨zi6 _, Or.inr ⟨hn, u, hu, Or.inl ho, Or.inr ⟨h1, rfl⟩⟩⟩, rfl⟩
 ·have c1 := zr2 w 64 162 .f64 .f32 x zq20 Tryz.underlying162 (by decide) (zg22 x hn)
  have hu := zy18 x (w.tape w.drawn (Question.nanConv .f32 x))
  generalize hc : (Question.nanConv .f32 x).cut (w.tape w.drawn (Question.nanConv .f32 x)) = u at *
  have Hc := hide hc
  clear hc
  have c2 := zr2 w.drew 162 64 .f32 .f64 u zg4 Tryz.underlying64 (by decide) (zd10 u hu.1)
  have hq := zz6 u (w.drew.tape w.drew.drawn (Question.nanConv .f64 u))
  generalize hd : (Question.nanConv .f64 u).cut (w.drew.tape w.drew.drawn (Question.nanConv .f64 u)) = r at *
  have Hd := hide hd
  clear hd
  go_enter Tryz.func140, Tryz.ntmps140
  go_wp2
  go_ret
  exact ⟨_, 2, rfl, ⟨hq.2, Or.inl ⟨hn, hq.1⟩⟩, rfl⟩
structure Ext (w w' : World) : Prop where
 bl : Below w.heap.size w w'
 fz : ∀ a, w'.frozen? a = w.frozen? a
theorem Ext.refl (w : World) : Ext w w := ⟨Below.refl _ _, fun _ => rfl⟩
theorem Ext.trans {a b c : World} (h : Ext a b) (k : Ext b c) : Ext a c :=
 ⟨h.bl.trans (k.bl.mono h.bl.size), fun x => (k.fz x).trans (h.fz x)⟩
theorem Ext.drew {a b : World} (h : Ext a b) : Ext a b.drew := ⟨h.bl.drew, h.fz⟩
theorem Ext.drewN {a b : World} (h : Ext a b) (n : Nat) : Ext a (b.drewN n) := ⟨below_drewN h.bl n, h.fz⟩
theorem Ext.alloc {a b : World} (h : Ext a b) (c : Array Value) (t : TypeId) : Ext a (b.alloc (χ c t)) :=
 ⟨h.bl.alloc h.bl.size _, fun x => (frozen?_alloc_cells _ _ _ x).trans (h.fz x)⟩
theorem Ext.setCell {a b : World} (h : Ext a b) {p : Addr} (hp : a.heap.size ≤ p.block) (v : Value) : Ext a (b.setCell p v) :=
 ⟨h.bl.setCell hp v, fun x => (World.frozen?_setCell _ _ _ _).trans (h.fz x)⟩
theorem Ext.box {W w1 : World} (h : Ext W w1) {b o : Nat} {v : Value} (hc : W.cell? ⟨b, o, none⟩ = some v) : w1.cell? ⟨b, o, none⟩ = some v := by
 have hb : b < W.heap.size := by
  by_cases e : b < W.heap.size
  ·exact e
  ·have e2 : W.heap[b]? = none := by simp; omega
   simp [World.cell?, e2] at hc
 rw [h.bl.cell (p := ⟨b, o, none⟩) hb, hc]
theorem zd16 (i : Int) (f g : Nat) (w : World) :
  Calls Tryz.prog 141 #[γ #[O ι i, .float .f64 f, .float .f64 g]] w fun e w' => e = .returned (γ #[O ι i, .float .f64 f, .float .f64 g]) ∧ Ext w w' := by
 go_enter Tryz.func141, Tryz.ntmps141
 go_wp2
 exact bodyPost_ret (v := γ #[O ι i, .float .f64 f, .float .f64 g]) (by simp [results, Tryz.results141, go_sem]) rfl ⟨rfl, by repeat (first | exact Ext.refl _ | apply Ext.drew | apply Ext.alloc)⟩
theorem zp15 (x : Nat) (hx : B64 x) (w : World) :
  Calls Tryz.prog 112 #[O ι 7, .float .f64 x] w fun e w' => ∃ r n, e = .returned (.float .f64 r) ∧ SingleR x r ∧ w' = w.drewN n := by
 go_enter Tryz.func112, Tryz.ntmps112
 go_wp2_with (go_at_call 140; refine (zl11 x hx _).mono ?_; rintro e w' ⟨r, n, rfl, hr, rfl⟩)
 go_ret
 exact ⟨r, n, rfl, hr, rfl⟩
theorem zt21 (dt : Int) (hd : (dt == 7) = false) (x : Nat) (w : World) :
  Calls Tryz.prog 112 #[O ι dt, .float .f64 x] w fun e w' => e = .returned (.float .f64 x) ∧ w' = w := by
 go_enter Tryz.func112, Tryz.ntmps112
 go_wp2
 go_ret
 exact ⟨rfl, rfl⟩
theorem zo11 (x : Nat) (hx : B64 x) (w : World) :
  Calls Tryz.prog 151 #[.float .f64 x] w fun e w' => e = .returned (.bool (sngB x)) ∧ ∃ n, w' = w.drewN n := by
 cases hn : nanD x
 ·have fin : ∀ r, SingleR x r → feq r x = sngB x := fun r h => by
   cases hs : sngB x
   ·exact (zl10 hx h hs).2
   ·rcases zh8 h hs with ⟨h1, _⟩ | ⟨h1, h2⟩
    ·rw [hn] at h1; cases h1
    ·rw [h2, zn3, hn]; rfl
  have up : ∀ (u : Nat) (w1 : World), u < 4294967296 → (nanS u = true ∧ (convert 162 64 (.float .f32 u)).run Tryz.prog w1 = .ok (.float .f64 ((Question.nanConv .f64 u).cut (w1.tape w1.drawn (Question.nanConv .f64 u)))) w1.drew) ∨ (nanS u = false ∧ (convert 162 64 (.float .f32 u)).run Tryz.prog w1 = .ok (.float .f64 (wide u)) w1) := fun u w1 hu => by
   cases hs : nanS u
   ·exact Or.inr ⟨rfl, run_convert_float_float w1 162 64 .f32 .f64 u (wide u) zg4 Tryz.underlying64 (zg5 u hu hs)⟩
   ·exact Or.inl ⟨rfl, zr2 w1 162 64 .f32 .f64 u zg4 Tryz.underlying64 (by decide) (zd10 u hs)⟩
  cases ho : zr16 x
  ·have c1 := run_convert_float_float (P := Tryz.prog) w 64 162 .f64 .f32 x (narrow x) zq20 Tryz.underlying162 (zy10 x hn ho)
   have c2 := run_convert_float_float (P := Tryz.prog) w 162 64 .f32 .f64 (narrow x) (wide (narrow x)) zg4 Tryz.underlying64 (zg5 _ (zs4 x) (zm2 x hn))
   have Hn := hide (zm2 x hn)
   have Hf := hide (fin (wide (narrow x)) ⟨zi6 _, Or.inr ⟨hn, narrow x, zs4 x, Or.inr rfl, Or.inr ⟨Hn.out, rfl⟩⟩⟩)
   clear fin up
   go_enter Tryz.func151, Tryz.ntmps151
   go_wp2_with (go_at_call 86; refine (zo2 _ _).mono ?_; rintro e w' ⟨rfl, rfl⟩)
   go_ret
   exact ⟨zm Hf.out, 0, rfl⟩
  ·have c1 := zj4 w x hn ho
   have hu := zj15 x (w.tape w.drawn (Question.floatToFloat x))
   generalize hc : (Question.floatToFloat x).cut (w.tape w.drawn (Question.floatToFloat x)) = u at *
   have Hc := hide hc
   clear hc
   rcases up u w.drew hu with ⟨h1, h2⟩ | ⟨h1, h2⟩
   ·have hq := zz6 u (w.drew.tape w.drew.drawn (Question.nanConv .f64 u))
    generalize hd : (Question.nanConv .f64 u).cut (w.drew.tape w.drew.drawn (Question.nanConv .f64 u)) = r at *
    have Hd := hide hd
    clear hd
    have Hf := hide (fin r ⟨hq.2, Or.inr ⟨hn, u, hu, Or.inl ho, Or.inl ⟨h1, hq.1⟩⟩⟩)
    clear fin up hq
    go_enter Tryz.func151, Tryz.ntmps151
    go_wp2_with (go_at_call 86; refine (zo2 _ _).mono ?_; rintro e w' ⟨rfl, rfl⟩)
    go_ret
    exact ⟨zm Hf.out, 2, rfl⟩
   ·have Hf := hide (fin (wide u) ⟨zi6 _, Or.inr ⟨hn, u, hu, Or.inl ho, Or.inr ⟨h1, rfl⟩⟩⟩)
    clear fin up
    go_enter Tryz.func151, Tryz.ntmps151
    go_wp2_with (go_at_call 86; refine (zo2 _ _).mono ?_; rintro e w' ⟨rfl, rfl⟩)
    go_ret
    exact ⟨zm Hf.out, 1, rfl⟩
 ·go_enter Tryz.func151, Tryz.ntmps151
  go_wp2_with (go_at_call 86; refine (zo2 _ _).mono ?_; rintro e w' ⟨rfl, rfl⟩)
  go_ret
  exact ⟨zm (by unfold sngB; rw [hn]; rfl), 0, rfl⟩
def lowL (dt : Int) : Int := if dt = 1 ∨ dt = 3 then 0 else if dt = 2 then -128 else if dt = 4 then -32768 else if dt = 5 then -2147483648 else -9223372036854775808
def highL (dt : Int) : Int := if dt = 1 then 1 else if dt = 3 then 255 else if dt = 2 then 127 else if dt = 4 then 32767 else if dt = 5 then 2147483647 else 9223372036854775807
theorem zm19 (dt : Int) (w : World) :
  Calls Tryz.prog 135 #[O ι dt] w fun e w' => e = .returned (O ι (lowL dt)) ∧ w' = w := by
 go_enter Tryz.func135, Tryz.ntmps135
 go_wp2
 all_goals go_ret
 all_goals refine ⟨zl1 ?_, rfl⟩
 all_goals go_light
 all_goals (unfold lowL; simp only [beq_iff_eq, beq_eq_false_iff_ne, ne_eq] at *; omega)
theorem zf3 (dt : Int) (w : World) :
  Calls Tryz.prog 136 #[O ι dt] w fun e w' => e = .returned (O ι (highL dt)) ∧ w' = w := by
 go_enter Tryz.func136, Tryz.ntmps136
 go_wp2
 all_goals go_ret
 all_goals refine ⟨zl1 ?_, rfl⟩
 all_goals go_light
 all_goals (unfold highL; simp only [beq_iff_eq, beq_eq_false_iff_ne, ne_eq] at *; omega)
def cutL (dt i : Int) : Int :=
 if dt = 2 then (i + 128) % 256 - 128 else if dt = 3 then i % 256 else if dt = 4 then (i + 32768) % 65536 - 32768 else if dt = 5 then (i + 2147483648) % 4294967296 - 2147483648 else i
theorem wrap_i8' (n : Int) : IntKind.i8.wrap n = (n + 128) % 256 - 128 := by
 simp only [IntKind.wrap, IntKind.bits, IntKind.signed, Bool.true_and, decide_eq_true_eq]
 simp; split <;> omega
theorem wrap_i16' (n : Int) : IntKind.i16.wrap n = (n + 32768) % 65536 - 32768 := by
 simp only [IntKind.wrap, IntKind.bits, IntKind.signed, Bool.true_and, decide_eq_true_eq]
 simp; split <;> omega
theorem zq7 (dt i : Int) (w : World) :
  Calls Tryz.prog 150 #[O ι dt, O ι i] w fun e w' => e = .returned (O ι (cutL dt i)) ∧ w' = w := by
 go_enter Tryz.func150, Tryz.ntmps150
 go_wp2
 all_goals go_ret
 all_goals refine ⟨zl1 ?_, rfl⟩
 all_goals go_light
 all_goals (unfold cutL; simp only [beq_iff_eq, beq_eq_false_iff_ne, ne_eq, wrap64, wrap32, IntKind.wrap_i64, IntKind.wrap_i32, wrap_i8', wrap_i16'] at *; omega)
def I64 (i : Int) : Prop := -9223372036854775808 ≤ i ∧ i ≤ 9223372036854775807
theorem zm14 (dt i : Int) (h : 2 ≤ dt ∧ dt ≤ 6) (hi : I64 i) : (cutL dt i == i) = decide (lowL dt ≤ i ∧ i ≤ highL dt) := by
 unfold I64 at hi
 rw [Bool.eq_iff_iff]
 simp only [beq_iff_eq, decide_eq_true_eq]
 unfold cutL lowL highL
 have : dt = 2 ∨ dt = 3 ∨ dt = 4 ∨ dt = 5 ∨ dt = 6 := by omega
 rcases this with rfl | rfl | rfl | rfl | rfl <;> simp <;> omega
def rngB (dt i : Int) : Bool := decide (lowL dt ≤ i ∧ i ≤ highL dt)
def validB (dt i : Int) (f g : Nat) : Bool :=
 if 1 ≤ dt ∧ dt ≤ 6 then rngB dt i && pzB f && pzB g
 else if dt = 7 then i == 0 && pzB g && sngB f
 else if dt = 8 then i == 0 && pzB g
 else if dt = 9 then i == 0 else false
theorem zi17 (dt i : Int) (f g : Nat) (h : 2 ≤ dt ∧ dt ≤ 6) (hi : I64 i) (hf : B64 f) (hg : B64 g) (w : World) :
  Calls Tryz.prog 129 #[O ι dt, γ #[O ι i, .float .f64 f, .float .f64 g]] w fun e w' => e = .returned (.bool (rngB dt i && pzB f && pzB g)) ∧ Ext w w' := by
 have hk : kindL dt = 1 := by unfold kindL; omega
 have hc := zm14 dt i h hi
 rw [show decide (lowL dt ≤ i ∧ i ≤ highL dt) = rngB dt i from rfl] at hc
 have Hh := hide h
 clear h
 cases h1 : rngB dt i <;> cases h2 : pzB f <;> rw [h1] at hc
 all_goals
  go_enter Tryz.func129, Tryz.ntmps129
  go_wp2_with (go_at_call 118; refine (zf1 _ _).mono ?_; rintro e w' ⟨rfl, rfl⟩)
  go_quiet (first | (go_at_call 150; exact Calls.quiet_of_same (zq7 _ _ _)) | (go_at_call 149; exact Calls.quiet_of_same (zb2 _ (by assumption) _)))
  go_wp2
  go_ret
  exact ⟨rfl, by repeat (first | exact Ext.refl _ | apply Ext.drewN | apply Ext.drew | apply Ext.alloc)⟩
theorem zy13 (i : Int) (f g : Nat) (hf : B64 f) (hg : B64 g) (w : World) :
  Calls Tryz.prog 129 #[O ι 1, γ #[O ι i, .float .f64 f, .float .f64 g]] w fun e w' => e = .returned (.bool (rngB 1 i && pzB f && pzB g)) ∧ Ext w w' := by
 have hk : kindL 1 = 0 := by decide
 have hr : rngB 1 i = (i == 0 || i == 1) := by
  unfold rngB lowL highL
  rw [Bool.eq_iff_iff]; simp; omega
 rw [hr]
 clear hr
 cases h0 : (i == 0) <;> cases h1 : (i == 1) <;> cases h2 : pzB f
 all_goals
  go_enter Tryz.func129, Tryz.ntmps129
  go_wp2_with (first | (go_at_call 118; refine (zf1 _ _).mono ?_; rintro e w' ⟨rfl, rfl⟩) | (go_at_call 149; refine (zb2 _ ?_ _).mono ?_; assumption; rintro e w' ⟨rfl, rfl⟩))
  go_ret
  exact ⟨rfl, by repeat (first | exact Ext.refl _ | apply Ext.drewN | apply Ext.drew | apply Ext.alloc)⟩
theorem zj17 (i : Int) (f g : Nat) (hf : B64 f) (hg : B64 g) (w : World) :
  Calls Tryz.prog 129 #[O ι 8, γ #[O ι i, .float .f64 f, .float .f64 g]] w fun e w' => e = .returned (.bool (i == 0 && pzB g)) ∧ Ext w w' := by
 have hk : kindL 8 = 2 := by decide
 cases h0 : (i == 0) <;> cases h2 : pzB g
 all_goals
  go_enter Tryz.func129, Tryz.ntmps129
  go_wp2_with (first | (go_at_call 118; refine (zf1 _ _).mono ?_; rintro e w' ⟨rfl, rfl⟩) | (go_at_call 149; refine (zb2 _ ?_ _).mono ?_; assumption; rintro e w' ⟨rfl, rfl⟩))
  go_ret
  exact ⟨rfl, by repeat (first | exact Ext.refl _ | apply Ext.drewN | apply Ext.drew | apply Ext.alloc)⟩
theorem zk17 (i : Int) (f g : Nat) (hf : B64 f) (hg : B64 g) (w : World) :
  Calls Tryz.prog 129 #[O ι 7, γ #[O ι i, .float .f64 f, .float .f64 g]] w fun e w' => e = .returned (.bool (i == 0 && pzB g && sngB f)) ∧ Ext w w' := by
 have hk : kindL 7 = 2 := by decide
 cases h0 : (i == 0) <;> cases h2 : pzB g
 all_goals
  go_enter Tryz.func129, Tryz.ntmps129
  go_wp2_with (first | (go_at_call 118; refine (zf1 _ _).mono ?_; rintro e w' ⟨rfl, rfl⟩) | (go_at_call 149; refine (zb2 _ ?_ _).mono ?_; assumption; rintro e w' ⟨rfl, rfl⟩) | (go_at_call 151; refine (zo11 _ ?_ _).mono ?_; assumption; rintro e w' ⟨rfl, n, rfl⟩))
  go_ret
  exact ⟨rfl, by repeat (first | exact Ext.refl _ | apply Ext.drewN | apply Ext.drew | apply Ext.alloc)⟩
theorem zx13 (i : Int) (f g : Nat) (hf : B64 f) (hg : B64 g) (w : World) :
  Calls Tryz.prog 129 #[O ι 9, γ #[O ι i, .float .f64 f, .float .f64 g]] w fun e w' => e = .returned (.bool (i == 0)) ∧ Ext w w' := by
 have hk : kindL 9 = 3 := by decide
 go_enter Tryz.func129, Tryz.ntmps129
 go_wp2_with (first | (go_at_call 118; refine (zf1 _ _).mono ?_; rintro e w' ⟨rfl, rfl⟩))
 go_ret
 exact ⟨rfl, by repeat (first | exact Ext.refl _ | apply Ext.drewN | apply Ext.drew | apply Ext.alloc)⟩
theorem zt19 (dt i : Int) (f g : Nat) (h : ¬ (1 ≤ dt ∧ dt ≤ 9)) (w : World) :
  Calls Tryz.prog 129 #[O ι dt, γ #[O ι i, .float .f64 f, .float .f64 g]] w fun e w' => e = .returned (.bool false) ∧ Ext w w' := by
 have hk : kindL dt = -1 := by unfold kindL; omega
 clear h
 go_enter Tryz.func129, Tryz.ntmps129
 go_wp2_with (first | (go_at_call 118; refine (zf1 _ _).mono ?_; rintro e w' ⟨rfl, rfl⟩))
 go_ret
 exact ⟨rfl, by repeat (first | exact Ext.refl _ | apply Ext.drewN | apply Ext.drew | apply Ext.alloc)⟩
theorem zd1 (dt i : Int) (f g : Nat) (hi : I64 i) (hf : B64 f) (hg : B64 g) (w : World) :
  Calls Tryz.prog 129 #[O ι dt, γ #[O ι i, .float .f64 f, .float .f64 g]] w fun e w' => e = .returned (.bool (validB dt i f g)) ∧ Ext w w' := by
 by_cases h1 : dt = 1
 ·subst h1; exact zy13 i f g hf hg w
 by_cases h2 : 2 ≤ dt ∧ dt ≤ 6
 ·have e : validB dt i f g = (rngB dt i && pzB f && pzB g) := by unfold validB; rw [if_pos (by omega)]
  rw [e]; exact zi17 dt i f g h2 hi hf hg w
 by_cases h7 : dt = 7
 ·subst h7; exact zk17 i f g hf hg w
 by_cases h8 : dt = 8
 ·subst h8; exact zj17 i f g hf hg w
 by_cases h9 : dt = 9
 ·subst h9; exact zx13 i f g hf hg w
 have e : validB dt i f g = false := by unfold validB; rw [if_neg (by omega), if_neg h7, if_neg h8, if_neg h9]
 rw [e]; exact zt19 dt i f g (by omega) w
end
section
open Go.ChangeShapes Go.RowKit FL
theorem zj {W : World} {b o : Nat} {v : Value} (hc : W.cell? ⟨b, o, none⟩ = some v) : b < W.heap.size := by
 by_cases e : b < W.heap.size
 ·exact e
 ·have e2 : W.heap[b]? = none := by simp; omega
  simp [World.cell?, e2] at hc
theorem zo17 (w : World) (b o : Nat) (h : w.heap.size ≤ b) : w.frozen? ⟨b, o, none⟩ = false := by
 have e : w.heap[b]? = none := by simp; omega
 simp [World.frozen?, e]
theorem Ext.unfrozen {w w1 : World} (h : Ext w w1) {b : Nat} (hb : w.heap.size ≤ b) (o : Nat) : w1.frozen? ⟨b, o, none⟩ = false := by
 rw [h.fz, zo17 w b o hb]
theorem ze1 {W : World} {b o q : Nat} {v x : Value} (hne : o ≠ q) (h : W.cell? ⟨b, q, none⟩ = some x) : (W.setCell ⟨b, o, none⟩ v).cell? ⟨b, q, none⟩ = some x := by
 rw [World.cell?_setCell_other _ _ _ _ (by intro e; simp only [Addr.mk.injEq] at e; omega)]; exact h
theorem zd (W : World) (cs : Array Value) (t b : Nat) (hb : b = W.heap.size) (j : Nat) : (W.alloc (χ cs t)).cell? ⟨b, j, none⟩ = cs[j]? := by
 subst hb
 rw [cell_of_row _ W.heap.size j cs t (0, 0) (heap_alloc_new W _)]
abbrev Bel (w w' : World) : Prop := Below w.heap.size w w'
theorem Bel.box {w w' : World} (x : Bel w w') {b o : Nat} {v : Value} (h : w.cell? ⟨b, o, none⟩ = some v) : w'.cell? ⟨b, o, none⟩ = some v := (Below.cell x (p := ⟨b, o, none⟩) (zj h)).trans h
theorem Bel.tr {a b c : World} (x : Bel a b) (y : Bel b c) : Bel a c := Below.trans x (Below.mono y (Below.size x))
def LawOk (w : World) (e : Ending) (w' : World) : Prop := e = .returned (.bool true) ∧ Below w.heap.size w w'
abbrev C3 := Int × Nat × Nat
def k0 : C3 := (0, 0, 0)
def CRow (w : World) (b off : Nat) (cs : List C3) : Prop := ∀ j, j < cs.length → w.cell? ⟨b, off + j * 3, none⟩ = some (O ι (cs.getD j k0).1) ∧ w.cell? ⟨b, off + j * 3 + 1, none⟩ = some (.float .f64 (cs.getD j k0).2.1) ∧ w.cell? ⟨b, off + j * 3 + 2, none⟩ = some (.float .f64 (cs.getD j k0).2.2)
def CV (w : World) (v : Value) (cs : List C3) : Prop := ∃ sa cap, v = σ sa cs.length cap ∧ (cs = [] ∨ ∃ b off, sa = some ⟨b, off, none⟩ ∧ CRow w b off cs)
def CVL (w : World) (lo : Nat) (v : Value) (cs : List C3) : Prop := ∃ sa cap, v = σ sa cs.length cap ∧ (cs = [] ∨ ∃ b off, sa = some ⟨b, off, none⟩ ∧ lo ≤ b ∧ CRow w b off cs)
theorem CVL.cv {w : World} {lo : Nat} {v : Value} {cs : List C3} (h : CVL w lo v cs) : CV w v cs := by
 obtain ⟨sa, cap, h1, h2⟩ := h
 exact ⟨sa, cap, h1, h2.imp id fun ⟨b, off, h3, _, h4⟩ => ⟨b, off, h3, h4⟩⟩
theorem CRow.keep {w w' : World} {b off : Nat} {cs : List C3} (h : CRow w b off cs) (x : Bel w w') : CRow w' b off cs := fun j hj => ⟨x.box (h j hj).1, x.box (h j hj).2.1, x.box (h j hj).2.2⟩
theorem CV.keep {w w' : World} {v : Value} {cs : List C3} (h : CV w v cs) (x : Bel w w') : CV w' v cs := by
 obtain ⟨sa, cap, h1, h2⟩ := h
 exact ⟨sa, cap, h1, h2.imp id fun ⟨b, off, h3, h4⟩ => ⟨b, off, h3, h4.keep x⟩⟩
theorem CVL.keep {w w' : World} {lo : Nat} {v : Value} {cs : List C3} (h : CVL w lo v cs) (x : Bel w w') : CVL w' lo v cs := by
 obtain ⟨sa, cap, h1, h2⟩ := h
 exact ⟨sa, cap, h1, h2.imp id fun ⟨b, off, h3, h5, h4⟩ => ⟨b, off, h3, h5, h4.keep x⟩⟩
theorem CVL.le {w : World} {lo lo' : Nat} {v : Value} {cs : List C3} (h : CVL w lo v cs) (hl : lo' ≤ lo) : CVL w lo' v cs := by
 obtain ⟨sa, cap, h1, h2⟩ := h
 exact ⟨sa, cap, h1, h2.imp id fun ⟨b, off, h3, h5, h4⟩ => ⟨b, off, h3, Nat.le_trans hl h5, h4⟩⟩
theorem CVL.far {w : World} {lo b o : Nat} {v u : Value} {cs : List C3} (h : CVL w lo v cs) (hb : b < lo) : CVL (w.setCell ⟨b, o, none⟩ u) lo v cs := by
 obtain ⟨sa, cap, h1, h2⟩ := h
 refine ⟨sa, cap, h1, h2.imp id fun ⟨c, off, h3, h5, h4⟩ => ⟨c, off, h3, h5, ?_⟩⟩
 have hk : (w.setCell ⟨b, o, none⟩ u).heap[c]? = w.heap[c]? := Below.heap_setCell _ _ _ _ (by show c ≠ b; omega)
 have hc : ∀ {q x}, w.cell? ⟨c, q, none⟩ = some x → (w.setCell ⟨b, o, none⟩ u).cell? ⟨c, q, none⟩ = some x := fun {q x} hx => (World.cell?_of_block (w := w) (a := ⟨c, q, none⟩) hk).trans hx
 exact fun j hj => ⟨hc (h4 j hj).1, hc (h4 j hj).2.1, hc (h4 j hj).2.2⟩
theorem CRow.set {w : World} {g off : Nat} {cs : List C3} (h : CRow w g off cs) (i : Nat) (hi : i < cs.length) (t : C3) :
  CRow (((w.setCell ⟨g, off + i * 3, none⟩ (O ι t.1)).setCell ⟨g, off + i * 3 + 1, none⟩ (.float .f64 t.2.1)).setCell ⟨g, off + i * 3 + 2, none⟩ (.float .f64 t.2.2)) g off (cs.set i t) := fun j hj => by
 rw [List.length_set] at hj
 have e0 : (cs.set i t).getD j k0 = if i = j then t else cs.getD j k0 := by
  rw [List.getD_eq_getElem?_getD, List.getElem?_set, List.getD_eq_getElem?_getD]
  by_cases e : i = j
  ·subst e; simp [hi]
  ·simp [e]
 rw [e0]
 obtain ⟨a, b, c⟩ := h j hj
 by_cases e : i = j
 ·subst e
  rw [if_pos rfl]
  exact ⟨ze1 (by omega) (ze1 (by omega) (World.cell?_setCell_same _ _ _ a)), ze1 (by omega) (World.cell?_setCell_same _ _ _ (ze1 (by omega) b)), World.cell?_setCell_same _ _ _ (ze1 (by omega) (ze1 (by omega) c))⟩
 ·rw [if_neg e]
  exact ⟨ze1 (by omega) (ze1 (by omega) (ze1 (by omega) a)), ze1 (by omega) (ze1 (by omega) (ze1 (by omega) b)), ze1 (by omega) (ze1 (by omega) (ze1 (by omega) c))⟩
def fillD {α : Type} (d : α) (xs : List α) (k : Nat) : List α := xs.take k ++ List.replicate (xs.length - k) d
theorem zy11 {α : Type} (d : α) (xs : List α) (k : Nat) : (fillD d xs k).length = xs.length := by
 unfold fillD; simp; omega
theorem zx11 {α : Type} (d : α) (xs : List α) (k : Nat) (hk : k < xs.length) : (fillD d xs k).set k (xs.getD k d) = fillD d xs (k + 1) := by
 unfold fillD
 apply List.ext_getElem?
 intro j
 simp only [List.getElem?_set, List.getElem?_append, List.length_append, List.length_take, List.length_replicate, List.getElem?_take, List.getElem?_replicate, List.getD_eq_getElem?_getD]
 by_cases e : k = j
 ·subst e
  have h1 : min k xs.length = k := by omega
  have h2 : min (k + 1) xs.length = k + 1 := by omega
  simp [h1, h2, hk]
  omega
 ·have h1 : min k xs.length = k := by omega
  have h2 : min (k + 1) xs.length = k + 1 := by omega
  simp only [h1, h2, e, if_false]
  by_cases h : j < k
  ·have : j < k + 1 := by omega
   simp [h, this]
  ·have h3 : ¬ j < k + 1 := by omega
   simp only [h, h3, if_false]
   by_cases h4 : j - k < xs.length - k
   ·have : j - (k + 1) < xs.length - (k + 1) := by omega
    simp [h4, this]
   ·have : ¬ j - (k + 1) < xs.length - (k + 1) := by omega
    simp [h4, this]
theorem zx8 {α : Type} (d : α) (xs : List α) : fillD d xs 0 = List.replicate xs.length d := by unfold fillD; simp
theorem zy8 {α : Type} (d : α) (xs : List α) : fillD d xs xs.length = xs := by unfold fillD; simp
theorem zh22 (w : World) (n : Nat) (t : TypeId) : CRow (w.alloc (χ (madeCells #[O ι 0, .float .f64 0, .float .f64 0] (n * 3)) t)) w.heap.size 0 (List.replicate n k0) := by
 intro j hj
 rw [List.length_replicate] at hj
 have e : (List.replicate n k0).getD j k0 = k0 := by simp [List.getD_eq_getElem?_getD, hj]
 rw [e]
 have hc := fun o => cell_of_row _ w.heap.size o _ t (0, 0) (heap_alloc_new w (χ (madeCells #[O ι 0, .float .f64 0, .float .f64 0] (n * 3)) t))
 have l0 : 0 + j * 3 < n * 3 := by omega
 have l1 : 0 + j * 3 + 1 < n * 3 := by omega
 have l2 : 0 + j * 3 + 2 < n * 3 := by omega
 refine ⟨(hc _).trans ?_, (hc _).trans ?_, (hc _).trans ?_⟩
 ·simp only [madeCells]
  rw [Array.getElem?_map, Array.getElem?_range, if_pos l0]
  simp [k0]
 ·simp only [madeCells]
  rw [Array.getElem?_map, Array.getElem?_range, if_pos l1]
  simp [k0]
 ·simp only [madeCells]
  rw [Array.getElem?_map, Array.getElem?_range, if_pos l2]
  simp [k0]
def CG (cs : List C3) : Prop := ∀ c ∈ cs, I64 c.1 ∧ B64 c.2.1 ∧ B64 c.2.2
theorem CG.at {cs : List C3} (h : CG cs) (j : Nat) (hj : j < cs.length) : I64 (cs.getD j k0).1 ∧ B64 (cs.getD j k0).2.1 ∧ B64 (cs.getD j k0).2.2 := by
 rw [List.getD_eq_getElem?_getD, List.getElem?_eq_getElem hj]
 exact h _ (List.getElem_mem hj)
abbrev St := Int × List C3
def s0 : St := (0, [])
def SRow (w : World) (b off : Nat) (ss : List St) : Prop := ∀ j, j < ss.length → w.cell? ⟨b, off + j * 2, none⟩ = some (O ι (ss.getD j s0).1) ∧ ∃ u, w.cell? ⟨b, off + j * 2 + 1, none⟩ = some u ∧ CV w u (ss.getD j s0).2
def SRowL (w : World) (lo b off : Nat) (ss : List St) : Prop := ∀ j, j < ss.length → w.cell? ⟨b, off + j * 2, none⟩ = some (O ι (ss.getD j s0).1) ∧ ∃ u, w.cell? ⟨b, off + j * 2 + 1, none⟩ = some u ∧ CVL w lo u (ss.getD j s0).2
def SV (w : World) (v : Value) (ss : List St) : Prop := ∃ sa cap, v = σ sa ss.length cap ∧ (ss = [] ∨ ∃ b off, sa = some ⟨b, off, none⟩ ∧ SRow w b off ss)
theorem SRowL.srow {w : World} {lo b off : Nat} {ss : List St} (h : SRowL w lo b off ss) : SRow w b off ss := fun j hj => by
 obtain ⟨h1, u, h2, h3⟩ := h j hj
 exact ⟨h1, u, h2, h3.cv⟩
theorem SRow.keep {w w' : World} {b off : Nat} {ss : List St} (h : SRow w b off ss) (x : Bel w w') : SRow w' b off ss := fun j hj => by
 obtain ⟨h1, u, h2, h3⟩ := h j hj
 exact ⟨x.box h1, u, x.box h2, h3.keep x⟩
theorem SRowL.keep {w w' : World} {lo b off : Nat} {ss : List St} (h : SRowL w lo b off ss) (x : Bel w w') : SRowL w' lo b off ss := fun j hj => by
 obtain ⟨h1, u, h2, h3⟩ := h j hj
 exact ⟨x.box h1, u, x.box h2, h3.keep x⟩
theorem SV.keep {w w' : World} {v : Value} {ss : List St} (h : SV w v ss) (x : Bel w w') : SV w' v ss := by
 obtain ⟨sa, cap, h1, h2⟩ := h
 exact ⟨sa, cap, h1, h2.imp id fun ⟨b, off, h3, h4⟩ => ⟨b, off, h3, h4.keep x⟩⟩
theorem SRowL.set {w : World} {lo b off : Nat} {ss : List St} (h : SRowL w lo b off ss) (hb : b < lo) (i : Nat) (hi : i < ss.length) (dt : Int) (u : Value) (cs : List C3) (hu : CVL w lo u cs) :
  SRowL ((w.setCell ⟨b, off + i * 2, none⟩ (O ι dt)).setCell ⟨b, off + i * 2 + 1, none⟩ u) lo b off (ss.set i (dt, cs)) := fun j hj => by
 rw [List.length_set] at hj
 have e0 : (ss.set i (dt, cs)).getD j s0 = if i = j then (dt, cs) else ss.getD j s0 := by
  rw [List.getD_eq_getElem?_getD, List.getElem?_set, List.getD_eq_getElem?_getD]
  by_cases e : i = j
  ·subst e; simp [hi]
  ·simp [e]
 rw [e0]
 obtain ⟨a, u', c, d⟩ := h j hj
 by_cases e : i = j
 ·subst e
  rw [if_pos rfl]
  exact ⟨ze1 (by omega) (World.cell?_setCell_same _ _ _ a), u, World.cell?_setCell_same _ _ _ (ze1 (by omega) c), (hu.far hb).far hb⟩
 ·rw [if_neg e]
  exact ⟨ze1 (by omega) (ze1 (by omega) a), u', ze1 (by omega) (ze1 (by omega) c), (d.far hb).far hb⟩
theorem SRowL.far {w : World} {lo b off c o : Nat} {u : Value} {ss : List St} (h : SRowL w lo b off ss) (hc : c ≠ b) (hl : c < lo) : SRowL (w.setCell ⟨c, o, none⟩ u) lo b off ss := fun j hj => by
 have hk : (w.setCell ⟨c, o, none⟩ u).heap[b]? = w.heap[b]? := Below.heap_setCell _ _ _ _ (by show b ≠ c; omega)
 have hcc : ∀ {q x}, w.cell? ⟨b, q, none⟩ = some x → (w.setCell ⟨c, o, none⟩ u).cell? ⟨b, q, none⟩ = some x := fun {q x} hx => (World.cell?_of_block (w := w) (a := ⟨b, q, none⟩) hk).trans hx
 obtain ⟨h1, v, h2, h3⟩ := h j hj
 exact ⟨hcc h1, v, hcc h2, h3.far hl⟩
theorem zs20 (w : World) (lo n : Nat) (t : TypeId) : SRowL (w.alloc (χ (madeCells #[O ι 0, σ none 0 0] (n * 2)) t)) lo w.heap.size 0 (List.replicate n s0) := by
 intro j hj
 rw [List.length_replicate] at hj
 have e : (List.replicate n s0).getD j s0 = s0 := by simp [List.getD_eq_getElem?_getD, hj]
 rw [e]
 have hc := fun o => cell_of_row _ w.heap.size o _ t (0, 0) (heap_alloc_new w (χ (madeCells #[O ι 0, σ none 0 0] (n * 2)) t))
 have l0 : 0 + j * 2 < n * 2 := by omega
 have l1 : 0 + j * 2 + 1 < n * 2 := by omega
 refine ⟨(hc _).trans ?_, σ none 0 0, (hc _).trans ?_, ⟨none, 0, rfl, Or.inl rfl⟩⟩
 ·simp only [madeCells]
  rw [Array.getElem?_map, Array.getElem?_range, if_pos l0]
  simp [s0]
 ·simp only [madeCells]
  rw [Array.getElem?_map, Array.getElem?_range, if_pos l1]
  simp
theorem SRowL.sv {w : World} {lo b n cap : Nat} {ss : List St} (h : SRowL w lo b 0 ss) (hn : n = ss.length) : SV w (σ (some ⟨b, 0, none⟩) n cap) ss := ⟨_, _, by rw [hn], Or.inr ⟨b, 0, rfl, h.srow⟩⟩
def SG (ss : List St) : Prop := ∀ s ∈ ss, CG s.2
theorem SG.at {ss : List St} (h : SG ss) (j : Nat) (hj : j < ss.length) : CG (ss.getD j s0).2 := by
 rw [List.getD_eq_getElem?_getD, List.getElem?_eq_getElem hj]
 exact h _ (List.getElem_mem hj)
def SL (ss : List St) (n : Nat) : Prop := ss.length ≤ n ∧ ∀ s ∈ ss, s.2.length ≤ n
theorem SL.at {ss : List St} {n : Nat} (h : SL ss n) (j : Nat) (hj : j < ss.length) : (ss.getD j s0).2.length ≤ n := by
 rw [List.getD_eq_getElem?_getD, List.getElem?_eq_getElem hj]
 exact h.2 _ (List.getElem_mem hj)
def vStore (s : St) : Bool := isDtB s.1 && decide (s.2.length ≤ 4096) && s.2.all fun c => validB s.1 c.1 c.2.1 c.2.2
def vHeap (ss : List St) : Bool := decide (ss.length ≤ 64) && ss.all vStore
theorem zg9 {α : Type} (d : α) {p : α → Bool} {xs : List α} {k : Nat} (hk : k < xs.length) (h : p (xs.getD k d) = false) : xs.all p = false := by
 rw [List.all_eq_false]
 refine ⟨xs.getD k d, ?_, by rw [h]; simp⟩
 rw [List.getD_eq_getElem?_getD, List.getElem?_eq_getElem hk]
 exact List.getElem_mem hk
theorem zg10 {α : Type} (d : α) {p : α → Bool} {xs : List α} (h : ∀ j, j < xs.length → p (xs.getD j d) = true) : xs.all p = true := by
 rw [List.all_eq_true]
 intro x hx
 obtain ⟨j, hj, rfl⟩ := List.getElem_of_mem hx
 have := h j hj
 rw [List.getD_eq_getElem?_getD, List.getElem?_eq_getElem hj] at this
 exact this
def SB (ss : List St) : Prop := ss.length ≤ 9223372036854775807 ∧ ∀ s ∈ ss, s.2.length ≤ 9223372036854775807
theorem SB.at {ss : List St} (h : SB ss) (j : Nat) (hj : j < ss.length) : (ss.getD j s0).2.length ≤ 9223372036854775807 := by
 rw [List.getD_eq_getElem?_getD, List.getElem?_eq_getElem hj]
 exact h.2 _ (List.getElem_mem hj)
def SzOk (left : Int) (good : Prop) (e : Ending) : Prop := ∃ r : Int, e = .returned (O ι r) ∧ (r < 0 ∨ (0 ≤ r ∧ r ≤ left ∧ good))
theorem zw12 (w : World) (sa : Option Addr) (n cap : Nat) (left : Int) (hl : 0 ≤ left ∧ left ≤ 1048576) (hn : (n : Int) ≤ 9223372036854775807) :
  Calls Tryz.prog 102 #[σ sa n cap, O ι left] w fun e w' => SzOk left (n ≤ 1048576) e ∧ w' = w := by
 by_cases h : left - (n : Int) < 0
 ·go_enter Tryz.func102, Tryz.ntmps102
  go_wp2
  go_ret
  exact ⟨⟨_, rfl, Or.inl (by omega)⟩, rfl⟩
 ·go_enter Tryz.func102, Tryz.ntmps102
  go_wp2
  go_ret
  exact ⟨⟨_, rfl, Or.inr ⟨by omega, by omega, by omega⟩⟩, rfl⟩
theorem zv12 (w : World) (dt : Int) (sa : Option Addr) (n cap : Nat) (left : Int) (hl : 0 ≤ left ∧ left ≤ 1048576) (hn : (n : Int) ≤ 9223372036854775807) :
  Calls Tryz.prog 63 #[γ #[O ι dt, σ sa n cap], O ι left] w fun e w' => SzOk left (n ≤ 1048576) e ∧ Ext w w' := by
 have x0 : Hid (Ext w (w.alloc (χ #[O ι dt, σ sa n cap] 118))) := (Ext.refl w).alloc _ _
 go_enter Tryz.func63, Tryz.ntmps63
 go_wp2_with fail
 refine (zw12 _ sa n cap left hl hn).mono ?_
 rintro e w1 ⟨⟨r, rfl, hr⟩, rfl⟩
 rcases hr with hr | ⟨h1, h2, h3⟩
 ·go_wp2
  go_ret
  exact ⟨⟨_, rfl, Or.inl (by omega)⟩, x0.out⟩
 ·have hr : ¬ r < 0 := by omega
  go_wp2
  go_ret
  exact ⟨⟨_, rfl, Or.inr ⟨by omega, by omega, h3⟩⟩, x0.out⟩
theorem zk10 {w : World} {v : Value} {ss : List St} (h : SV w v ss) (hb : SB ss) (left : Int) (hl : 0 ≤ left ∧ left ≤ 1048576) :
  Calls Tryz.prog 23 #[v, O ι left] w fun e w' => SzOk left (SL ss 1048576) e ∧ Ext w w' := by
 obtain ⟨sa, cap, rfl, hx⟩ := h
 have HX := hide hx
 have hb1 := hb.1
 clear hx
 by_cases h0 : left - (ss.length : Int) < 0
 ·go_enter Tryz.func23, Tryz.ntmps23
  go_wp2
  go_ret
  exact ⟨⟨_, rfl, Or.inl (by omega)⟩, Ext.refl w⟩
 ·have h0' : ¬ left - (ss.length : Int) < 0 := h0
  have hsl : ss.length ≤ 1048576 := by omega
  go_enter Tryz.func23, Tryz.ntmps23
  go_wp2_with fail
  go_loopw [1, 5] (fun l i wr => ∃ (k : Nat) (x : Int), i = O ι k ∧ l = O ι x ∧ k ≤ ss.length ∧ (0 ≤ x ∧ x ≤ left) ∧ Hid (∀ j, j < k → (ss.getD j s0).2.length ≤ 1048576) ∧ Ext w wr) (fun l i _ => ss.length - (intOf i).toNat)
  case atStart => exact ⟨0, _, rfl, rfl, by omega, ⟨by omega, by omega⟩, fun j hj => absurd hj (Nat.not_lt_zero _), Ext.refl w⟩
  case round =>
   obtain ⟨k, x, rfl, rfl, hk, hx, hv, hw⟩ := hrel
   have HW := hide hw
   clear hw
   by_cases hlt : k < ss.length
   ·rcases HX.out with h1 | ⟨b, off, rfl, hrow⟩
    ·rw [h1] at hlt; simp at hlt
    obtain ⟨q0, u, q1, c1⟩ := (hrow.keep HW.out.bl) k hlt
    have hbk := hb.at k hlt
    have hk0 : (0 : Int) ≤ (k : Int) := Int.natCast_nonneg _
    have hk1 : (k : Int) < (ss.length : Int) := by omega
    have hvk : Hid ((ss.getD k s0).2.length ≤ 1048576 → ∀ j, j < k + 1 → (ss.getD j s0).2.length ≤ 1048576) := fun hh j hj => by
     by_cases e : j = k
     ·rw [e]; exact hh
     ·exact hv.out j (by omega)
    generalize (ss.getD k s0).1 = A at q0
    generalize (ss.getD k s0).2 = cs at c1 hbk hvk
    clear hrow
    obtain ⟨s1, d1, rfl, _⟩ := c1
    go_wp2_with fail
    refine (zv12 _ A s1 cs.length d1 x ⟨hx.1, by omega⟩ (by omega)).mono ?_
    rintro e w2 ⟨⟨r, rfl, hr⟩, x2⟩
    have HW2 := hide (HW.out.trans x2)
    clear x2
    rcases hr with hr | ⟨r1, r2, r3⟩
    ·go_wp2
     go_ret
     exact ⟨⟨_, rfl, Or.inl (by omega)⟩, HW2.out⟩
    ·have hr : ¬ r < 0 := by omega
     go_wp2
     go_roundw
     ·exact ⟨k + 1, r, by go_num, rfl, by omega, ⟨by omega, by omega⟩, hvk.out r3, HW2.out⟩
     ·simp [intOf]; omega
   ·have hkk : k = ss.length := by omega
    subst hkk
    go_wp2
    go_ret
    refine ⟨⟨_, rfl, Or.inr ⟨by omega, by omega, hsl, fun s hs => ?_⟩⟩, HW.out⟩
    obtain ⟨j, hj, rfl⟩ := List.getElem_of_mem hs
    have := hv.out j hj
    rw [List.getD_eq_getElem?_getD, List.getElem?_eq_getElem hj] at this
    exact this
theorem ze16 {w : World} {v : Value} {ss : List St} (h : SV w v ss) (hb : SB ss) (left : Int) (hl : 0 ≤ left ∧ left ≤ 1048576) :
  Calls Tryz.prog 6 #[γ #[v], O ι left] w fun e w' => SzOk left (SL ss 1048576) e ∧ Ext w w' := by
 obtain ⟨sa, cap, rfl, hx⟩ := h
 have x0 : Ext w (w.alloc (χ #[σ sa ss.length cap] 24)) := (Ext.refl w).alloc _ _
 have h : SV w (σ sa ss.length cap) ss := ⟨sa, cap, rfl, hx⟩
 have HS := hide (zk10 (h.keep x0.bl) hb left hl)
 have HX := hide x0
 clear hx h x0
 go_enter Tryz.func6, Tryz.ntmps6
 go_wp2_with fail
 refine HS.out.mono ?_
 rintro e w1 ⟨⟨r, rfl, hr⟩, x1⟩
 have HX1 := hide (HX.out.trans x1)
 clear x1
 rcases hr with hr | ⟨h1, h2, h3⟩
 ·go_wp2
  go_ret
  exact ⟨⟨_, rfl, Or.inl (by omega)⟩, HX1.out⟩
 ·have hr : ¬ r < 0 := by omega
  go_wp2
  go_ret
  exact ⟨⟨_, rfl, Or.inr ⟨by omega, by omega, h3⟩⟩, HX1.out⟩
end
section
open Go.ChangeShapes Go.WideShapes Go.ChangeAt Go.RowKit Go.Deep FL
theorem zi27 : ownKnob Tryz.prog.godebug = none := by kernel_rfl
theorem zx9 : laidOutB Tryz.prog = true := by kernel_rfl
theorem zj12 : Tryz.prog.cellsOf 2 = 1 := by kernel_rfl
theorem zb25 : Tryz.prog.cellsOf 64 = 1 := by kernel_rfl
theorem zl22 : Tryz.prog.cellsOf 116 = 1 := by kernel_rfl
theorem zg25 : Tryz.prog.cellsOf 22 = 1 := by kernel_rfl
theorem zk22 : Tryz.prog.cellsOf 181 = 3 := by kernel_rfl
theorem za25 : Tryz.prog.cellsOf 118 = 2 := by kernel_rfl
theorem zf25 : Tryz.prog.cellsOf 24 = 1 := by kernel_rfl
theorem zs25 {i : Int} (h : (Lit.int .i64 i).wf = true) : I64 i := by
 have := bounds_i64 h
 unfold I64; omega
theorem zn22 {f : Nat} (h : (Lit.float .f64 f).wf = true) : B64 f := by
 simpa [Lit.wf, B64] using h
theorem zi13 {w : World} {a : Addr} {v : Value} (h : w.cell? a = some v) : a.spot = none := by
 unfold World.cell? at h
 split at h
 ·cases e : a.spot with
  | none => rfl
  | some x => rw [e] at h; simp at h
 ·cases h
section
variable {H : Type} {enc : TypeId × Value → H} {W : World} {base : Nat} {spare : Nat → Bool} {held : Bool}
theorem zf8 {k : FloatKind} {fuel : Nat} {t : TypeId} {cs : List Value} {x : DataW H × List MemPlace} (ht : Tryz.prog.underlying t = some (.float k)) (h : DataW.trod enc Tryz.prog W base spare held fuel t cs = some x) : ∃ n, cs = [.float k n] ∧ x = (.lit (.float k n), []) ∧ (Lit.float k n).wf = true := by
 cases fuel with
 | zero => simp [DataW.trod] at h
 | succ n =>
  unfold DataW.trod at h
  rw [ht] at h
  split at h <;> simp_all
theorem zj22 {u : Value} {n : Nat} {y : DataW H × List MemPlace} (h : DataW.trod enc Tryz.prog W 0 (fun _ => true) true n 116 [u] = some y) : ∃ cs : List C3, CV W u cs ∧ CG cs ∧ cs.length ≤ 9223372036854775807 := by
 rcases open_slice Tryz.underlying116 h with ⟨hcs, hx⟩ | ⟨a, len, cap, m, n', D, Pl, hcs, _, hl, hm, hmm, hx, hi⟩
 ·simp at hcs
  subst hcs
  exact ⟨[], ⟨none, 0, rfl, Or.inl rfl⟩, fun c hc => by simp at hc, by simp⟩
 ·simp at hcs
  subst hcs
  simp only [if_true] at hmm
  subst hmm
  have each : ∀ i, i < len → ∃ q : C3, (W.cell? (a.add (i * 3)) = some (O ι q.1) ∧ W.cell? ((a.add (i * 3)).add 1) = some (.float .f64 q.2.1) ∧ W.cell? ((a.add (i * 3)).add 2) = some (.float .f64 q.2.2)) ∧ I64 q.1 ∧ B64 q.2.1 ∧ B64 q.2.2 := fun i hlt => by
   obtain ⟨cs', h1, h2⟩ := hi i (by omega)
   rw [zk22] at h1
   obtain ⟨_, hlen, hcell⟩ := World.cells?_some h1
   obtain ⟨y0, y1, y2, k, _, _, g0, g1, g2⟩ := trod_struct3 Tryz.underlying181 h2
   match cs', hlen with
   | [v0, v1, v2], _ =>
    simp [zj12, zb25] at g0 g1 g2
    obtain ⟨x0, e0, _, w0⟩ := DataW.trod_int Tryz.underlying2 g0
    obtain ⟨x1, e1, _, w1⟩ := zf8 Tryz.underlying64 g1
    obtain ⟨x2, e2, _, w2⟩ := zf8 Tryz.underlying64 g2
    simp at e0 e1 e2
    subst e0 e1 e2
    have c0 := hcell 0 (by omega)
    have c1 := hcell 1 (by omega)
    have c2 := hcell 2 (by omega)
    have z : (a.add (i * 3)).add 0 = a.add (i * 3) := by simp [Addr.add]
    rw [z] at c0
    exact ⟨(x0, x1, x2), ⟨by simpa using c0, by simpa using c1, by simpa using c2⟩, zs25 w0, zn22 w1, zn22 w2⟩
  obtain ⟨f, hfq⟩ := choose_lt each
  have hlen : ((List.range len).map f).length = len := by simp
  refine ⟨(List.range len).map f, ⟨some a, _, by rw [hlen], ?_⟩, fun c hc => ?_, by rw [hlen]; unfold maxLen at hm; omega⟩
  ·by_cases e : len = 0
   ·subst e; exact Or.inl rfl
   ·have hs : a.spot = none := zi13 (by have := (hfq 0 (by omega)).1.1; simpa [Addr.add] using this)
    obtain ⟨b, off, spot⟩ := a
    simp only at hs
    subst hs
    refine Or.inr ⟨b, off, rfl, fun j hj => ?_⟩
    rw [hlen] at hj
    have e2 : ((List.range len).map f).getD j k0 = f j := by simp [List.getD_eq_getElem?_getD, hj]
    rw [e2]
    obtain ⟨⟨c0, c1, c2⟩, _⟩ := hfq j hj
    rw [add_add] at c1 c2
    rw [Addr.add_lit] at c0 c1 c2
    exact ⟨c0, by rw [Nat.add_assoc]; exact c1, by rw [Nat.add_assoc]; exact c2⟩
  ·simp only [List.mem_map, List.mem_range] at hc
   obtain ⟨i, hi', rfl⟩ := hc
   exact (hfq i hi').2
theorem zc18 {u : Value} {n : Nat} {y : DataW H × List MemPlace} (h : DataW.trod enc Tryz.prog W 0 (fun _ => true) true n 22 [u] = some y) : ∃ ss : List St, SV W u ss ∧ SB ss ∧ SG ss := by
 rcases open_slice Tryz.underlying22 h with ⟨hcs, hx⟩ | ⟨a, len, cap, m, n', D, Pl, hcs, _, hl, hm, hmm, hx, hi⟩
 ·simp at hcs
  subst hcs
  exact ⟨[], ⟨none, 0, rfl, Or.inl rfl⟩, ⟨by simp, fun s hs => by simp at hs⟩, fun s hs => by simp at hs⟩
 ·simp at hcs
  subst hcs
  simp only [if_true] at hmm
  subst hmm
  have each : ∀ i, i < len → ∃ q : St, (W.cell? (a.add (i * 2)) = some (O ι q.1) ∧ ∃ u, W.cell? ((a.add (i * 2)).add 1) = some u ∧ CV W u q.2) ∧ CG q.2 ∧ q.2.length ≤ 9223372036854775807 := fun i hlt => by
   obtain ⟨cs', h1, h2⟩ := hi i (by omega)
   rw [za25] at h1
   obtain ⟨_, hlen, hcell⟩ := World.cells?_some h1
   obtain ⟨y0, y1, k, _, _, g0, g1⟩ := trod_struct2 Tryz.underlying118 h2
   match cs', hlen with
   | [v0, v1], _ =>
    simp [zj12, zl22] at g0 g1
    obtain ⟨x0, e0, _, w0⟩ := DataW.trod_int Tryz.underlying2 g0
    simp at e0
    subst e0
    obtain ⟨cs, hcv, hcg, hcl⟩ := zj22 g1
    have c0 := hcell 0 (by omega)
    have c1 := hcell 1 (by omega)
    have z : (a.add (i * 2)).add 0 = a.add (i * 2) := by simp [Addr.add]
    rw [z] at c0
    exact ⟨(x0, cs), ⟨by simpa using c0, v1, by simpa using c1, hcv⟩, hcg, hcl⟩
  obtain ⟨f, hfq⟩ := choose_lt each
  have hlen : ((List.range len).map f).length = len := by simp
  refine ⟨(List.range len).map f, ⟨some a, _, by rw [hlen], ?_⟩, ⟨by rw [hlen]; unfold maxLen at hm; omega, fun s hs => ?_⟩, fun s hs => ?_⟩
  ·by_cases e : len = 0
   ·subst e; exact Or.inl rfl
   ·have hs : a.spot = none := zi13 (by have := (hfq 0 (by omega)).1.1; simpa [Addr.add] using this)
    obtain ⟨b, off, spot⟩ := a
    simp only at hs
    subst hs
    refine Or.inr ⟨b, off, rfl, fun j hj => ?_⟩
    rw [hlen] at hj
    have e2 : ((List.range len).map f).getD j s0 = f j := by simp [List.getD_eq_getElem?_getD, hj]
    rw [e2]
    obtain ⟨⟨c0, u, c1, c2⟩, _⟩ := hfq j hj
    rw [add_add] at c1
    rw [Addr.add_lit] at c0 c1
    exact ⟨c0, u, by rw [Nat.add_assoc]; exact c1, c2⟩
  ·simp only [List.mem_map, List.mem_range] at hs
   obtain ⟨i, hi', rfl⟩ := hs
   exact (hfq i hi').2.2
  ·simp only [List.mem_map, List.mem_range] at hs
   obtain ⟨i, hi', rfl⟩ := hs
   exact (hfq i hi').2.1
theorem zp24 {b0 : Nat} {v : Value} {d : DataW H} {p : List MemPlace} (hv : Value.okWide Tryz.prog W .any b0 24 v)
  (h : DataW.Trod enc Tryz.prog W 0 (fun _ => true) true 24 v d p) : ∃ (u : Value) (ss : List St), v = γ #[u] ∧ SV W u ss ∧ SB ss ∧ SG ss := by
 obtain ⟨cs, rfl, hsz⟩ := okWide_struct Tryz.underlying24 hv
 rw [zf25] at hsz
 obtain ⟨c0, rfl⟩ : ∃ c0, cs = #[c0] := by
  obtain ⟨l⟩ := cs
  match l, hsz with
  | [c0], _ => exact ⟨c0, rfl⟩
 obtain ⟨fuel, hf⟩ := h
 obtain ⟨y0, n, _, _, h0⟩ := trod_struct1 Tryz.underlying24 hf
 simp [Value.cells, zg25] at h0
 obtain ⟨ss, h1, h2, h3⟩ := zc18 h0
 exact ⟨c0, ss, rfl, h1, h2, h3⟩
end
end
section
open Go.ChangeShapes Go.RowKit
def Hid (p : Prop) : Prop := p
theorem Hid.out {p : Prop} (h : Hid p) : p := h
structure Mut (b : Nat) (w w' : World) : Prop where
 os : w'.os = w.os
 tape : w'.tape = w.tape
 output : w'.output = w.output
 size : w.heap.size ≤ w'.heap.size
 block : ∀ k, k < w.heap.size → k ≠ b → w'.heap[k]? = w.heap[k]?
 fz : ∀ a, w'.frozen? a = w.frozen? a
theorem Mut.refl (b : Nat) (w : World) : Mut b w w := ⟨rfl, rfl, rfl, Nat.le_refl _, fun _ _ _ => rfl, fun _ => rfl⟩
theorem Mut.trans {b : Nat} {a c d : World} (h : Mut b a c) (k : Mut b c d) : Mut b a d :=
 ⟨k.os.trans h.os, k.tape.trans h.tape, k.output.trans h.output, Nat.le_trans h.size k.size, fun i hi hn => (k.block i (Nat.lt_of_lt_of_le hi h.size) hn).trans (h.block i hi hn), fun a => (k.fz a).trans (h.fz a)⟩
theorem Ext.mut {a c : World} (h : Ext a c) (b : Nat) : Mut b a c :=
 ⟨h.bl.os, h.bl.tape, h.bl.output, h.bl.size, fun i hi _ => h.bl.block i hi, h.fz⟩
theorem Mut.setCell {b : Nat} {a c : World} (h : Mut b a c) (o : Nat) (v : Value) : Mut b a (c.setCell ⟨b, o, none⟩ v) :=
 h.trans ⟨rfl, rfl, rfl, by simp [World.setCell], fun k hk hn => Below.heap_setCell _ _ _ _ hn, fun x => World.frozen?_setCell _ _ _ _⟩
theorem Mut.box {b : Nat} {W w1 : World} (h : Mut b W w1) {k o : Nat} {v : Value} (hk : k ≠ b) (hc : W.cell? ⟨k, o, none⟩ = some v) : w1.cell? ⟨k, o, none⟩ = some v := by
 rw [← hc]
 exact World.cell?_of_block (w := W) (a := ⟨k, o, none⟩) (h.block k (zj hc) hk)
theorem Mut.ext {b : Nat} {a c d : World} (h : Mut b c d) (x : Ext a c) (hb : a.heap.size ≤ b) : Ext a d :=
 ⟨x.bl.trans ⟨h.os, h.tape, h.output, h.size, fun k hk => h.block k (Nat.lt_of_lt_of_le hk x.bl.size) (by omega)⟩, fun y => (h.fz y).trans (x.fz y)⟩
def Row (w : World) (b off : Nat) (xs : List Int) : Prop := ∀ j, j < xs.length → w.cell? ⟨b, off + j, none⟩ = some (O ι (xs.getD j 0))
def Ints (w : World) (v : Value) (xs : List Int) : Prop := ∃ sa cap, v = σ sa xs.length cap ∧ (xs = [] ∨ ∃ b off, sa = some ⟨b, off, none⟩ ∧ Row w b off xs)
theorem Row.ext {w w' : World} {b off : Nat} {xs : List Int} (h : Row w b off xs) (x : Ext w w') : Row w' b off xs := fun j hj => x.box (h j hj)
theorem Row.mut {w w' : World} {b off c : Nat} {xs : List Int} (h : Row w b off xs) (x : Mut c w w') (hb : b ≠ c) : Row w' b off xs := fun j hj => x.box hb (h j hj)
theorem Ints.ext {w w' : World} {v : Value} {xs : List Int} (h : Ints w v xs) (x : Ext w w') : Ints w' v xs := by
 obtain ⟨sa, cap, rfl, h⟩ := h
 refine ⟨sa, cap, rfl, ?_⟩
 rcases h with h | ⟨b, off, h1, h2⟩
 ·exact Or.inl h
 ·exact Or.inr ⟨b, off, h1, h2.ext x⟩
theorem Row.ints {w : World} {b off cap n : Nat} {xs : List Int} (h : Row w b off xs) (hn : n = xs.length) : Ints w (σ (some ⟨b, off, none⟩) n cap) xs := ⟨_, _, by rw [hn], Or.inr ⟨b, off, rfl, h⟩⟩
theorem Row.set {w : World} {b off k : Nat} {xs : List Int} (h : Row w b off xs) (hk : k < xs.length) (x : Int) : Row (w.setCell ⟨b, off + k, none⟩ (O ι x)) b off (xs.set k x) :=
 ints_set h hk
theorem za22 : (Tryz.prog.info? 2).map (fun i => (i.zero, i.size, i.bytes)) = some (some (O ι 0), 1, 8) := by kernel_rfl
end
section
open Go.ChangeShapes Go.WideShapes Go.ChangeAt Go.RowKit Go.Deep FL
theorem ze25 : Tryz.prog.cellsOf 25 = 1 := by kernel_rfl
theorem zd25 : Tryz.prog.cellsOf 27 = 3 := by kernel_rfl
theorem zc25 : Tryz.prog.cellsOf 29 = 4 := by kernel_rfl
section
variable {H : Type} {enc : TypeId × Value → H} {W : World}
theorem zq19 {u : Value} {n : Nat} {y : DataW H × List MemPlace} (h : DataW.trod enc Tryz.prog W 0 (fun _ => true) true n 25 [u] = some y) : ∃ xs : List Int, Ints W u xs ∧ xs.length ≤ 9223372036854775807 := by
 rcases open_ints Tryz.underlying25 Tryz.underlying2 zj12 h with ⟨hcs, hx⟩ | ⟨a, len, cap, zy27, hcs, _, hl, hm, hz, hx, hcell, hwz⟩
 ·simp at hcs
  subst hcs
  exact ⟨[], ⟨none, 0, rfl, Or.inl rfl⟩, by simp⟩
 ·simp at hcs
  subst hcs
  simp only [if_true] at hz
  have hlen : (zy27.take len).length = len := by rw [List.length_take]; omega
  refine ⟨zy27.take len, ⟨some a, cap, by rw [hlen], ?_⟩, by rw [hlen]; unfold maxLen at hm; omega⟩
  by_cases e : len = 0
  ·subst e; exact Or.inl (by simp)
  ·have hs : a.spot = none := zi13 (by have := hcell 0 (by omega); simpa [Addr.add] using this)
   obtain ⟨b, off, spot⟩ := a
   simp only at hs
   subst hs
   refine Or.inr ⟨b, off, rfl, fun j hj => ?_⟩
   rw [hlen] at hj
   have h1 := hcell j (by omega)
   rw [Addr.add_lit] at h1
   rw [h1, List.getD_eq_getElem?_getD, List.getD_eq_getElem?_getD, List.getElem?_take, if_pos hj]
theorem zx15 {b0 : Nat} {v : Value} {d : DataW H} {p : List MemPlace} (hv : Value.okWide Tryz.prog W .any b0 29 v)
  (h : DataW.Trod enc Tryz.prog W 0 (fun _ => true) true 29 v d p) : ∃ (st : Int) (vS vT : Value) (off : Int) (xs sv : List Int), v = γ #[O ι st, vS, vT, O ι off] ∧ Ints W vS xs ∧ Ints W vT sv ∧ xs.length ≤ 9223372036854775807 ∧ sv.length ≤ 9223372036854775807 := by
 obtain ⟨cs, rfl, hsz⟩ := okWide_struct Tryz.underlying29 hv
 rw [zc25] at hsz
 obtain ⟨c0, c1, c2, c3, rfl⟩ : ∃ c0 c1 c2 c3, cs = #[c0, c1, c2, c3] := by
  obtain ⟨l⟩ := cs
  match l, hsz with
  | [c0, c1, c2, c3], _ => exact ⟨c0, c1, c2, c3, rfl⟩
 obtain ⟨fuel, hf⟩ := h
 obtain ⟨y0, y1, n, _, _, h0, h1⟩ := trod_struct2 Tryz.underlying29 hf
 simp [Value.cells, zj12, zd25] at h0 h1
 obtain ⟨st, e0, _, _⟩ := DataW.trod_int Tryz.underlying2 h0
 simp at e0
 subst e0
 obtain ⟨z0, z1, z2, m, _, _, g0, g1, g2⟩ := trod_struct3 Tryz.underlying27 h1
 simp [zj12, ze25] at g0 g1 g2
 obtain ⟨off, e3, _, _⟩ := DataW.trod_int Tryz.underlying2 g2
 simp at e3
 subst e3
 obtain ⟨xs, hx, lx⟩ := zq19 g0
 obtain ⟨sv, hs, ls⟩ := zq19 g1
 exact ⟨st, c1, c2, off, xs, sv, rfl, hx, hs, lx, ls⟩
end
end
section
open Go.RowKit FL
theorem zh4 (f : Nat) (h : B64 f) : sameB f 0 = pzB f := by
 unfold B64 at h
 unfold sameB pzB
 rw [zl15]
 cases e : nanD f
 ·simp
 ·have := (zx3 f).1 e
  have h0 : f ≠ 0 := by omega
  simp [h0]
theorem za3 (f : Nat) : sameB f f = true := by
 unfold sameB; cases nanD f <;> simp
theorem zm6 (f r : Nat) (hf : B64 f) (h : SingleR f r) : sameB r f = sngB f := by
 cases hs : sngB f
 ·have h1 := zl10 hf h hs
  unfold sameB
  rw [h1.1]
  cases hr : nanD r
  ·have : r ≠ f := fun e => by
    have h2 := h1.2
    rw [e, zn3, h1.1] at h2; cases h2
   simp [this]
  ·simp
 ·rcases zh8 h hs with ⟨h1, h2⟩ | ⟨h1, h2⟩
  ·unfold sameB; rw [h1, h2]; rfl
  ·rw [h2]; exact za3 f
theorem zh9 {f r : Nat} (h : SingleR f r) : B64 r := h.1
theorem zp25 : B64 0 := by unfold B64; omega
theorem zh16 (dt i : Int) (f g : Nat) (h : 1 ≤ dt ∧ dt ≤ 6) (hf : B64 f) (hg : B64 g) (w : World) :
  Calls Tryz.prog 104 #[O ι dt, γ #[O ι i, .float .f64 f, .float .f64 g]] w fun e w' => e = .returned (.bool (rngB dt i && pzB f && pzB g)) ∧ Ext w w' := by
 have hd : isDtB dt = true := by unfold isDtB; simp; omega
 have hb0 := zp25
 have sf := zh4 f hf
 have sg := zh4 g hg
 have hk : skindL dt = 0 ∨ skindL dt = 1 := by unfold skindL; omega
 have hr : rngB dt i = (decide (lowL dt ≤ i) && decide (i ≤ highL dt)) := by
  unfold rngB
  rw [Bool.eq_iff_iff]; simp
 rw [hr]
 clear hr h
 rcases hk with hk | hk
 all_goals
  by_cases h0 : lowL dt ≤ i <;> by_cases h1 : i ≤ highL dt <;> cases h2 : pzB f
  all_goals
   rw [h2] at sf
   first | rw [decide_eq_true h0] | rw [decide_eq_false h0]
   first | rw [decide_eq_true h1] | rw [decide_eq_false h1]
   first | have d0 : decide (lowL dt ≤ i) = true := decide_eq_true h0 | (have d0 : decide (lowL dt ≤ i) = false := decide_eq_false h0)
   first | have d1 : decide (i ≤ highL dt) = true := decide_eq_true h1 | (have d1 : decide (i ≤ highL dt) = false := decide_eq_false h1)
   go_enter Tryz.func104, Tryz.ntmps104
   go_wp2_with (first | (go_at_call 103; refine (zn _ _).mono ?_; rintro e w' ⟨rfl, rfl⟩) | (go_at_call 109; refine (zv _ _).mono ?_; rintro e w' ⟨rfl, rfl⟩))
   go_quiet (first | (go_at_call 135; exact Calls.quiet_of_same (zm19 _ _)) | (go_at_call 136; exact Calls.quiet_of_same (zf3 _ _)) | (go_at_call 137; exact Calls.quiet_of_same (zx1 _ _ (by assumption) (by assumption) _)))
   go_wp2
   go_ret
   exact ⟨rfl, by repeat (first | exact Ext.refl _ | apply Ext.drewN | apply Ext.drew | apply Ext.alloc)⟩
theorem zi16 (i : Int) (f g : Nat) (hf : B64 f) (hg : B64 g) (w : World) :
  Calls Tryz.prog 104 #[O ι 8, γ #[O ι i, .float .f64 f, .float .f64 g]] w fun e w' => e = .returned (.bool (i == 0 && pzB g)) ∧ Ext w w' := by
 have hd : isDtB 8 = true := by decide
 have hk : skindL 8 = 2 := by decide
 have hb0 := zp25
 have sg := zh4 g hg
 have sf := za3 f
 cases h0 : (i == 0) <;> cases h2 : pzB g <;> rw [h2] at sg
 all_goals
  go_enter Tryz.func104, Tryz.ntmps104
  go_wp2_with (first | (go_at_call 103; refine (zn _ _).mono ?_; rintro e w' ⟨rfl, rfl⟩) | (go_at_call 109; refine (zv _ _).mono ?_; rintro e w' ⟨rfl, rfl⟩))
  go_quiet (first | (go_at_call 112; exact Calls.quiet_of_same (zt21 _ (by decide) _ _)) | (go_at_call 137; exact Calls.quiet_of_same (zx1 _ _ (by assumption) (by assumption) _)))
  go_wp2
  go_ret
  exact ⟨rfl, by repeat (first | exact Ext.refl _ | apply Ext.drewN | apply Ext.drew | apply Ext.alloc)⟩
theorem zj16 (i : Int) (f g : Nat) (hf : B64 f) (hg : B64 g) (w : World) :
  Calls Tryz.prog 104 #[O ι 7, γ #[O ι i, .float .f64 f, .float .f64 g]] w fun e w' => e = .returned (.bool (i == 0 && pzB g && sngB f)) ∧ Ext w w' := by
 have hd : isDtB 7 = true := by decide
 have hk : skindL 7 = 2 := by decide
 have hb0 := zp25
 have sg := zh4 g hg
 cases h0 : (i == 0) <;> cases h2 : pzB g <;> rw [h2] at sg
 case true.true =>
  go_enter Tryz.func104, Tryz.ntmps104
  go_wp2_with (first | (go_at_call 103; refine (zn _ _).mono ?_; rintro e w' ⟨rfl, rfl⟩) | (go_at_call 109; refine (zv _ _).mono ?_; rintro e w' ⟨rfl, rfl⟩))
  go_region_with (first | (go_at_call 112; refine (zp15 _ ?_ _).mono ?_; assumption; rintro e w' ⟨r, n, rfl, hr, rfl⟩; have hrb := zh9 hr; have sr := zm6 _ _ hf hr) | (go_at_call 137; refine (zx1 _ _ ?_ ?_ _).mono ?_; assumption; assumption; rintro e w' ⟨rfl, rfl⟩))
  all_goals go_wp2
  all_goals go_ret
  all_goals go_light
  all_goals exact ⟨zm (by simp_all), by repeat (first | exact Ext.refl _ | apply Ext.drewN | apply Ext.drew | apply Ext.alloc)⟩
 all_goals
  go_enter Tryz.func104, Tryz.ntmps104
  go_wp2_with (first | (go_at_call 103; refine (zn _ _).mono ?_; rintro e w' ⟨rfl, rfl⟩) | (go_at_call 109; refine (zv _ _).mono ?_; rintro e w' ⟨rfl, rfl⟩))
  go_quiet (first | (go_at_call 137; exact Calls.quiet_of_same (zx1 _ _ (by assumption) (by assumption) _)))
  go_wp2
  go_ret
  exact ⟨rfl, by repeat (first | exact Ext.refl _ | apply Ext.drewN | apply Ext.drew | apply Ext.alloc)⟩
theorem zz12 (i : Int) (f g : Nat) (w : World) :
  Calls Tryz.prog 104 #[O ι 9, γ #[O ι i, .float .f64 f, .float .f64 g]] w fun e w' => e = .returned (.bool (i == 0)) ∧ Ext w w' := by
 have hd : isDtB 9 = true := by decide
 have hk : skindL 9 = 3 := by decide
 go_enter Tryz.func104, Tryz.ntmps104
 go_wp2_with (first | (go_at_call 103; refine (zn _ _).mono ?_; rintro e w' ⟨rfl, rfl⟩) | (go_at_call 109; refine (zv _ _).mono ?_; rintro e w' ⟨rfl, rfl⟩))
 go_ret
 exact ⟨rfl, by repeat (first | exact Ext.refl _ | apply Ext.drewN | apply Ext.drew | apply Ext.alloc)⟩
theorem zh18 (dt i : Int) (f g : Nat) (h : ¬ (1 ≤ dt ∧ dt ≤ 9)) (w : World) :
  Calls Tryz.prog 104 #[O ι dt, γ #[O ι i, .float .f64 f, .float .f64 g]] w fun e w' => e = .returned (.bool false) ∧ Ext w w' := by
 have hd : isDtB dt = false := by unfold isDtB; simpa using h
 clear h
 go_enter Tryz.func104, Tryz.ntmps104
 go_wp2_with (first | (go_at_call 103; refine (zn _ _).mono ?_; rintro e w' ⟨rfl, rfl⟩) | (go_at_call 109; refine (zv _ _).mono ?_; rintro e w' ⟨rfl, rfl⟩))
 go_ret
 exact ⟨rfl, by repeat (first | exact Ext.refl _ | apply Ext.drewN | apply Ext.drew | apply Ext.alloc)⟩
theorem zu (dt i : Int) (f g : Nat) (hf : B64 f) (hg : B64 g) (w : World) :
  Calls Tryz.prog 104 #[O ι dt, γ #[O ι i, .float .f64 f, .float .f64 g]] w fun e w' => e = .returned (.bool (validB dt i f g)) ∧ Ext w w' := by
 by_cases h2 : 1 ≤ dt ∧ dt ≤ 6
 ·have e : validB dt i f g = (rngB dt i && pzB f && pzB g) := by unfold validB; rw [if_pos (by omega)]
  rw [e]; exact zh16 dt i f g h2 hf hg w
 by_cases h7 : dt = 7
 ·subst h7; exact zj16 i f g hf hg w
 by_cases h8 : dt = 8
 ·subst h8; exact zi16 i f g hf hg w
 by_cases h9 : dt = 9
 ·subst h9; exact zz12 i f g w
 have e : validB dt i f g = false := by unfold validB; rw [if_neg (by omega), if_neg h7, if_neg h8, if_neg h9]
 rw [e]; exact zh18 dt i f g (by omega) w

@[go_sem] theorem unary_neg_float (k : FloatKind) (b : Nat) : Op.unary .neg (.float k b) = pure (.float k (Op.negFloat k b)) := rfl
@[go_sem] theorem unary_neg_complex (k : FloatKind) (a b : Nat) : Op.unary .neg (.complex k a b) = pure (.complex k (Op.negFloat k a) (Op.negFloat k b)) := rfl
theorem zx7 (P : Program) (w : World) (op : BinOp) (t : TypeId) (k : FloatKind) (x y : Nat) (hop : op = .add ∨ op = .sub ∨ op = .mul ∨ op = .quo) (h : floatBits op k x y = none) :
  (binOp op t (.float k x) (.float k y)).run P w = .ok (.float k ((Question.nanBits k x y).cut (w.tape w.drawn (Question.nanBits k x y)))) w.drew := by
 unfold floatBits at h
 rcases hop with rfl | rfl | rfl | rfl <;> simp only at h <;> simp [binOp, Op.floatArith, h, run_choose_drew, Question.forced]
def absF (x : Nat) : Nat := x % 9223372036854775808
def arR (op : BinOp) (x y : Nat) (w : World) : Nat := match floatBits op .f64 x y with
 | some r => r
 | none => (Question.nanBits .f64 x y).cut (w.tape w.drawn (Question.nanBits .f64 x y))
def arN (op : BinOp) (x y : Nat) : Nat := match floatBits op .f64 x y with
 | some _ => 0
 | none => 1
theorem ze15 (P : Program) (w : World) (op : BinOp) (t : TypeId) (x y : Nat) (hop : op = .add ∨ op = .sub ∨ op = .mul ∨ op = .quo) :
  (binOp op t (.float .f64 x) (.float .f64 y)).run P w = .ok (.float .f64 (arR op x y w)) (w.drewN (arN op x y)) := by
 unfold arR arN
 cases h : floatBits op .f64 x y with
 | some r => exact run_float_arith w op t .f64 x y r h
 | none => exact zx7 P w op t .f64 x y hop h
theorem zw3 (P : Program) (w : World) (t : TypeId) (x y : Nat) : (binOp .add t (.float .f64 x) (.float .f64 y)).run P w = .ok (.float .f64 (arR .add x y w)) (w.drewN (arN .add x y)) := ze15 P w .add t x y (by simp)
theorem zt3 (P : Program) (w : World) (t : TypeId) (x y : Nat) : (binOp .sub t (.float .f64 x) (.float .f64 y)).run P w = .ok (.float .f64 (arR .sub x y w)) (w.drewN (arN .sub x y)) := ze15 P w .sub t x y (by simp)
theorem zv3 (P : Program) (w : World) (t : TypeId) (x y : Nat) : (binOp .mul t (.float .f64 x) (.float .f64 y)).run P w = .ok (.float .f64 (arR .mul x y w)) (w.drewN (arN .mul x y)) := ze15 P w .mul t x y (by simp)
theorem zu3 (P : Program) (w : World) (t : TypeId) (x y : Nat) : (binOp .quo t (.float .f64 x) (.float .f64 y)).run P w = .ok (.float .f64 (arR .quo x y w)) (w.drewN (arN .quo x y)) := ze15 P w .quo t x y (by simp)
theorem zm21 (n : Int) : B64 (floatOfInt .f64 n) := by
 have := floatOfInt_wf .f64 n
 simpa [Lit.wf, B64] using this
section
attribute [local go_sem] zw3 zt3 zv3 zu3
end
end
section
open Go.RowKit FL
def aNaN : Nat := 9221120237041090561
def fop (op : BinOp) (x y : Nat) : Nat := (floatBits op .f64 x y).getD aNaN
theorem zk9 (a b : Nat) : sameB a b = true ↔ (nanD a = true ∧ nanD b = true) ∨ (nanD a = false ∧ a = b) := by
 unfold sameB
 cases ha : nanD a <;> cases hb : nanD b <;> simp
 ·intro e; rw [e, hb] at ha; cases ha
theorem zm10 {a b : Nat} (h : sameB a b = true) : sameB b a = true := by
 rw [zk9] at h ⊢
 rcases h with ⟨h1, h2⟩ | ⟨h1, rfl⟩
 ·exact .inl ⟨h2, h1⟩
 ·exact .inr ⟨h1, rfl⟩
theorem zj8 {a b c : Nat} (h : sameB a b = true) (g : sameB b c = true) : sameB a c = true := by
 rw [zk9] at h g ⊢
 rcases h with ⟨h1, h2⟩ | ⟨h1, rfl⟩
 ·rcases g with ⟨g1, g2⟩ | ⟨g1, rfl⟩
  ·exact .inl ⟨h1, g2⟩
  ·rw [h2] at g1; cases g1
 ·exact g
def SmL (l l' : List Nat) : Prop := l.length = l'.length ∧ ∀ i, sameB (l.getD i 0) (l'.getD i 0) = true
def pivN (c : Nat → Nat) (k : Nat) : Nat → Nat
 | 0 => k
 | m + 1 => if flt (absF (c (pivN c k m))) (absF (c (k + 1 + m))) then k + 1 + m else pivN c k m
def subTo (m : Nat) (rk ri : List Nat) (k t : Nat) : List Nat := ri.mapIdx fun j x => if k < j ∧ j < t then fop .sub x (fop .mul m (rk.getD j 0)) else x
def swapL {α : Type} (l : List α) (i j : Nat) (d : α) : List α := (l.set i (l.getD j d)).set j (l.getD i d)
abbrev Sys := List (List Nat) × List Nat
def Sys.at (s : Sys) (i j : Nat) : Nat := (s.1.getD i []).getD j 0
def Sys.rt (s : Sys) (i : Nat) : Nat := s.2.getD i 0
def Sys.sub (s : Sys) (i k : Nat) : Sys :=
 let m := fop .quo (s.at i k) (s.at k k)
 (s.1.set i (subTo m (s.1.getD k []) (s.1.getD i []) k s.1.length), s.2.set i (fop .sub (s.rt i) (fop .mul m (s.rt k))))
def Sys.subs (s : Sys) (k : Nat) : Nat → Sys
 | 0 => s
 | m + 1 => (s.subs k m).sub (k + 1 + m) k
def Sys.piv (s : Sys) (k : Nat) : Nat := pivN (fun i => s.at i k) k (s.1.length - k - 1)
def Sys.swap (s : Sys) (k p : Nat) : Sys := (swapL s.1 k p [], swapL s.2 k p 0)
def Sys.round (s : Sys) (k : Nat) : Option Sys :=
 let t := s.swap k (s.piv k)
 if nanD (t.at k k) || feq (t.at k k) 0 then none else some (t.subs k (s.1.length - k - 1))
def Sys.elim (s : Sys) : Nat → Option Sys
 | 0 => some s
 | k + 1 => (s.elim k).bind fun t => t.round k
def Sys.rest (s : Sys) (x : List Nat) (i : Nat) : Nat → Nat
 | 0 => s.rt i
 | m + 1 => fop .sub (s.rest x i m) (fop .mul (s.at i (i + 1 + m)) (x.getD (i + 1 + m) 0))
def Sys.back (s : Sys) : Nat → List Nat
 | 0 => List.replicate s.1.length 0
 | m + 1 => (s.back m).set (s.1.length - 1 - m) (fop .quo (s.rest (s.back m) (s.1.length - 1 - m) m) (s.at (s.1.length - 1 - m) (s.1.length - 1 - m)))
def Sys.Sq (s : Sys) (n : Nat) : Prop := s.1.length = n ∧ s.2.length = n ∧ ∀ i, i < n → (s.1.getD i []).length = n
structure FRow (w : World) (b : Nat) (L : List Nat) : Prop where
 cell : ∀ j, j < L.length → w.cell? ⟨b, j, none⟩ = some (.float .f64 (L.getD j 0))
 fz : ∀ o, w.frozen? ⟨b, o, none⟩ = false
 b64 : ∀ j, B64 (L.getD j 0)
structure MutP (p : Nat → Prop) (w w' : World) : Prop where
 os : w'.os = w.os
 tape : w'.tape = w.tape
 output : w'.output = w.output
 size : w.heap.size ≤ w'.heap.size
 block : ∀ k, k < w.heap.size → ¬ p k → w'.heap[k]? = w.heap[k]?
 fz : ∀ a, w'.frozen? a = w.frozen? a
def SmS (s t : Sys) : Prop := s.1.length = t.1.length ∧ (∀ i, SmL (s.1.getD i []) (t.1.getD i [])) ∧ SmL s.2 t.2
structure SysIn (w : World) (g h n : Nat) (bs : List Nat) (s : Sys) : Prop where
 sq : s.Sq n
 out : ∀ i, i < n → w.cell? ⟨g, i, none⟩ = some (σ (some ⟨bs.getD i 0, 0, none⟩) n n)
 ofz : ∀ o, w.frozen? ⟨g, o, none⟩ = false
 row : ∀ i, i < n → FRow w (bs.getD i 0) (s.1.getD i [])
 rt : FRow w h s.2
 nd : ∀ i j, i < n → j < n → i ≠ j → bs.getD i 0 ≠ bs.getD j 0
 gb : ∀ i, i < n → bs.getD i 0 ≠ g
 hb : ∀ i, i < n → bs.getD i 0 ≠ h
 gh : g ≠ h
 len : bs.length = n
section
attribute [local go_sem] zw3 zt3 zv3 zu3
end
end
section
open Go.RowKit FL

end
end Go.Proofs.YtfhcpicddegblaaGreat
