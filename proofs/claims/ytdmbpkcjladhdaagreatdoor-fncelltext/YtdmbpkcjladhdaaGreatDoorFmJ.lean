import Derived.Test.YtdmbpkcjladhdaaGreatDoorFmI
import Derived.Lib.AppendStr
import Derived.Lib.AppendIntMem
import Derived.OwnWalk
import Derived.BigCall
namespace Go.Proofs.YtdmbpkcjladhdaaGreatDoor
open Go.RowKit FL Ieee
set_option linter.unusedSimpArgs false
set_option linter.unusedVariables false

/-- The word of a float that has one. -/
def wordT (x : Nat) : List UInt8 :=
  if nanD x = true then [110, 97, 110]
  else if x = 0 then [48]
  else if x = 9223372036854775808 then [45, 48]
  else if x = 9218868437227405312 then [105, 110, 102]
  else if x = 18442240474082181120 then [45, 105, 110, 102]
  else []

theorem gt_max (x : Nat) (hx : B64 x) (hn : nanD x = false) : flt 9218868437227405311 x = decide (x = 9218868437227405312) := by
  unfold B64 at hx
  have h : ¬ 9218868437227405312 < x % 9223372036854775808 := fun h => by rw [(nanD_iff x).2 h] at hn; cases hn
  have n1 : nanD 9218868437227405311 = false := by decide
  have k1 : keyD 9218868437227405311 = 9218868437227405311 := by decide
  unfold flt
  rw [hn, n1, k1, keyD_eq x hx]
  split <;> simp <;> omega
theorem flip_nan (x : Nat) (hx : B64 x) (hn : nanD x = false) : nanD (FL.flip x) = false ∧ B64 (FL.flip x) := by
  unfold B64 at *
  have h : ¬ 9218868437227405312 < x % 9223372036854775808 := fun h => by rw [(nanD_iff x).2 h] at hn; cases hn
  refine ⟨?_, by unfold FL.flip; split <;> omega⟩
  cases e : nanD (FL.flip x)
  · rfl
  · have := (nanD_iff _).1 e
    unfold FL.flip at this
    split at this <;> omega
theorem flip_inf (x : Nat) (hx : B64 x) : decide (FL.flip x = 9218868437227405312) = decide (x = 18442240474082181120) := by
  unfold B64 at hx
  rw [Bool.eq_iff_iff]
  simp only [decide_eq_true_eq]
  unfold FL.flip
  split <;> omega

set_option maxHeartbeats 400000 in
theorem fw0 (x : Nat) (hx : B64 x) (h0 : nanD x = true) (w : World) :
    Calls Tryz.prog 43 #[.float .f64 x] w fun e w' => e = .returned (str [110, 97, 110]) ∧ w' = w := by
  go_enter Tryz.func43, Tryz.ntmps43
  go_wp2_with (go_at_call 42; refine (isNaN_any _ _).mono ?_; rintro e w1 ⟨rfl, hw⟩; obtain rfl := hw.symm; refine Hid.out ?_)
  refine hide ?_
  go_wp2
  go_ret
  exact ⟨rfl, rfl⟩

set_option maxHeartbeats 400000 in
theorem fw1 (x : Nat) (hx : B64 x) (h0 : nanD x = false) (h1 : flt 9218868437227405311 x = true) (w : World) :
    Calls Tryz.prog 43 #[.float .f64 x] w fun e w' => e = .returned (str [105, 110, 102]) ∧ w' = w := by
  have i1 := isInf_pos x
  rw [h1] at i1
  go_enter Tryz.func43, Tryz.ntmps43
  go_wp2_with (go_at_call 42; refine (isNaN_any _ _).mono ?_; rintro e w1 ⟨rfl, hw⟩; obtain rfl := hw.symm; refine Hid.out ?_)
  refine hide ?_
  go_wp2_with (go_at_call 59; refine (i1 _).mono ?_; rintro e w1 ⟨rfl, hw⟩; obtain rfl := hw.symm; refine Hid.out ?_)
  refine hide ?_
  go_wp2
  go_ret
  exact ⟨rfl, rfl⟩

set_option maxHeartbeats 400000 in
theorem fw2 (x : Nat) (hx : B64 x) (h0 : nanD x = false) (h1 : flt 9218868437227405311 x = false) (h2 : flt 9218868437227405311 (FL.flip x) = true) (w : World) :
    Calls Tryz.prog 43 #[.float .f64 x] w fun e w' => e = .returned (str [45, 105, 110, 102]) ∧ w' = w := by
  have i1 := isInf_pos x
  rw [h1] at i1
  have i2 := isInf_neg x hx
  rw [h2] at i2
  go_enter Tryz.func43, Tryz.ntmps43
  go_wp2_with (go_at_call 42; refine (isNaN_any _ _).mono ?_; rintro e w1 ⟨rfl, hw⟩; obtain rfl := hw.symm; refine Hid.out ?_)
  refine hide ?_
  go_wp2_with (go_at_call 59; refine (i1 _).mono ?_; rintro e w1 ⟨rfl, hw⟩; obtain rfl := hw.symm; refine Hid.out ?_)
  refine hide ?_
  go_wp2_with (go_at_call 59; refine (i2 _).mono ?_; rintro e w1 ⟨rfl, hw⟩; obtain rfl := hw.symm; refine Hid.out ?_)
  refine hide ?_
  go_wp2
  go_ret
  exact ⟨rfl, rfl⟩

set_option maxHeartbeats 400000 in
theorem fw3 (x : Nat) (hx : B64 x) (h0 : nanD x = false) (h1 : flt 9218868437227405311 x = false) (h2 : flt 9218868437227405311 (FL.flip x) = false) (h3 : pzB x = true) (w : World) :
    Calls Tryz.prog 43 #[.float .f64 x] w fun e w' => e = .returned (str [48]) ∧ w' = w := by
  have i1 := isInf_pos x
  rw [h1] at i1
  have i2 := isInf_neg x hx
  rw [h2] at i2
  have pz := isPlusZero_any x hx
  rw [h3] at pz
  go_enter Tryz.func43, Tryz.ntmps43
  go_wp2_with (go_at_call 42; refine (isNaN_any _ _).mono ?_; rintro e w1 ⟨rfl, hw⟩; obtain rfl := hw.symm; refine Hid.out ?_)
  refine hide ?_
  go_wp2_with (go_at_call 59; refine (i1 _).mono ?_; rintro e w1 ⟨rfl, hw⟩; obtain rfl := hw.symm; refine Hid.out ?_)
  refine hide ?_
  go_wp2_with (go_at_call 59; refine (i2 _).mono ?_; rintro e w1 ⟨rfl, hw⟩; obtain rfl := hw.symm; refine Hid.out ?_)
  refine hide ?_
  go_wp2_with (go_at_call 26; refine (pz _).mono ?_; rintro e w1 ⟨rfl, hw⟩; obtain rfl := hw.symm; refine Hid.out ?_)
  refine hide ?_
  go_wp2
  go_ret
  exact ⟨rfl, rfl⟩

set_option maxHeartbeats 400000 in
theorem fw4 (x : Nat) (hx : B64 x) (h0 : nanD x = false) (h1 : flt 9218868437227405311 x = false) (h2 : flt 9218868437227405311 (FL.flip x) = false) (h3 : pzB x = false) (h4 : feq x 0 = true) (w : World) :
    Calls Tryz.prog 43 #[.float .f64 x] w fun e w' => e = .returned (str [45, 48]) ∧ w' = w := by
  have i1 := isInf_pos x
  rw [h1] at i1
  have i2 := isInf_neg x hx
  rw [h2] at i2
  have pz := isPlusZero_any x hx
  rw [h3] at pz
  go_enter Tryz.func43, Tryz.ntmps43
  go_wp2_with (go_at_call 42; refine (isNaN_any _ _).mono ?_; rintro e w1 ⟨rfl, hw⟩; obtain rfl := hw.symm; refine Hid.out ?_)
  refine hide ?_
  go_wp2_with (go_at_call 59; refine (i1 _).mono ?_; rintro e w1 ⟨rfl, hw⟩; obtain rfl := hw.symm; refine Hid.out ?_)
  refine hide ?_
  go_wp2_with (go_at_call 59; refine (i2 _).mono ?_; rintro e w1 ⟨rfl, hw⟩; obtain rfl := hw.symm; refine Hid.out ?_)
  refine hide ?_
  go_wp2_with (go_at_call 26; refine (pz _).mono ?_; rintro e w1 ⟨rfl, hw⟩; obtain rfl := hw.symm; refine Hid.out ?_)
  refine hide ?_
  go_wp2
  go_ret
  exact ⟨rfl, rfl⟩

set_option maxHeartbeats 400000 in
theorem fw5 (x : Nat) (hx : B64 x) (h0 : nanD x = false) (h1 : flt 9218868437227405311 x = false) (h2 : flt 9218868437227405311 (FL.flip x) = false) (h3 : pzB x = false) (h4 : feq x 0 = false) (w : World) :
    Calls Tryz.prog 43 #[.float .f64 x] w fun e w' => e = .returned (str []) ∧ w' = w := by
  have i1 := isInf_pos x
  rw [h1] at i1
  have i2 := isInf_neg x hx
  rw [h2] at i2
  have pz := isPlusZero_any x hx
  rw [h3] at pz
  go_enter Tryz.func43, Tryz.ntmps43
  go_wp2_with (go_at_call 42; refine (isNaN_any _ _).mono ?_; rintro e w1 ⟨rfl, hw⟩; obtain rfl := hw.symm; refine Hid.out ?_)
  refine hide ?_
  go_wp2_with (go_at_call 59; refine (i1 _).mono ?_; rintro e w1 ⟨rfl, hw⟩; obtain rfl := hw.symm; refine Hid.out ?_)
  refine hide ?_
  go_wp2_with (go_at_call 59; refine (i2 _).mono ?_; rintro e w1 ⟨rfl, hw⟩; obtain rfl := hw.symm; refine Hid.out ?_)
  refine hide ?_
  go_wp2_with (go_at_call 26; refine (pz _).mono ?_; rintro e w1 ⟨rfl, hw⟩; obtain rfl := hw.symm; refine Hid.out ?_)
  refine hide ?_
  go_wp2
  go_ret
  exact ⟨rfl, rfl⟩

theorem floatWord_any (x : Nat) (hx : B64 x) (w : World) :
    Calls Tryz.prog 43 #[.float .f64 x] w fun e w' => e = .returned (str (wordT x)) ∧ w' = w := by
  unfold wordT
  by_cases h0 : nanD x = true
  · rw [if_pos h0]; exact fw0 x hx h0 w
  · have hn : nanD x = false := by simpa using h0
    rw [if_neg h0]
    have g1 := gt_max x hx hn
    have g2 := gt_max _ (flip_nan x hx hn).2 (flip_nan x hx hn).1
    rw [flip_inf x hx] at g2
    have fz := feq_zero x hx
    have p3 : pzB x = decide (x = 0) := rfl
    have p4 : mzB x = decide (x = 9223372036854775808) := rfl
    rw [p4, p3] at fz
    by_cases h1 : x = 9218868437227405312
    · rw [decide_eq_true h1] at g1
      rw [if_neg (by omega), if_neg (by omega), if_pos h1]
      exact fw1 x hx hn g1 w
    · rw [decide_eq_false h1] at g1
      by_cases h2 : x = 18442240474082181120
      · rw [decide_eq_true h2] at g2
        rw [if_neg (by omega), if_neg (by omega), if_neg h1, if_pos h2]
        exact fw2 x hx hn g1 g2 w
      · rw [decide_eq_false h2] at g2
        by_cases h3 : x = 0
        · rw [decide_eq_true h3] at p3
          rw [if_pos h3]
          exact fw3 x hx hn g1 g2 p3 w
        · rw [decide_eq_false h3] at p3 fz
          by_cases h4 : x = 9223372036854775808
          · rw [decide_eq_true h4] at fz
            rw [if_neg h3, if_pos h4]
            exact fw4 x hx hn g1 g2 p3 fz w
          · rw [decide_eq_false h4] at fz
            rw [if_neg h3, if_neg h4, if_neg h1, if_neg h2]
            exact fw5 x hx hn g1 g2 p3 fz w

theorem fltT_word (x : Nat) (hx : B64 x) : (wordT x ≠ [] ∧ fltT x = wordT x) ∨
    (wordT x = [] ∧ ∃ neg r, 0 < r ∧ r < double.infRung ∧ x = double.word neg r ∧ fltT x = (if neg then [45] else []) ++ posT r) := by
  unfold wordT fltT
  by_cases h0 : nanD x = true
  · left; rw [if_pos h0, if_pos h0]; exact ⟨by simp, rfl⟩
  · have hn : nanD x = false := by simpa using h0
    rw [if_neg h0, if_neg h0]
    by_cases h1 : x = 0
    · left; rw [if_pos h1, if_pos h1]; exact ⟨by simp, rfl⟩
    · rw [if_neg h1, if_neg h1]
      by_cases h2 : x = 9223372036854775808
      · left; rw [if_pos h2, if_pos h2]; exact ⟨by simp, rfl⟩
      · rw [if_neg h2, if_neg h2]
        by_cases h3 : x = 9218868437227405312
        · left; rw [if_pos h3, if_pos h3]; exact ⟨by simp, rfl⟩
        · rw [if_neg h3, if_neg h3]
          by_cases h4 : x = 18442240474082181120
          · left; rw [if_pos h4, if_pos h4]; exact ⟨by simp, rfl⟩
          · rw [if_neg h4, if_neg h4]
            right
            refine ⟨rfl, ?_⟩
            by_cases h5 : x < 9223372036854775808
            · have hp := fin_pos x hn h1 h3 h5
              exact ⟨false, x, hp.1, hp.2, rfl, by rw [if_pos h5]; rfl⟩
            · have hp := fin_neg x hx hn h2 h4 h5
              refine ⟨true, x - 9223372036854775808, hp.1, hp.2, ?_, by rw [if_neg h5]; rfl⟩
              show x = double.signWeight + _
              rw [dW]; omega
end Go.Proofs.YtdmbpkcjladhdaaGreatDoor
