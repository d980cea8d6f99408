import Derived.Test.YthimfolcnphfoaaDoorFmD
namespace Go.Proofs.YthimfolcnphfoaaDoor
open Go.RowKit FL Ieee
set_option linter.unusedSimpArgs false
set_option linter.unusedVariables false

/-- The text of a float. -/
def fltT (x : Nat) : List UInt8 :=
  if nanD x = true then [110, 97, 110]
  else if x = 0 then [48]
  else if x = 9223372036854775808 then [45, 48]
  else if x = 9218868437227405312 then [105, 110, 102]
  else if x = 18442240474082181120 then [45, 105, 110, 102]
  else if x < 9223372036854775808 then posT x
  else [45] ++ posT (x - 9223372036854775808)

theorem posT_len (r : Nat) (h0 : 0 < r) (hr : r < double.infRung) : (posT r).length ≤ 50 := by
  obtain ⟨hod, ho, hc, hk⟩ := big_odd r h0 hr
  have l1 := Lib.itoa_length_le ((cOf (bigR double r) : Nat) : Int) (by omega) (by omega)
  have l2 := Lib.itoa_length_le (((kOf (bigR double r) : Nat) : Int) - 1074) (by omega) (by omega)
  unfold posT
  simp only [List.length_append, List.length_cons, List.length_nil]
  omega

theorem fin_pos (x : Nat) (h0 : nanD x = false) (h1 : x ≠ 0) (h2 : x ≠ 9218868437227405312) (h3 : x < 9223372036854775808) : 0 < x ∧ x < double.infRung := by
  have h : ¬ 9218868437227405312 < x % 9223372036854775808 := fun h => by rw [(nanD_iff x).2 h] at h0; cases h0
  rw [dI]; omega
theorem fin_neg (x : Nat) (hx : B64 x) (h0 : nanD x = false) (h1 : x ≠ 9223372036854775808) (h2 : x ≠ 18442240474082181120) (h3 : ¬ x < 9223372036854775808) : 0 < x - 9223372036854775808 ∧ x - 9223372036854775808 < double.infRung := by
  have h : ¬ 9218868437227405312 < x % 9223372036854775808 := fun h => by rw [(nanD_iff x).2 h] at h0; cases h0
  unfold B64 at hx
  rw [dI]; omega

theorem fltT_len (x : Nat) (hx : B64 x) : (fltT x).length ≤ 60 := by
  unfold fltT
  by_cases h0 : nanD x = true
  · rw [if_pos h0]; decide
  · rw [if_neg h0]
    have h0' : nanD x = false := by simpa using h0
    by_cases h1 : x = 0
    · rw [if_pos h1]; decide
    · rw [if_neg h1]
      by_cases h2 : x = 9223372036854775808
      · rw [if_pos h2]; decide
      · rw [if_neg h2]
        by_cases h3 : x = 9218868437227405312
        · rw [if_pos h3]; decide
        · rw [if_neg h3]
          by_cases h4 : x = 18442240474082181120
          · rw [if_pos h4]; decide
          · rw [if_neg h4]
            by_cases h5 : x < 9223372036854775808
            · rw [if_pos h5]
              have hp := fin_pos x h0' h1 h3 h5
              have := posT_len x hp.1 hp.2
              omega
            · rw [if_neg h5]
              have hp := fin_neg x hx h0' h2 h4 h5
              have := posT_len _ hp.1 hp.2
              simp only [List.length_append, List.length_cons, List.length_nil]
              omega

theorem l1Negate_any (x : Nat) (hx : B64 x) (hn : nanD x = false) (w : World) :
    Calls Tryd.prog 23 #[.float .f64 x] w fun e w' => e = .returned (.float .f64 (flip x)) ∧ w' = w := by
  have q := fun W => run_float_arith (P := Tryd.prog) W .mul 22 .f64 13830554455654793216 x (flip x) (neg_mul x hx hn)
  go_enter Tryd.func23, Tryd.ntmps23
  go_wp2
  go_ret
  exact ⟨rfl, rfl⟩

set_option maxHeartbeats 1000000 in
theorem l6Float_nan (x : Nat) (h : nanD x = true) (w : World) :
    Calls Tryd.prog 13 #[.float .f64 x] w fun e w' => e = .returned (str [110, 97, 110]) ∧ Ext w w' := by
  go_enter Tryd.func13, Tryd.ntmps13
  go_wp2_with (go_at_call 21; refine (l1IsNaN_any x _).mono ?_; rintro e w1 ⟨rfl, hw⟩; obtain rfl := hw.symm)
  go_ret
  exact ⟨rfl, Ext.refl _⟩

set_option maxHeartbeats 1000000 in
theorem l6Float_zero (x : Nat) (h : x = 0 ∨ x = 9223372036854775808) (w : World) :
    Calls Tryd.prog 13 #[.float .f64 x] w fun e w' => e = .returned (str (if x = 0 then [48] else [45, 48])) ∧ Ext w w' := by
  have hb : B64 x := by unfold B64; omega
  have hn : nanD x = false := by rcases h with rfl | rfl <;> decide
  have f1 : feq x 0 = true := by rcases h with rfl | rfl <;> decide
  have m := l1Minus_any x hb
  rcases h with rfl | rfl
  · go_enter Tryd.func13, Tryd.ntmps13
    go_wp2_with (first | (go_at_call 21; refine (l1IsNaN_any 0 _).mono ?_; rintro e w1 ⟨rfl, hw⟩; obtain rfl := hw.symm) | (go_at_call 22; refine (m _).mono ?_; rintro e w1 ⟨rfl, hw⟩; obtain rfl := hw.symm))
    go_ret
    exact ⟨rfl, Ext.refl _⟩
  · go_enter Tryd.func13, Tryd.ntmps13
    go_wp2_with (first | (go_at_call 21; refine (l1IsNaN_any _ _).mono ?_; rintro e w1 ⟨rfl, hw⟩; obtain rfl := hw.symm) | (go_at_call 22; refine (m _).mono ?_; rintro e w1 ⟨rfl, hw⟩; obtain rfl := hw.symm))
    go_ret
    exact ⟨rfl, Ext.refl _⟩

set_option maxHeartbeats 1000000 in
theorem l6Float_inf (w : World) :
    Calls Tryd.prog 13 #[.float .f64 9218868437227405312] w fun e w' => e = .returned (str [105, 110, 102]) ∧ Ext w w' := by
  have hn : nanD 9218868437227405312 = false := by decide
  have f1 : feq 9218868437227405312 0 = false := by decide
  have f2 : flt 9218868437227405312 0 = false := by decide
  have f3 : feq 9218868437227405312 9218868437227405312 = true := by decide
  have q := fun W => run_float_arith (P := Tryd.prog) W .mul 22 .f64 9218868437227405312 4611686018427387904 9218868437227405312 (by decide)
  go_enter Tryd.func13, Tryd.ntmps13
  go_wp2_with (go_at_call 21; refine (l1IsNaN_any _ _).mono ?_; rintro e w1 ⟨rfl, hw⟩; obtain rfl := hw.symm)
  go_ret
  exact ⟨rfl, Ext.refl _⟩

/-- Not negative. -/
theorem l6Float_plus (x : Nat) (hx : x < 9223372036854775808) (w : World) :
    Calls Tryd.prog 13 #[.float .f64 x] w fun e w' => e = .returned (str (fltT x)) ∧ Ext w w' := by
  unfold fltT
  by_cases h0 : nanD x = true
  · rw [if_pos h0]; exact l6Float_nan x h0 w
  · have h0' : nanD x = false := by simpa using h0
    rw [if_neg h0]
    by_cases h1 : x = 0
    · rw [if_pos h1]
      have := l6Float_zero x (Or.inl h1) w
      rwa [if_pos h1] at this
    · rw [if_neg h1, if_neg (by omega)]
      by_cases h3 : x = 9218868437227405312
      · rw [if_pos h3]; subst h3; exact l6Float_inf w
      · rw [if_neg h3, if_neg (by omega), if_pos hx]
        have hp := fin_pos x h0' h1 h3 hx
        exact l6Float_pos x hp.1 hp.2 w

set_option maxHeartbeats 1000000 in
theorem l6Float_minus (x : Nat) (hx : B64 x) (hn : nanD x = false) (hm : 9223372036854775808 < x) (L : List UInt8) (hL : L.length ≤ 60) (c : ∀ w, Calls Tryd.prog 13 #[.float .f64 (x - 9223372036854775808)] w fun e w' => e = .returned (str L) ∧ Ext w w') (w : World) :
    Calls Tryd.prog 13 #[.float .f64 x] w fun e w' => e = .returned (str ([45] ++ L)) ∧ Ext w w' := by
  have hx2 : x < 18446744073709551616 := hx
  have hfl : flip x = x - 9223372036854775808 := by unfold FL.flip; rw [if_neg (by omega)]
  have f1 : feq x 0 = false := by
    rw [feq_zero x hx]; unfold pzB mzB; simp; omega
  have f2 : flt x 0 = true := by
    unfold flt
    rw [hn, keyD_eq x hx2, if_neg (by omega), nan_zero, key_zero]; simp; omega
  have ng := l1Negate_any x hx hn
  rw [hfl] at ng
  have k1 : ∀ W, (binOp .add 9 (.string { data := #[45] }) (str L)).run Tryd.prog W = .ok (str ([45] ++ L)) W := cat_any [45] L (by simp; omega)
  clear hfl hx2
  generalize [45] ++ L = M at *
  generalize x - 9223372036854775808 = y at *
  go_enter Tryd.func13, Tryd.ntmps13
  go_wp2_with (first | (go_at_call 21; refine (l1IsNaN_any _ _).mono ?_; rintro e w1 ⟨rfl, hw⟩; obtain rfl := hw.symm) | (go_at_call 23; refine (ng _).mono ?_; rintro e w1 ⟨rfl, hw⟩; obtain rfl := hw.symm) | (go_at_call 13; refine (c _).mono ?_; rintro e w2 ⟨rfl, x2⟩))
  go_ret
  exact ⟨rfl, x2⟩

theorem l6Float_any (x : Nat) (hx : B64 x) (w : World) :
    Calls Tryd.prog 13 #[.float .f64 x] w fun e w' => e = .returned (str (fltT x)) ∧ Ext w w' := by
  by_cases hp : x < 9223372036854775808
  · exact l6Float_plus x hp w
  · unfold fltT
    by_cases h0 : nanD x = true
    · rw [if_pos h0]; exact l6Float_nan x h0 w
    · have h0' : nanD x = false := by simpa using h0
      rw [if_neg h0, if_neg (by omega)]
      by_cases h2 : x = 9223372036854775808
      · rw [if_pos h2]
        have := l6Float_zero x (Or.inr h2) w
        rwa [if_neg (by omega)] at this
      · rw [if_neg h2, if_neg (by omega)]
        have hx2 : x < 18446744073709551616 := hx
        by_cases h4 : x = 18442240474082181120
        · rw [if_pos h4]
          subst h4
          exact l6Float_minus _ hx h0' (by omega) [105, 110, 102] (by decide) (fun w => l6Float_inf w) w
        · rw [if_neg h4, if_neg hp]
          have hq := fin_neg x hx h0' h2 h4 hp
          exact l6Float_minus x hx h0' (by omega) (posT (x - 9223372036854775808)) (by have := posT_len _ hq.1 hq.2; omega) (fun w => l6Float_pos _ hq.1 hq.2 w) w
end Go.Proofs.YthimfolcnphfoaaDoor
