import Derived.Test.YthaajmkfeniofaaOpen
namespace Go.Proofs.Ythaajmkfeniofaa
open Go.RowKit FL
set_option linter.unusedSimpArgs false
set_option linter.unusedVariables false

def fbef (a b : Nat) : Bool := !nanD a && (nanD b || (flt a b || (feq a b && (mzB a && !mzB b))))

theorem flt_feq (a b : Nat) (h : flt a b = true) : feq a b = false := by
  unfold flt at h
  unfold feq
  simp only [Bool.and_eq_true, decide_eq_true_eq] at h
  have : ¬ keyD a = keyD b := by omega
  simp [this]

theorem bef_eq (a b : Nat) (ha : B64 a) (hb : B64 b) (h : feq a b = true) : (hiB a && !hiB b) = (mzB a && !mzB b) := by
  unfold feq at h
  simp only [Bool.and_eq_true, decide_eq_true_eq] at h
  rcases key_inj a b ha hb h.2 with e | e | e
  · rw [e]; cases hiB b <;> cases mzB b <;> rfl
  · rw [e.1, e.2]; decide
  · rw [e.1, e.2]; decide

theorem l1FloatBefore_any (a b : Nat) (ha : B64 a) (hb : B64 b) (w : World) :
    Calls Try.prog 43 #[.float .f64 a, .float .f64 b] w fun e w' => e = .returned (.bool (fbef a b)) ∧ w' = w := by
  go_enter Try.func43, Try.ntmps43
  go_wp2_with (first | (go_at_call 72; refine (l1IsNaN_any _ _).mono ?_; rintro e w' ⟨rfl, rfl⟩) | (go_at_call 73; refine (l1Minus_any _ ?_ _).mono ?_; assumption; rintro e w' ⟨rfl, rfl⟩))
  all_goals go_ret
  all_goals go_light
  all_goals refine ⟨ret_bool ?_, rfl⟩
  all_goals (unfold fbef; simp_all; done)

theorem floatBefore_any (a b : Nat) (ha : B64 a) (hb : B64 b) (w : World) :
    Calls Try.prog 44 #[.float .f64 a, .float .f64 b] w fun e w' => e = .returned (.bool (fbef a b)) ∧ w' = w := by
  have Hb := hide (bef_eq a b ha hb)
  have Hl := hide (flt_feq a b)
  cases na : nanD a <;> cases nb : nanD b
  · cases hf : feq a b
    · go_enter Try.func44, Try.ntmps44
      go_wp2_with (first | (go_at_call 76; refine (isNaN_any _ _).mono ?_; rintro e w' ⟨rfl, rfl⟩))
      go_ret
      exact ⟨ret_bool (by unfold fbef; rw [na, nb, hf]; simp), rfl⟩
    · have h1 := Hb.out hf
      have h2 : flt a b = false := by
        cases e : flt a b
        · rfl
        · have := Hl.out e; rw [hf] at this; cases this
      have Hs := hide h1
      have H2 := hide h2
      clear h1 h2
      cases ea : hiB a
      all_goals
        go_enter Try.func44, Try.ntmps44
        go_wp2_with (first | (go_at_call 76; refine (isNaN_any _ _).mono ?_; rintro e w' ⟨rfl, rfl⟩) | (go_at_call 75; refine (signbit_any _ ?_ _).mono ?_; assumption; rintro e w' ⟨rfl, rfl⟩))
        go_ret
        exact ⟨ret_bool (by unfold fbef; have h1 := Hs.out; rw [ea] at h1; rw [na, nb, hf, H2.out, ← h1]; simp), rfl⟩
  all_goals
    go_enter Try.func44, Try.ntmps44
    go_wp2_with (first | (go_at_call 76; refine (isNaN_any _ _).mono ?_; rintro e w' ⟨rfl, rfl⟩))
    go_ret
    exact ⟨ret_bool (by unfold fbef; rw [na, nb]; simp), rfl⟩

def cbef (fa ga fb gb : Nat) : Bool := fbef fa fb || (!fbef fb fa && fbef ga gb)

theorem complexBefore_any (fa ga fb gb : Nat) (ha : B64 fa) (ha' : B64 ga) (hb : B64 fb) (hb' : B64 gb) (w : World) :
    Calls Try.prog 45 #[.complex .f64 fa ga, .complex .f64 fb gb] w fun e w' => e = .returned (.bool (cbef fa ga fb gb)) ∧ w' = w := by
  go_enter Try.func45, Try.ntmps45
  go_wp2_with (first | (go_at_call 44; refine (floatBefore_any _ _ ?_ ?_ _).mono ?_; assumption; assumption; rintro e w' ⟨rfl, rfl⟩))
  all_goals go_ret
  all_goals go_light
  all_goals refine ⟨ret_bool ?_, rfl⟩
  all_goals (unfold cbef; simp_all; done)

theorem complexOf_any (i : Int) (f g : Nat) (w : World) :
    Calls Try.prog 46 #[.agg #[.int .i64 i, .float .f64 f, .float .f64 g]] w fun e w' => e = .returned (.complex .f64 f g) ∧ Ext w w' := by
  go_enter Try.func46, Try.ntmps46
  go_wp2
  go_ret
  exact ⟨rfl, by repeat (first | exact Ext.refl _ | apply Ext.drewN | apply Ext.drew | apply Ext.alloc)⟩

def befB (dt ia : Int) (fa ga : Nat) (ib : Int) (fb gb : Nat) : Bool :=
  validB dt ia fa ga && (validB dt ib fb gb && (if dt ≤ 6 then decide (ia < ib) else if dt ≤ 8 then fbef fa fb else cbef fa ga fb gb))

theorem valid_dt (dt i : Int) (f g : Nat) (h : validB dt i f g = true) : 1 ≤ dt ∧ dt ≤ 9 := by
  unfold validB at h
  by_cases h1 : 1 ≤ dt ∧ dt ≤ 6
  · omega
  · rw [if_neg h1] at h
    by_cases h7 : dt = 7
    · omega
    · rw [if_neg h7] at h
      by_cases h8 : dt = 8
      · omega
      · rw [if_neg h8] at h
        by_cases h9 : dt = 9
        · omega
        · rw [if_neg h9] at h; cases h
set_option maxHeartbeats 2000000 in
theorem sBefore_no (dt ia : Int) (fa ga : Nat) (ib : Int) (fb gb : Nat) (hia : I64 ia) (hfa : B64 fa) (hga : B64 ga) (hib : I64 ib) (hfb : B64 fb) (hgb : B64 gb) (h : (validB dt ia fa ga && validB dt ib fb gb) = false) (w : World) :
    Calls Try.prog 19 #[.int .i64 dt, .agg #[.int .i64 ia, .float .f64 fa, .float .f64 ga], .agg #[.int .i64 ib, .float .f64 fb, .float .f64 gb]] w fun e w' => e = .returned (.bool false) ∧ Ext w w' := by
  cases va : validB dt ia fa ga
  · go_enter Try.func19, Try.ntmps19
    go_wp2_with fail
    refine (sValid_any _ _ _ _ ?_ ?_ _).mono ?_
    iterate 2 assumption
    rintro e w1 ⟨rfl, x1⟩
    go_wp2
    go_ret
    exact ⟨rfl, (((Ext.refl w).alloc _ _).alloc _ _).trans x1⟩
  · rw [va] at h
    have vb : validB dt ib fb gb = false := h
    go_enter Try.func19, Try.ntmps19
    go_wp2_with fail
    refine (sValid_any _ _ _ _ ?_ ?_ _).mono ?_
    iterate 2 assumption
    rintro e w1 ⟨rfl, x1⟩
    have k1a0 := x1.box (b := w.heap.size) (o := 0) (v := .int .i64 ia) (by first | assumption | simp)
    have k1a1 := x1.box (b := w.heap.size) (o := 1) (v := .float .f64 fa) (by first | assumption | simp)
    have k1a2 := x1.box (b := w.heap.size) (o := 2) (v := .float .f64 ga) (by first | assumption | simp)
    have k1b0 := x1.box (b := w.heap.size + 1) (o := 0) (v := .int .i64 ib) (by first | assumption | simp)
    have k1b1 := x1.box (b := w.heap.size + 1) (o := 1) (v := .float .f64 fb) (by first | assumption | simp)
    have k1b2 := x1.box (b := w.heap.size + 1) (o := 2) (v := .float .f64 gb) (by first | assumption | simp)
    go_wp2_with fail
    refine (sValid_any _ _ _ _ ?_ ?_ _).mono ?_
    iterate 2 assumption
    rintro e w2 ⟨rfl, x2⟩
    go_wp2
    go_ret
    exact ⟨rfl, ((((Ext.refl w).alloc _ _).alloc _ _).trans x1).trans x2⟩

set_option maxHeartbeats 2000000 in
theorem iBefore_no (dt ia : Int) (fa ga : Nat) (ib : Int) (fb gb : Nat) (hia : I64 ia) (hfa : B64 fa) (hga : B64 ga) (hib : I64 ib) (hfb : B64 fb) (hgb : B64 gb) (h : (validB dt ia fa ga && validB dt ib fb gb) = false) (w : World) :
    Calls Try.prog 20 #[.int .i64 dt, .agg #[.int .i64 ia, .float .f64 fa, .float .f64 ga], .agg #[.int .i64 ib, .float .f64 fb, .float .f64 gb]] w fun e w' => e = .returned (.bool false) ∧ Ext w w' := by
  cases va : validB dt ia fa ga
  · go_enter Try.func20, Try.ntmps20
    go_wp2_with fail
    refine (iValid_any _ _ _ _ ?_ ?_ ?_ _).mono ?_
    iterate 3 assumption
    rintro e w1 ⟨rfl, x1⟩
    go_wp2
    go_ret
    exact ⟨rfl, (((Ext.refl w).alloc _ _).alloc _ _).trans x1⟩
  · rw [va] at h
    have vb : validB dt ib fb gb = false := h
    go_enter Try.func20, Try.ntmps20
    go_wp2_with fail
    refine (iValid_any _ _ _ _ ?_ ?_ ?_ _).mono ?_
    iterate 3 assumption
    rintro e w1 ⟨rfl, x1⟩
    have k1a0 := x1.box (b := w.heap.size) (o := 0) (v := .int .i64 ia) (by first | assumption | simp)
    have k1a1 := x1.box (b := w.heap.size) (o := 1) (v := .float .f64 fa) (by first | assumption | simp)
    have k1a2 := x1.box (b := w.heap.size) (o := 2) (v := .float .f64 ga) (by first | assumption | simp)
    have k1b0 := x1.box (b := w.heap.size + 1) (o := 0) (v := .int .i64 ib) (by first | assumption | simp)
    have k1b1 := x1.box (b := w.heap.size + 1) (o := 1) (v := .float .f64 fb) (by first | assumption | simp)
    have k1b2 := x1.box (b := w.heap.size + 1) (o := 2) (v := .float .f64 gb) (by first | assumption | simp)
    go_wp2_with fail
    refine (iValid_any _ _ _ _ ?_ ?_ ?_ _).mono ?_
    iterate 3 assumption
    rintro e w2 ⟨rfl, x2⟩
    go_wp2
    go_ret
    exact ⟨rfl, ((((Ext.refl w).alloc _ _).alloc _ _).trans x1).trans x2⟩

set_option maxHeartbeats 2000000 in
theorem sBefore_int (dt ia : Int) (fa ga : Nat) (ib : Int) (fb gb : Nat) (hia : I64 ia) (hfa : B64 fa) (hga : B64 ga) (hib : I64 ib) (hfb : B64 fb) (hgb : B64 gb) (va : validB dt ia fa ga = true) (vb : validB dt ib fb gb = true) (hd : dt ≤ 6) (w : World) :
    Calls Try.prog 19 #[.int .i64 dt, .agg #[.int .i64 ia, .float .f64 fa, .float .f64 ga], .agg #[.int .i64 ib, .float .f64 fb, .float .f64 gb]] w fun e w' => e = .returned (.bool (decide (ia < ib))) ∧ Ext w w' := by
  have hdt := valid_dt _ _ _ _ va
  have hk : skindL dt = 0 ∨ skindL dt = 1 := by unfold skindL; omega
  have hk2 : decide (skindL dt < 2) = true := by simp; omega
  clear hk hd
  clear hdt
  go_enter Try.func19, Try.ntmps19
  go_wp2_with fail
  refine (sValid_any _ _ _ _ ?_ ?_ _).mono ?_
  iterate 2 assumption
  rintro e w1 ⟨rfl, x1⟩
  have k1a0 := x1.box (b := w.heap.size) (o := 0) (v := .int .i64 ia) (by first | assumption | simp)
  have k1a1 := x1.box (b := w.heap.size) (o := 1) (v := .float .f64 fa) (by first | assumption | simp)
  have k1a2 := x1.box (b := w.heap.size) (o := 2) (v := .float .f64 ga) (by first | assumption | simp)
  have k1b0 := x1.box (b := w.heap.size + 1) (o := 0) (v := .int .i64 ib) (by first | assumption | simp)
  have k1b1 := x1.box (b := w.heap.size + 1) (o := 1) (v := .float .f64 fb) (by first | assumption | simp)
  have k1b2 := x1.box (b := w.heap.size + 1) (o := 2) (v := .float .f64 gb) (by first | assumption | simp)
  go_wp2_with fail
  refine (sValid_any _ _ _ _ ?_ ?_ _).mono ?_
  iterate 2 assumption
  rintro e w2 ⟨rfl, x2⟩
  have k2a0 := x2.box (b := w.heap.size) (o := 0) (v := .int .i64 ia) (by first | assumption | simp)
  have k2a1 := x2.box (b := w.heap.size) (o := 1) (v := .float .f64 fa) (by first | assumption | simp)
  have k2a2 := x2.box (b := w.heap.size) (o := 2) (v := .float .f64 ga) (by first | assumption | simp)
  have k2b0 := x2.box (b := w.heap.size + 1) (o := 0) (v := .int .i64 ib) (by first | assumption | simp)
  have k2b1 := x2.box (b := w.heap.size + 1) (o := 1) (v := .float .f64 fb) (by first | assumption | simp)
  have k2b2 := x2.box (b := w.heap.size + 1) (o := 2) (v := .float .f64 gb) (by first | assumption | simp)
  go_wp2_with (first | (go_at_call 34; refine (l1Kind_any _ _).mono ?_; rintro e w' ⟨rfl, rfl⟩) | (go_at_call 43; refine (l1FloatBefore_any _ _ ?_ ?_ _).mono ?_; assumption; assumption; rintro e w' ⟨rfl, rfl⟩))
  go_ret
  exact ⟨rfl, ((((Ext.refl w).alloc _ _).alloc _ _).trans x1).trans x2⟩

set_option maxHeartbeats 2000000 in
theorem sBefore_flt (dt ia : Int) (fa ga : Nat) (ib : Int) (fb gb : Nat) (hia : I64 ia) (hfa : B64 fa) (hga : B64 ga) (hib : I64 ib) (hfb : B64 fb) (hgb : B64 gb) (va : validB dt ia fa ga = true) (vb : validB dt ib fb gb = true) (hd : 6 < dt ∧ dt ≤ 8) (w : World) :
    Calls Try.prog 19 #[.int .i64 dt, .agg #[.int .i64 ia, .float .f64 fa, .float .f64 ga], .agg #[.int .i64 ib, .float .f64 fb, .float .f64 gb]] w fun e w' => e = .returned (.bool (fbef fa fb)) ∧ Ext w w' := by
  have hdt := valid_dt _ _ _ _ va
  have hk : skindL dt = 2 := by unfold skindL; omega
  clear hd
  clear hdt
  go_enter Try.func19, Try.ntmps19
  go_wp2_with fail
  refine (sValid_any _ _ _ _ ?_ ?_ _).mono ?_
  iterate 2 assumption
  rintro e w1 ⟨rfl, x1⟩
  have k1a0 := x1.box (b := w.heap.size) (o := 0) (v := .int .i64 ia) (by first | assumption | simp)
  have k1a1 := x1.box (b := w.heap.size) (o := 1) (v := .float .f64 fa) (by first | assumption | simp)
  have k1a2 := x1.box (b := w.heap.size) (o := 2) (v := .float .f64 ga) (by first | assumption | simp)
  have k1b0 := x1.box (b := w.heap.size + 1) (o := 0) (v := .int .i64 ib) (by first | assumption | simp)
  have k1b1 := x1.box (b := w.heap.size + 1) (o := 1) (v := .float .f64 fb) (by first | assumption | simp)
  have k1b2 := x1.box (b := w.heap.size + 1) (o := 2) (v := .float .f64 gb) (by first | assumption | simp)
  go_wp2_with fail
  refine (sValid_any _ _ _ _ ?_ ?_ _).mono ?_
  iterate 2 assumption
  rintro e w2 ⟨rfl, x2⟩
  have k2a0 := x2.box (b := w.heap.size) (o := 0) (v := .int .i64 ia) (by first | assumption | simp)
  have k2a1 := x2.box (b := w.heap.size) (o := 1) (v := .float .f64 fa) (by first | assumption | simp)
  have k2a2 := x2.box (b := w.heap.size) (o := 2) (v := .float .f64 ga) (by first | assumption | simp)
  have k2b0 := x2.box (b := w.heap.size + 1) (o := 0) (v := .int .i64 ib) (by first | assumption | simp)
  have k2b1 := x2.box (b := w.heap.size + 1) (o := 1) (v := .float .f64 fb) (by first | assumption | simp)
  have k2b2 := x2.box (b := w.heap.size + 1) (o := 2) (v := .float .f64 gb) (by first | assumption | simp)
  go_wp2_with (first | (go_at_call 34; refine (l1Kind_any _ _).mono ?_; rintro e w' ⟨rfl, rfl⟩) | (go_at_call 43; refine (l1FloatBefore_any _ _ ?_ ?_ _).mono ?_; assumption; assumption; rintro e w' ⟨rfl, rfl⟩))
  all_goals go_ret
  all_goals go_light
  all_goals exact ⟨ret_bool (by simp_all [cbef]), ((((Ext.refl w).alloc _ _).alloc _ _).trans x1).trans x2⟩

set_option maxHeartbeats 2000000 in
theorem sBefore_cpx (dt ia : Int) (fa ga : Nat) (ib : Int) (fb gb : Nat) (hia : I64 ia) (hfa : B64 fa) (hga : B64 ga) (hib : I64 ib) (hfb : B64 fb) (hgb : B64 gb) (va : validB dt ia fa ga = true) (vb : validB dt ib fb gb = true) (hd : 8 < dt) (w : World) :
    Calls Try.prog 19 #[.int .i64 dt, .agg #[.int .i64 ia, .float .f64 fa, .float .f64 ga], .agg #[.int .i64 ib, .float .f64 fb, .float .f64 gb]] w fun e w' => e = .returned (.bool (cbef fa ga fb gb)) ∧ Ext w w' := by
  have hdt := valid_dt _ _ _ _ va
  have hk : skindL dt = 3 := by unfold skindL; omega
  clear hd
  clear hdt
  go_enter Try.func19, Try.ntmps19
  go_wp2_with fail
  refine (sValid_any _ _ _ _ ?_ ?_ _).mono ?_
  iterate 2 assumption
  rintro e w1 ⟨rfl, x1⟩
  have k1a0 := x1.box (b := w.heap.size) (o := 0) (v := .int .i64 ia) (by first | assumption | simp)
  have k1a1 := x1.box (b := w.heap.size) (o := 1) (v := .float .f64 fa) (by first | assumption | simp)
  have k1a2 := x1.box (b := w.heap.size) (o := 2) (v := .float .f64 ga) (by first | assumption | simp)
  have k1b0 := x1.box (b := w.heap.size + 1) (o := 0) (v := .int .i64 ib) (by first | assumption | simp)
  have k1b1 := x1.box (b := w.heap.size + 1) (o := 1) (v := .float .f64 fb) (by first | assumption | simp)
  have k1b2 := x1.box (b := w.heap.size + 1) (o := 2) (v := .float .f64 gb) (by first | assumption | simp)
  go_wp2_with fail
  refine (sValid_any _ _ _ _ ?_ ?_ _).mono ?_
  iterate 2 assumption
  rintro e w2 ⟨rfl, x2⟩
  have k2a0 := x2.box (b := w.heap.size) (o := 0) (v := .int .i64 ia) (by first | assumption | simp)
  have k2a1 := x2.box (b := w.heap.size) (o := 1) (v := .float .f64 fa) (by first | assumption | simp)
  have k2a2 := x2.box (b := w.heap.size) (o := 2) (v := .float .f64 ga) (by first | assumption | simp)
  have k2b0 := x2.box (b := w.heap.size + 1) (o := 0) (v := .int .i64 ib) (by first | assumption | simp)
  have k2b1 := x2.box (b := w.heap.size + 1) (o := 1) (v := .float .f64 fb) (by first | assumption | simp)
  have k2b2 := x2.box (b := w.heap.size + 1) (o := 2) (v := .float .f64 gb) (by first | assumption | simp)
  go_wp2_with (first | (go_at_call 34; refine (l1Kind_any _ _).mono ?_; rintro e w' ⟨rfl, rfl⟩) | (go_at_call 43; refine (l1FloatBefore_any _ _ ?_ ?_ _).mono ?_; assumption; assumption; rintro e w' ⟨rfl, rfl⟩))
  all_goals go_ret
  all_goals go_light
  all_goals exact ⟨ret_bool (by simp_all [cbef]), ((((Ext.refl w).alloc _ _).alloc _ _).trans x1).trans x2⟩

set_option maxHeartbeats 2000000 in
theorem iBefore_int (dt ia : Int) (fa ga : Nat) (ib : Int) (fb gb : Nat) (hia : I64 ia) (hfa : B64 fa) (hga : B64 ga) (hib : I64 ib) (hfb : B64 fb) (hgb : B64 gb) (va : validB dt ia fa ga = true) (vb : validB dt ib fb gb = true) (hd : dt ≤ 6) (w : World) :
    Calls Try.prog 20 #[.int .i64 dt, .agg #[.int .i64 ia, .float .f64 fa, .float .f64 ga], .agg #[.int .i64 ib, .float .f64 fb, .float .f64 gb]] w fun e w' => e = .returned (.bool (decide (ia < ib))) ∧ Ext w w' := by
  have hdt := valid_dt _ _ _ _ va
  have hk : kindL dt = 0 ∨ kindL dt = 1 := by unfold kindL; omega
  have hk2 : (kindL dt == 2) = false := by simp; omega
  have hk3 : (kindL dt == 3) = false := by simp; omega
  clear hk hd
  clear hdt
  go_enter Try.func20, Try.ntmps20
  go_wp2_with fail
  refine (iValid_any _ _ _ _ ?_ ?_ ?_ _).mono ?_
  iterate 3 assumption
  rintro e w1 ⟨rfl, x1⟩
  have k1a0 := x1.box (b := w.heap.size) (o := 0) (v := .int .i64 ia) (by first | assumption | simp)
  have k1a1 := x1.box (b := w.heap.size) (o := 1) (v := .float .f64 fa) (by first | assumption | simp)
  have k1a2 := x1.box (b := w.heap.size) (o := 2) (v := .float .f64 ga) (by first | assumption | simp)
  have k1b0 := x1.box (b := w.heap.size + 1) (o := 0) (v := .int .i64 ib) (by first | assumption | simp)
  have k1b1 := x1.box (b := w.heap.size + 1) (o := 1) (v := .float .f64 fb) (by first | assumption | simp)
  have k1b2 := x1.box (b := w.heap.size + 1) (o := 2) (v := .float .f64 gb) (by first | assumption | simp)
  go_wp2_with fail
  refine (iValid_any _ _ _ _ ?_ ?_ ?_ _).mono ?_
  iterate 3 assumption
  rintro e w2 ⟨rfl, x2⟩
  have k2a0 := x2.box (b := w.heap.size) (o := 0) (v := .int .i64 ia) (by first | assumption | simp)
  have k2a1 := x2.box (b := w.heap.size) (o := 1) (v := .float .f64 fa) (by first | assumption | simp)
  have k2a2 := x2.box (b := w.heap.size) (o := 2) (v := .float .f64 ga) (by first | assumption | simp)
  have k2b0 := x2.box (b := w.heap.size + 1) (o := 0) (v := .int .i64 ib) (by first | assumption | simp)
  have k2b1 := x2.box (b := w.heap.size + 1) (o := 1) (v := .float .f64 fb) (by first | assumption | simp)
  have k2b2 := x2.box (b := w.heap.size + 1) (o := 2) (v := .float .f64 gb) (by first | assumption | simp)
  go_wp2_with (first | (go_at_call 35; refine (kindOf_any _ _).mono ?_; rintro e w' ⟨rfl, rfl⟩) | (go_at_call 44; refine (floatBefore_any _ _ ?_ ?_ _).mono ?_; assumption; assumption; rintro e w' ⟨rfl, rfl⟩))
  go_ret
  exact ⟨rfl, ((((Ext.refl w).alloc _ _).alloc _ _).trans x1).trans x2⟩

set_option maxHeartbeats 2000000 in
theorem iBefore_flt (dt ia : Int) (fa ga : Nat) (ib : Int) (fb gb : Nat) (hia : I64 ia) (hfa : B64 fa) (hga : B64 ga) (hib : I64 ib) (hfb : B64 fb) (hgb : B64 gb) (va : validB dt ia fa ga = true) (vb : validB dt ib fb gb = true) (hd : 6 < dt ∧ dt ≤ 8) (w : World) :
    Calls Try.prog 20 #[.int .i64 dt, .agg #[.int .i64 ia, .float .f64 fa, .float .f64 ga], .agg #[.int .i64 ib, .float .f64 fb, .float .f64 gb]] w fun e w' => e = .returned (.bool (fbef fa fb)) ∧ Ext w w' := by
  have hdt := valid_dt _ _ _ _ va
  have hk : kindL dt = 2 := by unfold kindL; omega
  clear hd
  clear hdt
  go_enter Try.func20, Try.ntmps20
  go_wp2_with fail
  refine (iValid_any _ _ _ _ ?_ ?_ ?_ _).mono ?_
  iterate 3 assumption
  rintro e w1 ⟨rfl, x1⟩
  have k1a0 := x1.box (b := w.heap.size) (o := 0) (v := .int .i64 ia) (by first | assumption | simp)
  have k1a1 := x1.box (b := w.heap.size) (o := 1) (v := .float .f64 fa) (by first | assumption | simp)
  have k1a2 := x1.box (b := w.heap.size) (o := 2) (v := .float .f64 ga) (by first | assumption | simp)
  have k1b0 := x1.box (b := w.heap.size + 1) (o := 0) (v := .int .i64 ib) (by first | assumption | simp)
  have k1b1 := x1.box (b := w.heap.size + 1) (o := 1) (v := .float .f64 fb) (by first | assumption | simp)
  have k1b2 := x1.box (b := w.heap.size + 1) (o := 2) (v := .float .f64 gb) (by first | assumption | simp)
  go_wp2_with fail
  refine (iValid_any _ _ _ _ ?_ ?_ ?_ _).mono ?_
  iterate 3 assumption
  rintro e w2 ⟨rfl, x2⟩
  have k2a0 := x2.box (b := w.heap.size) (o := 0) (v := .int .i64 ia) (by first | assumption | simp)
  have k2a1 := x2.box (b := w.heap.size) (o := 1) (v := .float .f64 fa) (by first | assumption | simp)
  have k2a2 := x2.box (b := w.heap.size) (o := 2) (v := .float .f64 ga) (by first | assumption | simp)
  have k2b0 := x2.box (b := w.heap.size + 1) (o := 0) (v := .int .i64 ib) (by first | assumption | simp)
  have k2b1 := x2.box (b := w.heap.size + 1) (o := 1) (v := .float .f64 fb) (by first | assumption | simp)
  have k2b2 := x2.box (b := w.heap.size + 1) (o := 2) (v := .float .f64 gb) (by first | assumption | simp)
  go_wp2_with (first | (go_at_call 35; refine (kindOf_any _ _).mono ?_; rintro e w' ⟨rfl, rfl⟩) | (go_at_call 44; refine (floatBefore_any _ _ ?_ ?_ _).mono ?_; assumption; assumption; rintro e w' ⟨rfl, rfl⟩))
  go_ret
  exact ⟨rfl, ((((Ext.refl w).alloc _ _).alloc _ _).trans x1).trans x2⟩

set_option maxHeartbeats 2000000 in
theorem iBefore_cpx (dt ia : Int) (fa ga : Nat) (ib : Int) (fb gb : Nat) (hia : I64 ia) (hfa : B64 fa) (hga : B64 ga) (hib : I64 ib) (hfb : B64 fb) (hgb : B64 gb) (va : validB dt ia fa ga = true) (vb : validB dt ib fb gb = true) (hd : 8 < dt) (w : World) :
    Calls Try.prog 20 #[.int .i64 dt, .agg #[.int .i64 ia, .float .f64 fa, .float .f64 ga], .agg #[.int .i64 ib, .float .f64 fb, .float .f64 gb]] w fun e w' => e = .returned (.bool (cbef fa ga fb gb)) ∧ Ext w w' := by
  have hdt := valid_dt _ _ _ _ va
  have hk : kindL dt = 3 := by unfold kindL; omega
  clear hd
  clear hdt
  go_enter Try.func20, Try.ntmps20
  go_wp2_with fail
  refine (iValid_any _ _ _ _ ?_ ?_ ?_ _).mono ?_
  iterate 3 assumption
  rintro e w1 ⟨rfl, x1⟩
  have k1a0 := x1.box (b := w.heap.size) (o := 0) (v := .int .i64 ia) (by first | assumption | simp)
  have k1a1 := x1.box (b := w.heap.size) (o := 1) (v := .float .f64 fa) (by first | assumption | simp)
  have k1a2 := x1.box (b := w.heap.size) (o := 2) (v := .float .f64 ga) (by first | assumption | simp)
  have k1b0 := x1.box (b := w.heap.size + 1) (o := 0) (v := .int .i64 ib) (by first | assumption | simp)
  have k1b1 := x1.box (b := w.heap.size + 1) (o := 1) (v := .float .f64 fb) (by first | assumption | simp)
  have k1b2 := x1.box (b := w.heap.size + 1) (o := 2) (v := .float .f64 gb) (by first | assumption | simp)
  go_wp2_with fail
  refine (iValid_any _ _ _ _ ?_ ?_ ?_ _).mono ?_
  iterate 3 assumption
  rintro e w2 ⟨rfl, x2⟩
  have k2a0 := x2.box (b := w.heap.size) (o := 0) (v := .int .i64 ia) (by first | assumption | simp)
  have k2a1 := x2.box (b := w.heap.size) (o := 1) (v := .float .f64 fa) (by first | assumption | simp)
  have k2a2 := x2.box (b := w.heap.size) (o := 2) (v := .float .f64 ga) (by first | assumption | simp)
  have k2b0 := x2.box (b := w.heap.size + 1) (o := 0) (v := .int .i64 ib) (by first | assumption | simp)
  have k2b1 := x2.box (b := w.heap.size + 1) (o := 1) (v := .float .f64 fb) (by first | assumption | simp)
  have k2b2 := x2.box (b := w.heap.size + 1) (o := 2) (v := .float .f64 gb) (by first | assumption | simp)
  go_wp2_with (first | (go_at_call 35; refine (kindOf_any _ _).mono ?_; rintro e w' ⟨rfl, rfl⟩) | (go_at_call 44; refine (floatBefore_any _ _ ?_ ?_ _).mono ?_; assumption; assumption; rintro e w' ⟨rfl, rfl⟩))
  go_region_with (first | (go_at_call 46; refine (complexOf_any _ _ _ _).mono ?_; rintro e w3 ⟨rfl, x3⟩;  have k3a0 := x3.box (b := w.heap.size) (o := 0) (v := .int .i64 ia) (by first | assumption | simp);  have k3a1 := x3.box (b := w.heap.size) (o := 1) (v := .float .f64 fa) (by first | assumption | simp);  have k3a2 := x3.box (b := w.heap.size) (o := 2) (v := .float .f64 ga) (by first | assumption | simp);  have k3b0 := x3.box (b := w.heap.size + 1) (o := 0) (v := .int .i64 ib) (by first | assumption | simp);  have k3b1 := x3.box (b := w.heap.size + 1) (o := 1) (v := .float .f64 fb) (by first | assumption | simp);  have k3b2 := x3.box (b := w.heap.size + 1) (o := 2) (v := .float .f64 gb) (by first | assumption | simp)) | (go_at_call 45; refine (complexBefore_any _ _ _ _ ?_ ?_ ?_ ?_ _).mono ?_; assumption; assumption; assumption; assumption; rintro e w' ⟨rfl, rfl⟩))
  all_goals go_wp2
  all_goals go_ret
  all_goals exact ⟨rfl, by repeat (first | exact Ext.refl _ | apply Ext.drewN | apply Ext.drew | apply Ext.alloc | refine Ext.trans ?_ (by assumption))⟩



theorem sBefore_any (dt ia : Int) (fa ga : Nat) (ib : Int) (fb gb : Nat) (hia : I64 ia) (hfa : B64 fa) (hga : B64 ga) (hib : I64 ib) (hfb : B64 fb) (hgb : B64 gb) (w : World) :
    Calls Try.prog 19 #[.int .i64 dt, .agg #[.int .i64 ia, .float .f64 fa, .float .f64 ga], .agg #[.int .i64 ib, .float .f64 fb, .float .f64 gb]] w fun e w' => e = .returned (.bool (befB dt ia fa ga ib fb gb)) ∧ Ext w w' := by
  unfold befB
  cases va : validB dt ia fa ga
  · rw [Bool.false_and]; exact sBefore_no dt ia fa ga ib fb gb hia hfa hga hib hfb hgb (by rw [va]; rfl) w
  cases vb : validB dt ib fb gb
  · rw [Bool.false_and, Bool.and_false]; exact sBefore_no dt ia fa ga ib fb gb hia hfa hga hib hfb hgb (by rw [va, vb]; rfl) w
  rw [Bool.true_and, Bool.true_and]
  by_cases h6 : dt ≤ 6
  · rw [if_pos h6]; exact sBefore_int dt ia fa ga ib fb gb hia hfa hga hib hfb hgb va vb h6 w
  rw [if_neg h6]
  by_cases h8 : dt ≤ 8
  · rw [if_pos h8]; exact sBefore_flt dt ia fa ga ib fb gb hia hfa hga hib hfb hgb va vb (by omega) w
  rw [if_neg h8]; exact sBefore_cpx dt ia fa ga ib fb gb hia hfa hga hib hfb hgb va vb (by omega) w

theorem iBefore_any (dt ia : Int) (fa ga : Nat) (ib : Int) (fb gb : Nat) (hia : I64 ia) (hfa : B64 fa) (hga : B64 ga) (hib : I64 ib) (hfb : B64 fb) (hgb : B64 gb) (w : World) :
    Calls Try.prog 20 #[.int .i64 dt, .agg #[.int .i64 ia, .float .f64 fa, .float .f64 ga], .agg #[.int .i64 ib, .float .f64 fb, .float .f64 gb]] w fun e w' => e = .returned (.bool (befB dt ia fa ga ib fb gb)) ∧ Ext w w' := by
  unfold befB
  cases va : validB dt ia fa ga
  · rw [Bool.false_and]; exact iBefore_no dt ia fa ga ib fb gb hia hfa hga hib hfb hgb (by rw [va]; rfl) w
  cases vb : validB dt ib fb gb
  · rw [Bool.false_and, Bool.and_false]; exact iBefore_no dt ia fa ga ib fb gb hia hfa hga hib hfb hgb (by rw [va, vb]; rfl) w
  rw [Bool.true_and, Bool.true_and]
  by_cases h6 : dt ≤ 6
  · rw [if_pos h6]; exact iBefore_int dt ia fa ga ib fb gb hia hfa hga hib hfb hgb va vb h6 w
  rw [if_neg h6]
  by_cases h8 : dt ≤ 8
  · rw [if_pos h8]; exact iBefore_flt dt ia fa ga ib fb gb hia hfa hga hib hfb hgb va vb (by omega) w
  rw [if_neg h8]; exact iBefore_cpx dt ia fa ga ib fb gb hia hfa hga hib hfb hgb va vb (by omega) w

end Go.Proofs.Ythaajmkfeniofaa
