import Derived.Test.YthaajmkfeniofaaMinMax2
namespace Go.Proofs.Ythaajmkfeniofaa
open Go.RowKit FL
set_option linter.unusedSimpArgs false
set_option linter.unusedVariables false

def fitO (op dt : Int) : Bool := decide ((dt = 1 ∧ op ≠ 4 ∧ op < 9) ∨ (2 ≤ dt ∧ dt ≤ 6) ∨ ((dt = 7 ∨ dt = 8) ∧ op < 9) ∨ (dt = 9 ∧ (op ≤ 3 ∨ op = 8)))

theorem opFits_any (op dt : Int) (h : 1 ≤ op ∧ op ≤ 10) (w : World) :
    Calls Try.prog 89 #[.int .i64 op, .int .i64 dt] w fun e w' => e = .returned (.bool (fitO op dt)) ∧ w' = w := by
  go_enter Try.func89, Try.ntmps89
  go_wp2_with (go_at_call 35; refine (kindOf_any _ _).mono ?_; rintro e w' ⟨rfl, rfl⟩)
  all_goals go_ret
  all_goals refine ⟨ret_bool ?_, rfl⟩
  all_goals go_light
  all_goals (rw [Bool.eq_iff_iff]; simp only [fitO, Bool.or_eq_true, Bool.and_eq_true, Bool.not_eq_true', Bool.not_eq_false', decide_eq_true_eq, decide_eq_false_iff_not, beq_iff_eq, beq_eq_false_iff_ne, bne_iff_ne, ne_eq, Bool.false_eq_true, false_iff, true_iff] at *; have hk1 := kind_def dt; omega)

theorem resDType_mm (op dt : Int) (h : op = 5 ∨ op = 6) (w : World) :
    Calls Try.prog 60 #[.int .i64 op, .int .i64 dt] w fun e w' => e = .returned (.int .i64 dt) ∧ w' = w := by
  rcases h with rfl | rfl
  all_goals
    go_enter Try.func60, Try.ntmps60
    go_wp2
    go_ret
    exact ⟨rfl, rfl⟩

theorem opCode_3 (op dt : Int) (ho : ¬ (1 ≤ op ∧ op ≤ 10)) (w : World) :
    Calls Try.prog 59 #[.int .i64 op, .int .i64 dt] w fun e w' => e = .returned (.int .i64 3) ∧ w' = w := by
  by_cases h1 : op < 1
  · clear ho
    go_enter Try.func59, Try.ntmps59
    go_wp2
    go_ret
    exact ⟨rfl, rfl⟩
  · have h2 : 10 < op := by omega
    have h3 : 1 ≤ op := by omega
    clear ho h1
    go_enter Try.func59, Try.ntmps59
    go_wp2
    go_ret
    exact ⟨rfl, rfl⟩

theorem opCode_4 (op dt : Int) (ho : 1 ≤ op ∧ op ≤ 10) (hfit : fitO op dt = false) (w : World) :
    Calls Try.prog 59 #[.int .i64 op, .int .i64 dt] w fun e w' => e = .returned (.int .i64 4) ∧ w' = w := by
  have Hop := hide ho
  obtain ⟨h1, h2⟩ := ho
  go_enter Try.func59, Try.ntmps59
  go_wp2_with (go_at_call 89; refine (opFits_any _ _ Hop.out _).mono ?_; rintro e w' ⟨rfl, rfl⟩)
  go_ret
  exact ⟨rfl, rfl⟩

theorem opCode_0 (op dt : Int) (ho : 1 ≤ op ∧ op ≤ 10) (hfit : fitO op dt = true) (w : World) :
    Calls Try.prog 59 #[.int .i64 op, .int .i64 dt] w fun e w' => e = .returned (.int .i64 0) ∧ w' = w := by
  have Hop := hide ho
  obtain ⟨h1, h2⟩ := ho
  go_enter Try.func59, Try.ntmps59
  go_wp2_with (go_at_call 89; refine (opFits_any _ _ Hop.out _).mono ?_; rintro e w' ⟨rfl, rfl⟩)
  go_ret
  exact ⟨rfl, rfl⟩

set_option maxRecDepth 100000 in
theorem ap_e4 (op dt ia ib : Int) (fa ga fb gb : Nat) (ho : 1 ≤ op ∧ op ≤ 10) (hfit : fitO op dt = false) (w : World) :
    Calls Try.prog 28 #[.int .i64 op, .int .i64 dt, .agg #[.int .i64 ia, .float .f64 fa, .float .f64 ga], .agg #[.int .i64 ib, .float .f64 fb, .float .f64 gb]] w fun e w' => e = .returned (.agg #[.int .i64 4, .int .i64 0, .int .i64 0, .float .f64 0, .float .f64 0]) ∧ Ext w w' := by
  have Hop := hide ho
  obtain ⟨h1, h2⟩ := ho
  go_enter Try.func28, Try.ntmps28
  go_wp2_with (go_at_call 59; refine (opCode_4 _ _ Hop.out hfit _).mono ?_; rintro e w' ⟨rfl, rfl⟩)
  exact bodyPost_ret (v := .agg #[.int .i64 4, .int .i64 0, .int .i64 0, .float .f64 0, .float .f64 0]) (by simp [results, Try.results28, go_sem]) rfl ⟨rfl, by repeat (first | with_reducible exact Ext.refl _ | with_reducible refine Ext.setCell ?_ (by first | (show _ ≤ _ + 1 + 1; omega) | (simp; done) | (simp; omega)) _ | with_reducible apply Ext.drewN | with_reducible apply Ext.drew | with_reducible apply Ext.alloc | refine Ext.trans ?_ (by assumption))⟩

set_option maxRecDepth 100000 in
set_option maxHeartbeats 1000000 in
theorem ap_e14 (op dt ia ib : Int) (fa ga fb gb : Nat) (hia : I64 ia) (hfa : B64 fa) (hga : B64 ga) (hib : I64 ib) (hfb : B64 fb) (hgb : B64 gb) (ho : 1 ≤ op ∧ op ≤ 10) (hfit : fitO op dt = true) (hv : (validB dt ia fa ga && validB dt ib fb gb) = false) (w : World) :
    Calls Try.prog 28 #[.int .i64 op, .int .i64 dt, .agg #[.int .i64 ia, .float .f64 fa, .float .f64 ga], .agg #[.int .i64 ib, .float .f64 fb, .float .f64 gb]] w fun e w' => e = .returned (.agg #[.int .i64 14, .int .i64 0, .int .i64 0, .float .f64 0, .float .f64 0]) ∧ Ext w w' := by
  have Hop := hide ho
  obtain ⟨h1, h2⟩ := ho
  cases va : validB dt ia fa ga
  · clear hv
    go_enter Try.func28, Try.ntmps28
    go_wp2_with (go_at_call 59; refine (opCode_0 _ _ Hop.out hfit _).mono ?_; rintro e w' ⟨rfl, rfl⟩)
    refine (iValid_any _ _ _ _ hia hfa hga _).mono ?_
    rintro e w1 ⟨rfl, x1⟩
    have p1a0 := x1.box (b := w.heap.size) (o := 0) (v := .int .i64 ia) (by first | assumption | (simp; done) | (simp [go_sem]; done))
    have p1a1 := x1.box (b := w.heap.size) (o := 1) (v := .float .f64 fa) (by first | assumption | (simp; done) | (simp [go_sem]; done))
    have p1a2 := x1.box (b := w.heap.size) (o := 2) (v := .float .f64 ga) (by first | assumption | (simp; done) | (simp [go_sem]; done))
    have p1b0 := x1.box (b := w.heap.size + 1) (o := 0) (v := .int .i64 ib) (by first | assumption | (simp; done) | (simp [go_sem]; done))
    have p1b1 := x1.box (b := w.heap.size + 1) (o := 1) (v := .float .f64 fb) (by first | assumption | (simp; done) | (simp [go_sem]; done))
    have p1b2 := x1.box (b := w.heap.size + 1) (o := 2) (v := .float .f64 gb) (by first | assumption | (simp; done) | (simp [go_sem]; done))
    have z10 := x1.box (b := w.heap.size + 1 + 1) (o := 0) (v := .int .i64 0) (by first | assumption | (simp; done) | (simp [go_sem]; done) | rfl)
    have z11 := x1.box (b := w.heap.size + 1 + 1) (o := 1) (v := .int .i64 0) (by first | assumption | (simp; done) | (simp [go_sem]; done) | rfl)
    have z12 := x1.box (b := w.heap.size + 1 + 1) (o := 2) (v := .int .i64 0) (by first | assumption | (simp; done) | (simp [go_sem]; done) | rfl)
    have z13 := x1.box (b := w.heap.size + 1 + 1) (o := 3) (v := .float .f64 0) (by first | assumption | (simp; done) | (simp [go_sem]; done) | rfl)
    have z14 := x1.box (b := w.heap.size + 1 + 1) (o := 4) (v := .float .f64 0) (by first | assumption | (simp; done) | (simp [go_sem]; done) | rfl)
    have z1f := fun o => (((((Ext.refl w).alloc _ _).alloc _ _).alloc _ _).trans x1).unfrozen (b := w.heap.size + 1 + 1) (by omega) o
    go_wp2
    exact bodyPost_ret (v := .agg #[.int .i64 14, .int .i64 0, .int .i64 0, .float .f64 0, .float .f64 0]) (by simp [results, Try.results28, go_sem, z10, z11, z12, z13, z14]) rfl ⟨rfl, by repeat (first | with_reducible exact Ext.refl _ | with_reducible refine Ext.setCell ?_ (by first | (show _ ≤ _ + 1 + 1; omega) | (simp; done) | (simp; omega)) _ | with_reducible apply Ext.drewN | with_reducible apply Ext.drew | with_reducible apply Ext.alloc | refine Ext.trans ?_ (by assumption))⟩
  · rw [va] at hv
    have vb : validB dt ib fb gb = false := hv
    clear hv
    go_enter Try.func28, Try.ntmps28
    go_wp2_with (go_at_call 59; refine (opCode_0 _ _ Hop.out hfit _).mono ?_; rintro e w' ⟨rfl, rfl⟩)
    refine (iValid_any _ _ _ _ hia hfa hga _).mono ?_
    rintro e w1 ⟨rfl, x1⟩
    have p1a0 := x1.box (b := w.heap.size) (o := 0) (v := .int .i64 ia) (by first | assumption | (simp; done) | (simp [go_sem]; done))
    have p1a1 := x1.box (b := w.heap.size) (o := 1) (v := .float .f64 fa) (by first | assumption | (simp; done) | (simp [go_sem]; done))
    have p1a2 := x1.box (b := w.heap.size) (o := 2) (v := .float .f64 ga) (by first | assumption | (simp; done) | (simp [go_sem]; done))
    have p1b0 := x1.box (b := w.heap.size + 1) (o := 0) (v := .int .i64 ib) (by first | assumption | (simp; done) | (simp [go_sem]; done))
    have p1b1 := x1.box (b := w.heap.size + 1) (o := 1) (v := .float .f64 fb) (by first | assumption | (simp; done) | (simp [go_sem]; done))
    have p1b2 := x1.box (b := w.heap.size + 1) (o := 2) (v := .float .f64 gb) (by first | assumption | (simp; done) | (simp [go_sem]; done))
    have z10 := x1.box (b := w.heap.size + 1 + 1) (o := 0) (v := .int .i64 0) (by first | assumption | (simp; done) | (simp [go_sem]; done) | rfl)
    have z11 := x1.box (b := w.heap.size + 1 + 1) (o := 1) (v := .int .i64 0) (by first | assumption | (simp; done) | (simp [go_sem]; done) | rfl)
    have z12 := x1.box (b := w.heap.size + 1 + 1) (o := 2) (v := .int .i64 0) (by first | assumption | (simp; done) | (simp [go_sem]; done) | rfl)
    have z13 := x1.box (b := w.heap.size + 1 + 1) (o := 3) (v := .float .f64 0) (by first | assumption | (simp; done) | (simp [go_sem]; done) | rfl)
    have z14 := x1.box (b := w.heap.size + 1 + 1) (o := 4) (v := .float .f64 0) (by first | assumption | (simp; done) | (simp [go_sem]; done) | rfl)
    have z1f := fun o => (((((Ext.refl w).alloc _ _).alloc _ _).alloc _ _).trans x1).unfrozen (b := w.heap.size + 1 + 1) (by omega) o
    go_wp2_with fail
    refine (iValid_any _ _ _ _ hib hfb hgb _).mono ?_
    rintro e w2 ⟨rfl, x2⟩
    have p2a0 := x2.box (b := w.heap.size) (o := 0) (v := .int .i64 ia) (by first | assumption | (simp; done) | (simp [go_sem]; done))
    have p2a1 := x2.box (b := w.heap.size) (o := 1) (v := .float .f64 fa) (by first | assumption | (simp; done) | (simp [go_sem]; done))
    have p2a2 := x2.box (b := w.heap.size) (o := 2) (v := .float .f64 ga) (by first | assumption | (simp; done) | (simp [go_sem]; done))
    have p2b0 := x2.box (b := w.heap.size + 1) (o := 0) (v := .int .i64 ib) (by first | assumption | (simp; done) | (simp [go_sem]; done))
    have p2b1 := x2.box (b := w.heap.size + 1) (o := 1) (v := .float .f64 fb) (by first | assumption | (simp; done) | (simp [go_sem]; done))
    have p2b2 := x2.box (b := w.heap.size + 1) (o := 2) (v := .float .f64 gb) (by first | assumption | (simp; done) | (simp [go_sem]; done))
    have z20 := x2.box (b := w.heap.size + 1 + 1) (o := 0) (v := .int .i64 0) (by first | assumption | (simp; done) | (simp [go_sem]; done) | rfl)
    have z21 := x2.box (b := w.heap.size + 1 + 1) (o := 1) (v := .int .i64 0) (by first | assumption | (simp; done) | (simp [go_sem]; done) | rfl)
    have z22 := x2.box (b := w.heap.size + 1 + 1) (o := 2) (v := .int .i64 0) (by first | assumption | (simp; done) | (simp [go_sem]; done) | rfl)
    have z23 := x2.box (b := w.heap.size + 1 + 1) (o := 3) (v := .float .f64 0) (by first | assumption | (simp; done) | (simp [go_sem]; done) | rfl)
    have z24 := x2.box (b := w.heap.size + 1 + 1) (o := 4) (v := .float .f64 0) (by first | assumption | (simp; done) | (simp [go_sem]; done) | rfl)
    have z2f := fun o => ((((((Ext.refl w).alloc _ _).alloc _ _).alloc _ _).trans x1).trans x2).unfrozen (b := w.heap.size + 1 + 1) (by omega) o
    go_wp2
    exact bodyPost_ret (v := .agg #[.int .i64 14, .int .i64 0, .int .i64 0, .float .f64 0, .float .f64 0]) (by simp [results, Try.results28, go_sem, z20, z21, z22, z23, z24]) rfl ⟨rfl, by repeat (first | with_reducible exact Ext.refl _ | with_reducible refine Ext.setCell ?_ (by first | (show _ ≤ _ + 1 + 1; omega) | (simp; done) | (simp; omega)) _ | with_reducible apply Ext.drewN | with_reducible apply Ext.drew | with_reducible apply Ext.alloc | refine Ext.trans ?_ (by assumption))⟩

set_option maxRecDepth 100000 in
set_option maxHeartbeats 2000000 in
theorem ap_ok (op dt ia ib : Int) (fa ga fb gb : Nat) (hia : I64 ia) (hfa : B64 fa) (hga : B64 ga) (hib : I64 ib) (hfb : B64 fb) (hgb : B64 gb) (ho : op = 5 ∨ op = 6) (hfit : fitO op dt = true) (va : validB dt ia fa ga = true) (vb : validB dt ib fb gb = true) (I : Int) (F : Nat)
    (hc : ∀ w, Calls Try.prog 61 #[.int .i64 op, .int .i64 dt, .agg #[.int .i64 ia, .float .f64 fa, .float .f64 ga], .agg #[.int .i64 ib, .float .f64 fb, .float .f64 gb]] w fun e w' => e = .returned (.agg #[.int .i64 I, .float .f64 F, .float .f64 0]) ∧ Ext w w') (w : World) :
    Calls Try.prog 28 #[.int .i64 op, .int .i64 dt, .agg #[.int .i64 ia, .float .f64 fa, .float .f64 ga], .agg #[.int .i64 ib, .float .f64 fb, .float .f64 gb]] w fun e w' => e = .returned (.agg #[.int .i64 0, .int .i64 dt, .int .i64 I, .float .f64 F, .float .f64 0]) ∧ Ext w w' := by
  have Hop := hide (by omega : 1 ≤ op ∧ op ≤ 10)
  have Ho := hide ho
  have Hc := hide hc
  have h1 : 1 ≤ op := by omega
  have h2 : op ≤ 10 := by omega
  clear ho hc
  go_enter Try.func28, Try.ntmps28
  go_wp2_with (go_at_call 59; refine (opCode_0 _ _ Hop.out hfit _).mono ?_; rintro e w' ⟨rfl, rfl⟩)
  refine (iValid_any _ _ _ _ hia hfa hga _).mono ?_
  rintro e w1 ⟨rfl, x1⟩
  have p1a0 := x1.box (b := w.heap.size) (o := 0) (v := .int .i64 ia) (by first | assumption | (simp; done) | (simp [go_sem]; done))
  have p1a1 := x1.box (b := w.heap.size) (o := 1) (v := .float .f64 fa) (by first | assumption | (simp; done) | (simp [go_sem]; done))
  have p1a2 := x1.box (b := w.heap.size) (o := 2) (v := .float .f64 ga) (by first | assumption | (simp; done) | (simp [go_sem]; done))
  have p1b0 := x1.box (b := w.heap.size + 1) (o := 0) (v := .int .i64 ib) (by first | assumption | (simp; done) | (simp [go_sem]; done))
  have p1b1 := x1.box (b := w.heap.size + 1) (o := 1) (v := .float .f64 fb) (by first | assumption | (simp; done) | (simp [go_sem]; done))
  have p1b2 := x1.box (b := w.heap.size + 1) (o := 2) (v := .float .f64 gb) (by first | assumption | (simp; done) | (simp [go_sem]; done))
  have z10 := x1.box (b := w.heap.size + 1 + 1) (o := 0) (v := .int .i64 0) (by first | assumption | (simp; done) | (simp [go_sem]; done) | rfl)
  have z11 := x1.box (b := w.heap.size + 1 + 1) (o := 1) (v := .int .i64 0) (by first | assumption | (simp; done) | (simp [go_sem]; done) | rfl)
  have z12 := x1.box (b := w.heap.size + 1 + 1) (o := 2) (v := .int .i64 0) (by first | assumption | (simp; done) | (simp [go_sem]; done) | rfl)
  have z13 := x1.box (b := w.heap.size + 1 + 1) (o := 3) (v := .float .f64 0) (by first | assumption | (simp; done) | (simp [go_sem]; done) | rfl)
  have z14 := x1.box (b := w.heap.size + 1 + 1) (o := 4) (v := .float .f64 0) (by first | assumption | (simp; done) | (simp [go_sem]; done) | rfl)
  have z1f := fun o => (((((Ext.refl w).alloc _ _).alloc _ _).alloc _ _).trans x1).unfrozen (b := w.heap.size + 1 + 1) (by omega) o
  go_wp2_with fail
  refine (iValid_any _ _ _ _ hib hfb hgb _).mono ?_
  rintro e w2 ⟨rfl, x2⟩
  have p2a0 := x2.box (b := w.heap.size) (o := 0) (v := .int .i64 ia) (by first | assumption | (simp; done) | (simp [go_sem]; done))
  have p2a1 := x2.box (b := w.heap.size) (o := 1) (v := .float .f64 fa) (by first | assumption | (simp; done) | (simp [go_sem]; done))
  have p2a2 := x2.box (b := w.heap.size) (o := 2) (v := .float .f64 ga) (by first | assumption | (simp; done) | (simp [go_sem]; done))
  have p2b0 := x2.box (b := w.heap.size + 1) (o := 0) (v := .int .i64 ib) (by first | assumption | (simp; done) | (simp [go_sem]; done))
  have p2b1 := x2.box (b := w.heap.size + 1) (o := 1) (v := .float .f64 fb) (by first | assumption | (simp; done) | (simp [go_sem]; done))
  have p2b2 := x2.box (b := w.heap.size + 1) (o := 2) (v := .float .f64 gb) (by first | assumption | (simp; done) | (simp [go_sem]; done))
  have z20 := x2.box (b := w.heap.size + 1 + 1) (o := 0) (v := .int .i64 0) (by first | assumption | (simp; done) | (simp [go_sem]; done) | rfl)
  have z21 := x2.box (b := w.heap.size + 1 + 1) (o := 1) (v := .int .i64 0) (by first | assumption | (simp; done) | (simp [go_sem]; done) | rfl)
  have z22 := x2.box (b := w.heap.size + 1 + 1) (o := 2) (v := .int .i64 0) (by first | assumption | (simp; done) | (simp [go_sem]; done) | rfl)
  have z23 := x2.box (b := w.heap.size + 1 + 1) (o := 3) (v := .float .f64 0) (by first | assumption | (simp; done) | (simp [go_sem]; done) | rfl)
  have z24 := x2.box (b := w.heap.size + 1 + 1) (o := 4) (v := .float .f64 0) (by first | assumption | (simp; done) | (simp [go_sem]; done) | rfl)
  have z2f := fun o => ((((((Ext.refl w).alloc _ _).alloc _ _).alloc _ _).trans x1).trans x2).unfrozen (b := w.heap.size + 1 + 1) (by omega) o
  go_wp2_with fail
  go_region_with (first | (go_at_call 60; refine (resDType_mm _ _ Ho.out _).mono ?_; rintro e w' ⟨rfl, rfl⟩) | (go_at_call 61; refine (Hc.out _).mono ?_; rintro e w3 ⟨rfl, x3⟩; have z30 := x3.box (b := w.heap.size + 1 + 1) (o := 0) (v := .int .i64 0) z20; have z31 := x3.box (b := w.heap.size + 1 + 1) (o := 1) (v := .int .i64 0) z21; have z32 := x3.box (b := w.heap.size + 1 + 1) (o := 2) (v := .int .i64 0) z22; have z33 := x3.box (b := w.heap.size + 1 + 1) (o := 3) (v := .float .f64 0) z23; have z34 := x3.box (b := w.heap.size + 1 + 1) (o := 4) (v := .float .f64 0) z24; have z3f := fun o => (((((((((Ext.refl w).alloc _ _).alloc _ _).alloc _ _).trans x1).trans x2).drew).trans x3)).unfrozen (b := w.heap.size + 1 + 1) (by omega) o))
  all_goals go_wp2
  all_goals exact bodyPost_ret (v := .agg #[.int .i64 0, .int .i64 dt, .int .i64 I, .float .f64 F, .float .f64 0]) (by simp [results, Try.results28, go_sem, z30, z31, z32, z33, z34]) rfl ⟨rfl, by repeat (first | with_reducible exact Ext.refl _ | with_reducible refine Ext.setCell ?_ (by first | (show _ ≤ _ + 1 + 1; omega) | (simp; done) | (simp; omega)) _ | with_reducible apply Ext.drewN | with_reducible apply Ext.drew | with_reducible apply Ext.alloc | refine Ext.trans ?_ (by assumption))⟩
end Go.Proofs.Ythaajmkfeniofaa
