import Derived.Test.YthaajmkfeniofaaUnary3
namespace Go.Proofs.Ythaajmkfeniofaa
open Go.RowKit FL
set_option linter.unusedSimpArgs false
set_option linter.unusedVariables false

theorem sAU_e3 (op dt i : Int) (f g : Nat) (ho : ¬ (1 ≤ op ∧ op ≤ 4)) (w : World) :
    Calls Try.prog 24 #[.int .i64 op, .int .i64 dt, .agg #[.int .i64 i, .float .f64 f, .float .f64 g]] w fun e w' => e = .returned (.agg #[.int .i64 3, .int .i64 0, .int .i64 0, .float .f64 0, .float .f64 0]) ∧ Ext w w' := by
  by_cases h1 : op < 1
  · clear ho
    go_enter Try.func24, Try.ntmps24
    go_wp2
    exact bodyPost_ret (v := .agg #[.int .i64 3, .int .i64 0, .int .i64 0, .float .f64 0, .float .f64 0]) (by simp [results, Try.results24, go_sem]) rfl ⟨rfl, by repeat (first | with_reducible exact Ext.refl _ | with_reducible refine Ext.setCell ?_ (by simp; try omega) _ | with_reducible apply Ext.drewN | with_reducible apply Ext.drew | with_reducible apply Ext.alloc | refine Ext.trans ?_ (by assumption))⟩
  · have h2 : 4 < op := by omega
    have h3 : 1 ≤ op := by omega
    clear ho h1
    go_enter Try.func24, Try.ntmps24
    go_wp2
    exact bodyPost_ret (v := .agg #[.int .i64 3, .int .i64 0, .int .i64 0, .float .f64 0, .float .f64 0]) (by simp [results, Try.results24, go_sem]) rfl ⟨rfl, by repeat (first | with_reducible exact Ext.refl _ | with_reducible refine Ext.setCell ?_ (by simp; try omega) _ | with_reducible apply Ext.drewN | with_reducible apply Ext.drew | with_reducible apply Ext.alloc | refine Ext.trans ?_ (by assumption))⟩

theorem unaryCode_3 (op dt : Int) (ho : ¬ (1 ≤ op ∧ op ≤ 4)) (w : World) :
    Calls Try.prog 55 #[.int .i64 op, .int .i64 dt] w fun e w' => e = .returned (.int .i64 3) ∧ w' = w := by
  by_cases h1 : op < 1
  · clear ho
    go_enter Try.func55, Try.ntmps55
    go_wp2
    go_ret
    exact ⟨rfl, rfl⟩
  · have h2 : 4 < op := by omega
    have h3 : 1 ≤ op := by omega
    clear ho h1
    go_enter Try.func55, Try.ntmps55
    go_wp2
    go_ret
    exact ⟨rfl, rfl⟩

theorem unaryCode_4 (op dt : Int) (ho : 1 ≤ op ∧ op ≤ 4) (hfit : fitU op dt = false) (w : World) :
    Calls Try.prog 55 #[.int .i64 op, .int .i64 dt] w fun e w' => e = .returned (.int .i64 4) ∧ w' = w := by
  have Hop := hide ho
  obtain ⟨h1, h2⟩ := ho
  go_enter Try.func55, Try.ntmps55
  go_wp2_with (go_at_call 80; refine (unaryFits_any _ _ Hop.out _).mono ?_; rintro e w' ⟨rfl, rfl⟩)
  go_ret
  exact ⟨rfl, rfl⟩

theorem unaryCode_0 (op dt : Int) (ho : 1 ≤ op ∧ op ≤ 4) (hfit : fitU op dt = true) (w : World) :
    Calls Try.prog 55 #[.int .i64 op, .int .i64 dt] w fun e w' => e = .returned (.int .i64 0) ∧ w' = w := by
  have Hop := hide ho
  obtain ⟨h1, h2⟩ := ho
  go_enter Try.func55, Try.ntmps55
  go_wp2_with (go_at_call 80; refine (unaryFits_any _ _ Hop.out _).mono ?_; rintro e w' ⟨rfl, rfl⟩)
  go_ret
  exact ⟨rfl, rfl⟩

theorem iAU_e3 (op dt i : Int) (f g : Nat) (ho : ¬ (1 ≤ op ∧ op ≤ 4)) (w : World) :
    Calls Try.prog 25 #[.int .i64 op, .int .i64 dt, .agg #[.int .i64 i, .float .f64 f, .float .f64 g]] w fun e w' => e = .returned (.agg #[.int .i64 3, .int .i64 0, .int .i64 0, .float .f64 0, .float .f64 0]) ∧ Ext w w' := by
  have Ho := hide ho
  clear ho
  go_enter Try.func25, Try.ntmps25
  go_wp2_with (go_at_call 55; refine (unaryCode_3 _ _ Ho.out _).mono ?_; rintro e w' ⟨rfl, rfl⟩)
  exact bodyPost_ret (v := .agg #[.int .i64 3, .int .i64 0, .int .i64 0, .float .f64 0, .float .f64 0]) (by simp [results, Try.results25, go_sem]) rfl ⟨rfl, by repeat (first | with_reducible exact Ext.refl _ | with_reducible refine Ext.setCell ?_ (by simp; try omega) _ | with_reducible apply Ext.drewN | with_reducible apply Ext.drew | with_reducible apply Ext.alloc | refine Ext.trans ?_ (by assumption))⟩

theorem sAU_e4a (op dt i : Int) (f g : Nat) (ho : 1 ≤ op ∧ op ≤ 4) (hd : isDtB dt = false) (w : World) :
    Calls Try.prog 24 #[.int .i64 op, .int .i64 dt, .agg #[.int .i64 i, .float .f64 f, .float .f64 g]] w fun e w' => e = .returned (.agg #[.int .i64 4, .int .i64 0, .int .i64 0, .float .f64 0, .float .f64 0]) ∧ Ext w w' := by
  obtain ⟨h1, h2⟩ := ho
  go_enter Try.func24, Try.ntmps24
  go_wp2_with (go_at_call 32; refine (l1IsDType_any _ _).mono ?_; rintro e w' ⟨rfl, rfl⟩)
  exact bodyPost_ret (v := .agg #[.int .i64 4, .int .i64 0, .int .i64 0, .float .f64 0, .float .f64 0]) (by simp [results, Try.results24, go_sem]) rfl ⟨rfl, by repeat (first | with_reducible exact Ext.refl _ | with_reducible refine Ext.setCell ?_ (by simp; try omega) _ | with_reducible apply Ext.drewN | with_reducible apply Ext.drew | with_reducible apply Ext.alloc | refine Ext.trans ?_ (by assumption))⟩

theorem sAU_e4b (op dt i : Int) (f g : Nat) (ho : 1 ≤ op ∧ op ≤ 4) (hd : isDtB dt = true) (hfit : fitU op dt = false) (w : World) :
    Calls Try.prog 24 #[.int .i64 op, .int .i64 dt, .agg #[.int .i64 i, .float .f64 f, .float .f64 g]] w fun e w' => e = .returned (.agg #[.int .i64 4, .int .i64 0, .int .i64 0, .float .f64 0, .float .f64 0]) ∧ Ext w w' := by
  have Hop := hide ho
  have Hdt := hide (by simpa [isDtB] using hd : 1 ≤ dt ∧ dt ≤ 9)
  obtain ⟨h1, h2⟩ := ho
  go_enter Try.func24, Try.ntmps24
  go_wp2_with (first | (go_at_call 32; refine (l1IsDType_any _ _).mono ?_; rintro e w' ⟨rfl, rfl⟩) | (go_at_call 53; refine (l1HasUnary_any _ _ Hop.out Hdt.out _).mono ?_; rintro e w' ⟨rfl, rfl⟩))
  exact bodyPost_ret (v := .agg #[.int .i64 4, .int .i64 0, .int .i64 0, .float .f64 0, .float .f64 0]) (by simp [results, Try.results24, go_sem]) rfl ⟨rfl, by repeat (first | with_reducible exact Ext.refl _ | with_reducible refine Ext.setCell ?_ (by simp; try omega) _ | with_reducible apply Ext.drewN | with_reducible apply Ext.drew | with_reducible apply Ext.alloc | refine Ext.trans ?_ (by assumption))⟩

theorem sAU_e14 (op dt i : Int) (f g : Nat) (hf : B64 f) (hg : B64 g) (ho : 1 ≤ op ∧ op ≤ 4) (hd : isDtB dt = true) (hfit : fitU op dt = true) (hv : validB dt i f g = false) (w : World) :
    Calls Try.prog 24 #[.int .i64 op, .int .i64 dt, .agg #[.int .i64 i, .float .f64 f, .float .f64 g]] w fun e w' => e = .returned (.agg #[.int .i64 14, .int .i64 0, .int .i64 0, .float .f64 0, .float .f64 0]) ∧ Ext w w' := by
  have Hop := hide ho
  have Hdt := hide (by simpa [isDtB] using hd : 1 ≤ dt ∧ dt ≤ 9)
  obtain ⟨h1, h2⟩ := ho
  go_enter Try.func24, Try.ntmps24
  go_wp2_with (first | (go_at_call 32; refine (l1IsDType_any _ _).mono ?_; rintro e w' ⟨rfl, rfl⟩) | (go_at_call 53; refine (l1HasUnary_any _ _ Hop.out Hdt.out _).mono ?_; rintro e w' ⟨rfl, rfl⟩) | (go_at_call 16; refine (sValid_any _ _ _ _ hf hg _).mono ?_; rintro e w1 ⟨rfl, x1⟩; have a0 := x1.box (b := w.heap.size) (o := 0) (v := .int .i64 i) (by first | assumption | simp); have a1 := x1.box (b := w.heap.size) (o := 1) (v := .float .f64 f) (by first | assumption | simp); have a2 := x1.box (b := w.heap.size) (o := 2) (v := .float .f64 g) (by first | assumption | simp); have k0 := x1.box (b := w.heap.size + 1) (o := 0) (v := .int .i64 0) (by first | assumption | simp); have k1 := x1.box (b := w.heap.size + 1) (o := 1) (v := .int .i64 0) (by first | assumption | simp); have k2 := x1.box (b := w.heap.size + 1) (o := 2) (v := .int .i64 0) (by first | assumption | simp); have k3 := x1.box (b := w.heap.size + 1) (o := 3) (v := .float .f64 0) (by first | assumption | simp); have k4 := x1.box (b := w.heap.size + 1) (o := 4) (v := .float .f64 0) (by first | assumption | simp); have kf := fun o => ((((Ext.refl w).alloc _ _).alloc _ _).trans x1).unfrozen (b := w.heap.size + 1) (by simp) o; have hz1 := x1.size2.1; have hz2 := x1.size2.2))
  exact bodyPost_ret (v := .agg #[.int .i64 14, .int .i64 0, .int .i64 0, .float .f64 0, .float .f64 0]) (by simp [results, Try.results24, go_sem, k0, k1, k2, k3, k4, hz1, hz2]) rfl ⟨rfl, by repeat (first | with_reducible exact Ext.refl _ | with_reducible refine Ext.setCell ?_ (by simp; try omega) _ | with_reducible apply Ext.drewN | with_reducible apply Ext.drew | with_reducible apply Ext.alloc | refine Ext.trans ?_ (by assumption))⟩

theorem iAU_e4 (op dt i : Int) (f g : Nat) (ho : 1 ≤ op ∧ op ≤ 4) (hfit : fitU op dt = false) (w : World) :
    Calls Try.prog 25 #[.int .i64 op, .int .i64 dt, .agg #[.int .i64 i, .float .f64 f, .float .f64 g]] w fun e w' => e = .returned (.agg #[.int .i64 4, .int .i64 0, .int .i64 0, .float .f64 0, .float .f64 0]) ∧ Ext w w' := by
  have Hop := hide ho
  obtain ⟨h1, h2⟩ := ho
  go_enter Try.func25, Try.ntmps25
  go_wp2_with (go_at_call 55; refine (unaryCode_4 _ _ Hop.out hfit _).mono ?_; rintro e w' ⟨rfl, rfl⟩)
  exact bodyPost_ret (v := .agg #[.int .i64 4, .int .i64 0, .int .i64 0, .float .f64 0, .float .f64 0]) (by simp [results, Try.results25, go_sem]) rfl ⟨rfl, by repeat (first | with_reducible exact Ext.refl _ | with_reducible refine Ext.setCell ?_ (by simp; try omega) _ | with_reducible apply Ext.drewN | with_reducible apply Ext.drew | with_reducible apply Ext.alloc | refine Ext.trans ?_ (by assumption))⟩

theorem iAU_e14 (op dt i : Int) (f g : Nat) (hi : I64 i) (hf : B64 f) (hg : B64 g) (ho : 1 ≤ op ∧ op ≤ 4) (hfit : fitU op dt = true) (hv : validB dt i f g = false) (w : World) :
    Calls Try.prog 25 #[.int .i64 op, .int .i64 dt, .agg #[.int .i64 i, .float .f64 f, .float .f64 g]] w fun e w' => e = .returned (.agg #[.int .i64 14, .int .i64 0, .int .i64 0, .float .f64 0, .float .f64 0]) ∧ Ext w w' := by
  have Hop := hide ho
  obtain ⟨h1, h2⟩ := ho
  go_enter Try.func25, Try.ntmps25
  go_wp2_with (first | (go_at_call 55; refine (unaryCode_0 _ _ Hop.out hfit _).mono ?_; rintro e w' ⟨rfl, rfl⟩) | (go_at_call 18; refine (iValid_any _ _ _ _ hi hf hg _).mono ?_; rintro e w1 ⟨rfl, x1⟩; have a0 := x1.box (b := w.heap.size) (o := 0) (v := .int .i64 i) (by first | assumption | simp); have a1 := x1.box (b := w.heap.size) (o := 1) (v := .float .f64 f) (by first | assumption | simp); have a2 := x1.box (b := w.heap.size) (o := 2) (v := .float .f64 g) (by first | assumption | simp); have k0 := x1.box (b := w.heap.size + 1) (o := 0) (v := .int .i64 0) (by first | assumption | simp); have k1 := x1.box (b := w.heap.size + 1) (o := 1) (v := .int .i64 0) (by first | assumption | simp); have k2 := x1.box (b := w.heap.size + 1) (o := 2) (v := .int .i64 0) (by first | assumption | simp); have k3 := x1.box (b := w.heap.size + 1) (o := 3) (v := .float .f64 0) (by first | assumption | simp); have k4 := x1.box (b := w.heap.size + 1) (o := 4) (v := .float .f64 0) (by first | assumption | simp); have kf := fun o => ((((Ext.refl w).alloc _ _).alloc _ _).trans x1).unfrozen (b := w.heap.size + 1) (by simp) o; have hz1 := x1.size2.1; have hz2 := x1.size2.2))
  exact bodyPost_ret (v := .agg #[.int .i64 14, .int .i64 0, .int .i64 0, .float .f64 0, .float .f64 0]) (by simp [results, Try.results25, go_sem, k0, k1, k2, k3, k4, hz1, hz2]) rfl ⟨rfl, by repeat (first | with_reducible exact Ext.refl _ | with_reducible refine Ext.setCell ?_ (by simp; try omega) _ | with_reducible apply Ext.drewN | with_reducible apply Ext.drew | with_reducible apply Ext.alloc | refine Ext.trans ?_ (by assumption))⟩

theorem iAU_ok (op dt i : Int) (f g : Nat) (hi : I64 i) (hf : B64 f) (hg : B64 g) (ho : 1 ≤ op ∧ op ≤ 4) (hfit : fitU op dt = true) (hv : validB dt i f g = true) (w : World) :
    Calls Try.prog 25 #[.int .i64 op, .int .i64 dt, .agg #[.int .i64 i, .float .f64 f, .float .f64 g]] w fun e w' => e = .returned (.agg #[.int .i64 0, .int .i64 dt, .int .i64 (rI op dt i), .float .f64 (rF op dt f), .float .f64 (rG op dt g)]) ∧ Ext w w' := by
  have Hop := hide ho
  obtain ⟨h1, h2⟩ := ho
  go_enter Try.func25, Try.ntmps25
  go_wp2_with (first | (go_at_call 55; refine (unaryCode_0 _ _ Hop.out hfit _).mono ?_; rintro e w' ⟨rfl, rfl⟩) | (go_at_call 18; refine (iValid_any _ _ _ _ hi hf hg _).mono ?_; rintro e w1 ⟨rfl, x1⟩; have a0 := x1.box (b := w.heap.size) (o := 0) (v := .int .i64 i) (by first | assumption | simp); have a1 := x1.box (b := w.heap.size) (o := 1) (v := .float .f64 f) (by first | assumption | simp); have a2 := x1.box (b := w.heap.size) (o := 2) (v := .float .f64 g) (by first | assumption | simp); have k0 := x1.box (b := w.heap.size + 1) (o := 0) (v := .int .i64 0) (by first | assumption | simp); have k1 := x1.box (b := w.heap.size + 1) (o := 1) (v := .int .i64 0) (by first | assumption | simp); have k2 := x1.box (b := w.heap.size + 1) (o := 2) (v := .int .i64 0) (by first | assumption | simp); have k3 := x1.box (b := w.heap.size + 1) (o := 3) (v := .float .f64 0) (by first | assumption | simp); have k4 := x1.box (b := w.heap.size + 1) (o := 4) (v := .float .f64 0) (by first | assumption | simp); have kf := fun o => ((((Ext.refl w).alloc _ _).alloc _ _).trans x1).unfrozen (b := w.heap.size + 1) (by simp) o; have hz1 := x1.size2.1; have hz2 := x1.size2.2) | (go_at_call 56; refine (uCell_any _ _ _ _ _ hf hg Hop.out hv hfit _).mono ?_; rintro e w2 ⟨rfl, x2⟩; have m0 := x2.box (b := w.heap.size + 1) (o := 0) (v := .int .i64 0) (by first | assumption | simp); have m1 := x2.box (b := w.heap.size + 1) (o := 1) (v := .int .i64 0) (by first | assumption | simp); have m2 := x2.box (b := w.heap.size + 1) (o := 2) (v := .int .i64 0) (by first | assumption | simp); have m3 := x2.box (b := w.heap.size + 1) (o := 3) (v := .float .f64 0) (by first | assumption | simp); have m4 := x2.box (b := w.heap.size + 1) (o := 4) (v := .float .f64 0) (by first | assumption | simp); have mf := fun o => (((((Ext.refl w).alloc _ _).alloc _ _).trans x1).trans x2).unfrozen (b := w.heap.size + 1) (by simp) o))
  exact bodyPost_ret (v := .agg #[.int .i64 0, .int .i64 dt, .int .i64 (rI op dt i), .float .f64 (rF op dt f), .float .f64 (rG op dt g)]) (by simp [results, Try.results25, go_sem, m0, m1, m2, m3, m4]) rfl ⟨rfl, by repeat (first | with_reducible exact Ext.refl _ | with_reducible refine Ext.setCell ?_ (by simp; try omega) _ | with_reducible apply Ext.drewN | with_reducible apply Ext.drew | with_reducible apply Ext.alloc | refine Ext.trans ?_ (by assumption))⟩

theorem same_trans {a b c : Nat} (h1 : sameB a b = true) (h2 : sameB b c = true) : sameB a c = true := by
  unfold sameB at *
  cases ha : nanD a <;> cases hb : nanD b <;> cases hc : nanD c <;> simp_all
theorem same_symm {a b : Nat} (h1 : sameB a b = true) : sameB b a = true := by
  unfold sameB at *
  cases ha : nanD a <;> cases hb : nanD b <;> simp_all

theorem flt_zero (f : Nat) (hf : B64 f) (h : flt f 0 = true) : FL.flip f = absF f := by
  unfold flt at h
  simp only [Bool.and_eq_true, decide_eq_true_eq, key_zero] at h
  unfold B64 at hf
  rw [keyD_eq f hf] at h
  unfold FL.flip absF
  split at h <;> split <;> omega
theorem abs_zero (f : Nat) (hf : B64 f) (h : feq f 0 = true) : absF f = 0 := by
  rcases zero_cases f hf h with rfl | rfl <;> decide
theorem abs_pos (f : Nat) (hf : B64 f) (hl : flt f 0 = false) (he : feq f 0 = false) : sameB f (absF f) = true := by
  unfold B64 at hf
  unfold sameB
  have h2 : nanD (absF f) = nanD f := by
    rw [Bool.eq_iff_iff, nanD_iff, nanD_iff]; unfold absF; omega
  rw [h2]
  cases hn : nanD f
  · unfold flt at hl
    unfold feq at he
    rw [hn, nan_zero, key_zero, keyD_eq f hf] at hl he
    simp only [Bool.not_false, Bool.true_and, decide_eq_false_iff_not] at hl he
    have : f = absF f := by
      unfold absF
      split at hl <;> split at he <;> omega
    simp [← this]
  · rfl

theorem sAU_ok (op dt i : Int) (f g : Nat) (hi : I64 i) (hf : B64 f) (hg : B64 g) (ho : 1 ≤ op ∧ op ≤ 4) (hfit : fitU op dt = true) (hv : validB dt i f g = true) (w : World) :
    Calls Try.prog 24 #[.int .i64 op, .int .i64 dt, .agg #[.int .i64 i, .float .f64 f, .float .f64 g]] w fun e w' => ∃ f' g', e = .returned (.agg #[.int .i64 0, .int .i64 dt, .int .i64 (rI op dt i), .float .f64 f', .float .f64 g']) ∧ (sameB f' (rF op dt f) = true ∧ sameB g' (rG op dt g) = true ∧ B64 f' ∧ B64 g') ∧ Ext w w' := by
  have hdt := valid_dt dt i f g hv
  unfold fitU at hfit
  simp only [decide_eq_true_eq] at hfit
  have hw : ∀ z : Int, wrap64 (-z) = (-z + 9223372036854775808) % 18446744073709551616 - 9223372036854775808 := fun z => by simp only [wrap64, IntKind.wrap_i64]
  by_cases h4 : op = 4
  · subst h4
    have e1 : rI 4 dt i = i := by unfold rI; simp
    have e2 : rF 4 dt f = f := by unfold rF; simp
    by_cases h9 : dt = 9
    · subst h9
      have e3 : rG 4 9 g = FL.flip g := by unfold rG; simp
      rw [e1, e2, e3]; exact sAU_B i f g hf hg hv w
    · have e3 : rG 4 dt g = g := by unfold rG; simp [h9]
      rw [e1, e2, e3]
      by_cases h1 : dt = 1
      · subst h1; exact sAU_A0 i f g hf hg hv w
      · by_cases h6 : dt ≤ 6
        · exact sAU_A1 dt i f g hf hg hv (by omega) w
        · exact sAU_A2 dt i f g hf hg hv (by omega) w
  by_cases h9 : dt = 9
  · subst h9
    have h1 : op = 1 := by omega
    subst h1
    have h0 := valid_cpx i f g hv
    have e1 : rI 1 9 i = i := by unfold rI; simp; exact h0.symm
    have e2 : rF 1 9 f = FL.flip f := by unfold rF; simp
    have e3 : rG 1 9 g = FL.flip g := by unfold rG; simp
    rw [e1, e2, e3]; exact sAU_G i f g hf hg hv w
  have e3 : rG op dt g = 0 := by unfold rG; rw [if_neg h9, if_neg h4]
  by_cases h6 : dt ≤ 6
  · have hr := valid_int dt i f g hv h6
    obtain ⟨hr1, hr2, rfl, rfl⟩ := hr
    have e2 : rF op dt 0 = 0 := by unfold rF; rw [if_neg h4, if_pos h6]
    rw [e2, e3]
    by_cases h1 : dt = 1
    · subst h1
      have h2 : op = 2 := by omega
      subst h2
      have e1 : rI 2 1 i = 1 - i := by unfold rI; simp
      rw [e1]; exact sAU_C i 0 0 hf hg hv ⟨hr1, hr2⟩ w
    · have e1 : rI op dt i = unI op dt i := by unfold rI; rw [if_neg h4, if_neg h1, if_pos h6]
      rw [e1]
      have : op = 1 ∨ op = 2 ∨ op = 3 := by omega
      rcases this with rfl | rfl | rfl
      · have e : unI 1 dt i = cutL dt (wrap64 (-i)) := by unfold unI; rw [hw]; simp
        rw [e]; exact sAU_E dt i 0 0 hf hg hv (by omega) w
      · have e : unI 2 dt i = cutL dt (-1 - i) := by unfold unI; simp
        rw [e]; exact sAU_D dt i 0 0 hf hg hv (by omega) (by unfold I64 at hi; exact hi) w
      · by_cases hneg : i < 0
        · have e : unI 3 dt i = cutL dt (wrap64 (-i)) := by unfold unI; rw [hw, if_neg (by decide), if_neg (by omega)]
          rw [e]; exact sAU_H0 dt i 0 0 hf hg hv (by omega) hneg w
        · have e : unI 3 dt i = i := by unfold unI; rw [if_neg (by decide), if_pos (by omega)]
          rw [e]; exact sAU_H1 dt i 0 0 hf hg hv (by omega) (by omega) (by decide) w
  · have hr := valid_flt dt i f g hv (by omega) (by omega)
    obtain ⟨rfl, rfl⟩ := hr
    have e1 : rI op dt 0 = 0 := by unfold rI; rw [if_neg h4, if_neg (by omega), if_neg h6]
    have e2 : rF op dt f = unF op f := by unfold rF; rw [if_neg h4, if_neg h6, if_pos (by omega)]
    rw [e1, e2, e3]
    have : op = 1 ∨ op = 3 := by omega
    rcases this with rfl | rfl
    · have e : unF 1 f = FL.flip f := by unfold unF; simp
      rw [e]; exact sAU_F dt 0 f 0 hf hg hv (by omega) w
    · have e : unF 3 f = absF f := by unfold unF; simp
      rw [e]
      cases hl : flt f 0
      · cases he : feq f 0
        · refine (sAU_I2 dt 0 f 0 hf hg hv (by omega) (by omega) hl he w).mono ?_
          rintro e w' ⟨f', g', h1, ⟨h2, h3, h4, h5⟩, h6⟩
          exact ⟨f', g', h1, ⟨same_trans h2 (abs_pos f hf hl he), h3, h4, h5⟩, h6⟩
        · rw [abs_zero f hf he]; exact sAU_I1 dt 0 f 0 hf hg hv (by omega) (by omega) hl he w
      · rw [← flt_zero f hf hl]; exact sAU_I0 dt 0 f 0 hf hg hv (by omega) (by omega) hl w

theorem eqCell_true (i : Int) (f1 g1 f2 g2 : Nat) (h1 : B64 f1) (h2 : B64 g1) (h3 : B64 f2) (h4 : B64 g2) (sf : sameB f1 f2 = true) (sg : sameB g1 g2 = true) (w : World) :
    Calls Try.prog 23 #[.agg #[.int .i64 i, .float .f64 f1, .float .f64 g1], .agg #[.int .i64 i, .float .f64 f2, .float .f64 g2]] w fun e w' => e = .returned (.bool true) ∧ Ext w w' := by
  go_enter Try.func23, Try.ntmps23
  go_wp2_with (go_at_call 52; refine (sameFloat_any _ _ ?_ ?_ _).mono ?_; assumption; assumption; rintro e w' ⟨rfl, rfl⟩)
  go_ret
  exact ⟨rfl, by repeat (first | with_reducible exact Ext.refl _ | with_reducible refine Ext.setCell ?_ (by simp; try omega) _ | with_reducible apply Ext.drewN | with_reducible apply Ext.drew | with_reducible apply Ext.alloc | refine Ext.trans ?_ (by assumption))⟩

theorem eqApplied_true (c d i : Int) (f1 g1 f2 g2 : Nat) (h1 : B64 f1) (h2 : B64 g1) (h3 : B64 f2) (h4 : B64 g2) (sf : sameB f1 f2 = true) (sg : sameB g1 g2 = true) (w : World) :
    Calls Try.prog 26 #[.agg #[.int .i64 c, .int .i64 d, .int .i64 i, .float .f64 f1, .float .f64 g1], .agg #[.int .i64 c, .int .i64 d, .int .i64 i, .float .f64 f2, .float .f64 g2]] w fun e w' => e = .returned (.bool true) ∧ Ext w w' := by
  go_enter Try.func26, Try.ntmps26
  go_wp2_with (go_at_call 23; refine (eqCell_true _ _ _ _ _ h1 h2 h3 h4 sf sg _).mono ?_; rintro e w1 ⟨rfl, x1⟩)
  go_ret
  exact ⟨rfl, by repeat (first | with_reducible exact Ext.refl _ | with_reducible refine Ext.setCell ?_ (by simp; try omega) _ | with_reducible apply Ext.drewN | with_reducible apply Ext.drew | with_reducible apply Ext.alloc | refine Ext.trans ?_ (by assumption))⟩
end Go.Proofs.Ythaajmkfeniofaa
