import Derived.Test.YthaajmkfeniofaaUnary
namespace Go.Proofs.Ythaajmkfeniofaa
open Go.RowKit FL
set_option linter.unusedSimpArgs false
set_option linter.unusedVariables false

def fitU (op dt : Int) : Bool := decide ((1 ≤ dt ∧ dt ≤ 9) ∧ ((op = 1 ∧ 2 ≤ dt) ∨ (op = 2 ∧ dt ≤ 6) ∨ (op = 3 ∧ 2 ≤ dt ∧ dt ≤ 8) ∨ op = 4))

theorem kind_def (dt : Int) : kindL dt = if dt = 1 then 0 else if 2 ≤ dt ∧ dt ≤ 6 then 1 else if dt = 7 ∨ dt = 8 then 2 else if dt = 9 then 3 else -1 := rfl
theorem skind_def (dt : Int) : skindL dt = if dt = 1 then 0 else if dt ≤ 6 then 1 else if dt ≤ 8 then 2 else 3 := rfl

theorem unaryFits_any (op dt : Int) (h : 1 ≤ op ∧ op ≤ 4) (w : World) :
    Calls Try.prog 80 #[.int .i64 op, .int .i64 dt] w fun e w' => e = .returned (.bool (fitU op dt)) ∧ w' = w := by
  go_enter Try.func80, Try.ntmps80
  go_wp2_with (go_at_call 35; refine (kindOf_any _ _).mono ?_; rintro e w' ⟨rfl, rfl⟩)
  all_goals go_ret
  all_goals refine ⟨ret_bool ?_, rfl⟩
  all_goals go_light
  all_goals (rw [Bool.eq_iff_iff]; simp only [fitU, Bool.or_eq_true, Bool.not_eq_true', Bool.not_eq_false', decide_eq_true_eq, decide_eq_false_iff_not, beq_iff_eq, beq_eq_false_iff_ne, bne_iff_ne, ne_eq, Bool.false_eq_true, false_iff, true_iff] at *; have hk1 := kind_def dt; have hk2 := skind_def dt; omega)

theorem l1HasUnary_any (op dt : Int) (h : 1 ≤ op ∧ op ≤ 4) (hd : 1 ≤ dt ∧ dt ≤ 9) (w : World) :
    Calls Try.prog 53 #[.int .i64 op, .int .i64 dt] w fun e w' => e = .returned (.bool (fitU op dt)) ∧ w' = w := by
  go_enter Try.func53, Try.ntmps53
  go_wp2_with (go_at_call 34; refine (l1Kind_any _ _).mono ?_; rintro e w' ⟨rfl, rfl⟩)
  all_goals go_ret
  all_goals refine ⟨ret_bool ?_, rfl⟩
  all_goals go_light
  all_goals (rw [Bool.eq_iff_iff]; simp only [fitU, Bool.or_eq_true, Bool.not_eq_true', Bool.not_eq_false', decide_eq_true_eq, decide_eq_false_iff_not, beq_iff_eq, beq_eq_false_iff_ne, bne_iff_ne, ne_eq, Bool.false_eq_true, false_iff, true_iff] at *; have hk1 := kind_def dt; have hk2 := skind_def dt; omega)

def rI (op dt i : Int) : Int := if op = 4 then i else if dt = 1 then 1 - i else if dt ≤ 6 then unI op dt i else 0
def rF (op dt : Int) (f : Nat) : Nat := if op = 4 then f else if dt ≤ 6 then 0 else if dt ≤ 8 then unF op f else FL.flip f
def rG (op dt : Int) (g : Nat) : Nat := if dt = 9 then FL.flip g else if op = 4 then g else 0

theorem uCell_id (dt i : Int) (f g : Nat) (h : (dt == 9) = false) (w : World) :
    Calls Try.prog 56 #[.int .i64 4, .int .i64 dt, .agg #[.int .i64 i, .float .f64 f, .float .f64 g]] w fun e w' => e = .returned (.agg #[.int .i64 i, .float .f64 f, .float .f64 g]) ∧ Ext w w' := by
  have h' : (dt != 9) = true := by rw [bne, h]; rfl
  go_enter Try.func56, Try.ntmps56
  go_wp2
  exact bodyPost_ret (v := .agg #[.int .i64 i, .float .f64 f, .float .f64 g]) (by simp [results, Try.results56, go_sem]) rfl ⟨rfl, by repeat (first | exact Ext.refl _ | refine Ext.setCell ?_ (by simp) _ | apply Ext.drewN | apply Ext.drew | apply Ext.alloc | refine Ext.trans ?_ (by assumption))⟩

theorem uCell_bool (i : Int) (f g : Nat) (hi : 0 ≤ i ∧ i ≤ 1) (w : World) :
    Calls Try.prog 56 #[.int .i64 2, .int .i64 1, .agg #[.int .i64 i, .float .f64 f, .float .f64 g]] w fun e w' => e = .returned (.agg #[.int .i64 (1 - i), .float .f64 0, .float .f64 0]) ∧ Ext w w' := by
  go_enter Try.func56, Try.ntmps56
  go_wp2
  exact bodyPost_ret (v := .agg #[.int .i64 (1 - i), .float .f64 0, .float .f64 0]) (by simp [results, Try.results56, go_sem]) rfl ⟨rfl, by repeat (first | exact Ext.refl _ | refine Ext.setCell ?_ (by simp) _ | apply Ext.drewN | apply Ext.drew | apply Ext.alloc | refine Ext.trans ?_ (by assumption))⟩

theorem uCell_i8 (op i : Int) (f g : Nat) (ho : 1 ≤ op ∧ op ≤ 3) (hi : -128 ≤ i ∧ i ≤ 127) (w : World) :
    Calls Try.prog 56 #[.int .i64 op, .int .i64 2, .agg #[.int .i64 i, .float .f64 f, .float .f64 g]] w fun e w' => e = .returned (.agg #[.int .i64 (unI op 2 i), .float .f64 0, .float .f64 0]) ∧ Ext w w' := by
  have ho4 : (op == 4) = false := by simp; omega
  have hw : IntKind.i8.wrap i = i := by rw [wrap_i8']; omega
  have Hi := hide hi
  have Ho := hide ho
  clear hi ho
  go_enter Try.func56, Try.ntmps56
  go_wp2_with (go_at_call 81; refine (ui8_any _ _ Ho.out Hi.out _).mono ?_; rintro e w1 ⟨rfl, x1⟩; have k0 := x1.box (b := w.heap.size + 1) (o := 0) (v := .int .i64 0) (by first | assumption | simp); have k1 := x1.box (b := w.heap.size + 1) (o := 1) (v := .float .f64 0) (by first | assumption | simp); have k2 := x1.box (b := w.heap.size + 1) (o := 2) (v := .float .f64 0) (by first | assumption | simp); have kf := fun o => ((((Ext.refl w).alloc _ _).alloc _ _).trans x1).unfrozen (b := w.heap.size + 1) (by simp) o)
  exact bodyPost_ret (v := .agg #[.int .i64 (unI op 2 i), .float .f64 0, .float .f64 0]) (by simp [results, Try.results56, go_sem, k0, k1, k2]) rfl ⟨rfl, by repeat (first | exact Ext.refl _ | refine Ext.setCell ?_ (by simp) _ | apply Ext.drewN | apply Ext.drew | apply Ext.alloc | refine Ext.trans ?_ (by assumption))⟩

theorem uCell_u8 (op i : Int) (f g : Nat) (ho : 1 ≤ op ∧ op ≤ 3) (hi : 0 ≤ i ∧ i ≤ 255) (w : World) :
    Calls Try.prog 56 #[.int .i64 op, .int .i64 3, .agg #[.int .i64 i, .float .f64 f, .float .f64 g]] w fun e w' => e = .returned (.agg #[.int .i64 (unI op 3 i), .float .f64 0, .float .f64 0]) ∧ Ext w w' := by
  have ho4 : (op == 4) = false := by simp; omega
  have hw : i % 256 = i := by omega
  have Hi := hide hi
  have Ho := hide ho
  clear hi ho
  go_enter Try.func56, Try.ntmps56
  go_wp2_with (go_at_call 82; refine (uu8_any _ _ Ho.out Hi.out _).mono ?_; rintro e w1 ⟨rfl, x1⟩; have k0 := x1.box (b := w.heap.size + 1) (o := 0) (v := .int .i64 0) (by first | assumption | simp); have k1 := x1.box (b := w.heap.size + 1) (o := 1) (v := .float .f64 0) (by first | assumption | simp); have k2 := x1.box (b := w.heap.size + 1) (o := 2) (v := .float .f64 0) (by first | assumption | simp); have kf := fun o => ((((Ext.refl w).alloc _ _).alloc _ _).trans x1).unfrozen (b := w.heap.size + 1) (by simp) o)
  exact bodyPost_ret (v := .agg #[.int .i64 (unI op 3 i), .float .f64 0, .float .f64 0]) (by simp [results, Try.results56, go_sem, k0, k1, k2]) rfl ⟨rfl, by repeat (first | exact Ext.refl _ | refine Ext.setCell ?_ (by simp) _ | apply Ext.drewN | apply Ext.drew | apply Ext.alloc | refine Ext.trans ?_ (by assumption))⟩

theorem uCell_i16 (op i : Int) (f g : Nat) (ho : 1 ≤ op ∧ op ≤ 3) (hi : -32768 ≤ i ∧ i ≤ 32767) (w : World) :
    Calls Try.prog 56 #[.int .i64 op, .int .i64 4, .agg #[.int .i64 i, .float .f64 f, .float .f64 g]] w fun e w' => e = .returned (.agg #[.int .i64 (unI op 4 i), .float .f64 0, .float .f64 0]) ∧ Ext w w' := by
  have ho4 : (op == 4) = false := by simp; omega
  have hw : IntKind.i16.wrap i = i := by rw [wrap_i16']; omega
  have Hi := hide hi
  have Ho := hide ho
  clear hi ho
  go_enter Try.func56, Try.ntmps56
  go_wp2_with (go_at_call 83; refine (ui16_any _ _ Ho.out Hi.out _).mono ?_; rintro e w1 ⟨rfl, x1⟩; have k0 := x1.box (b := w.heap.size + 1) (o := 0) (v := .int .i64 0) (by first | assumption | simp); have k1 := x1.box (b := w.heap.size + 1) (o := 1) (v := .float .f64 0) (by first | assumption | simp); have k2 := x1.box (b := w.heap.size + 1) (o := 2) (v := .float .f64 0) (by first | assumption | simp); have kf := fun o => ((((Ext.refl w).alloc _ _).alloc _ _).trans x1).unfrozen (b := w.heap.size + 1) (by simp) o)
  exact bodyPost_ret (v := .agg #[.int .i64 (unI op 4 i), .float .f64 0, .float .f64 0]) (by simp [results, Try.results56, go_sem, k0, k1, k2]) rfl ⟨rfl, by repeat (first | exact Ext.refl _ | refine Ext.setCell ?_ (by simp) _ | apply Ext.drewN | apply Ext.drew | apply Ext.alloc | refine Ext.trans ?_ (by assumption))⟩

theorem uCell_i32 (op i : Int) (f g : Nat) (ho : 1 ≤ op ∧ op ≤ 3) (hi : -2147483648 ≤ i ∧ i ≤ 2147483647) (w : World) :
    Calls Try.prog 56 #[.int .i64 op, .int .i64 5, .agg #[.int .i64 i, .float .f64 f, .float .f64 g]] w fun e w' => e = .returned (.agg #[.int .i64 (unI op 5 i), .float .f64 0, .float .f64 0]) ∧ Ext w w' := by
  have ho4 : (op == 4) = false := by simp; omega
  have hw : wrap32 i = i := by simp only [wrap32, IntKind.wrap_i32]; omega
  have Hi := hide hi
  have Ho := hide ho
  clear hi ho
  go_enter Try.func56, Try.ntmps56
  go_wp2_with (go_at_call 84; refine (ui32_any _ _ Ho.out Hi.out _).mono ?_; rintro e w1 ⟨rfl, x1⟩; have k0 := x1.box (b := w.heap.size + 1) (o := 0) (v := .int .i64 0) (by first | assumption | simp); have k1 := x1.box (b := w.heap.size + 1) (o := 1) (v := .float .f64 0) (by first | assumption | simp); have k2 := x1.box (b := w.heap.size + 1) (o := 2) (v := .float .f64 0) (by first | assumption | simp); have kf := fun o => ((((Ext.refl w).alloc _ _).alloc _ _).trans x1).unfrozen (b := w.heap.size + 1) (by simp) o)
  exact bodyPost_ret (v := .agg #[.int .i64 (unI op 5 i), .float .f64 0, .float .f64 0]) (by simp [results, Try.results56, go_sem, k0, k1, k2]) rfl ⟨rfl, by repeat (first | exact Ext.refl _ | refine Ext.setCell ?_ (by simp) _ | apply Ext.drewN | apply Ext.drew | apply Ext.alloc | refine Ext.trans ?_ (by assumption))⟩

theorem uCell_i64 (op i : Int) (f g : Nat) (ho : 1 ≤ op ∧ op ≤ 3) (hi : -9223372036854775808 ≤ i ∧ i ≤ 9223372036854775807) (w : World) :
    Calls Try.prog 56 #[.int .i64 op, .int .i64 6, .agg #[.int .i64 i, .float .f64 f, .float .f64 g]] w fun e w' => e = .returned (.agg #[.int .i64 (unI op 6 i), .float .f64 0, .float .f64 0]) ∧ Ext w w' := by
  have ho4 : (op == 4) = false := by simp; omega
  have Hi := hide hi
  have Ho := hide ho
  clear hi ho
  go_enter Try.func56, Try.ntmps56
  go_wp2_with (go_at_call 85; refine (ui64_any _ _ Ho.out Hi.out _).mono ?_; rintro e w1 ⟨rfl, x1⟩; have k0 := x1.box (b := w.heap.size + 1) (o := 0) (v := .int .i64 0) (by first | assumption | simp); have k1 := x1.box (b := w.heap.size + 1) (o := 1) (v := .float .f64 0) (by first | assumption | simp); have k2 := x1.box (b := w.heap.size + 1) (o := 2) (v := .float .f64 0) (by first | assumption | simp); have kf := fun o => ((((Ext.refl w).alloc _ _).alloc _ _).trans x1).unfrozen (b := w.heap.size + 1) (by simp) o)
  exact bodyPost_ret (v := .agg #[.int .i64 (unI op 6 i), .float .f64 0, .float .f64 0]) (by simp [results, Try.results56, go_sem, k0, k1, k2]) rfl ⟨rfl, by repeat (first | exact Ext.refl _ | refine Ext.setCell ?_ (by simp) _ | apply Ext.drewN | apply Ext.drew | apply Ext.alloc | refine Ext.trans ?_ (by assumption))⟩

theorem uCell_f7 (op i : Int) (f g : Nat) (hf : B64 f) (ho4 : (op == 4) = false) (w : World) :
    Calls Try.prog 56 #[.int .i64 op, .int .i64 7, .agg #[.int .i64 i, .float .f64 f, .float .f64 g]] w fun e w' => e = .returned (.agg #[.int .i64 0, .float .f64 (unF op f), .float .f64 0]) ∧ Ext w w' := by
  go_enter Try.func56, Try.ntmps56
  go_wp2_with (go_at_call 86; refine (unaryFloat_any _ _ hf _).mono ?_; rintro e w1 ⟨rfl, x1⟩; have k0 := x1.box (b := w.heap.size + 1) (o := 0) (v := .int .i64 0) (by first | assumption | simp); have k1 := x1.box (b := w.heap.size + 1) (o := 1) (v := .float .f64 0) (by first | assumption | simp); have k2 := x1.box (b := w.heap.size + 1) (o := 2) (v := .float .f64 0) (by first | assumption | simp); have kf := fun o => ((((Ext.refl w).alloc _ _).alloc _ _).trans x1).unfrozen (b := w.heap.size + 1) (by simp) o)
  exact bodyPost_ret (v := .agg #[.int .i64 0, .float .f64 (unF op f), .float .f64 0]) (by simp [results, Try.results56, go_sem, k0, k1, k2]) rfl ⟨rfl, by repeat (first | exact Ext.refl _ | refine Ext.setCell ?_ (by simp) _ | apply Ext.drewN | apply Ext.drew | apply Ext.alloc | refine Ext.trans ?_ (by assumption))⟩

theorem uCell_f8 (op i : Int) (f g : Nat) (hf : B64 f) (ho4 : (op == 4) = false) (w : World) :
    Calls Try.prog 56 #[.int .i64 op, .int .i64 8, .agg #[.int .i64 i, .float .f64 f, .float .f64 g]] w fun e w' => e = .returned (.agg #[.int .i64 0, .float .f64 (unF op f), .float .f64 0]) ∧ Ext w w' := by
  go_enter Try.func56, Try.ntmps56
  go_wp2_with (go_at_call 86; refine (unaryFloat_any _ _ hf _).mono ?_; rintro e w1 ⟨rfl, x1⟩; have k0 := x1.box (b := w.heap.size + 1) (o := 0) (v := .int .i64 0) (by first | assumption | simp); have k1 := x1.box (b := w.heap.size + 1) (o := 1) (v := .float .f64 0) (by first | assumption | simp); have k2 := x1.box (b := w.heap.size + 1) (o := 2) (v := .float .f64 0) (by first | assumption | simp); have kf := fun o => ((((Ext.refl w).alloc _ _).alloc _ _).trans x1).unfrozen (b := w.heap.size + 1) (by simp) o)
  exact bodyPost_ret (v := .agg #[.int .i64 0, .float .f64 (unF op f), .float .f64 0]) (by simp [results, Try.results56, go_sem, k0, k1, k2]) rfl ⟨rfl, by repeat (first | exact Ext.refl _ | refine Ext.setCell ?_ (by simp) _ | apply Ext.drewN | apply Ext.drew | apply Ext.alloc | refine Ext.trans ?_ (by assumption))⟩

theorem unaryComplex_n (op : Int) (ho : ¬ op = 4) (f g : Nat) (hf : B64 f) (hg : B64 g) (w : World) :
    Calls Try.prog 87 #[.int .i64 op, .complex .f64 f g] w fun e w' => e = .returned (.agg #[.int .i64 0, .float .f64 (FL.flip f), .float .f64 (FL.flip g)]) ∧ Ext w w' := by
  have h := unaryComplex_any op f g hf hg w
  rw [if_neg ho] at h; exact h
theorem unaryComplex_4 (f g : Nat) (hf : B64 f) (hg : B64 g) (w : World) :
    Calls Try.prog 87 #[.int .i64 4, .complex .f64 f g] w fun e w' => e = .returned (.agg #[.int .i64 0, .float .f64 f, .float .f64 (FL.flip g)]) ∧ Ext w w' := by
  have h := unaryComplex_any 4 f g hf hg w
  rw [if_pos rfl] at h; exact h

theorem uCell_c (op i : Int) (f g : Nat) (hf : B64 f) (hg : B64 g) (w : World) :
    Calls Try.prog 56 #[.int .i64 op, .int .i64 9, .agg #[.int .i64 i, .float .f64 f, .float .f64 g]] w fun e w' => e = .returned (.agg #[.int .i64 0, .float .f64 (if op = 4 then f else FL.flip f), .float .f64 (FL.flip g)]) ∧ Ext w w' := by
  by_cases ho : op = 4
  · subst ho
    rw [if_pos rfl]
    go_enter Try.func56, Try.ntmps56
    go_wp2_with (first | (go_at_call 46; refine (complexOf_any _ _ _ _).mono ?_; rintro e w1 ⟨rfl, x1⟩; have k0 := x1.box (b := w.heap.size + 1) (o := 0) (v := .int .i64 0) (by first | assumption | simp); have k1 := x1.box (b := w.heap.size + 1) (o := 1) (v := .float .f64 0) (by first | assumption | simp); have k2 := x1.box (b := w.heap.size + 1) (o := 2) (v := .float .f64 0) (by first | assumption | simp); have kf := fun o => ((((Ext.refl w).alloc _ _).alloc _ _).trans x1).unfrozen (b := w.heap.size + 1) (by simp) o) | (go_at_call 87; refine (unaryComplex_4 _ _ hf hg _).mono ?_; rintro e w2 ⟨rfl, x2⟩; have m0 := x2.box (b := w.heap.size + 1) (o := 0) (v := .int .i64 0) (by first | assumption | simp); have m1 := x2.box (b := w.heap.size + 1) (o := 1) (v := .float .f64 0) (by first | assumption | simp); have m2 := x2.box (b := w.heap.size + 1) (o := 2) (v := .float .f64 0) (by first | assumption | simp); have mf := fun o => (((((Ext.refl w).alloc _ _).alloc _ _).trans x1).trans x2).unfrozen (b := w.heap.size + 1) (by simp) o))
    exact bodyPost_ret (v := .agg #[.int .i64 0, .float .f64 f, .float .f64 (FL.flip g)]) (by simp [results, Try.results56, go_sem, m0, m1, m2]) rfl ⟨rfl, by repeat (first | exact Ext.refl _ | refine Ext.setCell ?_ (by simp) _ | apply Ext.drewN | apply Ext.drew | apply Ext.alloc | refine Ext.trans ?_ (by assumption))⟩
  · have ho' : (op == 4) = false := by simpa using ho
    rw [if_neg ho]
    have Ho := hide ho
    clear ho
    go_enter Try.func56, Try.ntmps56
    go_wp2_with (first | (go_at_call 46; refine (complexOf_any _ _ _ _).mono ?_; rintro e w1 ⟨rfl, x1⟩; have k0 := x1.box (b := w.heap.size + 1) (o := 0) (v := .int .i64 0) (by first | assumption | simp); have k1 := x1.box (b := w.heap.size + 1) (o := 1) (v := .float .f64 0) (by first | assumption | simp); have k2 := x1.box (b := w.heap.size + 1) (o := 2) (v := .float .f64 0) (by first | assumption | simp); have kf := fun o => ((((Ext.refl w).alloc _ _).alloc _ _).trans x1).unfrozen (b := w.heap.size + 1) (by simp) o) | (go_at_call 87; refine (unaryComplex_n _ Ho.out _ _ hf hg _).mono ?_; rintro e w2 ⟨rfl, x2⟩; have m0 := x2.box (b := w.heap.size + 1) (o := 0) (v := .int .i64 0) (by first | assumption | simp); have m1 := x2.box (b := w.heap.size + 1) (o := 1) (v := .float .f64 0) (by first | assumption | simp); have m2 := x2.box (b := w.heap.size + 1) (o := 2) (v := .float .f64 0) (by first | assumption | simp); have mf := fun o => (((((Ext.refl w).alloc _ _).alloc _ _).trans x1).trans x2).unfrozen (b := w.heap.size + 1) (by simp) o))
    all_goals exact bodyPost_ret (v := .agg #[.int .i64 0, .float .f64 (FL.flip f), .float .f64 (FL.flip g)]) (by simp [results, Try.results56, go_sem, m0, m1, m2]) rfl ⟨rfl, by repeat (first | exact Ext.refl _ | refine Ext.setCell ?_ (by simp) _ | apply Ext.drewN | apply Ext.drew | apply Ext.alloc | refine Ext.trans ?_ (by assumption))⟩

theorem valid_int (dt i : Int) (f g : Nat) (h : validB dt i f g = true) (hd : dt ≤ 6) : lowL dt ≤ i ∧ i ≤ highL dt ∧ f = 0 ∧ g = 0 := by
  have h1 := valid_dt dt i f g h
  unfold validB at h
  rw [if_pos (by omega)] at h
  simpa [rngB, pzB, and_assoc] using h
theorem valid_flt (dt i : Int) (f g : Nat) (h : validB dt i f g = true) (hd : 6 < dt) (hd2 : dt ≤ 8) : i = 0 ∧ g = 0 := by
  have h1 := valid_dt dt i f g h
  unfold validB at h
  rw [if_neg (by omega)] at h
  by_cases h7 : dt = 7
  · rw [if_pos h7] at h
    simp [pzB] at h
    exact ⟨h.1.1, h.1.2⟩
  · rw [if_neg h7, if_pos (by omega)] at h
    simpa [pzB] using h
theorem valid_cpx (i : Int) (f g : Nat) (h : validB 9 i f g = true) : i = 0 := by
  simpa [validB] using h

theorem uCell_any (op dt i : Int) (f g : Nat) (hf : B64 f) (hg : B64 g) (ho : 1 ≤ op ∧ op ≤ 4) (hv : validB dt i f g = true) (hfit : fitU op dt = true) (w : World) :
    Calls Try.prog 56 #[.int .i64 op, .int .i64 dt, .agg #[.int .i64 i, .float .f64 f, .float .f64 g]] w fun e w' => e = .returned (.agg #[.int .i64 (rI op dt i), .float .f64 (rF op dt f), .float .f64 (rG op dt g)]) ∧ Ext w w' := by
  have hdt := valid_dt dt i f g hv
  unfold fitU at hfit
  simp only [decide_eq_true_eq] at hfit
  by_cases h9 : dt = 9
  · subst h9
    have e := uCell_c op i f g hf hg w
    have h0 := valid_cpx i f g hv
    have e1 : rI op 9 i = 0 := by unfold rI; split <;> simp_all
    have e2 : rF op 9 f = if op = 4 then f else FL.flip f := by unfold rF; simp
    have e3 : rG op 9 g = FL.flip g := by unfold rG; simp
    rw [e1, e2, e3]; exact e
  by_cases h4 : op = 4
  · subst h4
    have e1 : rI 4 dt i = i := by unfold rI; simp
    have e2 : rF 4 dt f = f := by unfold rF; simp
    have e3 : rG 4 dt g = g := by unfold rG; simp [h9]
    rw [e1, e2, e3]
    exact uCell_id dt i f g (by simpa using h9) w
  by_cases h6 : dt ≤ 6
  · have hr := valid_int dt i f g hv h6
    have e2 : rF op dt f = 0 := by unfold rF; rw [if_neg h4, if_pos h6]
    have e3 : rG op dt g = 0 := by unfold rG; rw [if_neg h9, if_neg h4]
    rw [e2, e3]
    by_cases h1 : dt = 1
    · subst h1
      have hop : op = 2 := by omega
      subst hop
      have e1 : rI 2 1 i = 1 - i := by unfold rI; simp
      rw [e1]
      exact uCell_bool i f g ⟨hr.1, hr.2.1⟩ w
    · have e1 : rI op dt i = unI op dt i := by unfold rI; rw [if_neg h4, if_neg h1, if_pos h6]
      rw [e1]
      have : dt = 2 ∨ dt = 3 ∨ dt = 4 ∨ dt = 5 ∨ dt = 6 := by omega
      rcases this with rfl | rfl | rfl | rfl | rfl
      · exact uCell_i8 op i f g (by omega) ⟨hr.1, hr.2.1⟩ w
      · exact uCell_u8 op i f g (by omega) ⟨hr.1, hr.2.1⟩ w
      · exact uCell_i16 op i f g (by omega) ⟨hr.1, hr.2.1⟩ w
      · exact uCell_i32 op i f g (by omega) ⟨hr.1, hr.2.1⟩ w
      · exact uCell_i64 op i f g (by omega) ⟨hr.1, hr.2.1⟩ w
  · have e1 : rI op dt i = 0 := by unfold rI; rw [if_neg h4, if_neg (by omega), if_neg h6]
    have e2 : rF op dt f = unF op f := by unfold rF; rw [if_neg h4, if_neg h6, if_pos (by omega)]
    have e3 : rG op dt g = 0 := by unfold rG; rw [if_neg h9, if_neg h4]
    rw [e1, e2, e3]
    have : dt = 7 ∨ dt = 8 := by omega
    rcases this with rfl | rfl
    · exact uCell_f7 op i f g hf (by simpa using h4) w
    · exact uCell_f8 op i f g hf (by simpa using h4) w
end Go.Proofs.Ythaajmkfeniofaa
