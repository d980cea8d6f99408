import Derived.Test.YthaajmkfeniofaaMinMax
namespace Go.Proofs.Ythaajmkfeniofaa
open Go.RowKit FL
set_option linter.unusedSimpArgs false
set_option linter.unusedVariables false

theorem mmC1_5 (ia ib : Int) (fa ga fb gb : Nat) (ha : 0 ≤ ia ∧ ia ≤ 1) (hb : 0 ≤ ib ∧ ib ≤ 1) (w : World) :
    Calls Try.prog 61 #[.int .i64 5, .int .i64 1, .agg #[.int .i64 ia, .float .f64 fa, .float .f64 ga], .agg #[.int .i64 ib, .float .f64 fb, .float .f64 gb]] w fun e w' => e = .returned (.agg #[.int .i64 (mmI 5 ia ib), .float .f64 0, .float .f64 0]) ∧ Ext w w' := by
  have Ha := hide ha
  have Hb := hide hb
  clear ha hb
  go_enter Try.func61, Try.ntmps61
  go_wp2_with (go_at_call 90; refine (mmBool_5 _ _ Ha.out Hb.out _).mono ?_; rintro e w1 ⟨rfl, x1⟩; have k0 := x1.box (b := w.heap.size + 1 + 1) (o := 0) (v := .int .i64 0) (by first | assumption | (simp; done) | (simp [go_sem]; done) | rfl); have k1 := x1.box (b := w.heap.size + 1 + 1) (o := 1) (v := .float .f64 0) (by first | assumption | (simp; done) | (simp [go_sem]; done) | rfl); have k2 := x1.box (b := w.heap.size + 1 + 1) (o := 2) (v := .float .f64 0) (by first | assumption | (simp; done) | (simp [go_sem]; done) | rfl); have kf := fun o => (((((Ext.refl w).alloc _ _).alloc _ _).alloc _ _).trans x1).unfrozen (b := w.heap.size + 1 + 1) (by omega) o)
  exact bodyPost_ret (v := .agg #[.int .i64 (mmI 5 ia ib), .float .f64 0, .float .f64 0]) (by simp [results, Try.results61, go_sem, k0, k1, k2]) rfl ⟨rfl, by repeat (first | with_reducible exact Ext.refl _ | with_reducible refine Ext.setCell ?_ (by first | (show _ ≤ _ + 1 + 1; omega) | (simp; done) | (simp; omega)) _ | with_reducible apply Ext.drewN | with_reducible apply Ext.drew | with_reducible apply Ext.alloc | refine Ext.trans ?_ (by assumption))⟩

theorem mmC1_6 (ia ib : Int) (fa ga fb gb : Nat) (ha : 0 ≤ ia ∧ ia ≤ 1) (hb : 0 ≤ ib ∧ ib ≤ 1) (w : World) :
    Calls Try.prog 61 #[.int .i64 6, .int .i64 1, .agg #[.int .i64 ia, .float .f64 fa, .float .f64 ga], .agg #[.int .i64 ib, .float .f64 fb, .float .f64 gb]] w fun e w' => e = .returned (.agg #[.int .i64 (mmI 6 ia ib), .float .f64 0, .float .f64 0]) ∧ Ext w w' := by
  have Ha := hide ha
  have Hb := hide hb
  clear ha hb
  go_enter Try.func61, Try.ntmps61
  go_wp2_with (go_at_call 90; refine (mmBool_6 _ _ Ha.out Hb.out _).mono ?_; rintro e w1 ⟨rfl, x1⟩; have k0 := x1.box (b := w.heap.size + 1 + 1) (o := 0) (v := .int .i64 0) (by first | assumption | (simp; done) | (simp [go_sem]; done) | rfl); have k1 := x1.box (b := w.heap.size + 1 + 1) (o := 1) (v := .float .f64 0) (by first | assumption | (simp; done) | (simp [go_sem]; done) | rfl); have k2 := x1.box (b := w.heap.size + 1 + 1) (o := 2) (v := .float .f64 0) (by first | assumption | (simp; done) | (simp [go_sem]; done) | rfl); have kf := fun o => (((((Ext.refl w).alloc _ _).alloc _ _).alloc _ _).trans x1).unfrozen (b := w.heap.size + 1 + 1) (by omega) o)
  exact bodyPost_ret (v := .agg #[.int .i64 (mmI 6 ia ib), .float .f64 0, .float .f64 0]) (by simp [results, Try.results61, go_sem, k0, k1, k2]) rfl ⟨rfl, by repeat (first | with_reducible exact Ext.refl _ | with_reducible refine Ext.setCell ?_ (by first | (show _ ≤ _ + 1 + 1; omega) | (simp; done) | (simp; omega)) _ | with_reducible apply Ext.drewN | with_reducible apply Ext.drew | with_reducible apply Ext.alloc | refine Ext.trans ?_ (by assumption))⟩

theorem mmC2_5 (ia ib : Int) (fa ga fb gb : Nat) (ha : -128 ≤ ia ∧ ia ≤ 127) (hb : -128 ≤ ib ∧ ib ≤ 127) (w : World) :
    Calls Try.prog 61 #[.int .i64 5, .int .i64 2, .agg #[.int .i64 ia, .float .f64 fa, .float .f64 ga], .agg #[.int .i64 ib, .float .f64 fb, .float .f64 gb]] w fun e w' => e = .returned (.agg #[.int .i64 (mmI 5 ia ib), .float .f64 0, .float .f64 0]) ∧ Ext w w' := by
  have ea : IntKind.i8.wrap ia = ia := by rw [wrap_i8']; omega
  have eb : IntKind.i8.wrap ib = ib := by rw [wrap_i8']; omega
  have Ha := hide ha
  have Hb := hide hb
  clear ha hb
  go_enter Try.func61, Try.ntmps61
  go_wp2_with (go_at_call 91; refine (mmi8_5 _ _ Ha.out Hb.out _).mono ?_; rintro e w1 ⟨rfl, x1⟩; have k0 := x1.box (b := w.heap.size + 1 + 1) (o := 0) (v := .int .i64 0) (by first | assumption | (simp; done) | (simp [go_sem]; done) | rfl); have k1 := x1.box (b := w.heap.size + 1 + 1) (o := 1) (v := .float .f64 0) (by first | assumption | (simp; done) | (simp [go_sem]; done) | rfl); have k2 := x1.box (b := w.heap.size + 1 + 1) (o := 2) (v := .float .f64 0) (by first | assumption | (simp; done) | (simp [go_sem]; done) | rfl); have kf := fun o => (((((Ext.refl w).alloc _ _).alloc _ _).alloc _ _).trans x1).unfrozen (b := w.heap.size + 1 + 1) (by omega) o)
  exact bodyPost_ret (v := .agg #[.int .i64 (mmI 5 ia ib), .float .f64 0, .float .f64 0]) (by simp [results, Try.results61, go_sem, k0, k1, k2]) rfl ⟨rfl, by repeat (first | with_reducible exact Ext.refl _ | with_reducible refine Ext.setCell ?_ (by first | (show _ ≤ _ + 1 + 1; omega) | (simp; done) | (simp; omega)) _ | with_reducible apply Ext.drewN | with_reducible apply Ext.drew | with_reducible apply Ext.alloc | refine Ext.trans ?_ (by assumption))⟩

theorem mmC2_6 (ia ib : Int) (fa ga fb gb : Nat) (ha : -128 ≤ ia ∧ ia ≤ 127) (hb : -128 ≤ ib ∧ ib ≤ 127) (w : World) :
    Calls Try.prog 61 #[.int .i64 6, .int .i64 2, .agg #[.int .i64 ia, .float .f64 fa, .float .f64 ga], .agg #[.int .i64 ib, .float .f64 fb, .float .f64 gb]] w fun e w' => e = .returned (.agg #[.int .i64 (mmI 6 ia ib), .float .f64 0, .float .f64 0]) ∧ Ext w w' := by
  have ea : IntKind.i8.wrap ia = ia := by rw [wrap_i8']; omega
  have eb : IntKind.i8.wrap ib = ib := by rw [wrap_i8']; omega
  have Ha := hide ha
  have Hb := hide hb
  clear ha hb
  go_enter Try.func61, Try.ntmps61
  go_wp2_with (go_at_call 91; refine (mmi8_6 _ _ Ha.out Hb.out _).mono ?_; rintro e w1 ⟨rfl, x1⟩; have k0 := x1.box (b := w.heap.size + 1 + 1) (o := 0) (v := .int .i64 0) (by first | assumption | (simp; done) | (simp [go_sem]; done) | rfl); have k1 := x1.box (b := w.heap.size + 1 + 1) (o := 1) (v := .float .f64 0) (by first | assumption | (simp; done) | (simp [go_sem]; done) | rfl); have k2 := x1.box (b := w.heap.size + 1 + 1) (o := 2) (v := .float .f64 0) (by first | assumption | (simp; done) | (simp [go_sem]; done) | rfl); have kf := fun o => (((((Ext.refl w).alloc _ _).alloc _ _).alloc _ _).trans x1).unfrozen (b := w.heap.size + 1 + 1) (by omega) o)
  exact bodyPost_ret (v := .agg #[.int .i64 (mmI 6 ia ib), .float .f64 0, .float .f64 0]) (by simp [results, Try.results61, go_sem, k0, k1, k2]) rfl ⟨rfl, by repeat (first | with_reducible exact Ext.refl _ | with_reducible refine Ext.setCell ?_ (by first | (show _ ≤ _ + 1 + 1; omega) | (simp; done) | (simp; omega)) _ | with_reducible apply Ext.drewN | with_reducible apply Ext.drew | with_reducible apply Ext.alloc | refine Ext.trans ?_ (by assumption))⟩

theorem mmC3_5 (ia ib : Int) (fa ga fb gb : Nat) (ha : 0 ≤ ia ∧ ia ≤ 255) (hb : 0 ≤ ib ∧ ib ≤ 255) (w : World) :
    Calls Try.prog 61 #[.int .i64 5, .int .i64 3, .agg #[.int .i64 ia, .float .f64 fa, .float .f64 ga], .agg #[.int .i64 ib, .float .f64 fb, .float .f64 gb]] w fun e w' => e = .returned (.agg #[.int .i64 (mmI 5 ia ib), .float .f64 0, .float .f64 0]) ∧ Ext w w' := by
  have ea : ia % 256 = ia := by omega
  have eb : ib % 256 = ib := by omega
  have Ha := hide ha
  have Hb := hide hb
  clear ha hb
  go_enter Try.func61, Try.ntmps61
  go_wp2_with (go_at_call 92; refine (mmu8_5 _ _ Ha.out Hb.out _).mono ?_; rintro e w1 ⟨rfl, x1⟩; have k0 := x1.box (b := w.heap.size + 1 + 1) (o := 0) (v := .int .i64 0) (by first | assumption | (simp; done) | (simp [go_sem]; done) | rfl); have k1 := x1.box (b := w.heap.size + 1 + 1) (o := 1) (v := .float .f64 0) (by first | assumption | (simp; done) | (simp [go_sem]; done) | rfl); have k2 := x1.box (b := w.heap.size + 1 + 1) (o := 2) (v := .float .f64 0) (by first | assumption | (simp; done) | (simp [go_sem]; done) | rfl); have kf := fun o => (((((Ext.refl w).alloc _ _).alloc _ _).alloc _ _).trans x1).unfrozen (b := w.heap.size + 1 + 1) (by omega) o)
  exact bodyPost_ret (v := .agg #[.int .i64 (mmI 5 ia ib), .float .f64 0, .float .f64 0]) (by simp [results, Try.results61, go_sem, k0, k1, k2]) rfl ⟨rfl, by repeat (first | with_reducible exact Ext.refl _ | with_reducible refine Ext.setCell ?_ (by first | (show _ ≤ _ + 1 + 1; omega) | (simp; done) | (simp; omega)) _ | with_reducible apply Ext.drewN | with_reducible apply Ext.drew | with_reducible apply Ext.alloc | refine Ext.trans ?_ (by assumption))⟩

theorem mmC3_6 (ia ib : Int) (fa ga fb gb : Nat) (ha : 0 ≤ ia ∧ ia ≤ 255) (hb : 0 ≤ ib ∧ ib ≤ 255) (w : World) :
    Calls Try.prog 61 #[.int .i64 6, .int .i64 3, .agg #[.int .i64 ia, .float .f64 fa, .float .f64 ga], .agg #[.int .i64 ib, .float .f64 fb, .float .f64 gb]] w fun e w' => e = .returned (.agg #[.int .i64 (mmI 6 ia ib), .float .f64 0, .float .f64 0]) ∧ Ext w w' := by
  have ea : ia % 256 = ia := by omega
  have eb : ib % 256 = ib := by omega
  have Ha := hide ha
  have Hb := hide hb
  clear ha hb
  go_enter Try.func61, Try.ntmps61
  go_wp2_with (go_at_call 92; refine (mmu8_6 _ _ Ha.out Hb.out _).mono ?_; rintro e w1 ⟨rfl, x1⟩; have k0 := x1.box (b := w.heap.size + 1 + 1) (o := 0) (v := .int .i64 0) (by first | assumption | (simp; done) | (simp [go_sem]; done) | rfl); have k1 := x1.box (b := w.heap.size + 1 + 1) (o := 1) (v := .float .f64 0) (by first | assumption | (simp; done) | (simp [go_sem]; done) | rfl); have k2 := x1.box (b := w.heap.size + 1 + 1) (o := 2) (v := .float .f64 0) (by first | assumption | (simp; done) | (simp [go_sem]; done) | rfl); have kf := fun o => (((((Ext.refl w).alloc _ _).alloc _ _).alloc _ _).trans x1).unfrozen (b := w.heap.size + 1 + 1) (by omega) o)
  exact bodyPost_ret (v := .agg #[.int .i64 (mmI 6 ia ib), .float .f64 0, .float .f64 0]) (by simp [results, Try.results61, go_sem, k0, k1, k2]) rfl ⟨rfl, by repeat (first | with_reducible exact Ext.refl _ | with_reducible refine Ext.setCell ?_ (by first | (show _ ≤ _ + 1 + 1; omega) | (simp; done) | (simp; omega)) _ | with_reducible apply Ext.drewN | with_reducible apply Ext.drew | with_reducible apply Ext.alloc | refine Ext.trans ?_ (by assumption))⟩

theorem mmC4_5 (ia ib : Int) (fa ga fb gb : Nat) (ha : -32768 ≤ ia ∧ ia ≤ 32767) (hb : -32768 ≤ ib ∧ ib ≤ 32767) (w : World) :
    Calls Try.prog 61 #[.int .i64 5, .int .i64 4, .agg #[.int .i64 ia, .float .f64 fa, .float .f64 ga], .agg #[.int .i64 ib, .float .f64 fb, .float .f64 gb]] w fun e w' => e = .returned (.agg #[.int .i64 (mmI 5 ia ib), .float .f64 0, .float .f64 0]) ∧ Ext w w' := by
  have ea : IntKind.i16.wrap ia = ia := by rw [wrap_i16']; omega
  have eb : IntKind.i16.wrap ib = ib := by rw [wrap_i16']; omega
  have Ha := hide ha
  have Hb := hide hb
  clear ha hb
  go_enter Try.func61, Try.ntmps61
  go_wp2_with (go_at_call 93; refine (mmi16_5 _ _ Ha.out Hb.out _).mono ?_; rintro e w1 ⟨rfl, x1⟩; have k0 := x1.box (b := w.heap.size + 1 + 1) (o := 0) (v := .int .i64 0) (by first | assumption | (simp; done) | (simp [go_sem]; done) | rfl); have k1 := x1.box (b := w.heap.size + 1 + 1) (o := 1) (v := .float .f64 0) (by first | assumption | (simp; done) | (simp [go_sem]; done) | rfl); have k2 := x1.box (b := w.heap.size + 1 + 1) (o := 2) (v := .float .f64 0) (by first | assumption | (simp; done) | (simp [go_sem]; done) | rfl); have kf := fun o => (((((Ext.refl w).alloc _ _).alloc _ _).alloc _ _).trans x1).unfrozen (b := w.heap.size + 1 + 1) (by omega) o)
  exact bodyPost_ret (v := .agg #[.int .i64 (mmI 5 ia ib), .float .f64 0, .float .f64 0]) (by simp [results, Try.results61, go_sem, k0, k1, k2]) rfl ⟨rfl, by repeat (first | with_reducible exact Ext.refl _ | with_reducible refine Ext.setCell ?_ (by first | (show _ ≤ _ + 1 + 1; omega) | (simp; done) | (simp; omega)) _ | with_reducible apply Ext.drewN | with_reducible apply Ext.drew | with_reducible apply Ext.alloc | refine Ext.trans ?_ (by assumption))⟩

theorem mmC4_6 (ia ib : Int) (fa ga fb gb : Nat) (ha : -32768 ≤ ia ∧ ia ≤ 32767) (hb : -32768 ≤ ib ∧ ib ≤ 32767) (w : World) :
    Calls Try.prog 61 #[.int .i64 6, .int .i64 4, .agg #[.int .i64 ia, .float .f64 fa, .float .f64 ga], .agg #[.int .i64 ib, .float .f64 fb, .float .f64 gb]] w fun e w' => e = .returned (.agg #[.int .i64 (mmI 6 ia ib), .float .f64 0, .float .f64 0]) ∧ Ext w w' := by
  have ea : IntKind.i16.wrap ia = ia := by rw [wrap_i16']; omega
  have eb : IntKind.i16.wrap ib = ib := by rw [wrap_i16']; omega
  have Ha := hide ha
  have Hb := hide hb
  clear ha hb
  go_enter Try.func61, Try.ntmps61
  go_wp2_with (go_at_call 93; refine (mmi16_6 _ _ Ha.out Hb.out _).mono ?_; rintro e w1 ⟨rfl, x1⟩; have k0 := x1.box (b := w.heap.size + 1 + 1) (o := 0) (v := .int .i64 0) (by first | assumption | (simp; done) | (simp [go_sem]; done) | rfl); have k1 := x1.box (b := w.heap.size + 1 + 1) (o := 1) (v := .float .f64 0) (by first | assumption | (simp; done) | (simp [go_sem]; done) | rfl); have k2 := x1.box (b := w.heap.size + 1 + 1) (o := 2) (v := .float .f64 0) (by first | assumption | (simp; done) | (simp [go_sem]; done) | rfl); have kf := fun o => (((((Ext.refl w).alloc _ _).alloc _ _).alloc _ _).trans x1).unfrozen (b := w.heap.size + 1 + 1) (by omega) o)
  exact bodyPost_ret (v := .agg #[.int .i64 (mmI 6 ia ib), .float .f64 0, .float .f64 0]) (by simp [results, Try.results61, go_sem, k0, k1, k2]) rfl ⟨rfl, by repeat (first | with_reducible exact Ext.refl _ | with_reducible refine Ext.setCell ?_ (by first | (show _ ≤ _ + 1 + 1; omega) | (simp; done) | (simp; omega)) _ | with_reducible apply Ext.drewN | with_reducible apply Ext.drew | with_reducible apply Ext.alloc | refine Ext.trans ?_ (by assumption))⟩

theorem mmC5_5 (ia ib : Int) (fa ga fb gb : Nat) (ha : -2147483648 ≤ ia ∧ ia ≤ 2147483647) (hb : -2147483648 ≤ ib ∧ ib ≤ 2147483647) (w : World) :
    Calls Try.prog 61 #[.int .i64 5, .int .i64 5, .agg #[.int .i64 ia, .float .f64 fa, .float .f64 ga], .agg #[.int .i64 ib, .float .f64 fb, .float .f64 gb]] w fun e w' => e = .returned (.agg #[.int .i64 (mmI 5 ia ib), .float .f64 0, .float .f64 0]) ∧ Ext w w' := by
  have ea : wrap32 ia = ia := by simp only [wrap32, IntKind.wrap_i32]; omega
  have eb : wrap32 ib = ib := by simp only [wrap32, IntKind.wrap_i32]; omega
  have Ha := hide ha
  have Hb := hide hb
  clear ha hb
  go_enter Try.func61, Try.ntmps61
  go_wp2_with (go_at_call 94; refine (mmi32_5 _ _ Ha.out Hb.out _).mono ?_; rintro e w1 ⟨rfl, x1⟩; have k0 := x1.box (b := w.heap.size + 1 + 1) (o := 0) (v := .int .i64 0) (by first | assumption | (simp; done) | (simp [go_sem]; done) | rfl); have k1 := x1.box (b := w.heap.size + 1 + 1) (o := 1) (v := .float .f64 0) (by first | assumption | (simp; done) | (simp [go_sem]; done) | rfl); have k2 := x1.box (b := w.heap.size + 1 + 1) (o := 2) (v := .float .f64 0) (by first | assumption | (simp; done) | (simp [go_sem]; done) | rfl); have kf := fun o => (((((Ext.refl w).alloc _ _).alloc _ _).alloc _ _).trans x1).unfrozen (b := w.heap.size + 1 + 1) (by omega) o)
  exact bodyPost_ret (v := .agg #[.int .i64 (mmI 5 ia ib), .float .f64 0, .float .f64 0]) (by simp [results, Try.results61, go_sem, k0, k1, k2]) rfl ⟨rfl, by repeat (first | with_reducible exact Ext.refl _ | with_reducible refine Ext.setCell ?_ (by first | (show _ ≤ _ + 1 + 1; omega) | (simp; done) | (simp; omega)) _ | with_reducible apply Ext.drewN | with_reducible apply Ext.drew | with_reducible apply Ext.alloc | refine Ext.trans ?_ (by assumption))⟩

theorem mmC5_6 (ia ib : Int) (fa ga fb gb : Nat) (ha : -2147483648 ≤ ia ∧ ia ≤ 2147483647) (hb : -2147483648 ≤ ib ∧ ib ≤ 2147483647) (w : World) :
    Calls Try.prog 61 #[.int .i64 6, .int .i64 5, .agg #[.int .i64 ia, .float .f64 fa, .float .f64 ga], .agg #[.int .i64 ib, .float .f64 fb, .float .f64 gb]] w fun e w' => e = .returned (.agg #[.int .i64 (mmI 6 ia ib), .float .f64 0, .float .f64 0]) ∧ Ext w w' := by
  have ea : wrap32 ia = ia := by simp only [wrap32, IntKind.wrap_i32]; omega
  have eb : wrap32 ib = ib := by simp only [wrap32, IntKind.wrap_i32]; omega
  have Ha := hide ha
  have Hb := hide hb
  clear ha hb
  go_enter Try.func61, Try.ntmps61
  go_wp2_with (go_at_call 94; refine (mmi32_6 _ _ Ha.out Hb.out _).mono ?_; rintro e w1 ⟨rfl, x1⟩; have k0 := x1.box (b := w.heap.size + 1 + 1) (o := 0) (v := .int .i64 0) (by first | assumption | (simp; done) | (simp [go_sem]; done) | rfl); have k1 := x1.box (b := w.heap.size + 1 + 1) (o := 1) (v := .float .f64 0) (by first | assumption | (simp; done) | (simp [go_sem]; done) | rfl); have k2 := x1.box (b := w.heap.size + 1 + 1) (o := 2) (v := .float .f64 0) (by first | assumption | (simp; done) | (simp [go_sem]; done) | rfl); have kf := fun o => (((((Ext.refl w).alloc _ _).alloc _ _).alloc _ _).trans x1).unfrozen (b := w.heap.size + 1 + 1) (by omega) o)
  exact bodyPost_ret (v := .agg #[.int .i64 (mmI 6 ia ib), .float .f64 0, .float .f64 0]) (by simp [results, Try.results61, go_sem, k0, k1, k2]) rfl ⟨rfl, by repeat (first | with_reducible exact Ext.refl _ | with_reducible refine Ext.setCell ?_ (by first | (show _ ≤ _ + 1 + 1; omega) | (simp; done) | (simp; omega)) _ | with_reducible apply Ext.drewN | with_reducible apply Ext.drew | with_reducible apply Ext.alloc | refine Ext.trans ?_ (by assumption))⟩

theorem mmC6_5 (ia ib : Int) (fa ga fb gb : Nat) (ha : -9223372036854775808 ≤ ia ∧ ia ≤ 9223372036854775807) (hb : -9223372036854775808 ≤ ib ∧ ib ≤ 9223372036854775807) (w : World) :
    Calls Try.prog 61 #[.int .i64 5, .int .i64 6, .agg #[.int .i64 ia, .float .f64 fa, .float .f64 ga], .agg #[.int .i64 ib, .float .f64 fb, .float .f64 gb]] w fun e w' => e = .returned (.agg #[.int .i64 (mmI 5 ia ib), .float .f64 0, .float .f64 0]) ∧ Ext w w' := by
  have Ha := hide ha
  have Hb := hide hb
  clear ha hb
  go_enter Try.func61, Try.ntmps61
  go_wp2_with (go_at_call 95; refine (mmi64_5 _ _ Ha.out Hb.out _).mono ?_; rintro e w1 ⟨rfl, x1⟩; have k0 := x1.box (b := w.heap.size + 1 + 1) (o := 0) (v := .int .i64 0) (by first | assumption | (simp; done) | (simp [go_sem]; done) | rfl); have k1 := x1.box (b := w.heap.size + 1 + 1) (o := 1) (v := .float .f64 0) (by first | assumption | (simp; done) | (simp [go_sem]; done) | rfl); have k2 := x1.box (b := w.heap.size + 1 + 1) (o := 2) (v := .float .f64 0) (by first | assumption | (simp; done) | (simp [go_sem]; done) | rfl); have kf := fun o => (((((Ext.refl w).alloc _ _).alloc _ _).alloc _ _).trans x1).unfrozen (b := w.heap.size + 1 + 1) (by omega) o)
  exact bodyPost_ret (v := .agg #[.int .i64 (mmI 5 ia ib), .float .f64 0, .float .f64 0]) (by simp [results, Try.results61, go_sem, k0, k1, k2]) rfl ⟨rfl, by repeat (first | with_reducible exact Ext.refl _ | with_reducible refine Ext.setCell ?_ (by first | (show _ ≤ _ + 1 + 1; omega) | (simp; done) | (simp; omega)) _ | with_reducible apply Ext.drewN | with_reducible apply Ext.drew | with_reducible apply Ext.alloc | refine Ext.trans ?_ (by assumption))⟩

theorem mmC6_6 (ia ib : Int) (fa ga fb gb : Nat) (ha : -9223372036854775808 ≤ ia ∧ ia ≤ 9223372036854775807) (hb : -9223372036854775808 ≤ ib ∧ ib ≤ 9223372036854775807) (w : World) :
    Calls Try.prog 61 #[.int .i64 6, .int .i64 6, .agg #[.int .i64 ia, .float .f64 fa, .float .f64 ga], .agg #[.int .i64 ib, .float .f64 fb, .float .f64 gb]] w fun e w' => e = .returned (.agg #[.int .i64 (mmI 6 ia ib), .float .f64 0, .float .f64 0]) ∧ Ext w w' := by
  have Ha := hide ha
  have Hb := hide hb
  clear ha hb
  go_enter Try.func61, Try.ntmps61
  go_wp2_with (go_at_call 95; refine (mmi64_6 _ _ Ha.out Hb.out _).mono ?_; rintro e w1 ⟨rfl, x1⟩; have k0 := x1.box (b := w.heap.size + 1 + 1) (o := 0) (v := .int .i64 0) (by first | assumption | (simp; done) | (simp [go_sem]; done) | rfl); have k1 := x1.box (b := w.heap.size + 1 + 1) (o := 1) (v := .float .f64 0) (by first | assumption | (simp; done) | (simp [go_sem]; done) | rfl); have k2 := x1.box (b := w.heap.size + 1 + 1) (o := 2) (v := .float .f64 0) (by first | assumption | (simp; done) | (simp [go_sem]; done) | rfl); have kf := fun o => (((((Ext.refl w).alloc _ _).alloc _ _).alloc _ _).trans x1).unfrozen (b := w.heap.size + 1 + 1) (by omega) o)
  exact bodyPost_ret (v := .agg #[.int .i64 (mmI 6 ia ib), .float .f64 0, .float .f64 0]) (by simp [results, Try.results61, go_sem, k0, k1, k2]) rfl ⟨rfl, by repeat (first | with_reducible exact Ext.refl _ | with_reducible refine Ext.setCell ?_ (by first | (show _ ≤ _ + 1 + 1; omega) | (simp; done) | (simp; omega)) _ | with_reducible apply Ext.drewN | with_reducible apply Ext.drew | with_reducible apply Ext.alloc | refine Ext.trans ?_ (by assumption))⟩

theorem mmC8_5 (ia ib : Int) (fa ga fb gb : Nat) (ha : B64 fa) (hb : B64 fb) (w : World) :
    Calls Try.prog 61 #[.int .i64 5, .int .i64 8, .agg #[.int .i64 ia, .float .f64 fa, .float .f64 ga], .agg #[.int .i64 ib, .float .f64 fb, .float .f64 gb]] w fun e w' => e = .returned (.agg #[.int .i64 0, .float .f64 (endF 5 fa fb), .float .f64 0]) ∧ Ext w w' := by
  go_enter Try.func61, Try.ntmps61
  go_wp2_with (go_at_call 97; refine (mmF64_5 _ _ ha hb _).mono ?_; rintro e w1 ⟨rfl, x1⟩; have k0 := x1.box (b := w.heap.size + 1 + 1) (o := 0) (v := .int .i64 0) (by first | assumption | (simp; done) | (simp [go_sem]; done) | rfl); have k1 := x1.box (b := w.heap.size + 1 + 1) (o := 1) (v := .float .f64 0) (by first | assumption | (simp; done) | (simp [go_sem]; done) | rfl); have k2 := x1.box (b := w.heap.size + 1 + 1) (o := 2) (v := .float .f64 0) (by first | assumption | (simp; done) | (simp [go_sem]; done) | rfl); have kf := fun o => (((((Ext.refl w).alloc _ _).alloc _ _).alloc _ _).trans x1).unfrozen (b := w.heap.size + 1 + 1) (by omega) o)
  exact bodyPost_ret (v := .agg #[.int .i64 0, .float .f64 (endF 5 fa fb), .float .f64 0]) (by simp [results, Try.results61, go_sem, k0, k1, k2]) rfl ⟨rfl, by repeat (first | with_reducible exact Ext.refl _ | with_reducible refine Ext.setCell ?_ (by first | (show _ ≤ _ + 1 + 1; omega) | (simp; done) | (simp; omega)) _ | with_reducible apply Ext.drewN | with_reducible apply Ext.drew | with_reducible apply Ext.alloc | refine Ext.trans ?_ (by assumption))⟩

set_option maxRecDepth 100000 in
theorem mmC7_5 (ia ib : Int) (fa ga fb gb : Nat) (ha : B64 fa) (hb : B64 fb) (sa : sngB fa = true) (sb : sngB fb = true) (w : World) :
    Calls Try.prog 61 #[.int .i64 5, .int .i64 7, .agg #[.int .i64 ia, .float .f64 fa, .float .f64 ga], .agg #[.int .i64 ib, .float .f64 fb, .float .f64 gb]] w fun e w' => e = .returned (.agg #[.int .i64 0, .float .f64 (endF 5 fa fb), .float .f64 0]) ∧ Ext w w' := by
  have dn : ∀ (x : Nat) (w1 : World), sngB x = true → (nanD x = true ∧ ∃ u, u < 4294967296 ∧ nanS u = true ∧ (convert 25 58 (.float .f64 x)).run Try.prog w1 = .ok (.float .f32 u) (w1.drewN 1)) ∨ (nanD x = false ∧ nanS (narrow x) = false ∧ wide (narrow x) = x ∧ (convert 25 58 (.float .f64 x)).run Try.prog w1 = .ok (.float .f32 (narrow x)) w1) := fun x w1 hx => by
    cases hn : nanD x
    · unfold sngB at hx
      simp only [hn, Bool.false_or, Bool.and_eq_true, Bool.not_eq_true', beq_iff_eq] at hx
      exact Or.inr ⟨rfl, nanS_narrow x hn, hx.2, run_convert_float_float w1 25 58 .f64 .f32 x (narrow x) und25 Try.underlying58 (narrow_ok x hn hx.1)⟩
    · exact Or.inl ⟨rfl, _, (nan_cut32 x _).2, (nan_cut32 x _).1, run_nan_conv w1 25 58 .f64 .f32 x und25 Try.underlying58 (by decide) (dec_nanD x hn)⟩
  rcases dn fa (((w.alloc (.cells #[.int .i64 ia, .float .f64 fa, .float .f64 ga] 29)).alloc (.cells #[.int .i64 ib, .float .f64 fb, .float .f64 gb] 29)).alloc (.cells #[.int .i64 0, .float .f64 0, .float .f64 0] 29)) sa with ⟨g1, u, hu, s1, c1⟩ | ⟨g1, s1, e1, c1⟩
  · rcases dn fb ((((w.alloc (.cells #[.int .i64 ia, .float .f64 fa, .float .f64 ga] 29)).alloc (.cells #[.int .i64 ib, .float .f64 fb, .float .f64 gb] 29)).alloc (.cells #[.int .i64 0, .float .f64 0, .float .f64 0] 29)).drewN 1) sb with ⟨g2, v, hv, s2, c2⟩ | ⟨g2, s2, e2, c2⟩
    · clear dn
      go_enter Try.func61, Try.ntmps61
      go_wp2_with (go_at_call 96; refine (mmF32_5 _ _ fa fb ha hb hu hv (Or.inl ⟨s1, g1⟩) (Or.inl ⟨s2, g2⟩) _).mono ?_; rintro e w1 ⟨rfl, x1⟩; have k0 := x1.box (b := w.heap.size + 1 + 1) (o := 0) (v := .int .i64 0) (by first | assumption | (simp; done) | (simp [go_sem]; done) | rfl); have k1 := x1.box (b := w.heap.size + 1 + 1) (o := 1) (v := .float .f64 0) (by first | assumption | (simp; done) | (simp [go_sem]; done) | rfl); have k2 := x1.box (b := w.heap.size + 1 + 1) (o := 2) (v := .float .f64 0) (by first | assumption | (simp; done) | (simp [go_sem]; done) | rfl); have kf := fun o => (((((((Ext.refl w).alloc _ _).alloc _ _).alloc _ _).drewN _)).trans x1).unfrozen (b := w.heap.size + 1 + 1) (by omega) o)
      exact bodyPost_ret (v := .agg #[.int .i64 0, .float .f64 (endF 5 fa fb), .float .f64 0]) (by simp [results, Try.results61, go_sem, k0, k1, k2]) rfl ⟨rfl, by repeat (first | with_reducible exact Ext.refl _ | with_reducible refine Ext.setCell ?_ (by first | (show _ ≤ _ + 1 + 1; omega) | (simp; done) | (simp; omega)) _ | with_reducible apply Ext.drewN | with_reducible apply Ext.drew | with_reducible apply Ext.alloc | refine Ext.trans ?_ (by assumption))⟩
    · have E2 := hide e2
      clear dn e2
      go_enter Try.func61, Try.ntmps61
      go_wp2_with (go_at_call 96; refine (mmF32_5 _ _ fa fb ha hb hu (narrow_lt _) (Or.inl ⟨s1, g1⟩) (Or.inr ⟨s2, E2.out⟩) _).mono ?_; rintro e w1 ⟨rfl, x1⟩; have k0 := x1.box (b := w.heap.size + 1 + 1) (o := 0) (v := .int .i64 0) (by first | assumption | (simp; done) | (simp [go_sem]; done) | rfl); have k1 := x1.box (b := w.heap.size + 1 + 1) (o := 1) (v := .float .f64 0) (by first | assumption | (simp; done) | (simp [go_sem]; done) | rfl); have k2 := x1.box (b := w.heap.size + 1 + 1) (o := 2) (v := .float .f64 0) (by first | assumption | (simp; done) | (simp [go_sem]; done) | rfl); have kf := fun o => (((((((Ext.refl w).alloc _ _).alloc _ _).alloc _ _).drewN _)).trans x1).unfrozen (b := w.heap.size + 1 + 1) (by omega) o)
      exact bodyPost_ret (v := .agg #[.int .i64 0, .float .f64 (endF 5 fa fb), .float .f64 0]) (by simp [results, Try.results61, go_sem, k0, k1, k2]) rfl ⟨rfl, by repeat (first | with_reducible exact Ext.refl _ | with_reducible refine Ext.setCell ?_ (by first | (show _ ≤ _ + 1 + 1; omega) | (simp; done) | (simp; omega)) _ | with_reducible apply Ext.drewN | with_reducible apply Ext.drew | with_reducible apply Ext.alloc | refine Ext.trans ?_ (by assumption))⟩
  · have E1 := hide e1
    clear e1
    rcases dn fb (((w.alloc (.cells #[.int .i64 ia, .float .f64 fa, .float .f64 ga] 29)).alloc (.cells #[.int .i64 ib, .float .f64 fb, .float .f64 gb] 29)).alloc (.cells #[.int .i64 0, .float .f64 0, .float .f64 0] 29)) sb with ⟨g2, v, hv, s2, c2⟩ | ⟨g2, s2, e2, c2⟩
    · clear dn
      go_enter Try.func61, Try.ntmps61
      go_wp2_with (go_at_call 96; refine (mmF32_5 _ _ fa fb ha hb (narrow_lt _) hv (Or.inr ⟨s1, E1.out⟩) (Or.inl ⟨s2, g2⟩) _).mono ?_; rintro e w1 ⟨rfl, x1⟩; have k0 := x1.box (b := w.heap.size + 1 + 1) (o := 0) (v := .int .i64 0) (by first | assumption | (simp; done) | (simp [go_sem]; done) | rfl); have k1 := x1.box (b := w.heap.size + 1 + 1) (o := 1) (v := .float .f64 0) (by first | assumption | (simp; done) | (simp [go_sem]; done) | rfl); have k2 := x1.box (b := w.heap.size + 1 + 1) (o := 2) (v := .float .f64 0) (by first | assumption | (simp; done) | (simp [go_sem]; done) | rfl); have kf := fun o => (((((((Ext.refl w).alloc _ _).alloc _ _).alloc _ _).drewN _)).trans x1).unfrozen (b := w.heap.size + 1 + 1) (by omega) o)
      exact bodyPost_ret (v := .agg #[.int .i64 0, .float .f64 (endF 5 fa fb), .float .f64 0]) (by simp [results, Try.results61, go_sem, k0, k1, k2]) rfl ⟨rfl, by repeat (first | with_reducible exact Ext.refl _ | with_reducible refine Ext.setCell ?_ (by first | (show _ ≤ _ + 1 + 1; omega) | (simp; done) | (simp; omega)) _ | with_reducible apply Ext.drewN | with_reducible apply Ext.drew | with_reducible apply Ext.alloc | refine Ext.trans ?_ (by assumption))⟩
    · have E2 := hide e2
      clear dn e2
      go_enter Try.func61, Try.ntmps61
      go_wp2_with (go_at_call 96; refine (mmF32_5 _ _ fa fb ha hb (narrow_lt _) (narrow_lt _) (Or.inr ⟨s1, E1.out⟩) (Or.inr ⟨s2, E2.out⟩) _).mono ?_; rintro e w1 ⟨rfl, x1⟩; have k0 := x1.box (b := w.heap.size + 1 + 1) (o := 0) (v := .int .i64 0) (by first | assumption | (simp; done) | (simp [go_sem]; done) | rfl); have k1 := x1.box (b := w.heap.size + 1 + 1) (o := 1) (v := .float .f64 0) (by first | assumption | (simp; done) | (simp [go_sem]; done) | rfl); have k2 := x1.box (b := w.heap.size + 1 + 1) (o := 2) (v := .float .f64 0) (by first | assumption | (simp; done) | (simp [go_sem]; done) | rfl); have kf := fun o => (((((Ext.refl w).alloc _ _).alloc _ _).alloc _ _).trans x1).unfrozen (b := w.heap.size + 1 + 1) (by omega) o)
      exact bodyPost_ret (v := .agg #[.int .i64 0, .float .f64 (endF 5 fa fb), .float .f64 0]) (by simp [results, Try.results61, go_sem, k0, k1, k2]) rfl ⟨rfl, by repeat (first | with_reducible exact Ext.refl _ | with_reducible refine Ext.setCell ?_ (by first | (show _ ≤ _ + 1 + 1; omega) | (simp; done) | (simp; omega)) _ | with_reducible apply Ext.drewN | with_reducible apply Ext.drew | with_reducible apply Ext.alloc | refine Ext.trans ?_ (by assumption))⟩

theorem mmC8_6 (ia ib : Int) (fa ga fb gb : Nat) (ha : B64 fa) (hb : B64 fb) (w : World) :
    Calls Try.prog 61 #[.int .i64 6, .int .i64 8, .agg #[.int .i64 ia, .float .f64 fa, .float .f64 ga], .agg #[.int .i64 ib, .float .f64 fb, .float .f64 gb]] w fun e w' => e = .returned (.agg #[.int .i64 0, .float .f64 (endF 6 fa fb), .float .f64 0]) ∧ Ext w w' := by
  go_enter Try.func61, Try.ntmps61
  go_wp2_with (go_at_call 97; refine (mmF64_6 _ _ ha hb _).mono ?_; rintro e w1 ⟨rfl, x1⟩; have k0 := x1.box (b := w.heap.size + 1 + 1) (o := 0) (v := .int .i64 0) (by first | assumption | (simp; done) | (simp [go_sem]; done) | rfl); have k1 := x1.box (b := w.heap.size + 1 + 1) (o := 1) (v := .float .f64 0) (by first | assumption | (simp; done) | (simp [go_sem]; done) | rfl); have k2 := x1.box (b := w.heap.size + 1 + 1) (o := 2) (v := .float .f64 0) (by first | assumption | (simp; done) | (simp [go_sem]; done) | rfl); have kf := fun o => (((((Ext.refl w).alloc _ _).alloc _ _).alloc _ _).trans x1).unfrozen (b := w.heap.size + 1 + 1) (by omega) o)
  exact bodyPost_ret (v := .agg #[.int .i64 0, .float .f64 (endF 6 fa fb), .float .f64 0]) (by simp [results, Try.results61, go_sem, k0, k1, k2]) rfl ⟨rfl, by repeat (first | with_reducible exact Ext.refl _ | with_reducible refine Ext.setCell ?_ (by first | (show _ ≤ _ + 1 + 1; omega) | (simp; done) | (simp; omega)) _ | with_reducible apply Ext.drewN | with_reducible apply Ext.drew | with_reducible apply Ext.alloc | refine Ext.trans ?_ (by assumption))⟩

set_option maxRecDepth 100000 in
theorem mmC7_6 (ia ib : Int) (fa ga fb gb : Nat) (ha : B64 fa) (hb : B64 fb) (sa : sngB fa = true) (sb : sngB fb = true) (w : World) :
    Calls Try.prog 61 #[.int .i64 6, .int .i64 7, .agg #[.int .i64 ia, .float .f64 fa, .float .f64 ga], .agg #[.int .i64 ib, .float .f64 fb, .float .f64 gb]] w fun e w' => e = .returned (.agg #[.int .i64 0, .float .f64 (endF 6 fa fb), .float .f64 0]) ∧ Ext w w' := by
  have dn : ∀ (x : Nat) (w1 : World), sngB x = true → (nanD x = true ∧ ∃ u, u < 4294967296 ∧ nanS u = true ∧ (convert 25 58 (.float .f64 x)).run Try.prog w1 = .ok (.float .f32 u) (w1.drewN 1)) ∨ (nanD x = false ∧ nanS (narrow x) = false ∧ wide (narrow x) = x ∧ (convert 25 58 (.float .f64 x)).run Try.prog w1 = .ok (.float .f32 (narrow x)) w1) := fun x w1 hx => by
    cases hn : nanD x
    · unfold sngB at hx
      simp only [hn, Bool.false_or, Bool.and_eq_true, Bool.not_eq_true', beq_iff_eq] at hx
      exact Or.inr ⟨rfl, nanS_narrow x hn, hx.2, run_convert_float_float w1 25 58 .f64 .f32 x (narrow x) und25 Try.underlying58 (narrow_ok x hn hx.1)⟩
    · exact Or.inl ⟨rfl, _, (nan_cut32 x _).2, (nan_cut32 x _).1, run_nan_conv w1 25 58 .f64 .f32 x und25 Try.underlying58 (by decide) (dec_nanD x hn)⟩
  rcases dn fa (((w.alloc (.cells #[.int .i64 ia, .float .f64 fa, .float .f64 ga] 29)).alloc (.cells #[.int .i64 ib, .float .f64 fb, .float .f64 gb] 29)).alloc (.cells #[.int .i64 0, .float .f64 0, .float .f64 0] 29)) sa with ⟨g1, u, hu, s1, c1⟩ | ⟨g1, s1, e1, c1⟩
  · rcases dn fb ((((w.alloc (.cells #[.int .i64 ia, .float .f64 fa, .float .f64 ga] 29)).alloc (.cells #[.int .i64 ib, .float .f64 fb, .float .f64 gb] 29)).alloc (.cells #[.int .i64 0, .float .f64 0, .float .f64 0] 29)).drewN 1) sb with ⟨g2, v, hv, s2, c2⟩ | ⟨g2, s2, e2, c2⟩
    · clear dn
      go_enter Try.func61, Try.ntmps61
      go_wp2_with (go_at_call 96; refine (mmF32_6 _ _ fa fb ha hb hu hv (Or.inl ⟨s1, g1⟩) (Or.inl ⟨s2, g2⟩) _).mono ?_; rintro e w1 ⟨rfl, x1⟩; have k0 := x1.box (b := w.heap.size + 1 + 1) (o := 0) (v := .int .i64 0) (by first | assumption | (simp; done) | (simp [go_sem]; done) | rfl); have k1 := x1.box (b := w.heap.size + 1 + 1) (o := 1) (v := .float .f64 0) (by first | assumption | (simp; done) | (simp [go_sem]; done) | rfl); have k2 := x1.box (b := w.heap.size + 1 + 1) (o := 2) (v := .float .f64 0) (by first | assumption | (simp; done) | (simp [go_sem]; done) | rfl); have kf := fun o => (((((((Ext.refl w).alloc _ _).alloc _ _).alloc _ _).drewN _)).trans x1).unfrozen (b := w.heap.size + 1 + 1) (by omega) o)
      exact bodyPost_ret (v := .agg #[.int .i64 0, .float .f64 (endF 6 fa fb), .float .f64 0]) (by simp [results, Try.results61, go_sem, k0, k1, k2]) rfl ⟨rfl, by repeat (first | with_reducible exact Ext.refl _ | with_reducible refine Ext.setCell ?_ (by first | (show _ ≤ _ + 1 + 1; omega) | (simp; done) | (simp; omega)) _ | with_reducible apply Ext.drewN | with_reducible apply Ext.drew | with_reducible apply Ext.alloc | refine Ext.trans ?_ (by assumption))⟩
    · have E2 := hide e2
      clear dn e2
      go_enter Try.func61, Try.ntmps61
      go_wp2_with (go_at_call 96; refine (mmF32_6 _ _ fa fb ha hb hu (narrow_lt _) (Or.inl ⟨s1, g1⟩) (Or.inr ⟨s2, E2.out⟩) _).mono ?_; rintro e w1 ⟨rfl, x1⟩; have k0 := x1.box (b := w.heap.size + 1 + 1) (o := 0) (v := .int .i64 0) (by first | assumption | (simp; done) | (simp [go_sem]; done) | rfl); have k1 := x1.box (b := w.heap.size + 1 + 1) (o := 1) (v := .float .f64 0) (by first | assumption | (simp; done) | (simp [go_sem]; done) | rfl); have k2 := x1.box (b := w.heap.size + 1 + 1) (o := 2) (v := .float .f64 0) (by first | assumption | (simp; done) | (simp [go_sem]; done) | rfl); have kf := fun o => (((((((Ext.refl w).alloc _ _).alloc _ _).alloc _ _).drewN _)).trans x1).unfrozen (b := w.heap.size + 1 + 1) (by omega) o)
      exact bodyPost_ret (v := .agg #[.int .i64 0, .float .f64 (endF 6 fa fb), .float .f64 0]) (by simp [results, Try.results61, go_sem, k0, k1, k2]) rfl ⟨rfl, by repeat (first | with_reducible exact Ext.refl _ | with_reducible refine Ext.setCell ?_ (by first | (show _ ≤ _ + 1 + 1; omega) | (simp; done) | (simp; omega)) _ | with_reducible apply Ext.drewN | with_reducible apply Ext.drew | with_reducible apply Ext.alloc | refine Ext.trans ?_ (by assumption))⟩
  · have E1 := hide e1
    clear e1
    rcases dn fb (((w.alloc (.cells #[.int .i64 ia, .float .f64 fa, .float .f64 ga] 29)).alloc (.cells #[.int .i64 ib, .float .f64 fb, .float .f64 gb] 29)).alloc (.cells #[.int .i64 0, .float .f64 0, .float .f64 0] 29)) sb with ⟨g2, v, hv, s2, c2⟩ | ⟨g2, s2, e2, c2⟩
    · clear dn
      go_enter Try.func61, Try.ntmps61
      go_wp2_with (go_at_call 96; refine (mmF32_6 _ _ fa fb ha hb (narrow_lt _) hv (Or.inr ⟨s1, E1.out⟩) (Or.inl ⟨s2, g2⟩) _).mono ?_; rintro e w1 ⟨rfl, x1⟩; have k0 := x1.box (b := w.heap.size + 1 + 1) (o := 0) (v := .int .i64 0) (by first | assumption | (simp; done) | (simp [go_sem]; done) | rfl); have k1 := x1.box (b := w.heap.size + 1 + 1) (o := 1) (v := .float .f64 0) (by first | assumption | (simp; done) | (simp [go_sem]; done) | rfl); have k2 := x1.box (b := w.heap.size + 1 + 1) (o := 2) (v := .float .f64 0) (by first | assumption | (simp; done) | (simp [go_sem]; done) | rfl); have kf := fun o => (((((((Ext.refl w).alloc _ _).alloc _ _).alloc _ _).drewN _)).trans x1).unfrozen (b := w.heap.size + 1 + 1) (by omega) o)
      exact bodyPost_ret (v := .agg #[.int .i64 0, .float .f64 (endF 6 fa fb), .float .f64 0]) (by simp [results, Try.results61, go_sem, k0, k1, k2]) rfl ⟨rfl, by repeat (first | with_reducible exact Ext.refl _ | with_reducible refine Ext.setCell ?_ (by first | (show _ ≤ _ + 1 + 1; omega) | (simp; done) | (simp; omega)) _ | with_reducible apply Ext.drewN | with_reducible apply Ext.drew | with_reducible apply Ext.alloc | refine Ext.trans ?_ (by assumption))⟩
    · have E2 := hide e2
      clear dn e2
      go_enter Try.func61, Try.ntmps61
      go_wp2_with (go_at_call 96; refine (mmF32_6 _ _ fa fb ha hb (narrow_lt _) (narrow_lt _) (Or.inr ⟨s1, E1.out⟩) (Or.inr ⟨s2, E2.out⟩) _).mono ?_; rintro e w1 ⟨rfl, x1⟩; have k0 := x1.box (b := w.heap.size + 1 + 1) (o := 0) (v := .int .i64 0) (by first | assumption | (simp; done) | (simp [go_sem]; done) | rfl); have k1 := x1.box (b := w.heap.size + 1 + 1) (o := 1) (v := .float .f64 0) (by first | assumption | (simp; done) | (simp [go_sem]; done) | rfl); have k2 := x1.box (b := w.heap.size + 1 + 1) (o := 2) (v := .float .f64 0) (by first | assumption | (simp; done) | (simp [go_sem]; done) | rfl); have kf := fun o => (((((Ext.refl w).alloc _ _).alloc _ _).alloc _ _).trans x1).unfrozen (b := w.heap.size + 1 + 1) (by omega) o)
      exact bodyPost_ret (v := .agg #[.int .i64 0, .float .f64 (endF 6 fa fb), .float .f64 0]) (by simp [results, Try.results61, go_sem, k0, k1, k2]) rfl ⟨rfl, by repeat (first | with_reducible exact Ext.refl _ | with_reducible refine Ext.setCell ?_ (by first | (show _ ≤ _ + 1 + 1; omega) | (simp; done) | (simp; omega)) _ | with_reducible apply Ext.drewN | with_reducible apply Ext.drew | with_reducible apply Ext.alloc | refine Ext.trans ?_ (by assumption))⟩

end Go.Proofs.Ythaajmkfeniofaa
