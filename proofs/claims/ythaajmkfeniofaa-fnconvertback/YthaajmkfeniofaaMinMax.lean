import Derived.Test.YthaajmkfeniofaaDrawB
import Derived.Test.YthaajmkfeniofaaUnary4
namespace Go.Proofs.Ythaajmkfeniofaa
open Go.RowKit FL
set_option linter.unusedSimpArgs false
set_option linter.unusedVariables false

def mmI (op a b : Int) : Int := if op = 5 then min a b else max a b

theorem mmI_5 (a b : Int) : mmI 5 a b = min a b := by unfold mmI; rw [if_pos rfl]
theorem mmI_6 (a b : Int) : mmI 6 a b = max a b := by unfold mmI; rw [if_neg (by decide)]

theorem or_bit (a b : Int) (ha : 0 ≤ a ∧ a ≤ 1) (hb : 0 ≤ b ∧ b ≤ 1) : bits BinOp.or IntKind.i64 a b = max a b := by
  have h1 : a = 0 ∨ a = 1 := by omega
  have h2 : b = 0 ∨ b = 1 := by omega
  rcases h1 with rfl | rfl <;> rcases h2 with rfl | rfl <;> decide
theorem and_bit (a b : Int) (ha : 0 ≤ a ∧ a ≤ 1) (hb : 0 ≤ b ∧ b ≤ 1) : bits BinOp.and IntKind.i64 a b = min a b := by
  have h1 : a = 0 ∨ a = 1 := by omega
  have h2 : b = 0 ∨ b = 1 := by omega
  rcases h1 with rfl | rfl <;> rcases h2 with rfl | rfl <;> decide

theorem mmBool_5 (a b : Int) (ha : 0 ≤ a ∧ a ≤ 1) (hb : 0 ≤ b ∧ b ≤ 1) (w : World) :
    Calls Try.prog 90 #[.int .i64 5, .int .i64 a, .int .i64 b] w fun e w' => e = .returned (.agg #[.int .i64 (mmI 5 a b), .float .f64 0, .float .f64 0]) ∧ Ext w w' := by
  have e : bits BinOp.and IntKind.i64 a b = mmI 5 a b := by rw [and_bit a b ha hb]; rfl
  clear ha hb
  go_enter Try.func90, Try.ntmps90
  go_wp2
  exact bodyPost_ret (v := .agg #[.int .i64 (mmI 5 a b), .float .f64 0, .float .f64 0]) (by simp [results, Try.results90, go_sem]) rfl ⟨rfl, by repeat (first | with_reducible exact Ext.refl _ | with_reducible refine Ext.setCell ?_ (by simp; try omega) _ | with_reducible apply Ext.drewN | with_reducible apply Ext.drew | with_reducible apply Ext.alloc | refine Ext.trans ?_ (by assumption))⟩

theorem mmBool_6 (a b : Int) (ha : 0 ≤ a ∧ a ≤ 1) (hb : 0 ≤ b ∧ b ≤ 1) (w : World) :
    Calls Try.prog 90 #[.int .i64 6, .int .i64 a, .int .i64 b] w fun e w' => e = .returned (.agg #[.int .i64 (mmI 6 a b), .float .f64 0, .float .f64 0]) ∧ Ext w w' := by
  have e : bits BinOp.or IntKind.i64 a b = mmI 6 a b := by rw [or_bit a b ha hb]; rfl
  clear ha hb
  go_enter Try.func90, Try.ntmps90
  go_wp2
  exact bodyPost_ret (v := .agg #[.int .i64 (mmI 6 a b), .float .f64 0, .float .f64 0]) (by simp [results, Try.results90, go_sem]) rfl ⟨rfl, by repeat (first | with_reducible exact Ext.refl _ | with_reducible refine Ext.setCell ?_ (by simp; try omega) _ | with_reducible apply Ext.drewN | with_reducible apply Ext.drew | with_reducible apply Ext.alloc | refine Ext.trans ?_ (by assumption))⟩

theorem mmi8_5 (a b : Int) (ha : -128 ≤ a ∧ a ≤ 127) (hb : -128 ≤ b ∧ b ≤ 127) (w : World) :
    Calls Try.prog 91 #[.int .i64 5, .int .i8 a, .int .i8 b] w fun e w' => e = .returned (.agg #[.int .i64 (mmI 5 a b), .float .f64 0, .float .f64 0]) ∧ Ext w w' := by
  have Ha := hide ha
  have Hb := hide hb
  clear ha hb
  have fin : ∀ z : Int, z = mmI 5 a b → Ending.returned (.agg #[.int .i64 z, .float .f64 0, .float .f64 0]) = .returned (.agg #[.int .i64 (mmI 5 a b), .float .f64 0, .float .f64 0]) := fun z hz => by rw [hz]
  have Hf := hide fin
  clear fin
  go_enter Try.func91, Try.ntmps91
  go_wp2
  all_goals refine bodyPost_ret (v := .agg #[.int .i64 _, .float .f64 0, .float .f64 0]) (by simp [results, Try.results91, go_sem]; rfl) rfl ⟨Hf.out _ ?_, by repeat (first | with_reducible exact Ext.refl _ | with_reducible refine Ext.setCell ?_ (by simp; try omega) _ | with_reducible apply Ext.drewN | with_reducible apply Ext.drew | with_reducible apply Ext.alloc | refine Ext.trans ?_ (by assumption))⟩
  all_goals go_light
  all_goals (have ha := Ha.out; have hb := Hb.out; first | (rw [mmI_5]; omega) | (rw [mmI_6]; omega) | (rw [mmI_5]; simp only [wrap64, IntKind.wrap_i64]; omega) | (rw [mmI_6]; simp only [wrap64, IntKind.wrap_i64]; omega))

theorem mmi8_6 (a b : Int) (ha : -128 ≤ a ∧ a ≤ 127) (hb : -128 ≤ b ∧ b ≤ 127) (w : World) :
    Calls Try.prog 91 #[.int .i64 6, .int .i8 a, .int .i8 b] w fun e w' => e = .returned (.agg #[.int .i64 (mmI 6 a b), .float .f64 0, .float .f64 0]) ∧ Ext w w' := by
  have Ha := hide ha
  have Hb := hide hb
  clear ha hb
  have fin : ∀ z : Int, z = mmI 6 a b → Ending.returned (.agg #[.int .i64 z, .float .f64 0, .float .f64 0]) = .returned (.agg #[.int .i64 (mmI 6 a b), .float .f64 0, .float .f64 0]) := fun z hz => by rw [hz]
  have Hf := hide fin
  clear fin
  go_enter Try.func91, Try.ntmps91
  go_wp2
  all_goals refine bodyPost_ret (v := .agg #[.int .i64 _, .float .f64 0, .float .f64 0]) (by simp [results, Try.results91, go_sem]; rfl) rfl ⟨Hf.out _ ?_, by repeat (first | with_reducible exact Ext.refl _ | with_reducible refine Ext.setCell ?_ (by simp; try omega) _ | with_reducible apply Ext.drewN | with_reducible apply Ext.drew | with_reducible apply Ext.alloc | refine Ext.trans ?_ (by assumption))⟩
  all_goals go_light
  all_goals (have ha := Ha.out; have hb := Hb.out; first | (rw [mmI_5]; omega) | (rw [mmI_6]; omega) | (rw [mmI_5]; simp only [wrap64, IntKind.wrap_i64]; omega) | (rw [mmI_6]; simp only [wrap64, IntKind.wrap_i64]; omega))

theorem mmu8_5 (a b : Int) (ha : 0 ≤ a ∧ a ≤ 255) (hb : 0 ≤ b ∧ b ≤ 255) (w : World) :
    Calls Try.prog 92 #[.int .i64 5, .int .u8 a, .int .u8 b] w fun e w' => e = .returned (.agg #[.int .i64 (mmI 5 a b), .float .f64 0, .float .f64 0]) ∧ Ext w w' := by
  have Ha := hide ha
  have Hb := hide hb
  clear ha hb
  have fin : ∀ z : Int, z = mmI 5 a b → Ending.returned (.agg #[.int .i64 z, .float .f64 0, .float .f64 0]) = .returned (.agg #[.int .i64 (mmI 5 a b), .float .f64 0, .float .f64 0]) := fun z hz => by rw [hz]
  have Hf := hide fin
  clear fin
  go_enter Try.func92, Try.ntmps92
  go_wp2
  all_goals refine bodyPost_ret (v := .agg #[.int .i64 _, .float .f64 0, .float .f64 0]) (by simp [results, Try.results92, go_sem]; rfl) rfl ⟨Hf.out _ ?_, by repeat (first | with_reducible exact Ext.refl _ | with_reducible refine Ext.setCell ?_ (by simp; try omega) _ | with_reducible apply Ext.drewN | with_reducible apply Ext.drew | with_reducible apply Ext.alloc | refine Ext.trans ?_ (by assumption))⟩
  all_goals go_light
  all_goals (have ha := Ha.out; have hb := Hb.out; first | (rw [mmI_5]; omega) | (rw [mmI_6]; omega) | (rw [mmI_5]; simp only [wrap64, IntKind.wrap_i64]; omega) | (rw [mmI_6]; simp only [wrap64, IntKind.wrap_i64]; omega))

theorem mmu8_6 (a b : Int) (ha : 0 ≤ a ∧ a ≤ 255) (hb : 0 ≤ b ∧ b ≤ 255) (w : World) :
    Calls Try.prog 92 #[.int .i64 6, .int .u8 a, .int .u8 b] w fun e w' => e = .returned (.agg #[.int .i64 (mmI 6 a b), .float .f64 0, .float .f64 0]) ∧ Ext w w' := by
  have Ha := hide ha
  have Hb := hide hb
  clear ha hb
  have fin : ∀ z : Int, z = mmI 6 a b → Ending.returned (.agg #[.int .i64 z, .float .f64 0, .float .f64 0]) = .returned (.agg #[.int .i64 (mmI 6 a b), .float .f64 0, .float .f64 0]) := fun z hz => by rw [hz]
  have Hf := hide fin
  clear fin
  go_enter Try.func92, Try.ntmps92
  go_wp2
  all_goals refine bodyPost_ret (v := .agg #[.int .i64 _, .float .f64 0, .float .f64 0]) (by simp [results, Try.results92, go_sem]; rfl) rfl ⟨Hf.out _ ?_, by repeat (first | with_reducible exact Ext.refl _ | with_reducible refine Ext.setCell ?_ (by simp; try omega) _ | with_reducible apply Ext.drewN | with_reducible apply Ext.drew | with_reducible apply Ext.alloc | refine Ext.trans ?_ (by assumption))⟩
  all_goals go_light
  all_goals (have ha := Ha.out; have hb := Hb.out; first | (rw [mmI_5]; omega) | (rw [mmI_6]; omega) | (rw [mmI_5]; simp only [wrap64, IntKind.wrap_i64]; omega) | (rw [mmI_6]; simp only [wrap64, IntKind.wrap_i64]; omega))

theorem mmi16_5 (a b : Int) (ha : -32768 ≤ a ∧ a ≤ 32767) (hb : -32768 ≤ b ∧ b ≤ 32767) (w : World) :
    Calls Try.prog 93 #[.int .i64 5, .int .i16 a, .int .i16 b] w fun e w' => e = .returned (.agg #[.int .i64 (mmI 5 a b), .float .f64 0, .float .f64 0]) ∧ Ext w w' := by
  have Ha := hide ha
  have Hb := hide hb
  clear ha hb
  have fin : ∀ z : Int, z = mmI 5 a b → Ending.returned (.agg #[.int .i64 z, .float .f64 0, .float .f64 0]) = .returned (.agg #[.int .i64 (mmI 5 a b), .float .f64 0, .float .f64 0]) := fun z hz => by rw [hz]
  have Hf := hide fin
  clear fin
  go_enter Try.func93, Try.ntmps93
  go_wp2
  all_goals refine bodyPost_ret (v := .agg #[.int .i64 _, .float .f64 0, .float .f64 0]) (by simp [results, Try.results93, go_sem]; rfl) rfl ⟨Hf.out _ ?_, by repeat (first | with_reducible exact Ext.refl _ | with_reducible refine Ext.setCell ?_ (by simp; try omega) _ | with_reducible apply Ext.drewN | with_reducible apply Ext.drew | with_reducible apply Ext.alloc | refine Ext.trans ?_ (by assumption))⟩
  all_goals go_light
  all_goals (have ha := Ha.out; have hb := Hb.out; first | (rw [mmI_5]; omega) | (rw [mmI_6]; omega) | (rw [mmI_5]; simp only [wrap64, IntKind.wrap_i64]; omega) | (rw [mmI_6]; simp only [wrap64, IntKind.wrap_i64]; omega))

theorem mmi16_6 (a b : Int) (ha : -32768 ≤ a ∧ a ≤ 32767) (hb : -32768 ≤ b ∧ b ≤ 32767) (w : World) :
    Calls Try.prog 93 #[.int .i64 6, .int .i16 a, .int .i16 b] w fun e w' => e = .returned (.agg #[.int .i64 (mmI 6 a b), .float .f64 0, .float .f64 0]) ∧ Ext w w' := by
  have Ha := hide ha
  have Hb := hide hb
  clear ha hb
  have fin : ∀ z : Int, z = mmI 6 a b → Ending.returned (.agg #[.int .i64 z, .float .f64 0, .float .f64 0]) = .returned (.agg #[.int .i64 (mmI 6 a b), .float .f64 0, .float .f64 0]) := fun z hz => by rw [hz]
  have Hf := hide fin
  clear fin
  go_enter Try.func93, Try.ntmps93
  go_wp2
  all_goals refine bodyPost_ret (v := .agg #[.int .i64 _, .float .f64 0, .float .f64 0]) (by simp [results, Try.results93, go_sem]; rfl) rfl ⟨Hf.out _ ?_, by repeat (first | with_reducible exact Ext.refl _ | with_reducible refine Ext.setCell ?_ (by simp; try omega) _ | with_reducible apply Ext.drewN | with_reducible apply Ext.drew | with_reducible apply Ext.alloc | refine Ext.trans ?_ (by assumption))⟩
  all_goals go_light
  all_goals (have ha := Ha.out; have hb := Hb.out; first | (rw [mmI_5]; omega) | (rw [mmI_6]; omega) | (rw [mmI_5]; simp only [wrap64, IntKind.wrap_i64]; omega) | (rw [mmI_6]; simp only [wrap64, IntKind.wrap_i64]; omega))

theorem mmi32_5 (a b : Int) (ha : -2147483648 ≤ a ∧ a ≤ 2147483647) (hb : -2147483648 ≤ b ∧ b ≤ 2147483647) (w : World) :
    Calls Try.prog 94 #[.int .i64 5, .int .i32 a, .int .i32 b] w fun e w' => e = .returned (.agg #[.int .i64 (mmI 5 a b), .float .f64 0, .float .f64 0]) ∧ Ext w w' := by
  have Ha := hide ha
  have Hb := hide hb
  clear ha hb
  have fin : ∀ z : Int, z = mmI 5 a b → Ending.returned (.agg #[.int .i64 z, .float .f64 0, .float .f64 0]) = .returned (.agg #[.int .i64 (mmI 5 a b), .float .f64 0, .float .f64 0]) := fun z hz => by rw [hz]
  have Hf := hide fin
  clear fin
  go_enter Try.func94, Try.ntmps94
  go_wp2
  all_goals refine bodyPost_ret (v := .agg #[.int .i64 _, .float .f64 0, .float .f64 0]) (by simp [results, Try.results94, go_sem]; rfl) rfl ⟨Hf.out _ ?_, by repeat (first | with_reducible exact Ext.refl _ | with_reducible refine Ext.setCell ?_ (by simp; try omega) _ | with_reducible apply Ext.drewN | with_reducible apply Ext.drew | with_reducible apply Ext.alloc | refine Ext.trans ?_ (by assumption))⟩
  all_goals go_light
  all_goals (have ha := Ha.out; have hb := Hb.out; first | (rw [mmI_5]; omega) | (rw [mmI_6]; omega) | (rw [mmI_5]; simp only [wrap64, IntKind.wrap_i64]; omega) | (rw [mmI_6]; simp only [wrap64, IntKind.wrap_i64]; omega))

theorem mmi32_6 (a b : Int) (ha : -2147483648 ≤ a ∧ a ≤ 2147483647) (hb : -2147483648 ≤ b ∧ b ≤ 2147483647) (w : World) :
    Calls Try.prog 94 #[.int .i64 6, .int .i32 a, .int .i32 b] w fun e w' => e = .returned (.agg #[.int .i64 (mmI 6 a b), .float .f64 0, .float .f64 0]) ∧ Ext w w' := by
  have Ha := hide ha
  have Hb := hide hb
  clear ha hb
  have fin : ∀ z : Int, z = mmI 6 a b → Ending.returned (.agg #[.int .i64 z, .float .f64 0, .float .f64 0]) = .returned (.agg #[.int .i64 (mmI 6 a b), .float .f64 0, .float .f64 0]) := fun z hz => by rw [hz]
  have Hf := hide fin
  clear fin
  go_enter Try.func94, Try.ntmps94
  go_wp2
  all_goals refine bodyPost_ret (v := .agg #[.int .i64 _, .float .f64 0, .float .f64 0]) (by simp [results, Try.results94, go_sem]; rfl) rfl ⟨Hf.out _ ?_, by repeat (first | with_reducible exact Ext.refl _ | with_reducible refine Ext.setCell ?_ (by simp; try omega) _ | with_reducible apply Ext.drewN | with_reducible apply Ext.drew | with_reducible apply Ext.alloc | refine Ext.trans ?_ (by assumption))⟩
  all_goals go_light
  all_goals (have ha := Ha.out; have hb := Hb.out; first | (rw [mmI_5]; omega) | (rw [mmI_6]; omega) | (rw [mmI_5]; simp only [wrap64, IntKind.wrap_i64]; omega) | (rw [mmI_6]; simp only [wrap64, IntKind.wrap_i64]; omega))

theorem mmi64_5 (a b : Int) (ha : -9223372036854775808 ≤ a ∧ a ≤ 9223372036854775807) (hb : -9223372036854775808 ≤ b ∧ b ≤ 9223372036854775807) (w : World) :
    Calls Try.prog 95 #[.int .i64 5, .int .i64 a, .int .i64 b] w fun e w' => e = .returned (.agg #[.int .i64 (mmI 5 a b), .float .f64 0, .float .f64 0]) ∧ Ext w w' := by
  have Ha := hide ha
  have Hb := hide hb
  clear ha hb
  have fin : ∀ z : Int, z = mmI 5 a b → Ending.returned (.agg #[.int .i64 z, .float .f64 0, .float .f64 0]) = .returned (.agg #[.int .i64 (mmI 5 a b), .float .f64 0, .float .f64 0]) := fun z hz => by rw [hz]
  have Hf := hide fin
  clear fin
  go_enter Try.func95, Try.ntmps95
  go_wp2
  all_goals refine bodyPost_ret (v := .agg #[.int .i64 _, .float .f64 0, .float .f64 0]) (by simp [results, Try.results95, go_sem]; rfl) rfl ⟨Hf.out _ ?_, by repeat (first | with_reducible exact Ext.refl _ | with_reducible refine Ext.setCell ?_ (by simp; try omega) _ | with_reducible apply Ext.drewN | with_reducible apply Ext.drew | with_reducible apply Ext.alloc | refine Ext.trans ?_ (by assumption))⟩
  all_goals go_light
  all_goals (have ha := Ha.out; have hb := Hb.out; first | (rw [mmI_5]; omega) | (rw [mmI_6]; omega) | (rw [mmI_5]; simp only [wrap64, IntKind.wrap_i64]; omega) | (rw [mmI_6]; simp only [wrap64, IntKind.wrap_i64]; omega))

theorem mmi64_6 (a b : Int) (ha : -9223372036854775808 ≤ a ∧ a ≤ 9223372036854775807) (hb : -9223372036854775808 ≤ b ∧ b ≤ 9223372036854775807) (w : World) :
    Calls Try.prog 95 #[.int .i64 6, .int .i64 a, .int .i64 b] w fun e w' => e = .returned (.agg #[.int .i64 (mmI 6 a b), .float .f64 0, .float .f64 0]) ∧ Ext w w' := by
  have Ha := hide ha
  have Hb := hide hb
  clear ha hb
  have fin : ∀ z : Int, z = mmI 6 a b → Ending.returned (.agg #[.int .i64 z, .float .f64 0, .float .f64 0]) = .returned (.agg #[.int .i64 (mmI 6 a b), .float .f64 0, .float .f64 0]) := fun z hz => by rw [hz]
  have Hf := hide fin
  clear fin
  go_enter Try.func95, Try.ntmps95
  go_wp2
  all_goals refine bodyPost_ret (v := .agg #[.int .i64 _, .float .f64 0, .float .f64 0]) (by simp [results, Try.results95, go_sem]; rfl) rfl ⟨Hf.out _ ?_, by repeat (first | with_reducible exact Ext.refl _ | with_reducible refine Ext.setCell ?_ (by simp; try omega) _ | with_reducible apply Ext.drewN | with_reducible apply Ext.drew | with_reducible apply Ext.alloc | refine Ext.trans ?_ (by assumption))⟩
  all_goals go_light
  all_goals (have ha := Ha.out; have hb := Hb.out; first | (rw [mmI_5]; omega) | (rw [mmI_6]; omega) | (rw [mmI_5]; simp only [wrap64, IntKind.wrap_i64]; omega) | (rw [mmI_6]; simp only [wrap64, IntKind.wrap_i64]; omega))

def endF (op : Int) (a b : Nat) : Nat := if (nanD a || nanD b) = true then 9221120237041090561 else if (fbef a b == (op == 5)) = true then a else b

theorem nanConst (w : World) : Calls Try.prog 129 #[] w fun e w' => e = .returned (.float .f64 9221120237041090561) ∧ w' = w := by
  have hc := run_float64frombits 9221120237041090561
  go_enter Try.func129, Try.ntmps129
  go_wp2
  go_ret
  exact ⟨rfl, rfl⟩

theorem ret_float {a b : Nat} (h : a = b) : Ending.returned (.float .f64 a) = .returned (.float .f64 b) := by rw [h]

theorem floatEnd_any (op : Int) (a b : Nat) (ha : B64 a) (hb : B64 b) (w : World) :
    Calls Try.prog 122 #[.int .i64 op, .float .f64 a, .float .f64 b] w fun e w' => e = .returned (.float .f64 (endF op a b)) ∧ w' = w := by
  cases na : nanD a
  · cases nb : nanD b
    · cases hh : (fbef a b == (op == 5))
      · go_enter Try.func122, Try.ntmps122
        go_wp2_with (first | (go_at_call 76; refine (isNaN_any _ _).mono ?_; rintro e w' ⟨rfl, rfl⟩) | (go_at_call 44; refine (floatBefore_any _ _ ha hb _).mono ?_; rintro e w' ⟨rfl, rfl⟩))
        go_ret
        exact ⟨ret_float (by unfold endF; rw [na, nb, hh]; rfl), rfl⟩
      · go_enter Try.func122, Try.ntmps122
        go_wp2_with (first | (go_at_call 76; refine (isNaN_any _ _).mono ?_; rintro e w' ⟨rfl, rfl⟩) | (go_at_call 44; refine (floatBefore_any _ _ ha hb _).mono ?_; rintro e w' ⟨rfl, rfl⟩))
        go_ret
        exact ⟨ret_float (by unfold endF; rw [na, nb, hh]; rfl), rfl⟩
    · go_enter Try.func122, Try.ntmps122
      go_wp2_with (first | (go_at_call 76; refine (isNaN_any _ _).mono ?_; rintro e w' ⟨rfl, rfl⟩) | (go_at_call 129; refine (nanConst _).mono ?_; rintro e w' ⟨rfl, rfl⟩))
      go_ret
      exact ⟨ret_float (by unfold endF; rw [na, nb]; rfl), rfl⟩
  · go_enter Try.func122, Try.ntmps122
    go_wp2_with (first | (go_at_call 76; refine (isNaN_any _ _).mono ?_; rintro e w' ⟨rfl, rfl⟩) | (go_at_call 129; refine (nanConst _).mono ?_; rintro e w' ⟨rfl, rfl⟩))
    go_ret
    exact ⟨ret_float (by unfold endF; rw [na]; rfl), rfl⟩

theorem mmF64_5 (a b : Nat) (ha : B64 a) (hb : B64 b) (w : World) :
    Calls Try.prog 97 #[.int .i64 5, .float .f64 a, .float .f64 b] w fun e w' => e = .returned (.agg #[.int .i64 0, .float .f64 (endF 5 a b), .float .f64 0]) ∧ Ext w w' := by
  go_enter Try.func97, Try.ntmps97
  go_wp2_with (go_at_call 122; refine (floatEnd_any _ _ _ ha hb _).mono ?_; rintro e w' ⟨rfl, rfl⟩)
  exact bodyPost_ret (v := .agg #[.int .i64 0, .float .f64 (endF 5 a b), .float .f64 0]) (by simp [results, Try.results97, go_sem]) rfl ⟨rfl, by repeat (first | with_reducible exact Ext.refl _ | with_reducible refine Ext.setCell ?_ (by simp; try omega) _ | with_reducible apply Ext.drewN | with_reducible apply Ext.drew | with_reducible apply Ext.alloc | refine Ext.trans ?_ (by assumption))⟩

theorem mmF32_5 (u v a b : Nat) (ha : B64 a) (hb : B64 b) (hu : u < 4294967296) (hv : v < 4294967296) (h1 : (nanS u = true ∧ nanD a = true) ∨ (nanS u = false ∧ wide u = a)) (h2 : (nanS v = true ∧ nanD b = true) ∨ (nanS v = false ∧ wide v = b)) (w : World) :
    Calls Try.prog 96 #[.int .i64 5, .float .f32 u, .float .f32 v] w fun e w' => e = .returned (.agg #[.int .i64 0, .float .f64 (endF 5 a b), .float .f64 0]) ∧ Ext w w' := by
  have up : ∀ (u : Nat) (w1 : World), u < 4294967296 → (nanS u = true ∧ ∃ r, nanD r = true ∧ B64 r ∧ (convert 58 25 (.float .f32 u)).run Try.prog w1 = .ok (.float .f64 r) (w1.drewN 1)) ∨ (nanS u = false ∧ (convert 58 25 (.float .f32 u)).run Try.prog w1 = .ok (.float .f64 (wide u)) w1) := fun u w1 hu => by
    cases hs : nanS u
    · exact Or.inr ⟨rfl, run_convert_float_float w1 58 25 .f32 .f64 u (wide u) und58 Try.underlying25 (wide_ok u hu hs)⟩
    · exact Or.inl ⟨rfl, _, (nan_cut64 u _).1, (nan_cut64 u _).2, run_nan_conv w1 58 25 .f32 .f64 u und58 Try.underlying25 (by decide) (dec_nanS u hs)⟩
  have key : ∀ (r1 r2 : Nat), ((nanD a = true ∧ nanD r1 = true) ∨ r1 = a) → ((nanD b = true ∧ nanD r2 = true) ∨ r2 = b) → endF 5 r1 r2 = endF 5 a b := fun r1 r2 g1 g2 => by
    rcases g1 with ⟨p1, q1⟩ | rfl
    · unfold endF; rw [p1, q1]; rfl
    · rcases g2 with ⟨p2, q2⟩ | rfl
      · unfold endF; rw [p2, q2]; simp
      · rfl
  have Key := hide key
  clear key
  have W0 := (w.alloc (.cells #[.int .i64 0, .float .f64 0, .float .f64 0] 29))
  clear W0
  have fin : ∀ z : Nat, z = endF 5 a b → Ending.returned (.agg #[.int .i64 0, .float .f64 z, .float .f64 0]) = .returned (.agg #[.int .i64 0, .float .f64 (endF 5 a b), .float .f64 0]) := fun z hz => by rw [hz]
  have Hf := hide fin
  clear fin
  rcases up u (w.alloc (.cells #[.int .i64 0, .float .f64 0, .float .f64 0] 29)) hu with ⟨g1, r1, n1, b1, c1⟩ | ⟨g1, c1⟩
  · have e1 : nanD a = true := by rcases h1 with h1 | h1 <;> simp_all
    rcases up v ((w.alloc (.cells #[.int .i64 0, .float .f64 0, .float .f64 0] 29)).drewN 1) hv with ⟨g2, r2, n2, b2, c2⟩ | ⟨g2, c2⟩
    · have e2 : nanD b = true := by rcases h2 with h2 | h2 <;> simp_all
      clear up h1 h2
      go_enter Try.func96, Try.ntmps96
      go_wp2_with (go_at_call 122; refine (floatEnd_any _ _ _ b1 b2 _).mono ?_; rintro e w' ⟨rfl, rfl⟩)
      exact bodyPost_ret (v := .agg #[.int .i64 0, .float .f64 (endF 5 r1 r2), .float .f64 0]) (by simp [results, Try.results96, go_sem]) rfl ⟨Hf.out _ (Key.out _ _ (Or.inl ⟨e1, n1⟩) (Or.inl ⟨e2, n2⟩)), by repeat (first | with_reducible exact Ext.refl _ | with_reducible refine Ext.setCell ?_ (by simp; try omega) _ | with_reducible apply Ext.drewN | with_reducible apply Ext.drew | with_reducible apply Ext.alloc | refine Ext.trans ?_ (by assumption))⟩
    · have e2 : wide v = b := by rcases h2 with h2 | h2 <;> simp_all
      have b2 : B64 (wide v) := by rw [e2]; exact hb
      have E2 := hide e2
      clear up h1 h2 e2
      go_enter Try.func96, Try.ntmps96
      go_wp2_with (go_at_call 122; refine (floatEnd_any _ _ _ b1 b2 _).mono ?_; rintro e w' ⟨rfl, rfl⟩)
      exact bodyPost_ret (v := .agg #[.int .i64 0, .float .f64 (endF 5 r1 (wide v)), .float .f64 0]) (by simp [results, Try.results96, go_sem]) rfl ⟨Hf.out _ (Key.out _ _ (Or.inl ⟨e1, n1⟩) (Or.inr E2.out)), by repeat (first | with_reducible exact Ext.refl _ | with_reducible refine Ext.setCell ?_ (by simp; try omega) _ | with_reducible apply Ext.drewN | with_reducible apply Ext.drew | with_reducible apply Ext.alloc | refine Ext.trans ?_ (by assumption))⟩
  · have e1 : wide u = a := by rcases h1 with h1 | h1 <;> simp_all
    have b1 : B64 (wide u) := by rw [e1]; exact ha
    have E1 := hide e1
    clear e1
    rcases up v (w.alloc (.cells #[.int .i64 0, .float .f64 0, .float .f64 0] 29)) hv with ⟨g2, r2, n2, b2, c2⟩ | ⟨g2, c2⟩
    · have e2 : nanD b = true := by rcases h2 with h2 | h2 <;> simp_all
      clear up h1 h2
      go_enter Try.func96, Try.ntmps96
      go_wp2_with (go_at_call 122; refine (floatEnd_any _ _ _ b1 b2 _).mono ?_; rintro e w' ⟨rfl, rfl⟩)
      exact bodyPost_ret (v := .agg #[.int .i64 0, .float .f64 (endF 5 (wide u) r2), .float .f64 0]) (by simp [results, Try.results96, go_sem]) rfl ⟨Hf.out _ (Key.out _ _ (Or.inr E1.out) (Or.inl ⟨e2, n2⟩)), by repeat (first | with_reducible exact Ext.refl _ | with_reducible refine Ext.setCell ?_ (by simp; try omega) _ | with_reducible apply Ext.drewN | with_reducible apply Ext.drew | with_reducible apply Ext.alloc | refine Ext.trans ?_ (by assumption))⟩
    · have e2 : wide v = b := by rcases h2 with h2 | h2 <;> simp_all
      have b2 : B64 (wide v) := by rw [e2]; exact hb
      have E2 := hide e2
      clear up h1 h2 e2
      go_enter Try.func96, Try.ntmps96
      go_wp2_with (go_at_call 122; refine (floatEnd_any _ _ _ b1 b2 _).mono ?_; rintro e w' ⟨rfl, rfl⟩)
      exact bodyPost_ret (v := .agg #[.int .i64 0, .float .f64 (endF 5 (wide u) (wide v)), .float .f64 0]) (by simp [results, Try.results96, go_sem]) rfl ⟨Hf.out _ (Key.out _ _ (Or.inr E1.out) (Or.inr E2.out)), by repeat (first | with_reducible exact Ext.refl _ | with_reducible refine Ext.setCell ?_ (by simp; try omega) _ | with_reducible apply Ext.drewN | with_reducible apply Ext.drew | with_reducible apply Ext.alloc | refine Ext.trans ?_ (by assumption))⟩

theorem mmF64_6 (a b : Nat) (ha : B64 a) (hb : B64 b) (w : World) :
    Calls Try.prog 97 #[.int .i64 6, .float .f64 a, .float .f64 b] w fun e w' => e = .returned (.agg #[.int .i64 0, .float .f64 (endF 6 a b), .float .f64 0]) ∧ Ext w w' := by
  go_enter Try.func97, Try.ntmps97
  go_wp2_with (go_at_call 122; refine (floatEnd_any _ _ _ ha hb _).mono ?_; rintro e w' ⟨rfl, rfl⟩)
  exact bodyPost_ret (v := .agg #[.int .i64 0, .float .f64 (endF 6 a b), .float .f64 0]) (by simp [results, Try.results97, go_sem]) rfl ⟨rfl, by repeat (first | with_reducible exact Ext.refl _ | with_reducible refine Ext.setCell ?_ (by simp; try omega) _ | with_reducible apply Ext.drewN | with_reducible apply Ext.drew | with_reducible apply Ext.alloc | refine Ext.trans ?_ (by assumption))⟩

theorem mmF32_6 (u v a b : Nat) (ha : B64 a) (hb : B64 b) (hu : u < 4294967296) (hv : v < 4294967296) (h1 : (nanS u = true ∧ nanD a = true) ∨ (nanS u = false ∧ wide u = a)) (h2 : (nanS v = true ∧ nanD b = true) ∨ (nanS v = false ∧ wide v = b)) (w : World) :
    Calls Try.prog 96 #[.int .i64 6, .float .f32 u, .float .f32 v] w fun e w' => e = .returned (.agg #[.int .i64 0, .float .f64 (endF 6 a b), .float .f64 0]) ∧ Ext w w' := by
  have up : ∀ (u : Nat) (w1 : World), u < 4294967296 → (nanS u = true ∧ ∃ r, nanD r = true ∧ B64 r ∧ (convert 58 25 (.float .f32 u)).run Try.prog w1 = .ok (.float .f64 r) (w1.drewN 1)) ∨ (nanS u = false ∧ (convert 58 25 (.float .f32 u)).run Try.prog w1 = .ok (.float .f64 (wide u)) w1) := fun u w1 hu => by
    cases hs : nanS u
    · exact Or.inr ⟨rfl, run_convert_float_float w1 58 25 .f32 .f64 u (wide u) und58 Try.underlying25 (wide_ok u hu hs)⟩
    · exact Or.inl ⟨rfl, _, (nan_cut64 u _).1, (nan_cut64 u _).2, run_nan_conv w1 58 25 .f32 .f64 u und58 Try.underlying25 (by decide) (dec_nanS u hs)⟩
  have key : ∀ (r1 r2 : Nat), ((nanD a = true ∧ nanD r1 = true) ∨ r1 = a) → ((nanD b = true ∧ nanD r2 = true) ∨ r2 = b) → endF 6 r1 r2 = endF 6 a b := fun r1 r2 g1 g2 => by
    rcases g1 with ⟨p1, q1⟩ | rfl
    · unfold endF; rw [p1, q1]; rfl
    · rcases g2 with ⟨p2, q2⟩ | rfl
      · unfold endF; rw [p2, q2]; simp
      · rfl
  have Key := hide key
  clear key
  have W0 := (w.alloc (.cells #[.int .i64 0, .float .f64 0, .float .f64 0] 29))
  clear W0
  have fin : ∀ z : Nat, z = endF 6 a b → Ending.returned (.agg #[.int .i64 0, .float .f64 z, .float .f64 0]) = .returned (.agg #[.int .i64 0, .float .f64 (endF 6 a b), .float .f64 0]) := fun z hz => by rw [hz]
  have Hf := hide fin
  clear fin
  rcases up u (w.alloc (.cells #[.int .i64 0, .float .f64 0, .float .f64 0] 29)) hu with ⟨g1, r1, n1, b1, c1⟩ | ⟨g1, c1⟩
  · have e1 : nanD a = true := by rcases h1 with h1 | h1 <;> simp_all
    rcases up v ((w.alloc (.cells #[.int .i64 0, .float .f64 0, .float .f64 0] 29)).drewN 1) hv with ⟨g2, r2, n2, b2, c2⟩ | ⟨g2, c2⟩
    · have e2 : nanD b = true := by rcases h2 with h2 | h2 <;> simp_all
      clear up h1 h2
      go_enter Try.func96, Try.ntmps96
      go_wp2_with (go_at_call 122; refine (floatEnd_any _ _ _ b1 b2 _).mono ?_; rintro e w' ⟨rfl, rfl⟩)
      exact bodyPost_ret (v := .agg #[.int .i64 0, .float .f64 (endF 6 r1 r2), .float .f64 0]) (by simp [results, Try.results96, go_sem]) rfl ⟨Hf.out _ (Key.out _ _ (Or.inl ⟨e1, n1⟩) (Or.inl ⟨e2, n2⟩)), by repeat (first | with_reducible exact Ext.refl _ | with_reducible refine Ext.setCell ?_ (by simp; try omega) _ | with_reducible apply Ext.drewN | with_reducible apply Ext.drew | with_reducible apply Ext.alloc | refine Ext.trans ?_ (by assumption))⟩
    · have e2 : wide v = b := by rcases h2 with h2 | h2 <;> simp_all
      have b2 : B64 (wide v) := by rw [e2]; exact hb
      have E2 := hide e2
      clear up h1 h2 e2
      go_enter Try.func96, Try.ntmps96
      go_wp2_with (go_at_call 122; refine (floatEnd_any _ _ _ b1 b2 _).mono ?_; rintro e w' ⟨rfl, rfl⟩)
      exact bodyPost_ret (v := .agg #[.int .i64 0, .float .f64 (endF 6 r1 (wide v)), .float .f64 0]) (by simp [results, Try.results96, go_sem]) rfl ⟨Hf.out _ (Key.out _ _ (Or.inl ⟨e1, n1⟩) (Or.inr E2.out)), by repeat (first | with_reducible exact Ext.refl _ | with_reducible refine Ext.setCell ?_ (by simp; try omega) _ | with_reducible apply Ext.drewN | with_reducible apply Ext.drew | with_reducible apply Ext.alloc | refine Ext.trans ?_ (by assumption))⟩
  · have e1 : wide u = a := by rcases h1 with h1 | h1 <;> simp_all
    have b1 : B64 (wide u) := by rw [e1]; exact ha
    have E1 := hide e1
    clear e1
    rcases up v (w.alloc (.cells #[.int .i64 0, .float .f64 0, .float .f64 0] 29)) hv with ⟨g2, r2, n2, b2, c2⟩ | ⟨g2, c2⟩
    · have e2 : nanD b = true := by rcases h2 with h2 | h2 <;> simp_all
      clear up h1 h2
      go_enter Try.func96, Try.ntmps96
      go_wp2_with (go_at_call 122; refine (floatEnd_any _ _ _ b1 b2 _).mono ?_; rintro e w' ⟨rfl, rfl⟩)
      exact bodyPost_ret (v := .agg #[.int .i64 0, .float .f64 (endF 6 (wide u) r2), .float .f64 0]) (by simp [results, Try.results96, go_sem]) rfl ⟨Hf.out _ (Key.out _ _ (Or.inr E1.out) (Or.inl ⟨e2, n2⟩)), by repeat (first | with_reducible exact Ext.refl _ | with_reducible refine Ext.setCell ?_ (by simp; try omega) _ | with_reducible apply Ext.drewN | with_reducible apply Ext.drew | with_reducible apply Ext.alloc | refine Ext.trans ?_ (by assumption))⟩
    · have e2 : wide v = b := by rcases h2 with h2 | h2 <;> simp_all
      have b2 : B64 (wide v) := by rw [e2]; exact hb
      have E2 := hide e2
      clear up h1 h2 e2
      go_enter Try.func96, Try.ntmps96
      go_wp2_with (go_at_call 122; refine (floatEnd_any _ _ _ b1 b2 _).mono ?_; rintro e w' ⟨rfl, rfl⟩)
      exact bodyPost_ret (v := .agg #[.int .i64 0, .float .f64 (endF 6 (wide u) (wide v)), .float .f64 0]) (by simp [results, Try.results96, go_sem]) rfl ⟨Hf.out _ (Key.out _ _ (Or.inr E1.out) (Or.inr E2.out)), by repeat (first | with_reducible exact Ext.refl _ | with_reducible refine Ext.setCell ?_ (by simp; try omega) _ | with_reducible apply Ext.drewN | with_reducible apply Ext.drew | with_reducible apply Ext.alloc | refine Ext.trans ?_ (by assumption))⟩

end Go.Proofs.Ythaajmkfeniofaa
