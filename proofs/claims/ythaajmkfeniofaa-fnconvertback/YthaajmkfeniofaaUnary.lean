import Derived.Test.YthaajmkfeniofaaBefore
import Derived.Laws.DeepNot64
namespace Go.Proofs.Ythaajmkfeniofaa
open Go.RowKit FL
set_option linter.unusedSimpArgs false
set_option linter.unusedVariables false

@[go_sem] theorem unary_neg_float (k : FloatKind) (b : Nat) : Op.unary .neg (.float k b) = pure (.float k (Op.negFloat k b)) := rfl
@[go_sem] theorem unary_neg_complex (k : FloatKind) (a b : Nat) : Op.unary .neg (.complex k a b) = pure (.complex k (Op.negFloat k a) (Op.negFloat k b)) := rfl

theorem l1Bits_any (dt : Int) (w : World) :
    Calls Try.prog 77 #[.int .i64 dt] w fun e w' => e = .returned (.int .i64 (8 * bytesL dt)) ∧ w' = w := by
  have hb : 1 ≤ bytesL dt ∧ bytesL dt ≤ 16 := by unfold bytesL; omega
  go_enter Try.func77, Try.ntmps77
  go_wp2_with (go_at_call 102; refine (l1Bytes_any _ _).mono ?_; rintro e w' ⟨rfl, rfl⟩)
  go_ret
  exact ⟨rfl, rfl⟩

theorem neg_flip (x : Nat) (h : B64 x) : Op.negFloat .f64 x = FL.flip x := by
  unfold B64 at h
  have e : Op.negFloat .f64 x = x ^^^ 2 ^ 63 := rfl
  rw [e]
  have h1 : (x ^^^ 2 ^ 63) / 2 ^ 63 = (x / 2 ^ 63) ^^^ (2 ^ 63 / 2 ^ 63) := Nat.xor_div_two_pow
  have h2 : (x ^^^ 2 ^ 63) % 2 ^ 63 = (x % 2 ^ 63) ^^^ (2 ^ 63 % 2 ^ 63) := Nat.xor_mod_two_pow
  have h3 := Nat.div_add_mod (x ^^^ 2 ^ 63) (2 ^ 63)
  rw [h1, h2] at h3
  rw [← h3]
  unfold FL.flip
  by_cases hx : x < 9223372036854775808
  · have e1 : x / 2 ^ 63 = 0 := by omega
    rw [if_pos hx, e1]
    have e2 : x % 2 ^ 63 = x := by omega
    rw [e2]
    simp; omega
  · have e1 : x / 2 ^ 63 = 1 := by omega
    rw [if_neg hx, e1]
    have e2 : x % 2 ^ 63 = x - 9223372036854775808 := by omega
    rw [e2]
    simp

theorem run_arith_none (P : Program) (w : World) (op : BinOp) (t : TypeId) (k : FloatKind) (x y : Nat) (hop : op = .add ∨ op = .sub ∨ op = .mul ∨ op = .quo) (h : floatBits op k x y = none) :
    (binOp op t (.float k x) (.float k y)).run P w = .ok (.float k ((Question.nanBits k x y).cut (w.tape w.drawn (Question.nanBits k x y)))) w.drew := by
  unfold floatBits at h
  rcases hop with rfl | rfl | rfl | rfl <;> simp only at h <;> simp [binOp, Op.floatArith, h, run_choose_drew, Question.forced]

theorem nanBits_cut (x y t : Nat) : nanD ((Question.nanBits .f64 x y).cut t) = true ∧ (Question.nanBits .f64 x y).cut t < 18446744073709551616 := by
  rw [nanD_iff]
  simp only [Question.cut]
  rcases Nat.mod_two_eq_zero_or_one t with h | h <;> rw [h] <;> omega

theorem flip_lt (x : Nat) (h : B64 x) : B64 (FL.flip x) := by
  unfold B64 FL.flip at *
  split <;> omega
theorem flip_nan (x : Nat) (h : B64 x) : nanD (FL.flip x) = nanD x := by
  unfold B64 at h
  have h1 := nanD_iff x
  have h2 := nanD_iff (FL.flip x)
  rw [Bool.eq_iff_iff, h1, h2]
  unfold FL.flip
  split <;> omega

theorem l1Negate_any (x : Nat) (h : B64 x) (w : World) :
    Calls Try.prog 54 #[.float .f64 x] w fun e w' => ∃ r n, e = .returned (.float .f64 r) ∧ sameB r (FL.flip x) = true ∧ B64 r ∧ w' = w.drewN n := by
  cases hn : nanD x
  · have c1 := run_float_arith (P := Try.prog) w .mul 25 .f64 13830554455654793216 x (FL.flip x) (neg_mul x h hn)
    go_enter Try.func54, Try.ntmps54
    go_wp2
    go_ret
    exact ⟨_, 0, rfl, same_self _, flip_lt x h, rfl⟩
  · have c1 := run_arith_none Try.prog w .mul 25 .f64 13830554455654793216 x (by simp) (by
      show Ieee.double.mul _ _ = none
      unfold Ieee.Format.mul
      rw [read_nan Ieee.double x (by rw [dW, dI]; exact (nanD_iff x).1 hn) dBI]
      cases Ieee.double.read 13830554455654793216 <;> rfl)
    have hq := nanBits_cut 13830554455654793216 x (w.tape w.drawn (Question.nanBits .f64 13830554455654793216 x))
    generalize (Question.nanBits .f64 13830554455654793216 x).cut (w.tape w.drawn (Question.nanBits .f64 13830554455654793216 x)) = r at *
    go_enter Try.func54, Try.ntmps54
    go_wp2
    go_ret
    exact ⟨r, 1, rfl, by unfold sameB; rw [hq.1, flip_nan x h, hn]; rfl, hq.2, rfl⟩

def absF (x : Nat) : Nat := x % 9223372036854775808
theorem and_hi (x : Nat) (h : B64 x) : (bits BinOp.andNot IntKind.u64 (x : Int) 9223372036854775808).toNat = absF x := by
  unfold B64 at h
  unfold absF
  have e : (BitVec.ofInt 64 (x : Int) &&& ~~~ BitVec.ofInt 64 9223372036854775808).toNat = x % 9223372036854775808 := by
    rw [show (~~~ BitVec.ofInt 64 9223372036854775808) = BitVec.ofNat 64 (2 ^ 63 - 1) by decide]
    rw [BitVec.toNat_and, BitVec.toNat_ofNat]
    have h1 : (BitVec.ofInt 64 (x : Int)).toNat = x := by
      rw [BitVec.toNat_ofInt]; omega
    rw [h1, show (2 ^ 63 - 1) % 2 ^ 64 = 2 ^ 63 - 1 by decide, Nat.and_two_pow_sub_one_eq_mod]
  show (IntKind.u64.wrap ((BitVec.ofInt 64 (x : Int) &&& ~~~ BitVec.ofInt 64 9223372036854775808).toNat : Int)).toNat = _
  rw [e, IntKind.wrap_u64]
  omega

theorem abs_any (x : Nat) (h : B64 x) (w : World) :
    Calls Try.prog 105 #[.float .f64 x] w fun e w' => e = .returned (.float .f64 (absF x)) ∧ w' = w := by
  have hb := run_float64bits x
  have hc := run_float64frombits
  have ha := and_hi x h
  go_enter Try.func105, Try.ntmps105
  go_wp2
  go_ret
  exact ⟨rfl, rfl⟩

theorem xor_ones (n : Nat) (k : IntKind) (hk : k.bits = n) (c a : Int) (hc : BitVec.ofInt n c = BitVec.allOnes n) : bits .xor k c a = k.wrap ((2 ^ n - 1 - (a % (2 ^ n : Nat)).toNat : Nat) : Int) := by
  subst hk
  unfold bits
  simp only [hc, BitVec.allOnes_xor, BitVec.toNat_not, BitVec.toNat_ofInt]

theorem not_i8 (a : Int) : bits .xor .i8 (-1) a = (-1 - a + 128) % 256 - 128 := by
  rw [xor_ones 8 .i8 rfl (-1) a (by decide), wrap_i8']
  omega
theorem not_i16 (a : Int) : bits .xor .i16 (-1) a = (-1 - a + 32768) % 65536 - 32768 := by
  rw [xor_ones 16 .i16 rfl (-1) a (by decide), wrap_i16']
  omega
theorem not_i32 (a : Int) : bits .xor .i32 (-1) a = (-1 - a + 2147483648) % 4294967296 - 2147483648 := by
  rw [xor_ones 32 .i32 rfl (-1) a (by decide), IntKind.wrap_i32]
  omega
theorem not_i64 (a : Int) : bits .xor .i64 (-1) a = (-1 - a + 9223372036854775808) % 18446744073709551616 - 9223372036854775808 := by
  rw [xor_ones 64 .i64 rfl (-1) a (by decide), IntKind.wrap_i64]
  omega
theorem not_u8 (a : Int) : bits .xor .u8 255 a = (-1 - a) % 256 := by
  rw [xor_ones 8 .u8 rfl 255 a (by decide), IntKind.wrap_u8]
  omega

theorem u8_max : IntKind.u8.max = 255 := by decide

theorem tmod_lit (v m : Int) (hm : 0 < m) : v.tmod m = if 0 ≤ v then v % m else -((-v) % m) := by
  split
  · rename_i h; exact Int.tmod_eq_emod_of_nonneg h
  · rename_i h
    have := Int.neg_tmod (a := -v) (b := m)
    rw [Int.neg_neg] at this
    rw [this, Int.tmod_eq_emod_of_nonneg (by omega)]

theorem l1Cut_2 (v : Int) (hv : I64 v) (w : World) :
    Calls Try.prog 47 #[.int .i64 2, .int .i64 v] w fun e w' => e = .returned (.int .i64 (cutL 2 v)) ∧ w' = w := by
  have hb : bytesL 2 = 1 := by decide
  have hh : highL 2 = 127 := by decide
  have Ht := hide (tmod_lit v 256 (by decide))
  go_enter Try.func47, Try.ntmps47
  go_wp2_with (first | (go_at_call 77; refine (l1Bits_any _ _).mono ?_; rintro e w' ⟨rfl, rfl⟩) | (go_at_call 37; refine (l1High_any _ _).mono ?_; rintro e w' ⟨rfl, rfl⟩))
  all_goals go_ret
  all_goals refine ⟨ret_int ?_, rfl⟩
  all_goals go_light
  all_goals (have ht := Ht.out; unfold I64 at hv; unfold cutL; simp only [wrap64, IntKind.wrap_i64] at *; simp; split at ht <;> omega)

theorem l1Cut_3 (v : Int) (hv : I64 v) (w : World) :
    Calls Try.prog 47 #[.int .i64 3, .int .i64 v] w fun e w' => e = .returned (.int .i64 (cutL 3 v)) ∧ w' = w := by
  have hb : bytesL 3 = 1 := by decide
  have hh : highL 3 = 255 := by decide
  have Ht := hide (tmod_lit v 256 (by decide))
  go_enter Try.func47, Try.ntmps47
  go_wp2_with (first | (go_at_call 77; refine (l1Bits_any _ _).mono ?_; rintro e w' ⟨rfl, rfl⟩) | (go_at_call 37; refine (l1High_any _ _).mono ?_; rintro e w' ⟨rfl, rfl⟩))
  all_goals go_ret
  all_goals refine ⟨ret_int ?_, rfl⟩
  all_goals go_light
  all_goals (have ht := Ht.out; unfold I64 at hv; unfold cutL; simp only [wrap64, IntKind.wrap_i64] at *; simp; split at ht <;> omega)

theorem l1Cut_4 (v : Int) (hv : I64 v) (w : World) :
    Calls Try.prog 47 #[.int .i64 4, .int .i64 v] w fun e w' => e = .returned (.int .i64 (cutL 4 v)) ∧ w' = w := by
  have hb : bytesL 4 = 2 := by decide
  have hh : highL 4 = 32767 := by decide
  have Ht := hide (tmod_lit v 65536 (by decide))
  go_enter Try.func47, Try.ntmps47
  go_wp2_with (first | (go_at_call 77; refine (l1Bits_any _ _).mono ?_; rintro e w' ⟨rfl, rfl⟩) | (go_at_call 37; refine (l1High_any _ _).mono ?_; rintro e w' ⟨rfl, rfl⟩))
  all_goals go_ret
  all_goals refine ⟨ret_int ?_, rfl⟩
  all_goals go_light
  all_goals (have ht := Ht.out; unfold I64 at hv; unfold cutL; simp only [wrap64, IntKind.wrap_i64] at *; simp; split at ht <;> omega)

theorem l1Cut_5 (v : Int) (hv : I64 v) (w : World) :
    Calls Try.prog 47 #[.int .i64 5, .int .i64 v] w fun e w' => e = .returned (.int .i64 (cutL 5 v)) ∧ w' = w := by
  have hb : bytesL 5 = 4 := by decide
  have hh : highL 5 = 2147483647 := by decide
  have Ht := hide (tmod_lit v 4294967296 (by decide))
  go_enter Try.func47, Try.ntmps47
  go_wp2_with (first | (go_at_call 77; refine (l1Bits_any _ _).mono ?_; rintro e w' ⟨rfl, rfl⟩) | (go_at_call 37; refine (l1High_any _ _).mono ?_; rintro e w' ⟨rfl, rfl⟩))
  all_goals go_ret
  all_goals refine ⟨ret_int ?_, rfl⟩
  all_goals go_light
  all_goals (have ht := Ht.out; unfold I64 at hv; unfold cutL; simp only [wrap64, IntKind.wrap_i64] at *; simp; split at ht <;> omega)

theorem l1Cut_6 (v : Int) (w : World) :
    Calls Try.prog 47 #[.int .i64 6, .int .i64 v] w fun e w' => e = .returned (.int .i64 (cutL 6 v)) ∧ w' = w := by
  have hb : bytesL 6 = 8 := by decide
  go_enter Try.func47, Try.ntmps47
  go_wp2_with (first | (go_at_call 77; refine (l1Bits_any _ _).mono ?_; rintro e w' ⟨rfl, rfl⟩))
  go_ret
  exact ⟨ret_int (by unfold cutL; simp), rfl⟩

theorem l1Cut_any (dt v : Int) (h : 2 ≤ dt ∧ dt ≤ 6) (hv : I64 v) (w : World) :
    Calls Try.prog 47 #[.int .i64 dt, .int .i64 v] w fun e w' => e = .returned (.int .i64 (cutL dt v)) ∧ w' = w := by
  have : dt = 2 ∨ dt = 3 ∨ dt = 4 ∨ dt = 5 ∨ dt = 6 := by omega
  rcases this with rfl | rfl | rfl | rfl | rfl
  · exact l1Cut_2 v hv w
  · exact l1Cut_3 v hv w
  · exact l1Cut_4 v hv w
  · exact l1Cut_5 v hv w
  · exact l1Cut_6 v w

/-- What a unary operation makes of an integer. -/
def unI (op dt i : Int) : Int := if op = 2 then cutL dt (-1 - i) else if op = 3 ∧ 0 ≤ i then i else cutL dt ((-i + 9223372036854775808) % 18446744073709551616 - 9223372036854775808)

theorem ui8_any (op a : Int) (ho : 1 ≤ op ∧ op ≤ 3) (h : -128 ≤ a ∧ a ≤ 127) (w : World) :
    Calls Try.prog 81 #[.int .i64 op, .int .i8 a] w fun e w' => e = .returned (.agg #[.int .i64 (unI op 2 a), .float .f64 0, .float .f64 0]) ∧ Ext w w' := by
  have Hh := hide h
  clear h
  have fin : ∀ z : Int, z = unI op 2 a → Ending.returned (.agg #[.int .i64 z, .float .f64 0, .float .f64 0]) = .returned (.agg #[.int .i64 (unI op 2 a), .float .f64 0, .float .f64 0]) := fun z hz => by rw [hz]
  have Hf := hide fin
  clear fin
  rcases (by omega : op = 1 ∨ op = 2 ∨ op = 3) with rfl | rfl | rfl
  all_goals
    go_enter Try.func81, Try.ntmps81
    go_wp2
    all_goals refine bodyPost_ret (v := .agg #[.int .i64 _, .float .f64 0, .float .f64 0]) (by simp [results, Try.results81, go_sem]; rfl) rfl ⟨Hf.out _ ?_, by repeat (first | exact Ext.refl _ | apply Ext.drewN | apply Ext.drew | apply Ext.alloc | refine Ext.trans ?_ (by assumption))⟩
    all_goals go_light
    all_goals (have h := Hh.out; unfold unI cutL; simp only [wrap64, wrap32, IntKind.wrap_i64, IntKind.wrap_i32, IntKind.wrap_u8, wrap_i8', wrap_i16', u8_max, not_i8, not_i16, not_i32, not_i64, not_u8]; simp; try omega)

theorem uu8_any (op a : Int) (ho : 1 ≤ op ∧ op ≤ 3) (h : 0 ≤ a ∧ a ≤ 255) (w : World) :
    Calls Try.prog 82 #[.int .i64 op, .int .u8 a] w fun e w' => e = .returned (.agg #[.int .i64 (unI op 3 a), .float .f64 0, .float .f64 0]) ∧ Ext w w' := by
  have Hh := hide h
  clear h
  have fin : ∀ z : Int, z = unI op 3 a → Ending.returned (.agg #[.int .i64 z, .float .f64 0, .float .f64 0]) = .returned (.agg #[.int .i64 (unI op 3 a), .float .f64 0, .float .f64 0]) := fun z hz => by rw [hz]
  have Hf := hide fin
  clear fin
  rcases (by omega : op = 1 ∨ op = 2 ∨ op = 3) with rfl | rfl | rfl
  all_goals
    go_enter Try.func82, Try.ntmps82
    go_wp2
    all_goals refine bodyPost_ret (v := .agg #[.int .i64 _, .float .f64 0, .float .f64 0]) (by simp [results, Try.results82, go_sem]; rfl) rfl ⟨Hf.out _ ?_, by repeat (first | exact Ext.refl _ | apply Ext.drewN | apply Ext.drew | apply Ext.alloc | refine Ext.trans ?_ (by assumption))⟩
    all_goals go_light
    all_goals (have h := Hh.out; unfold unI cutL; simp only [wrap64, wrap32, IntKind.wrap_i64, IntKind.wrap_i32, IntKind.wrap_u8, wrap_i8', wrap_i16', u8_max, not_i8, not_i16, not_i32, not_i64, not_u8]; simp; try omega)

theorem ui16_any (op a : Int) (ho : 1 ≤ op ∧ op ≤ 3) (h : -32768 ≤ a ∧ a ≤ 32767) (w : World) :
    Calls Try.prog 83 #[.int .i64 op, .int .i16 a] w fun e w' => e = .returned (.agg #[.int .i64 (unI op 4 a), .float .f64 0, .float .f64 0]) ∧ Ext w w' := by
  have Hh := hide h
  clear h
  have fin : ∀ z : Int, z = unI op 4 a → Ending.returned (.agg #[.int .i64 z, .float .f64 0, .float .f64 0]) = .returned (.agg #[.int .i64 (unI op 4 a), .float .f64 0, .float .f64 0]) := fun z hz => by rw [hz]
  have Hf := hide fin
  clear fin
  rcases (by omega : op = 1 ∨ op = 2 ∨ op = 3) with rfl | rfl | rfl
  all_goals
    go_enter Try.func83, Try.ntmps83
    go_wp2
    all_goals refine bodyPost_ret (v := .agg #[.int .i64 _, .float .f64 0, .float .f64 0]) (by simp [results, Try.results83, go_sem]; rfl) rfl ⟨Hf.out _ ?_, by repeat (first | exact Ext.refl _ | apply Ext.drewN | apply Ext.drew | apply Ext.alloc | refine Ext.trans ?_ (by assumption))⟩
    all_goals go_light
    all_goals (have h := Hh.out; unfold unI cutL; simp only [wrap64, wrap32, IntKind.wrap_i64, IntKind.wrap_i32, IntKind.wrap_u8, wrap_i8', wrap_i16', u8_max, not_i8, not_i16, not_i32, not_i64, not_u8]; simp; try omega)

theorem ui32_any (op a : Int) (ho : 1 ≤ op ∧ op ≤ 3) (h : -2147483648 ≤ a ∧ a ≤ 2147483647) (w : World) :
    Calls Try.prog 84 #[.int .i64 op, .int .i32 a] w fun e w' => e = .returned (.agg #[.int .i64 (unI op 5 a), .float .f64 0, .float .f64 0]) ∧ Ext w w' := by
  have Hh := hide h
  clear h
  have fin : ∀ z : Int, z = unI op 5 a → Ending.returned (.agg #[.int .i64 z, .float .f64 0, .float .f64 0]) = .returned (.agg #[.int .i64 (unI op 5 a), .float .f64 0, .float .f64 0]) := fun z hz => by rw [hz]
  have Hf := hide fin
  clear fin
  rcases (by omega : op = 1 ∨ op = 2 ∨ op = 3) with rfl | rfl | rfl
  all_goals
    go_enter Try.func84, Try.ntmps84
    go_wp2
    all_goals refine bodyPost_ret (v := .agg #[.int .i64 _, .float .f64 0, .float .f64 0]) (by simp [results, Try.results84, go_sem]; rfl) rfl ⟨Hf.out _ ?_, by repeat (first | exact Ext.refl _ | apply Ext.drewN | apply Ext.drew | apply Ext.alloc | refine Ext.trans ?_ (by assumption))⟩
    all_goals go_light
    all_goals (have h := Hh.out; unfold unI cutL; simp only [wrap64, wrap32, IntKind.wrap_i64, IntKind.wrap_i32, IntKind.wrap_u8, wrap_i8', wrap_i16', u8_max, not_i8, not_i16, not_i32, not_i64, not_u8]; simp; try omega)

theorem ui64_any (op a : Int) (ho : 1 ≤ op ∧ op ≤ 3) (h : -9223372036854775808 ≤ a ∧ a ≤ 9223372036854775807) (w : World) :
    Calls Try.prog 85 #[.int .i64 op, .int .i64 a] w fun e w' => e = .returned (.agg #[.int .i64 (unI op 6 a), .float .f64 0, .float .f64 0]) ∧ Ext w w' := by
  have Hh := hide h
  clear h
  have fin : ∀ z : Int, z = unI op 6 a → Ending.returned (.agg #[.int .i64 z, .float .f64 0, .float .f64 0]) = .returned (.agg #[.int .i64 (unI op 6 a), .float .f64 0, .float .f64 0]) := fun z hz => by rw [hz]
  have Hf := hide fin
  clear fin
  rcases (by omega : op = 1 ∨ op = 2 ∨ op = 3) with rfl | rfl | rfl
  all_goals
    go_enter Try.func85, Try.ntmps85
    go_wp2
    all_goals refine bodyPost_ret (v := .agg #[.int .i64 _, .float .f64 0, .float .f64 0]) (by simp [results, Try.results85, go_sem]; rfl) rfl ⟨Hf.out _ ?_, by repeat (first | exact Ext.refl _ | apply Ext.drewN | apply Ext.drew | apply Ext.alloc | refine Ext.trans ?_ (by assumption))⟩
    all_goals go_light
    all_goals (have h := Hh.out; unfold unI cutL; simp only [wrap64, wrap32, IntKind.wrap_i64, IntKind.wrap_i32, IntKind.wrap_u8, wrap_i8', wrap_i16', u8_max, not_i8, not_i16, not_i32, not_i64, not_u8]; simp; try omega)

theorem complexCell_any (f g : Nat) (w : World) :
    Calls Try.prog 106 #[.complex .f64 f g] w fun e w' => e = .returned (.agg #[.int .i64 0, .float .f64 f, .float .f64 g]) ∧ Ext w w' := by
  go_enter Try.func106, Try.ntmps106
  go_wp2
  exact bodyPost_ret (v := .agg #[.int .i64 0, .float .f64 f, .float .f64 g]) (by simp [results, Try.results106, go_sem]) rfl ⟨rfl, by repeat (first | exact Ext.refl _ | apply Ext.drewN | apply Ext.drew | apply Ext.alloc | refine Ext.trans ?_ (by assumption))⟩

/-- What a unary operation makes of a float. -/
def unF (op : Int) (x : Nat) : Nat := if op = 3 then absF x else FL.flip x

theorem unaryFloat_any (op : Int) (x : Nat) (h : B64 x) (w : World) :
    Calls Try.prog 86 #[.int .i64 op, .float .f64 x] w fun e w' => e = .returned (.agg #[.int .i64 0, .float .f64 (unF op x), .float .f64 0]) ∧ Ext w w' := by
  have hf := neg_flip x h
  by_cases ho : op = 3
  · subst ho
    go_enter Try.func86, Try.ntmps86
    go_wp2_with (go_at_call 105; refine (abs_any _ h _).mono ?_; rintro e w' ⟨rfl, rfl⟩)
    exact bodyPost_ret (v := .agg #[.int .i64 0, .float .f64 (absF x), .float .f64 0]) (by simp [results, Try.results86, go_sem]) rfl ⟨rfl, by repeat (first | exact Ext.refl _ | apply Ext.drewN | apply Ext.drew | apply Ext.alloc | refine Ext.trans ?_ (by assumption))⟩
  · have e : unF op x = FL.flip x := by unfold unF; rw [if_neg ho]
    rw [e]
    clear e
    have ho' : (op == 3) = false := by simpa using ho
    clear ho
    go_enter Try.func86, Try.ntmps86
    go_wp2
    exact bodyPost_ret (v := .agg #[.int .i64 0, .float .f64 (FL.flip x), .float .f64 0]) (by simp [results, Try.results86, go_sem]) rfl ⟨rfl, by repeat (first | exact Ext.refl _ | apply Ext.drewN | apply Ext.drew | apply Ext.alloc | refine Ext.trans ?_ (by assumption))⟩

theorem frozen_new (w : World) (b o : Nat) (h : w.heap.size ≤ b) : w.frozen? ⟨b, o, none⟩ = false := by
  have e : w.heap[b]? = none := by simp; omega
  simp [World.frozen?, e]
theorem Ext.unfrozen {w w1 : World} (h : Ext w w1) {b : Nat} (hb : w.heap.size ≤ b) (o : Nat) : w1.frozen? ⟨b, o, none⟩ = false := by
  rw [h.fz, frozen_new w b o hb]

theorem unaryComplex_any (op : Int) (f g : Nat) (hf : B64 f) (hg : B64 g) (w : World) :
    Calls Try.prog 87 #[.int .i64 op, .complex .f64 f g] w fun e w' => e = .returned (.agg #[.int .i64 0, .float .f64 (if op = 4 then f else FL.flip f), .float .f64 (FL.flip g)]) ∧ Ext w w' := by
  have h1 := neg_flip f hf
  have h2 := neg_flip g hg
  by_cases ho : op = 4
  · subst ho
    rw [if_pos rfl]
    go_enter Try.func87, Try.ntmps87
    go_wp2_with (go_at_call 106; refine (complexCell_any _ _ _).mono ?_; rintro e w1 ⟨rfl, x1⟩; have k0 := x1.box (b := w.heap.size) (o := 0) (v := .int .i64 0) (by simp); have k1 := x1.box (b := w.heap.size) (o := 1) (v := .float .f64 0) (by simp); have k2 := x1.box (b := w.heap.size) (o := 2) (v := .float .f64 0) (by simp); have kf := fun o => (((Ext.refl w).alloc _ _).trans x1).unfrozen (b := w.heap.size) (Nat.le_refl _) o)
    exact bodyPost_ret (v := .agg #[.int .i64 0, .float .f64 f, .float .f64 (FL.flip g)]) (by simp [results, Try.results87, go_sem, k0, k1, k2]) rfl ⟨rfl, by repeat (first | exact Ext.refl _ | refine Ext.setCell ?_ (by simp) _ | apply Ext.drewN | apply Ext.drew | apply Ext.alloc | refine Ext.trans ?_ (by assumption))⟩
  · rw [if_neg ho]
    have ho' : (op == 4) = false := by simpa using ho
    clear ho
    go_enter Try.func87, Try.ntmps87
    go_wp2_with (go_at_call 106; refine (complexCell_any _ _ _).mono ?_; rintro e w1 ⟨rfl, x1⟩; have k0 := x1.box (b := w.heap.size) (o := 0) (v := .int .i64 0) (by simp); have k1 := x1.box (b := w.heap.size) (o := 1) (v := .float .f64 0) (by simp); have k2 := x1.box (b := w.heap.size) (o := 2) (v := .float .f64 0) (by simp); have kf := fun o => (((Ext.refl w).alloc _ _).trans x1).unfrozen (b := w.heap.size) (Nat.le_refl _) o)
    exact bodyPost_ret (v := .agg #[.int .i64 0, .float .f64 (FL.flip f), .float .f64 (FL.flip g)]) (by simp [results, Try.results87, go_sem, k0, k1, k2]) rfl ⟨rfl, by repeat (first | exact Ext.refl _ | refine Ext.setCell ?_ (by simp) _ | apply Ext.drewN | apply Ext.drew | apply Ext.alloc | refine Ext.trans ?_ (by assumption))⟩
end Go.Proofs.Ythaajmkfeniofaa
