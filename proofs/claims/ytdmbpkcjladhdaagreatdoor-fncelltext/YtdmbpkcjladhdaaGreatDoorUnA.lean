import Derived.Test.YtdmbpkcjladhdaaGreatDoorUnI
import Derived.RegionTactic
namespace Go.Proofs.YtdmbpkcjladhdaaGreatDoor
open Go.RowKit FL
set_option linter.unusedSimpArgs false
set_option linter.unusedVariables false

@[go_sem] theorem unary_neg_float (k : FloatKind) (b : Nat) : Op.unary .neg (.float k b) = pure (.float k (Op.negFloat k b)) := rfl
@[go_sem] theorem unary_neg_complex (k : FloatKind) (a b : Nat) : Op.unary .neg (.complex k a b) = pure (.complex k (Op.negFloat k a) (Op.negFloat k b)) := rfl

theorem l1Bits_any (dt : Int) (w : World) :
    Calls Tryz.prog 57 #[.int .i64 dt] w fun e w' => e = .returned (.int .i64 (8 * bytesL dt)) ∧ w' = w := by
  have hb : 1 ≤ bytesL dt ∧ bytesL dt ≤ 16 := by unfold bytesL; omega
  go_enter Tryz.func57, Tryz.ntmps57
  go_wp2_with (go_at_call 71; refine (l1Bytes_any _ _).mono ?_; rintro e w' ⟨rfl, rfl⟩)
  go_ret
  exact ⟨rfl, rfl⟩

theorem run_arith_none (P : Program) (w : World) (op : BinOp) (t : TypeId) (k : FloatKind) (x y : Nat) (hop : op = .add ∨ op = .sub ∨ op = .mul ∨ op = .quo) (h : floatBits op k x y = none) :
    (binOp op t (.float k x) (.float k y)).run P w = .ok (.float k ((Question.nanBits k x y).cut (w.tape w.drawn (Question.nanBits k x y)))) w.drew := by
  unfold floatBits at h
  rcases hop with rfl | rfl | rfl | rfl <;> simp only at h <;> simp [binOp, Op.floatArith, h, run_choose_drew, Question.forced]

theorem nanBits_cut (x y t : Nat) : nanD ((Question.nanBits .f64 x y).cut t) = true ∧ (Question.nanBits .f64 x y).cut t < 18446744073709551616 := by
  rw [nanD_iff]
  simp only [Question.cut]
  rcases Nat.mod_two_eq_zero_or_one t with h | h <;> rw [h] <;> omega

theorem tmod_lit (v m : Int) (hm : 0 < m) : v.tmod m = if 0 ≤ v then v % m else -((-v) % m) := by
  split
  · rename_i h; exact Int.tmod_eq_emod_of_nonneg h
  · rename_i h
    have := Int.neg_tmod (a := -v) (b := m)
    rw [Int.neg_neg] at this
    rw [this, Int.tmod_eq_emod_of_nonneg (by omega)]

theorem l1Cut_2 (v : Int) (hv : I64 v) (w : World) :
    Calls Tryz.prog 40 #[.int .i64 2, .int .i64 v] w fun e w' => e = .returned (.int .i64 (cutL 2 v)) ∧ w' = w := by
  have hb : bytesL 2 = 1 := by decide
  have hh : highL 2 = 127 := by decide
  have Ht := hide (tmod_lit v 256 (by decide))
  go_enter Tryz.func40, Tryz.ntmps40
  go_wp2_with (first | (go_at_call 57; refine (l1Bits_any _ _).mono ?_; rintro e w' ⟨rfl, rfl⟩) | (go_at_call 16; refine (l1High_any _ _).mono ?_; rintro e w' ⟨rfl, rfl⟩))
  all_goals go_ret
  all_goals refine ⟨ret_int ?_, rfl⟩
  all_goals go_light
  all_goals (have ht := Ht.out; unfold I64 at hv; unfold cutL; simp only [wrap64, IntKind.wrap_i64] at *; simp; split at ht <;> omega)

theorem l1Cut_3 (v : Int) (hv : I64 v) (w : World) :
    Calls Tryz.prog 40 #[.int .i64 3, .int .i64 v] w fun e w' => e = .returned (.int .i64 (cutL 3 v)) ∧ w' = w := by
  have hb : bytesL 3 = 1 := by decide
  have hh : highL 3 = 255 := by decide
  have Ht := hide (tmod_lit v 256 (by decide))
  go_enter Tryz.func40, Tryz.ntmps40
  go_wp2_with (first | (go_at_call 57; refine (l1Bits_any _ _).mono ?_; rintro e w' ⟨rfl, rfl⟩) | (go_at_call 16; refine (l1High_any _ _).mono ?_; rintro e w' ⟨rfl, rfl⟩))
  all_goals go_ret
  all_goals refine ⟨ret_int ?_, rfl⟩
  all_goals go_light
  all_goals (have ht := Ht.out; unfold I64 at hv; unfold cutL; simp only [wrap64, IntKind.wrap_i64] at *; simp; split at ht <;> omega)

theorem l1Cut_4 (v : Int) (hv : I64 v) (w : World) :
    Calls Tryz.prog 40 #[.int .i64 4, .int .i64 v] w fun e w' => e = .returned (.int .i64 (cutL 4 v)) ∧ w' = w := by
  have hb : bytesL 4 = 2 := by decide
  have hh : highL 4 = 32767 := by decide
  have Ht := hide (tmod_lit v 65536 (by decide))
  go_enter Tryz.func40, Tryz.ntmps40
  go_wp2_with (first | (go_at_call 57; refine (l1Bits_any _ _).mono ?_; rintro e w' ⟨rfl, rfl⟩) | (go_at_call 16; refine (l1High_any _ _).mono ?_; rintro e w' ⟨rfl, rfl⟩))
  all_goals go_ret
  all_goals refine ⟨ret_int ?_, rfl⟩
  all_goals go_light
  all_goals (have ht := Ht.out; unfold I64 at hv; unfold cutL; simp only [wrap64, IntKind.wrap_i64] at *; simp; split at ht <;> omega)

theorem l1Cut_5 (v : Int) (hv : I64 v) (w : World) :
    Calls Tryz.prog 40 #[.int .i64 5, .int .i64 v] w fun e w' => e = .returned (.int .i64 (cutL 5 v)) ∧ w' = w := by
  have hb : bytesL 5 = 4 := by decide
  have hh : highL 5 = 2147483647 := by decide
  have Ht := hide (tmod_lit v 4294967296 (by decide))
  go_enter Tryz.func40, Tryz.ntmps40
  go_wp2_with (first | (go_at_call 57; refine (l1Bits_any _ _).mono ?_; rintro e w' ⟨rfl, rfl⟩) | (go_at_call 16; refine (l1High_any _ _).mono ?_; rintro e w' ⟨rfl, rfl⟩))
  all_goals go_ret
  all_goals refine ⟨ret_int ?_, rfl⟩
  all_goals go_light
  all_goals (have ht := Ht.out; unfold I64 at hv; unfold cutL; simp only [wrap64, IntKind.wrap_i64] at *; simp; split at ht <;> omega)

theorem l1Cut_6 (v : Int) (w : World) :
    Calls Tryz.prog 40 #[.int .i64 6, .int .i64 v] w fun e w' => e = .returned (.int .i64 (cutL 6 v)) ∧ w' = w := by
  have hb : bytesL 6 = 8 := by decide
  go_enter Tryz.func40, Tryz.ntmps40
  go_wp2_with (first | (go_at_call 57; refine (l1Bits_any _ _).mono ?_; rintro e w' ⟨rfl, rfl⟩))
  go_ret
  exact ⟨ret_int (by unfold cutL; simp), rfl⟩

theorem l1Cut_any (dt v : Int) (h : 2 ≤ dt ∧ dt ≤ 6) (hv : I64 v) (w : World) :
    Calls Tryz.prog 40 #[.int .i64 dt, .int .i64 v] w fun e w' => e = .returned (.int .i64 (cutL dt v)) ∧ w' = w := by
  have : dt = 2 ∨ dt = 3 ∨ dt = 4 ∨ dt = 5 ∨ dt = 6 := by omega
  rcases this with rfl | rfl | rfl | rfl | rfl
  · exact l1Cut_2 v hv w
  · exact l1Cut_3 v hv w
  · exact l1Cut_4 v hv w
  · exact l1Cut_5 v hv w
  · exact l1Cut_6 v w

theorem complexCell_any (f g : Nat) (w : World) :
    Calls Tryz.prog 38 #[.complex .f64 f g] w fun e w' => e = .returned (.agg #[.int .i64 0, .float .f64 f, .float .f64 g]) ∧ Ext w w' := by
  go_enter Tryz.func38, Tryz.ntmps38
  go_wp2
  exact bodyPost_ret (v := .agg #[.int .i64 0, .float .f64 f, .float .f64 g]) (by simp [results, Tryz.results38, go_sem]) rfl ⟨rfl, by repeat (first | exact Ext.refl _ | apply Ext.drewN | apply Ext.drew | apply Ext.alloc | refine Ext.trans ?_ (by assumption))⟩

theorem frozen_new (w : World) (b o : Nat) (h : w.heap.size ≤ b) : w.frozen? ⟨b, o, none⟩ = false := by
  have e : w.heap[b]? = none := by simp; omega
  simp [World.frozen?, e]
theorem Ext.unfrozen {w w1 : World} (h : Ext w w1) {b : Nat} (hb : w.heap.size ≤ b) (o : Nat) : w1.frozen? ⟨b, o, none⟩ = false := by
  rw [h.fz, frozen_new w b o hb]

end Go.Proofs.YtdmbpkcjladhdaaGreatDoor
