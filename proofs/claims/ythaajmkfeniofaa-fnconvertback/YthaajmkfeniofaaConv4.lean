import Derived.Test.YthaajmkfeniofaaConv3
namespace Go.Proofs.Ythaajmkfeniofaa
open Go.RowKit FL Ieee
set_option linter.unusedSimpArgs false
set_option linter.unusedVariables false

theorem sgl_lt (n : Int) : floatOfInt .f32 n < 4294967296 := by
  have h := single.write_lt (.number (decide (n < 0)) n.natAbs 0)
  exact Nat.lt_of_lt_of_le h (by decide)
theorem sgl_num (n : Int) : nanS (floatOfInt .f32 n) = false := by
  have key : ∀ y : Nat, y % 2147483648 ≤ 2139095040 → nanS y = false := fun y h => by
    cases e : nanS y
    · rfl
    · have := (nanS_iff y).1 e; omega
  have word : ∀ neg r, r ≤ 2139095040 → single.word neg r % 2147483648 ≤ 2139095040 := fun neg r h => by
    have := (word_mod single neg r (by rw [sW]; omega)).1
    rw [sW] at this; omega
  apply key
  show single.nearest _ _ _ % _ ≤ _
  unfold Format.nearest
  split
  · exact word _ _ (by omega)
  · refine word _ _ ?_
    rw [← sI]; exact Nat.min_le_right _ _

def ConvI (to i i' : Int) (f : Nat) : Prop :=
  (to = 1 ∧ i' = (if i = 0 then 0 else 1) ∧ f = 0) ∨ (to = 7 ∧ i' = 0 ∧ f = wide (floatOfInt .f32 i)) ∨ ((to = 8 ∨ to = 9) ∧ i' = 0 ∧ f = floatOfInt .f64 i) ∨ ((2 ≤ to ∧ to ≤ 6) ∧ f = 0 ∧ i' = cutL to i)

def ConvIOk (to i : Int) (w : World) (e : Ending) (w' : World) : Prop := ∃ (i' : Int) (f : Nat), e = .returned (.agg #[.int .i64 i', .float .f64 f, .float .f64 0]) ∧ ConvI to i i' f ∧ Ext w w'

set_option maxRecDepth 100000 in
set_option maxHeartbeats 1000000 in
theorem convI_1 (i : Int) (w : World) : Calls Try.prog 51 #[.int .i64 1, .int .i64 i] w fun e w' => ConvIOk 1 i w e w' := by
  by_cases hq : i = 0
  · subst hq
    go_enter Try.func51, Try.ntmps51
    go_wp2_with fail
    refine (truth_any false _).mono ?_
    rintro e w1 ⟨rfl, x1⟩
    have z0 := x1.box (b := w.heap.size) (o := 0) (v := .int .i64 0) (by simp)
    have z1 := x1.box (b := w.heap.size) (o := 1) (v := .float .f64 0) (by simp)
    have z2 := x1.box (b := w.heap.size) (o := 2) (v := .float .f64 0) (by simp)
    have zf : ∀ o, w1.frozen? ⟨w.heap.size, o, none⟩ = false := fun o => (x1.fz _).trans (((Ext.refl w).alloc _ _).unfrozen (Nat.le_refl _) o)
    go_wp2
    exact bodyPost_ret (v := .agg #[.int .i64 0, .float .f64 0, .float .f64 0]) (by simp [results, Try.results51, go_sem, z0, z1, z2]) rfl ⟨_, _, rfl, Or.inl ⟨rfl, rfl, rfl⟩, by repeat (first | with_reducible exact Ext.refl _ | with_reducible refine Ext.setCell ?_ (by simp; try omega) _ | with_reducible apply Ext.drewN | with_reducible apply Ext.drew | with_reducible apply Ext.alloc | refine Ext.trans ?_ (by assumption))⟩
  · have hb : (i != 0) = true := by simpa using hq
    go_enter Try.func51, Try.ntmps51
    go_wp2_with fail
    refine (truth_any true _).mono ?_
    rintro e w1 ⟨rfl, x1⟩
    have z0 := x1.box (b := w.heap.size) (o := 0) (v := .int .i64 0) (by simp)
    have z1 := x1.box (b := w.heap.size) (o := 1) (v := .float .f64 0) (by simp)
    have z2 := x1.box (b := w.heap.size) (o := 2) (v := .float .f64 0) (by simp)
    have zf : ∀ o, w1.frozen? ⟨w.heap.size, o, none⟩ = false := fun o => (x1.fz _).trans (((Ext.refl w).alloc _ _).unfrozen (Nat.le_refl _) o)
    go_wp2
    exact bodyPost_ret (v := .agg #[.int .i64 1, .float .f64 0, .float .f64 0]) (by simp [results, Try.results51, go_sem, z0, z1, z2]) rfl ⟨_, _, rfl, Or.inl ⟨rfl, by rw [if_neg hq], rfl⟩, by repeat (first | with_reducible exact Ext.refl _ | with_reducible refine Ext.setCell ?_ (by simp; try omega) _ | with_reducible apply Ext.drewN | with_reducible apply Ext.drew | with_reducible apply Ext.alloc | refine Ext.trans ?_ (by assumption))⟩

set_option maxRecDepth 100000 in
set_option maxHeartbeats 1000000 in
theorem convI_7 (i : Int) (w : World) : Calls Try.prog 51 #[.int .i64 7, .int .i64 i] w fun e w' => ConvIOk 7 i w e w' := by
  have c2 := run_convert_float_float (P := Try.prog) (w.alloc (.cells #[.int .i64 0, .float .f64 0, .float .f64 0] 29)) 58 25 .f32 .f64 (floatOfInt .f32 i) (wide (floatOfInt .f32 i)) und58 Try.underlying25 (wide_ok _ (sgl_lt i) (sgl_num i))
  go_enter Try.func51, Try.ntmps51
  go_wp2
  exact bodyPost_ret (v := .agg #[.int .i64 0, .float .f64 (wide (floatOfInt .f32 i)), .float .f64 0]) (by simp [results, Try.results51, go_sem]) rfl ⟨_, _, rfl, Or.inr (Or.inl ⟨rfl, rfl, rfl⟩), by repeat (first | with_reducible exact Ext.refl _ | with_reducible refine Ext.setCell ?_ (by simp; try omega) _ | with_reducible apply Ext.drewN | with_reducible apply Ext.drew | with_reducible apply Ext.alloc | refine Ext.trans ?_ (by assumption))⟩

set_option maxRecDepth 100000 in
set_option maxHeartbeats 1000000 in
theorem convI_89 (to i : Int) (h : to = 8 ∨ to = 9) (w : World) : Calls Try.prog 51 #[.int .i64 to, .int .i64 i] w fun e w' => ConvIOk to i w e w' := by
  rcases h with rfl | rfl
  all_goals
    go_enter Try.func51, Try.ntmps51
    go_wp2
    exact bodyPost_ret (v := .agg #[.int .i64 0, .float .f64 (floatOfInt .f64 i), .float .f64 0]) (by simp [results, Try.results51, go_sem]) rfl ⟨_, _, rfl, Or.inr (Or.inr (Or.inl ⟨by omega, rfl, rfl⟩)), by repeat (first | with_reducible exact Ext.refl _ | with_reducible refine Ext.setCell ?_ (by simp; try omega) _ | with_reducible apply Ext.drewN | with_reducible apply Ext.drew | with_reducible apply Ext.alloc | refine Ext.trans ?_ (by assumption))⟩

set_option maxRecDepth 100000 in
set_option maxHeartbeats 1000000 in
theorem convI_int (to i : Int) (h : 2 ≤ to ∧ to ≤ 6) (w : World) : Calls Try.prog 51 #[.int .i64 to, .int .i64 i] w fun e w' => ConvIOk to i w e w' := by
  have d1 : (to == 1) = false := by simp; omega
  have d7 : (to == 7) = false := by simp; omega
  have d8 : (to == 8) = false := by simp; omega
  have d9 : (to == 9) = false := by simp; omega
  have H := hide h
  clear h
  go_enter Try.func51, Try.ntmps51
  go_wp2_with fail
  refine (cutBits_any to i _).mono ?_
  rintro e w1 ⟨rfl, rfl⟩
  go_wp2
  exact bodyPost_ret (v := .agg #[.int .i64 (cutL to i), .float .f64 0, .float .f64 0]) (by simp [results, Try.results51, go_sem]) rfl ⟨_, _, rfl, Or.inr (Or.inr (Or.inr ⟨H.out, rfl, rfl⟩)), by repeat (first | with_reducible exact Ext.refl _ | with_reducible refine Ext.setCell ?_ (by simp; try omega) _ | with_reducible apply Ext.drewN | with_reducible apply Ext.drew | with_reducible apply Ext.alloc | refine Ext.trans ?_ (by assumption))⟩

theorem convI_any (to i : Int) (h : 1 ≤ to ∧ to ≤ 9) (w : World) : Calls Try.prog 51 #[.int .i64 to, .int .i64 i] w fun e w' => ConvIOk to i w e w' := by
  by_cases h1 : to = 1
  · subst h1; exact convI_1 i w
  by_cases h7 : to = 7
  · subst h7; exact convI_7 i w
  by_cases h8 : to = 8 ∨ to = 9
  · exact convI_89 to i h8 w
  · exact convI_int to i (by omega) w
end Go.Proofs.Ythaajmkfeniofaa
