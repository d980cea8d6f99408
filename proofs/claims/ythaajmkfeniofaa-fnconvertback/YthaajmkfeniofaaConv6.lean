import Derived.Test.YthaajmkfeniofaaConv5
namespace Go.Proofs.Ythaajmkfeniofaa
open Go.RowKit FL Ieee
set_option linter.unusedSimpArgs false
set_option linter.unusedVariables false

def ConvR (from_ to i : Int) (f g : Nat) (i' : Int) (f' g' : Nat) : Prop :=
  (validB from_ i f g = false ∧ i' = 0 ∧ f' = 0 ∧ g' = 0) ∨ (validB from_ i f g = true ∧ from_ = to ∧ i' = i ∧ f' = f ∧ g' = g) ∨
  (validB from_ i f g = true ∧ from_ ≠ to ∧ g' = 0 ∧ ((from_ ≤ 6 ∧ ConvI to i i' f') ∨ ((from_ = 7 ∨ from_ = 8) ∧ ConvF to f i' f') ∨ (from_ = 9 ∧ ConvC to f g i' f')))
def ConvOk (from_ to i : Int) (f g : Nat) (w : World) (e : Ending) (w' : World) : Prop := ∃ (i' : Int) (f' g' : Nat), e = .returned (.agg #[.int .i64 i', .float .f64 f', .float .f64 g']) ∧ ConvR from_ to i f g i' f' g' ∧ Ext w w'

set_option maxRecDepth 100000 in
set_option maxHeartbeats 1000000 in
theorem conv_no (from_ to i : Int) (f g : Nat) (ht : 1 ≤ to ∧ to ≤ 9) (hi : I64 i) (hf : B64 f) (hg : B64 g) (hv : validB from_ i f g = false) (w : World) : Calls Try.prog 22 #[.int .i64 from_, .int .i64 to, .agg #[.int .i64 i, .float .f64 f, .float .f64 g]] w fun e w' => ConvOk from_ to i f g w e w' := by
  have dt : isDtB to = true := by unfold isDtB; simpa using ht
  have HT := hide ht
  clear ht
  go_enter Try.func22, Try.ntmps22
  go_wp2_with fail
  refine (isDType_any to _).mono ?_
  rintro e w0 ⟨rfl, rfl⟩
  go_wp2_with fail
  refine (iValid_any _ _ _ _ hi hf hg _).mono ?_
  rintro e w1 ⟨rfl, x1⟩
  have c10 := x1.box (b := w.heap.size) (o := 0) (v := .int .i64 i) (by first | assumption | (simp; done))
  have c11 := x1.box (b := w.heap.size) (o := 1) (v := .float .f64 f) (by first | assumption | (simp; done))
  have c12 := x1.box (b := w.heap.size) (o := 2) (v := .float .f64 g) (by first | assumption | (simp; done))
  have z10 := x1.box (b := w.heap.size + 1) (o := 0) (v := .int .i64 0) (by first | assumption | (simp; done))
  have z11 := x1.box (b := w.heap.size + 1) (o := 1) (v := .float .f64 0) (by first | assumption | (simp; done))
  have z12 := x1.box (b := w.heap.size + 1) (o := 2) (v := .float .f64 0) (by first | assumption | (simp; done))
  have zf1 : ∀ o, w1.frozen? ⟨w.heap.size + 1, o, none⟩ = false := fun o => (x1.fz _).trans ((((Ext.refl w).alloc _ _).alloc _ _).unfrozen (by simp) o)
  go_wp2
  exact bodyPost_ret (v := .agg #[.int .i64 0, .float .f64 0, .float .f64 0]) (by simp [results, Try.results22, go_sem, z10, z11, z12]) rfl ⟨_, _, _, rfl, Or.inl ⟨hv, rfl, rfl, rfl⟩, by repeat (first | with_reducible exact Ext.refl _ | with_reducible refine Ext.setCell ?_ (by simp; try omega) _ | with_reducible apply Ext.drewN | with_reducible apply Ext.drew | with_reducible apply Ext.alloc | refine Ext.trans ?_ (by assumption))⟩

set_option maxRecDepth 100000 in
set_option maxHeartbeats 1000000 in
theorem conv_same (from_ to i : Int) (f g : Nat) (ht : 1 ≤ to ∧ to ≤ 9) (hi : I64 i) (hf : B64 f) (hg : B64 g) (hv : validB from_ i f g = true) (he : from_ = to) (w : World) : Calls Try.prog 22 #[.int .i64 from_, .int .i64 to, .agg #[.int .i64 i, .float .f64 f, .float .f64 g]] w fun e w' => ConvOk from_ to i f g w e w' := by
  subst he
  have dt : isDtB from_ = true := by unfold isDtB; simpa using ht
  have HT := hide ht
  clear ht
  go_enter Try.func22, Try.ntmps22
  go_wp2_with fail
  refine (isDType_any from_ _).mono ?_
  rintro e w0 ⟨rfl, rfl⟩
  go_wp2_with fail
  refine (iValid_any _ _ _ _ hi hf hg _).mono ?_
  rintro e w1 ⟨rfl, x1⟩
  have c10 := x1.box (b := w.heap.size) (o := 0) (v := .int .i64 i) (by first | assumption | (simp; done))
  have c11 := x1.box (b := w.heap.size) (o := 1) (v := .float .f64 f) (by first | assumption | (simp; done))
  have c12 := x1.box (b := w.heap.size) (o := 2) (v := .float .f64 g) (by first | assumption | (simp; done))
  have z10 := x1.box (b := w.heap.size + 1) (o := 0) (v := .int .i64 0) (by first | assumption | (simp; done))
  have z11 := x1.box (b := w.heap.size + 1) (o := 1) (v := .float .f64 0) (by first | assumption | (simp; done))
  have z12 := x1.box (b := w.heap.size + 1) (o := 2) (v := .float .f64 0) (by first | assumption | (simp; done))
  have zf1 : ∀ o, w1.frozen? ⟨w.heap.size + 1, o, none⟩ = false := fun o => (x1.fz _).trans ((((Ext.refl w).alloc _ _).alloc _ _).unfrozen (by simp) o)
  go_wp2
  exact bodyPost_ret (v := .agg #[.int .i64 i, .float .f64 f, .float .f64 g]) (by simp [results, Try.results22, go_sem, z10, z11, z12]) rfl ⟨_, _, _, rfl, Or.inr (Or.inl ⟨hv, rfl, rfl, rfl, rfl⟩), by repeat (first | with_reducible exact Ext.refl _ | with_reducible refine Ext.setCell ?_ (by simp; try omega) _ | with_reducible apply Ext.drewN | with_reducible apply Ext.drew | with_reducible apply Ext.alloc | refine Ext.trans ?_ (by assumption))⟩

set_option maxRecDepth 100000 in
set_option maxHeartbeats 1000000 in
theorem conv_int (from_ to i : Int) (f g : Nat) (ht : 1 ≤ to ∧ to ≤ 9) (hi : I64 i) (hf : B64 f) (hg : B64 g) (hv : validB from_ i f g = true) (he : from_ ≠ to) (h6 : from_ ≤ 6) (w : World) : Calls Try.prog 22 #[.int .i64 from_, .int .i64 to, .agg #[.int .i64 i, .float .f64 f, .float .f64 g]] w fun e w' => ConvOk from_ to i f g w e w' := by
  have dt : isDtB to = true := by unfold isDtB; simpa using ht
  have HT := hide ht
  clear ht
  have de : (from_ == to) = false := by simpa using he
  have k2 : (kindL from_ == 2) = false := by unfold kindL; simp; repeat' split
                                             all_goals omega
  have k3 : (kindL from_ == 3) = false := by unfold kindL; simp; repeat' split
                                             all_goals omega
  go_enter Try.func22, Try.ntmps22
  go_wp2_with fail
  refine (isDType_any to _).mono ?_
  rintro e w0 ⟨rfl, rfl⟩
  go_wp2_with fail
  refine (iValid_any _ _ _ _ hi hf hg _).mono ?_
  rintro e w1 ⟨rfl, x1⟩
  have c10 := x1.box (b := w.heap.size) (o := 0) (v := .int .i64 i) (by first | assumption | (simp; done))
  have c11 := x1.box (b := w.heap.size) (o := 1) (v := .float .f64 f) (by first | assumption | (simp; done))
  have c12 := x1.box (b := w.heap.size) (o := 2) (v := .float .f64 g) (by first | assumption | (simp; done))
  have z10 := x1.box (b := w.heap.size + 1) (o := 0) (v := .int .i64 0) (by first | assumption | (simp; done))
  have z11 := x1.box (b := w.heap.size + 1) (o := 1) (v := .float .f64 0) (by first | assumption | (simp; done))
  have z12 := x1.box (b := w.heap.size + 1) (o := 2) (v := .float .f64 0) (by first | assumption | (simp; done))
  have zf1 : ∀ o, w1.frozen? ⟨w.heap.size + 1, o, none⟩ = false := fun o => (x1.fz _).trans ((((Ext.refl w).alloc _ _).alloc _ _).unfrozen (by simp) o)
  go_wp2_with fail
  refine (kindOf_any from_ _).mono ?_
  rintro e w2 ⟨rfl, rfl⟩
  go_wp2_with fail
  refine (convI_any to i HT.out _).mono ?_
  rintro e w3 ⟨i', f', rfl, hc, x3⟩
  have Hc := hide hc
  clear hc
  have c30 := x3.box (b := w.heap.size) (o := 0) (v := .int .i64 i) (by first | assumption | (simp; done))
  have c31 := x3.box (b := w.heap.size) (o := 1) (v := .float .f64 f) (by first | assumption | (simp; done))
  have c32 := x3.box (b := w.heap.size) (o := 2) (v := .float .f64 g) (by first | assumption | (simp; done))
  have z30 := x3.box (b := w.heap.size + 1) (o := 0) (v := .int .i64 0) (by first | assumption | (simp; done))
  have z31 := x3.box (b := w.heap.size + 1) (o := 1) (v := .float .f64 0) (by first | assumption | (simp; done))
  have z32 := x3.box (b := w.heap.size + 1) (o := 2) (v := .float .f64 0) (by first | assumption | (simp; done))
  have zf3 : ∀ o, w3.frozen? ⟨w.heap.size + 1, o, none⟩ = false := fun o => (x3.fz _).trans (zf1 o)
  go_wp2
  exact bodyPost_ret (v := .agg #[.int .i64 i', .float .f64 f', .float .f64 0]) (by simp [results, Try.results22, go_sem, z30, z31, z32]) rfl ⟨_, _, _, rfl, Or.inr (Or.inr ⟨hv, he, rfl, Or.inl ⟨h6, Hc.out⟩⟩), by repeat (first | with_reducible exact Ext.refl _ | with_reducible refine Ext.setCell ?_ (by simp; try omega) _ | with_reducible apply Ext.drewN | with_reducible apply Ext.drew | with_reducible apply Ext.alloc | refine Ext.trans ?_ (by assumption))⟩

set_option maxRecDepth 100000 in
set_option maxHeartbeats 1000000 in
theorem conv_flt (from_ to i : Int) (f g : Nat) (ht : 1 ≤ to ∧ to ≤ 9) (hi : I64 i) (hf : B64 f) (hg : B64 g) (hv : validB from_ i f g = true) (he : from_ ≠ to) (h7 : from_ = 7 ∨ from_ = 8) (w : World) : Calls Try.prog 22 #[.int .i64 from_, .int .i64 to, .agg #[.int .i64 i, .float .f64 f, .float .f64 g]] w fun e w' => ConvOk from_ to i f g w e w' := by
  have dt : isDtB to = true := by unfold isDtB; simpa using ht
  have HT := hide ht
  clear ht
  have de : (from_ == to) = false := by simpa using he
  have k2 : (kindL from_ == 2) = true := by rcases h7 with rfl | rfl <;> decide
  go_enter Try.func22, Try.ntmps22
  go_wp2_with fail
  refine (isDType_any to _).mono ?_
  rintro e w0 ⟨rfl, rfl⟩
  go_wp2_with fail
  refine (iValid_any _ _ _ _ hi hf hg _).mono ?_
  rintro e w1 ⟨rfl, x1⟩
  have c10 := x1.box (b := w.heap.size) (o := 0) (v := .int .i64 i) (by first | assumption | (simp; done))
  have c11 := x1.box (b := w.heap.size) (o := 1) (v := .float .f64 f) (by first | assumption | (simp; done))
  have c12 := x1.box (b := w.heap.size) (o := 2) (v := .float .f64 g) (by first | assumption | (simp; done))
  have z10 := x1.box (b := w.heap.size + 1) (o := 0) (v := .int .i64 0) (by first | assumption | (simp; done))
  have z11 := x1.box (b := w.heap.size + 1) (o := 1) (v := .float .f64 0) (by first | assumption | (simp; done))
  have z12 := x1.box (b := w.heap.size + 1) (o := 2) (v := .float .f64 0) (by first | assumption | (simp; done))
  have zf1 : ∀ o, w1.frozen? ⟨w.heap.size + 1, o, none⟩ = false := fun o => (x1.fz _).trans ((((Ext.refl w).alloc _ _).alloc _ _).unfrozen (by simp) o)
  go_wp2_with fail
  refine (kindOf_any from_ _).mono ?_
  rintro e w2 ⟨rfl, rfl⟩
  go_wp2_with fail
  refine (convF_any to HT.out f hf _).mono ?_
  rintro e w3 ⟨i', f', rfl, hc, x3⟩
  have Hc := hide hc
  clear hc
  have c30 := x3.box (b := w.heap.size) (o := 0) (v := .int .i64 i) (by first | assumption | (simp; done))
  have c31 := x3.box (b := w.heap.size) (o := 1) (v := .float .f64 f) (by first | assumption | (simp; done))
  have c32 := x3.box (b := w.heap.size) (o := 2) (v := .float .f64 g) (by first | assumption | (simp; done))
  have z30 := x3.box (b := w.heap.size + 1) (o := 0) (v := .int .i64 0) (by first | assumption | (simp; done))
  have z31 := x3.box (b := w.heap.size + 1) (o := 1) (v := .float .f64 0) (by first | assumption | (simp; done))
  have z32 := x3.box (b := w.heap.size + 1) (o := 2) (v := .float .f64 0) (by first | assumption | (simp; done))
  have zf3 : ∀ o, w3.frozen? ⟨w.heap.size + 1, o, none⟩ = false := fun o => (x3.fz _).trans (zf1 o)
  go_wp2
  exact bodyPost_ret (v := .agg #[.int .i64 i', .float .f64 f', .float .f64 0]) (by simp [results, Try.results22, go_sem, z30, z31, z32]) rfl ⟨_, _, _, rfl, Or.inr (Or.inr ⟨hv, he, rfl, Or.inr (Or.inl ⟨h7, Hc.out⟩)⟩), by repeat (first | with_reducible exact Ext.refl _ | with_reducible refine Ext.setCell ?_ (by simp; try omega) _ | with_reducible apply Ext.drewN | with_reducible apply Ext.drew | with_reducible apply Ext.alloc | refine Ext.trans ?_ (by assumption))⟩

end Go.Proofs.Ythaajmkfeniofaa
