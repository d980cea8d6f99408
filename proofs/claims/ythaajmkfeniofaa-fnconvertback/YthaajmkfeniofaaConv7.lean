import Derived.Test.YthaajmkfeniofaaConv6
namespace Go.Proofs.Ythaajmkfeniofaa
open Go.RowKit FL Ieee
set_option linter.unusedSimpArgs false
set_option linter.unusedVariables false

set_option maxRecDepth 100000 in
set_option maxHeartbeats 1000000 in
theorem conv_cpx (from_ to i : Int) (f g : Nat) (ht : 1 ≤ to ∧ to ≤ 9) (hi : I64 i) (hf : B64 f) (hg : B64 g) (hv : validB from_ i f g = true) (he : from_ ≠ to) (h9 : from_ = 9) (w : World) : Calls Try.prog 22 #[.int .i64 from_, .int .i64 to, .agg #[.int .i64 i, .float .f64 f, .float .f64 g]] w fun e w' => ConvOk from_ to i f g w e w' := by
  have dt : isDtB to = true := by unfold isDtB; simpa using ht
  have HT := hide ht
  clear ht
  have de : (from_ == to) = false := by simpa using he
  have k2 : (kindL from_ == 2) = false := by rw [h9]; decide
  have k3 : (kindL from_ == 3) = true := by rw [h9]; decide
  have H9 := hide h9
  clear h9
  go_enter Try.func22, Try.ntmps22
  go_wp2_with fail
  refine (isDType_any to _).mono ?_
  rintro e w0 ⟨rfl, rfl⟩
  go_wp2_with fail
  refine (iValid_any _ _ _ _ hi hf hg _).mono ?_
  rintro e w1 ⟨rfl, x1⟩
  have c10 := x1.box (b := w.heap.size) (o := 0) (v := .int .i64 i) (by first | assumption | (simp; done))
  have c11 := x1.box (b := w.heap.size) (o := 1) (v := .float .f64 f) (by first | assumption | (simp; done))
  have c12 := x1.box (b := w.heap.size) (o := 2) (v := .float .f64 g) (by first | assumption | (simp; done))
  have z10 := x1.box (b := w.heap.size + 1) (o := 0) (v := .int .i64 0) (by first | assumption | (simp; done))
  have z11 := x1.box (b := w.heap.size + 1) (o := 1) (v := .float .f64 0) (by first | assumption | (simp; done))
  have z12 := x1.box (b := w.heap.size + 1) (o := 2) (v := .float .f64 0) (by first | assumption | (simp; done))
  have zf1 : ∀ o, w1.frozen? ⟨w.heap.size + 1, o, none⟩ = false := fun o => (x1.fz _).trans ((((Ext.refl w).alloc _ _).alloc _ _).unfrozen (by simp) o)
  go_wp2_with fail
  refine (kindOf_any from_ _).mono ?_
  rintro e w2 ⟨rfl, rfl⟩
  go_wp2_with fail
  refine (complexOf_any i f g _).mono ?_
  rintro e w3 ⟨rfl, x3⟩
  have c30 := x3.box (b := w.heap.size) (o := 0) (v := .int .i64 i) (by first | assumption | (simp; done))
  have c31 := x3.box (b := w.heap.size) (o := 1) (v := .float .f64 f) (by first | assumption | (simp; done))
  have c32 := x3.box (b := w.heap.size) (o := 2) (v := .float .f64 g) (by first | assumption | (simp; done))
  have z30 := x3.box (b := w.heap.size + 1) (o := 0) (v := .int .i64 0) (by first | assumption | (simp; done))
  have z31 := x3.box (b := w.heap.size + 1) (o := 1) (v := .float .f64 0) (by first | assumption | (simp; done))
  have z32 := x3.box (b := w.heap.size + 1) (o := 2) (v := .float .f64 0) (by first | assumption | (simp; done))
  have zf3 : ∀ o, w3.frozen? ⟨w.heap.size + 1, o, none⟩ = false := fun o => (x3.fz _).trans (zf1 o)
  go_wp2_with fail
  refine (convC_any to HT.out f g hf _).mono ?_
  rintro e w4 ⟨i', f', rfl, hc, x4⟩
  have Hc := hide hc
  clear hc
  have c40 := x4.box (b := w.heap.size) (o := 0) (v := .int .i64 i) (by first | assumption | (simp; done))
  have c41 := x4.box (b := w.heap.size) (o := 1) (v := .float .f64 f) (by first | assumption | (simp; done))
  have c42 := x4.box (b := w.heap.size) (o := 2) (v := .float .f64 g) (by first | assumption | (simp; done))
  have z40 := x4.box (b := w.heap.size + 1) (o := 0) (v := .int .i64 0) (by first | assumption | (simp; done))
  have z41 := x4.box (b := w.heap.size + 1) (o := 1) (v := .float .f64 0) (by first | assumption | (simp; done))
  have z42 := x4.box (b := w.heap.size + 1) (o := 2) (v := .float .f64 0) (by first | assumption | (simp; done))
  have zf4 : ∀ o, w4.frozen? ⟨w.heap.size + 1, o, none⟩ = false := fun o => (x4.fz _).trans (zf3 o)
  go_wp2
  exact bodyPost_ret (v := .agg #[.int .i64 i', .float .f64 f', .float .f64 0]) (by simp [results, Try.results22, go_sem, z40, z41, z42]) rfl ⟨_, _, _, rfl, Or.inr (Or.inr ⟨hv, he, rfl, Or.inr (Or.inr ⟨H9.out, Hc.out⟩)⟩), by repeat (first | with_reducible exact Ext.refl _ | with_reducible refine Ext.setCell ?_ (by simp; try omega) _ | with_reducible apply Ext.drewN | with_reducible apply Ext.drew | with_reducible apply Ext.alloc | refine Ext.trans ?_ (by assumption))⟩

theorem conv_any (from_ to i : Int) (f g : Nat) (ht : 1 ≤ to ∧ to ≤ 9) (hi : I64 i) (hf : B64 f) (hg : B64 g) (w : World) : Calls Try.prog 22 #[.int .i64 from_, .int .i64 to, .agg #[.int .i64 i, .float .f64 f, .float .f64 g]] w fun e w' => ConvOk from_ to i f g w e w' := by
  cases hv : validB from_ i f g
  · exact conv_no from_ to i f g ht hi hf hg hv w
  have hd := valid_dt _ _ _ _ hv
  by_cases he : from_ = to
  · exact conv_same from_ to i f g ht hi hf hg hv he w
  by_cases h6 : from_ ≤ 6
  · exact conv_int from_ to i f g ht hi hf hg hv he h6 w
  by_cases h9 : from_ = 9
  · exact conv_cpx from_ to i f g ht hi hf hg hv he h9 w
  · exact conv_flt from_ to i f g ht hi hf hg hv he (by omega) w
end Go.Proofs.Ythaajmkfeniofaa
