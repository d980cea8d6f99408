import Derived.Test.YthaajmkfeniofaaConv4
namespace Go.Proofs.Ythaajmkfeniofaa
open Go.RowKit FL Ieee
set_option linter.unusedSimpArgs false
set_option linter.unusedVariables false

def ConvC (to : Int) (x y : Nat) (i : Int) (f : Nat) : Prop := (to = 1 ∧ i = (if feq x 0 && feq y 0 then 0 else 1) ∧ f = 0) ∨ (to ≠ 1 ∧ ConvF to x i f)
def ConvCOk (to : Int) (x y : Nat) (w : World) (e : Ending) (w' : World) : Prop := ∃ (i : Int) (f : Nat), e = .returned (.agg #[.int .i64 i, .float .f64 f, .float .f64 0]) ∧ ConvC to x y i f ∧ Ext w w'

set_option maxRecDepth 100000 in
set_option maxHeartbeats 1000000 in
theorem convC_any (to : Int) (h : 1 ≤ to ∧ to ≤ 9) (x y : Nat) (hx : B64 x) (w : World) : Calls Try.prog 50 #[.int .i64 to, .complex .f64 x y] w fun e w' => ConvCOk to x y w e w' := by
  by_cases h1 : to = 1
  · subst h1
    cases hq : feq x 0 <;> cases hr : feq y 0
    · go_enter Try.func50, Try.ntmps50
      go_wp2_with fail
      refine (truth_any true _).mono ?_
      rintro e w1 ⟨rfl, x1⟩
      have z0 := x1.box (b := w.heap.size) (o := 0) (v := .int .i64 0) (by simp)
      have z1 := x1.box (b := w.heap.size) (o := 1) (v := .float .f64 0) (by simp)
      have z2 := x1.box (b := w.heap.size) (o := 2) (v := .float .f64 0) (by simp)
      have zf : ∀ o, w1.frozen? ⟨w.heap.size, o, none⟩ = false := fun o => (x1.fz _).trans (((Ext.refl w).alloc _ _).unfrozen (Nat.le_refl _) o)
      go_wp2
      exact bodyPost_ret (v := .agg #[.int .i64 1, .float .f64 0, .float .f64 0]) (by simp [results, Try.results50, go_sem, z0, z1, z2]) rfl ⟨_, _, rfl, Or.inl ⟨rfl, by rw [hq, hr]; rfl, rfl⟩, by repeat (first | with_reducible exact Ext.refl _ | with_reducible refine Ext.setCell ?_ (by simp; try omega) _ | with_reducible apply Ext.drewN | with_reducible apply Ext.drew | with_reducible apply Ext.alloc | refine Ext.trans ?_ (by assumption))⟩
    · go_enter Try.func50, Try.ntmps50
      go_wp2_with fail
      refine (truth_any true _).mono ?_
      rintro e w1 ⟨rfl, x1⟩
      have z0 := x1.box (b := w.heap.size) (o := 0) (v := .int .i64 0) (by simp)
      have z1 := x1.box (b := w.heap.size) (o := 1) (v := .float .f64 0) (by simp)
      have z2 := x1.box (b := w.heap.size) (o := 2) (v := .float .f64 0) (by simp)
      have zf : ∀ o, w1.frozen? ⟨w.heap.size, o, none⟩ = false := fun o => (x1.fz _).trans (((Ext.refl w).alloc _ _).unfrozen (Nat.le_refl _) o)
      go_wp2
      exact bodyPost_ret (v := .agg #[.int .i64 1, .float .f64 0, .float .f64 0]) (by simp [results, Try.results50, go_sem, z0, z1, z2]) rfl ⟨_, _, rfl, Or.inl ⟨rfl, by rw [hq, hr]; rfl, rfl⟩, by repeat (first | with_reducible exact Ext.refl _ | with_reducible refine Ext.setCell ?_ (by simp; try omega) _ | with_reducible apply Ext.drewN | with_reducible apply Ext.drew | with_reducible apply Ext.alloc | refine Ext.trans ?_ (by assumption))⟩
    · go_enter Try.func50, Try.ntmps50
      go_wp2_with fail
      refine (truth_any true _).mono ?_
      rintro e w1 ⟨rfl, x1⟩
      have z0 := x1.box (b := w.heap.size) (o := 0) (v := .int .i64 0) (by simp)
      have z1 := x1.box (b := w.heap.size) (o := 1) (v := .float .f64 0) (by simp)
      have z2 := x1.box (b := w.heap.size) (o := 2) (v := .float .f64 0) (by simp)
      have zf : ∀ o, w1.frozen? ⟨w.heap.size, o, none⟩ = false := fun o => (x1.fz _).trans (((Ext.refl w).alloc _ _).unfrozen (Nat.le_refl _) o)
      go_wp2
      exact bodyPost_ret (v := .agg #[.int .i64 1, .float .f64 0, .float .f64 0]) (by simp [results, Try.results50, go_sem, z0, z1, z2]) rfl ⟨_, _, rfl, Or.inl ⟨rfl, by rw [hq, hr]; rfl, rfl⟩, by repeat (first | with_reducible exact Ext.refl _ | with_reducible refine Ext.setCell ?_ (by simp; try omega) _ | with_reducible apply Ext.drewN | with_reducible apply Ext.drew | with_reducible apply Ext.alloc | refine Ext.trans ?_ (by assumption))⟩
    · go_enter Try.func50, Try.ntmps50
      go_wp2_with fail
      refine (truth_any false _).mono ?_
      rintro e w1 ⟨rfl, x1⟩
      have z0 := x1.box (b := w.heap.size) (o := 0) (v := .int .i64 0) (by simp)
      have z1 := x1.box (b := w.heap.size) (o := 1) (v := .float .f64 0) (by simp)
      have z2 := x1.box (b := w.heap.size) (o := 2) (v := .float .f64 0) (by simp)
      have zf : ∀ o, w1.frozen? ⟨w.heap.size, o, none⟩ = false := fun o => (x1.fz _).trans (((Ext.refl w).alloc _ _).unfrozen (Nat.le_refl _) o)
      go_wp2
      exact bodyPost_ret (v := .agg #[.int .i64 0, .float .f64 0, .float .f64 0]) (by simp [results, Try.results50, go_sem, z0, z1, z2]) rfl ⟨_, _, rfl, Or.inl ⟨rfl, by rw [hq, hr]; rfl, rfl⟩, by repeat (first | with_reducible exact Ext.refl _ | with_reducible refine Ext.setCell ?_ (by simp; try omega) _ | with_reducible apply Ext.drewN | with_reducible apply Ext.drew | with_reducible apply Ext.alloc | refine Ext.trans ?_ (by assumption))⟩
  · have H := hide h
    have d1 : (to == 1) = false := by simpa using h1
    clear h
    go_enter Try.func50, Try.ntmps50
    go_wp2_with fail
    refine (convF_any to H.out x hx _).mono ?_
    rintro e w1 ⟨i, f, rfl, hc, x1⟩
    have Hc := hide hc
    clear hc
    have z0 := x1.box (b := w.heap.size) (o := 0) (v := .int .i64 0) (by simp)
    have z1 := x1.box (b := w.heap.size) (o := 1) (v := .float .f64 0) (by simp)
    have z2 := x1.box (b := w.heap.size) (o := 2) (v := .float .f64 0) (by simp)
    have zf : ∀ o, w1.frozen? ⟨w.heap.size, o, none⟩ = false := fun o => (x1.fz _).trans (((Ext.refl w).alloc _ _).unfrozen (Nat.le_refl _) o)
    go_wp2
    exact bodyPost_ret (v := .agg #[.int .i64 i, .float .f64 f, .float .f64 0]) (by simp [results, Try.results50, go_sem, z0, z1, z2]) rfl ⟨_, _, rfl, Or.inr ⟨h1, Hc.out⟩, by repeat (first | with_reducible exact Ext.refl _ | with_reducible refine Ext.setCell ?_ (by simp; try omega) _ | with_reducible apply Ext.drewN | with_reducible apply Ext.drew | with_reducible apply Ext.alloc | refine Ext.trans ?_ (by assumption))⟩
end Go.Proofs.Ythaajmkfeniofaa
