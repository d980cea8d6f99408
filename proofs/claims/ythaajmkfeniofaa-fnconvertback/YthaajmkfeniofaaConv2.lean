import Derived.Test.YthaajmkfeniofaaTrunc2
namespace Go.Proofs.Ythaajmkfeniofaa
open Go.RowKit FL Ieee
set_option linter.unusedSimpArgs false
set_option linter.unusedVariables false

set_option maxRecDepth 100000 in
set_option maxHeartbeats 1000000 in
theorem nearInt_any (dt : Int) (h : 2 ≤ dt ∧ dt ≤ 6) (x : Nat) (hx : B64 x) (w : World) :
    Calls Try.prog 79 #[.int .i64 dt, .float .f64 x] w fun e w' => ∃ n : Int, e = .returned (.int .i64 (max (lowL dt) (min (highL dt) n))) ∧ TruncOk x n ∧ Ext w w' := by
  have H := hide h
  clear h
  go_enter Try.func79, Try.ntmps79
  go_wp2_with fail
  refine (range_any dt H.out _).mono ?_
  rintro e w1 ⟨rfl, x1⟩
  go_wp2_with fail
  refine (truncate_any x hx _).mono ?_
  rintro e w2 ⟨n, rfl, hn, rfl⟩
  have Hn := hide hn
  clear hn
  go_wp2
  all_goals go_ret
  all_goals exact ⟨n, ret_int (by omega), Hn.out, x1⟩
def ConvF (to : Int) (x : Nat) (i : Int) (f : Nat) : Prop :=
  (to = 1 ∧ i = (if feq x 0 then 0 else 1) ∧ f = 0) ∨ (to = 7 ∧ i = 0 ∧ SingleR x f) ∨ ((to = 8 ∨ to = 9) ∧ i = 0 ∧ f = x) ∨ ((2 ≤ to ∧ to ≤ 6) ∧ f = 0 ∧ ∃ n, TruncOk x n ∧ i = max (lowL to) (min (highL to) n))

def ConvFOk (to : Int) (x : Nat) (w : World) (e : Ending) (w' : World) : Prop := ∃ (i : Int) (f : Nat), e = .returned (.agg #[.int .i64 i, .float .f64 f, .float .f64 0]) ∧ ConvF to x i f ∧ Ext w w'

set_option maxRecDepth 100000 in
set_option maxHeartbeats 1000000 in
theorem convF_1 (x : Nat) (hx : B64 x) (w : World) : Calls Try.prog 49 #[.int .i64 1, .float .f64 x] w fun e w' => ConvFOk 1 x w e w' := by
  cases hq : feq x 0
  · go_enter Try.func49, Try.ntmps49
    go_wp2_with fail
    refine (truth_any true _).mono ?_
    rintro e w1 ⟨rfl, x1⟩
    have z0 := x1.box (b := w.heap.size) (o := 0) (v := .int .i64 0) (by simp)
    have z1 := x1.box (b := w.heap.size) (o := 1) (v := .float .f64 0) (by simp)
    have z2 := x1.box (b := w.heap.size) (o := 2) (v := .float .f64 0) (by simp)
    have zf : ∀ o, w1.frozen? ⟨w.heap.size, o, none⟩ = false := fun o => (x1.fz _).trans (((Ext.refl w).alloc _ _).unfrozen (Nat.le_refl _) o)
    go_wp2
    exact bodyPost_ret (v := .agg #[.int .i64 1, .float .f64 0, .float .f64 0]) (by simp [results, Try.results49, go_sem, z0, z1, z2]) rfl ⟨_, _, rfl, Or.inl ⟨rfl, by rw [hq]; rfl, rfl⟩, by repeat (first | with_reducible exact Ext.refl _ | with_reducible refine Ext.setCell ?_ (by simp; try omega) _ | with_reducible apply Ext.drewN | with_reducible apply Ext.drew | with_reducible apply Ext.alloc | refine Ext.trans ?_ (by assumption))⟩
  · go_enter Try.func49, Try.ntmps49
    go_wp2_with fail
    refine (truth_any false _).mono ?_
    rintro e w1 ⟨rfl, x1⟩
    have z0 := x1.box (b := w.heap.size) (o := 0) (v := .int .i64 0) (by simp)
    have z1 := x1.box (b := w.heap.size) (o := 1) (v := .float .f64 0) (by simp)
    have z2 := x1.box (b := w.heap.size) (o := 2) (v := .float .f64 0) (by simp)
    have zf : ∀ o, w1.frozen? ⟨w.heap.size, o, none⟩ = false := fun o => (x1.fz _).trans (((Ext.refl w).alloc _ _).unfrozen (Nat.le_refl _) o)
    go_wp2
    exact bodyPost_ret (v := .agg #[.int .i64 0, .float .f64 0, .float .f64 0]) (by simp [results, Try.results49, go_sem, z0, z1, z2]) rfl ⟨_, _, rfl, Or.inl ⟨rfl, by rw [hq]; rfl, rfl⟩, by repeat (first | with_reducible exact Ext.refl _ | with_reducible refine Ext.setCell ?_ (by simp; try omega) _ | with_reducible apply Ext.drewN | with_reducible apply Ext.drew | with_reducible apply Ext.alloc | refine Ext.trans ?_ (by assumption))⟩

set_option maxRecDepth 100000 in
set_option maxHeartbeats 1000000 in
theorem convF_89 (to : Int) (h : to = 8 ∨ to = 9) (x : Nat) (hx : B64 x) (w : World) : Calls Try.prog 49 #[.int .i64 to, .float .f64 x] w fun e w' => ConvFOk to x w e w' := by
  rcases h with rfl | rfl
  all_goals
    go_enter Try.func49, Try.ntmps49
    go_wp2
    exact bodyPost_ret (v := .agg #[.int .i64 0, .float .f64 x, .float .f64 0]) (by simp [results, Try.results49, go_sem]) rfl ⟨_, _, rfl, Or.inr (Or.inr (Or.inl ⟨by omega, rfl, rfl⟩)), by repeat (first | with_reducible exact Ext.refl _ | with_reducible refine Ext.setCell ?_ (by simp; try omega) _ | with_reducible apply Ext.drewN | with_reducible apply Ext.drew | with_reducible apply Ext.alloc | refine Ext.trans ?_ (by assumption))⟩

set_option maxRecDepth 100000 in
set_option maxHeartbeats 1000000 in
theorem convF_int (to : Int) (h : 2 ≤ to ∧ to ≤ 6) (x : Nat) (hx : B64 x) (w : World) : Calls Try.prog 49 #[.int .i64 to, .float .f64 x] w fun e w' => ConvFOk to x w e w' := by
  have d1 : (to == 1) = false := by simp; omega
  have d7 : (to == 7) = false := by simp; omega
  have d8 : (to == 8) = false := by simp; omega
  have d9 : (to == 9) = false := by simp; omega
  have H := hide h
  clear h
  go_enter Try.func49, Try.ntmps49
  go_wp2_with fail
  refine (nearInt_any to H.out x hx _).mono ?_
  rintro e w1 ⟨n, rfl, hn, x1⟩
  have Hn := hide hn
  clear hn
  have z0 := x1.box (b := w.heap.size) (o := 0) (v := .int .i64 0) (by simp)
  have z1 := x1.box (b := w.heap.size) (o := 1) (v := .float .f64 0) (by simp)
  have z2 := x1.box (b := w.heap.size) (o := 2) (v := .float .f64 0) (by simp)
  have zf : ∀ o, w1.frozen? ⟨w.heap.size, o, none⟩ = false := fun o => (x1.fz _).trans (((Ext.refl w).alloc _ _).unfrozen (Nat.le_refl _) o)
  go_wp2
  exact bodyPost_ret (v := .agg #[.int .i64 (max (lowL to) (min (highL to) n)), .float .f64 0, .float .f64 0]) (by simp [results, Try.results49, go_sem, z0, z1, z2]) rfl ⟨_, _, rfl, Or.inr (Or.inr (Or.inr ⟨H.out, rfl, n, Hn.out, rfl⟩)), by repeat (first | with_reducible exact Ext.refl _ | with_reducible refine Ext.setCell ?_ (by simp; try omega) _ | with_reducible apply Ext.drewN | with_reducible apply Ext.drew | with_reducible apply Ext.alloc | refine Ext.trans ?_ (by assumption))⟩
end Go.Proofs.Ythaajmkfeniofaa
