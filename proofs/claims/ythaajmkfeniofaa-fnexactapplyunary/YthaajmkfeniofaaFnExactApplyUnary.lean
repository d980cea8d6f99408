import Derived.Test.YthaajmkfeniofaaRows
import Derived.Test.YthaajmkfeniofaaOpen
import Derived.Test.YthaajmkfeniofaaBefore
import Derived.Test.YthaajmkfeniofaaUnary4
import Derived.WalkKit
import Derived.ProofKit
import Derived.OpenShut
namespace Go.Proofs.Ythaajmkfeniofaa.fnExactApplyUnary
open Go.ChangeShapes Go.WideShapes Go.ChangeAt Go.RowKit FL
set_option linter.unusedVariables false
set_option linter.unusedSimpArgs false

set_option maxHeartbeats 1000000 in
theorem walk_of (a0 a1 i2 : Int) (f2 g2 : Nat) (c d I : Int) (F G : Nat) (hF : B64 F) (hG : B64 G)
    (hs : ∀ w, Calls Try.prog 24 #[.int .i64 a0, .int .i64 a1, .agg #[.int .i64 i2, .float .f64 f2, .float .f64 g2]] w fun e w' => ∃ f' g', e = .returned (.agg #[.int .i64 c, .int .i64 d, .int .i64 I, .float .f64 f', .float .f64 g']) ∧ (sameB f' F = true ∧ sameB g' G = true ∧ B64 f' ∧ B64 g') ∧ Ext w w')
    (hI : ∀ w, Calls Try.prog 25 #[.int .i64 a0, .int .i64 a1, .agg #[.int .i64 i2, .float .f64 f2, .float .f64 g2]] w fun e w' => e = .returned (.agg #[.int .i64 c, .int .i64 d, .int .i64 I, .float .f64 F, .float .f64 G]) ∧ Ext w w') (w : World) :
    Calls Try.prog 8 #[.int .i64 a0, .int .i64 a1, .agg #[.int .i64 i2, .float .f64 f2, .float .f64 g2]] w fun e w' => e = .returned (.bool true) ∧ Ext w w' := by
  have Hs := hide hs
  have Hi := hide hI
  clear hs hI
  go_enter Try.func8, Try.ntmps8
  go_wp2_with fail
  refine (toCell_any _ _ _ _).mono ?_
  rintro e w1 ⟨rfl, x1⟩
  have k10 := x1.box (b := w.heap.size) (o := 0) (v := .int .i64 i2) (by first | assumption | simp)
  have k11 := x1.box (b := w.heap.size) (o := 1) (v := .float .f64 f2) (by first | assumption | simp)
  have k12 := x1.box (b := w.heap.size) (o := 2) (v := .float .f64 g2) (by first | assumption | simp)
  go_wp2_with fail
  refine (Hs.out _).mono ?_
  rintro e w2 ⟨f', g', rfl, ⟨sf, sg, bf, bg⟩, x2⟩
  have k20 := x2.box (b := w.heap.size) (o := 0) (v := .int .i64 i2) (by first | assumption | simp)
  have k21 := x2.box (b := w.heap.size) (o := 1) (v := .float .f64 f2) (by first | assumption | simp)
  have k22 := x2.box (b := w.heap.size) (o := 2) (v := .float .f64 g2) (by first | assumption | simp)
  have hz2 : w.heap.size < w2.heap.size := by
    have h1 : w.heap.size + 1 ≤ w1.heap.size := by simpa using x1.bl.size
    have h2 := x2.bl.size
    omega
  go_wp2_with fail
  refine (toCell_any _ _ _ _).mono ?_
  rintro e w3 ⟨rfl, x3⟩
  have q0 := x3.box (b := w2.heap.size) (o := 0) (v := .int .i64 c) (by first | assumption | simp)
  have q1 := x3.box (b := w2.heap.size) (o := 1) (v := .int .i64 d) (by first | assumption | simp)
  have q2 := x3.box (b := w2.heap.size) (o := 2) (v := .int .i64 I) (by first | assumption | simp)
  have q3 := x3.box (b := w2.heap.size) (o := 3) (v := .float .f64 f') (by first | assumption | simp)
  have q4 := x3.box (b := w2.heap.size) (o := 4) (v := .float .f64 g') (by first | assumption | simp)
  have hz3 : w2.heap.size < w3.heap.size := by
    have h1 : w2.heap.size + 1 ≤ w3.heap.size := by simpa using x3.bl.size
    omega
  go_wp2_with fail
  refine (Hi.out _).mono ?_
  rintro e w4 ⟨rfl, x4⟩
  have r0 := x4.box q0
  have r1 := x4.box q1
  have r2 := x4.box q2
  have r3 := x4.box q3
  have r4 := x4.box q4
  have hz4 : w2.heap.size < w4.heap.size := by
    have h2 := x4.bl.size
    omega
  go_wp2_with fail
  refine (eqApplied_true _ _ _ _ _ _ _ hF hG bf bg (same_symm sf) (same_symm sg) _).mono ?_
  rintro e w5 ⟨rfl, x5⟩
  go_wp2
  go_ret
  exact ⟨rfl, by repeat (first | with_reducible exact Ext.refl _ | with_reducible refine Ext.setCell ?_ (by simp; try omega) _ | with_reducible apply Ext.drewN | with_reducible apply Ext.drew | with_reducible apply Ext.alloc | refine Ext.trans ?_ (by assumption))⟩

theorem B64_rF (op dt : Int) (f : Nat) (h : B64 f) : B64 (rF op dt f) := by
  unfold rF unF
  have h1 := flip_lt f h
  have h2 : B64 (absF f) := by unfold B64 absF at *; omega
  have h3 := B64_0
  repeat' split
  all_goals assumption
theorem B64_rG (op dt : Int) (f : Nat) (h : B64 f) : B64 (rG op dt f) := by
  unfold rG
  have h1 := flip_lt f h
  have h3 := B64_0
  repeat' split
  all_goals assumption

set_option maxHeartbeats 1000000 in
theorem walk (a0 : Int) (w0 : (Lit.int .i64 a0).wf = true) (a1 : Int) (w1 : (Lit.int .i64 a1).wf = true) (i2 : Int) (f2 g2 : Nat) (wi2 : I64 i2) (wf2 : B64 f2) (wg2 : B64 g2) (w : World) :
    Calls Try.prog 8 #[.int .i64 a0, .int .i64 a1, .agg #[.int .i64 i2, .float .f64 f2, .float .f64 g2]] w fun e w' => e = .returned (.bool true) ∧ Ext w w' := by
  by_cases ho : 1 ≤ a0 ∧ a0 ≤ 4
  · cases hfit : fitU a0 a1
    · cases hd : isDtB a1
      · exact walk_of a0 a1 i2 f2 g2 4 0 0 0 0 B64_0 B64_0 (fun w => (sAU_e4a a0 a1 i2 f2 g2 ho hd w).mono (by rintro e w' ⟨rfl, x⟩; exact ⟨0, 0, rfl, ⟨same_self _, same_self _, B64_0, B64_0⟩, x⟩)) (fun w => iAU_e4 a0 a1 i2 f2 g2 ho hfit w) w
      · exact walk_of a0 a1 i2 f2 g2 4 0 0 0 0 B64_0 B64_0 (fun w => (sAU_e4b a0 a1 i2 f2 g2 ho hd hfit w).mono (by rintro e w' ⟨rfl, x⟩; exact ⟨0, 0, rfl, ⟨same_self _, same_self _, B64_0, B64_0⟩, x⟩)) (fun w => iAU_e4 a0 a1 i2 f2 g2 ho hfit w) w
    · have hd : isDtB a1 = true := by
        unfold fitU at hfit
        unfold isDtB
        simp only [decide_eq_true_eq] at hfit ⊢
        exact hfit.1
      cases hv : validB a1 i2 f2 g2
      · exact walk_of a0 a1 i2 f2 g2 14 0 0 0 0 B64_0 B64_0 (fun w => (sAU_e14 a0 a1 i2 f2 g2 wf2 wg2 ho hd hfit hv w).mono (by rintro e w' ⟨rfl, x⟩; exact ⟨0, 0, rfl, ⟨same_self _, same_self _, B64_0, B64_0⟩, x⟩)) (fun w => iAU_e14 a0 a1 i2 f2 g2 wi2 wf2 wg2 ho hfit hv w) w
      · exact walk_of a0 a1 i2 f2 g2 0 a1 (rI a0 a1 i2) (rF a0 a1 f2) (rG a0 a1 g2) (B64_rF _ _ _ wf2) (B64_rG _ _ _ wg2) (fun w => sAU_ok a0 a1 i2 f2 g2 wi2 wf2 wg2 ho hfit hv w) (fun w => iAU_ok a0 a1 i2 f2 g2 wi2 wf2 wg2 ho hfit hv w) w
  · exact walk_of a0 a1 i2 f2 g2 3 0 0 0 0 B64_0 B64_0 (fun w => (sAU_e3 a0 a1 i2 f2 g2 ho w).mono (by rintro e w' ⟨rfl, x⟩; exact ⟨0, 0, rfl, ⟨same_self _, same_self _, B64_0, B64_0⟩, x⟩)) (fun w => iAU_e3 a0 a1 i2 f2 g2 ho w) w

set_option maxRecDepth 100000 in
theorem lifted (os : Os) (started : os.Started) (H : Type) (enc : TypeId × Value → H) :
    ReturnsInHanded {} Try.checked os 8 .any (Rows.fnExactApplyUnarySpec.pre6 enc Try.prog Try.f8 Rows.fnExactApplyUnaryRow.domain false) (Rows.fnExactApplyUnarySpec.post enc Try.prog Try.f8 false true false false) := by
  refine returnsInHanded_of_change (C := Try.checked) own started (by kernel_rfl) Try.func8
    (ChangeSpec.witness6 (enc := enc) (C := Try.checked) false ⟨#[], #[.int .i64 0, .int .i64 0, .agg #[.int .i64 0, .float .f64 0, .float .f64 0]], []⟩ 8 (by kernel_rfl) (by kernel_rfl) (by kernel_rfl) (by kernel_rfl)) ?_
  intro W base args ds gs before hval0 hW hcnd _
  have hval : ∀ (j : Nat) t v, Try.f8.params[j]? = some t → args[j]? = some v → Value.okWide Try.prog W .any base t v := hval0
  have hW' := hW
  obtain ⟨p, q, hA0, hV, rfl, hfz, hnd⟩ := hW
  have hA : DataW.TrodAll enc Try.prog W 0 (fun _ => true) true Try.f8.params.toList args.toList ds p := hA0
  rw [Try.params8] at hA hval
  obtain ⟨v0, vs0, d0, ds0, p0, q0, hargs, rfl, rfl, h0, r0⟩ := trodAll_cons hA
  obtain ⟨v1, vs1, d1, ds1, p1, q1, rfl, rfl, rfl, h1, r1⟩ := trodAll_cons r0
  obtain ⟨v2, vs2, d2, ds2, p2, q2, rfl, rfl, rfl, h2, r2⟩ := trodAll_cons r1
  obtain ⟨rfl, rfl, rfl⟩ := trodAll_nil r2
  obtain rfl : args = #[v0, v1, v2] := by cases args; simp_all
  obtain ⟨rfl, rfl⟩ := trodVars_none hV
  obtain ⟨a0, rfl, rfl, rfl, w0⟩ := open_int Try.underlying2 (hval 0 2 v0 rfl rfl) h0
  obtain ⟨a1, rfl, rfl, rfl, w1⟩ := open_int Try.underlying2 (hval 1 2 v1 rfl rfl) h1
  obtain ⟨i2, f2, g2, rfl, rfl, rfl, wi2, wf2, wg2⟩ := open_cell (hval 2 27 v2 rfl rfl) h2
  clear hA0 hval0
  simp only [List.append_nil] at hW'
  refine (walk a0 w0 a1 w1 i2 f2 g2 (wf_I64 wi2) (wf_B64 wf2) (wf_B64 wg2) W).mono fun e W' ⟨he, hg⟩ => ?_
  subst he
  exact ⟨_, rfl, post_of_same (pa := []) (pv := []) hW' (fun _ _ _ => (trodAll_cons_mk (shut_bool Try.underlying4 _) trodAll_mk0)) (fun sp _ => (trodAll_cons_mk (shut_int Try.underlying2 w0) (trodAll_cons_mk (shut_int Try.underlying2 w1) (trodAll_cons_mk (shut_cell wi2 wf2 wg2) trodAll_mk0)))) (fun _ _ => rfl) rfl
    (hg.bl.frame _) hg.fz (ok_one (by kernel_rfl) rfl (okWide_bool_mk Try.underlying4 _))⟩

theorem over : Rows.fnExactApplyUnaryRow.holds Try.pinned (OpenSpec.ofChange Rows.fnExactApplyUnarySpec) :=
  OpenClaim.holds_of_wide 8 Try.f8 rfl rfl rfl rfl rfl rfl rfl ⟨rfl, rfl, rfl, rfl, rfl⟩ rfl rfl rfl rfl rfl (by kernel_rfl) Try.func8 (by kernel_rfl)
    (of_decide_eq_true (by kernel_rfl)) (by unfold Func.isWrapper; first | (rw [if_pos (by decide +kernel)]; kernel_rfl) | (rw [if_neg (by decide +kernel)]; exact ⟨rfl, rfl⟩))
    (fun os started H enc _ => lifted os started H enc)
end Go.Proofs.Ythaajmkfeniofaa.fnExactApplyUnary
namespace Go.Proofs.Ythaajmkfeniofaa
theorem fnExactApplyUnary_holds : Rows.FnExactApplyUnarySaid := fnExactApplyUnary.over
end Go.Proofs.Ythaajmkfeniofaa
