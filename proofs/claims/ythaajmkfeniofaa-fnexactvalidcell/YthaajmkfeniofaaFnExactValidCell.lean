import Derived.Test.YthaajmkfeniofaaRows
import Derived.Test.YthaajmkfeniofaaOpen
import Derived.WalkKit
import Derived.ProofKit
import Derived.OpenShut
namespace Go.Proofs.Ythaajmkfeniofaa.fnExactValidCell
open Go.ChangeShapes Go.WideShapes Go.ChangeAt Go.RowKit FL
set_option linter.unusedVariables false
set_option linter.unusedSimpArgs false

set_option maxHeartbeats 1000000 in
theorem walk (a0 : Int) (w0 : (Lit.int .i64 a0).wf = true) (i1 : Int) (f1 g1 : Nat) (wi1 : I64 i1) (wf1 : B64 f1) (wg1 : B64 g1) (w : World) :
    Calls Try.prog 5 #[.int .i64 a0, .agg #[.int .i64 i1, .float .f64 f1, .float .f64 g1]] w fun e w' => e = .returned (.bool true) ∧ Ext w w' := by
  go_enter Try.func5, Try.ntmps5
  go_wp2_with fail
  refine (toCell_any _ _ _ _).mono ?_
  rintro e w1 ⟨rfl, x1⟩
  have k10 := x1.box (b := w.heap.size) (o := 0) (v := .int .i64 i1) (by first | assumption | simp)
  have k11 := x1.box (b := w.heap.size) (o := 1) (v := .float .f64 f1) (by first | assumption | simp)
  have k12 := x1.box (b := w.heap.size) (o := 2) (v := .float .f64 g1) (by first | assumption | simp)
  go_wp2_with fail
  refine (sValid_any _ _ _ _ wf1 wg1 _).mono ?_
  rintro e w2 ⟨rfl, x2⟩
  have k20 := x2.box (b := w.heap.size) (o := 0) (v := .int .i64 i1) (by first | assumption | simp)
  have k21 := x2.box (b := w.heap.size) (o := 1) (v := .float .f64 f1) (by first | assumption | simp)
  have k22 := x2.box (b := w.heap.size) (o := 2) (v := .float .f64 g1) (by first | assumption | simp)
  go_wp2_with fail
  refine (toCell_any _ _ _ _).mono ?_
  rintro e w3 ⟨rfl, x3⟩
  go_wp2_with fail
  refine (iValid_any _ _ _ _ wi1 wf1 wg1 _).mono ?_
  rintro e w4 ⟨rfl, x4⟩
  go_wp2
  go_ret
  exact ⟨rfl, ((((Ext.refl w).alloc _ _).trans x1).trans x2).trans (x3.trans x4)⟩

set_option maxRecDepth 100000 in
theorem lifted (os : Os) (started : os.Started) (H : Type) (enc : TypeId × Value → H) :
    ReturnsInHanded {} Try.checked os 5 .any (Rows.fnExactValidCellSpec.pre6 enc Try.prog Try.f5 Rows.fnExactValidCellRow.domain false) (Rows.fnExactValidCellSpec.post enc Try.prog Try.f5 false true false false) := by
  refine returnsInHanded_of_change (C := Try.checked) own started (by kernel_rfl) Try.func5
    (ChangeSpec.witness6 (enc := enc) (C := Try.checked) false ⟨#[], #[.int .i64 0, .agg #[.int .i64 0, .float .f64 0, .float .f64 0]], []⟩ 8 (by kernel_rfl) (by kernel_rfl) (by kernel_rfl) (by kernel_rfl)) ?_
  intro W base args ds gs before hval0 hW hcnd _
  have hval : ∀ (j : Nat) t v, Try.f5.params[j]? = some t → args[j]? = some v → Value.okWide Try.prog W .any base t v := hval0
  have hW' := hW
  obtain ⟨p, q, hA0, hV, rfl, hfz, hnd⟩ := hW
  have hA : DataW.TrodAll enc Try.prog W 0 (fun _ => true) true Try.f5.params.toList args.toList ds p := hA0
  rw [Try.params5] at hA hval
  obtain ⟨v0, vs0, d0, ds0, p0, q0, hargs, rfl, rfl, h0, r0⟩ := trodAll_cons hA
  obtain ⟨v1, vs1, d1, ds1, p1, q1, rfl, rfl, rfl, h1, r1⟩ := trodAll_cons r0
  obtain ⟨rfl, rfl, rfl⟩ := trodAll_nil r1
  obtain rfl : args = #[v0, v1] := by cases args; simp_all
  obtain ⟨rfl, rfl⟩ := trodVars_none hV
  obtain ⟨a0, rfl, rfl, rfl, w0⟩ := open_int Try.underlying2 (hval 0 2 v0 rfl rfl) h0
  obtain ⟨i1, f1, g1, rfl, rfl, rfl, wi1, wf1, wg1⟩ := open_cell (hval 1 27 v1 rfl rfl) h1
  clear hA0 hval0
  simp only [List.append_nil] at hW'
  refine (walk a0 w0 i1 f1 g1 (wf_I64 wi1) (wf_B64 wf1) (wf_B64 wg1) W).mono fun e W' ⟨he, hg⟩ => ?_
  subst he
  exact ⟨_, rfl, post_of_same (pa := []) (pv := []) hW' (fun _ _ _ => (trodAll_cons_mk (shut_bool Try.underlying4 _) trodAll_mk0)) (fun sp _ => (trodAll_cons_mk (shut_int Try.underlying2 w0) (trodAll_cons_mk (shut_cell wi1 wf1 wg1) trodAll_mk0))) (fun _ _ => rfl) rfl
    (hg.bl.frame _) hg.fz (ok_one (by kernel_rfl) rfl (okWide_bool_mk Try.underlying4 _))⟩

theorem over : Rows.fnExactValidCellRow.holds Try.pinned (OpenSpec.ofChange Rows.fnExactValidCellSpec) :=
  OpenClaim.holds_of_wide 5 Try.f5 rfl rfl rfl rfl rfl rfl rfl ⟨rfl, rfl, rfl, rfl, rfl⟩ rfl rfl rfl rfl rfl (by kernel_rfl) Try.func5 (by kernel_rfl)
    (of_decide_eq_true (by kernel_rfl)) (by unfold Func.isWrapper; first | (rw [if_pos (by decide +kernel)]; kernel_rfl) | (rw [if_neg (by decide +kernel)]; exact ⟨rfl, rfl⟩))
    (fun os started H enc _ => lifted os started H enc)
end Go.Proofs.Ythaajmkfeniofaa.fnExactValidCell
namespace Go.Proofs.Ythaajmkfeniofaa
theorem fnExactValidCell_holds : Rows.FnExactValidCellSaid := fnExactValidCell.over
end Go.Proofs.Ythaajmkfeniofaa
