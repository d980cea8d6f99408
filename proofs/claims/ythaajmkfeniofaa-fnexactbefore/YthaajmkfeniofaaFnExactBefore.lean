import Derived.Test.YthaajmkfeniofaaRows
import Derived.Test.YthaajmkfeniofaaOpen
import Derived.Test.YthaajmkfeniofaaBefore
import Derived.WalkKit
import Derived.ProofKit
import Derived.OpenShut
namespace Go.Proofs.Ythaajmkfeniofaa.fnExactBefore
open Go.ChangeShapes Go.WideShapes Go.ChangeAt Go.RowKit FL
set_option linter.unusedVariables false
set_option linter.unusedSimpArgs false

set_option maxHeartbeats 1000000 in
theorem walk (a0 : Int) (w0 : (Lit.int .i64 a0).wf = true) (i1 : Int) (f1 g1 : Nat) (wi1 : I64 i1) (wf1 : B64 f1) (wg1 : B64 g1) (i2 : Int) (f2 g2 : Nat) (wi2 : I64 i2) (wf2 : B64 f2) (wg2 : B64 g2) (w : World) :
    Calls Try.prog 6 #[.int .i64 a0, .agg #[.int .i64 i1, .float .f64 f1, .float .f64 g1], .agg #[.int .i64 i2, .float .f64 f2, .float .f64 g2]] w fun e w' => e = .returned (.bool true) ∧ Ext w w' := by
  go_enter Try.func6, Try.ntmps6
  go_wp2_with fail
  generalize hW0 : (w.alloc (Obj.cells #[Value.int IntKind.i64 i1, Value.float FloatKind.f64 f1, Value.float FloatKind.f64 g1] 27)).alloc (Obj.cells #[Value.int IntKind.i64 i2, Value.float FloatKind.f64 f2, Value.float FloatKind.f64 g2] 27) = W0
  have x0 : Ext w W0 := by rw [← hW0]; exact ((Ext.refl w).alloc _ _).alloc _ _
  have ka0 : W0.cell? ⟨w.heap.size, 0, none⟩ = some (.int .i64 i1) := by rw [← hW0]; simp
  have ka1 : W0.cell? ⟨w.heap.size, 1, none⟩ = some (.float .f64 f1) := by rw [← hW0]; simp
  have ka2 : W0.cell? ⟨w.heap.size, 2, none⟩ = some (.float .f64 g1) := by rw [← hW0]; simp
  have kb0 : W0.cell? ⟨w.heap.size + 1, 0, none⟩ = some (.int .i64 i2) := by rw [← hW0]; simp
  have kb1 : W0.cell? ⟨w.heap.size + 1, 1, none⟩ = some (.float .f64 f2) := by rw [← hW0]; simp
  have kb2 : W0.cell? ⟨w.heap.size + 1, 2, none⟩ = some (.float .f64 g2) := by rw [← hW0]; simp
  clear hW0
  refine wp_region_quiet (C := Ext W0) (by kernel_rfl) (by kernel_rfl) ((Ext.refl W0).drew) ?_
  refine wpQuiet_step (fun K hK => ?_)
  rw [if_pos (by rfl)]
  refine ⟨.int .i64 a0, fun wq hq => ?_, ?_⟩
  · simp [go_sem]
  go_simp
  refine hK _ ?_
  clear hK K
  refine wpQuiet_step (fun K hK => ?_)
  rw [if_pos (by rfl)]
  refine ⟨(.agg #[.int .i64 i1, .float .f64 f1, .float .f64 g1]), fun wq hq => ?_, ?_⟩
  · have q0 := hq.box ka0; have q1 := hq.box ka1; have q2 := hq.box ka2; simp [go_sem, q0, q1, q2]
  go_simp
  refine hK _ ?_
  clear hK K
  refine wpQuiet_step (fun K hK => ?_)
  rw [if_pos (by rfl)]
  refine ⟨(.agg #[.int .i64 i1, .float .f64 f1, .float .f64 g1]), fun wq hq => ?_, ?_⟩
  · go_simp; refine (toCell_any _ _ _ _).mono ?_; rintro e wz ⟨rfl, xz⟩; exact ⟨rfl, hq.trans xz⟩
  go_simp
  refine hK _ ?_
  clear hK K
  refine wpQuiet_step (fun K hK => ?_)
  rw [if_pos (by rfl)]
  refine ⟨(.agg #[.int .i64 i2, .float .f64 f2, .float .f64 g2]), fun wq hq => ?_, ?_⟩
  · have q0 := hq.box kb0; have q1 := hq.box kb1; have q2 := hq.box kb2; simp [go_sem, q0, q1, q2]
  go_simp
  refine hK _ ?_
  clear hK K
  refine wpQuiet_step (fun K hK => ?_)
  rw [if_pos (by rfl)]
  refine ⟨(.agg #[.int .i64 i2, .float .f64 f2, .float .f64 g2]), fun wq hq => ?_, ?_⟩
  · go_simp; refine (toCell_any _ _ _ _).mono ?_; rintro e wz ⟨rfl, xz⟩; exact ⟨rfl, hq.trans xz⟩
  go_simp
  refine hK _ ?_
  clear hK K
  refine wpQuiet_step (fun K hK => ?_)
  rw [if_pos (by rfl)]
  refine ⟨.bool (befB a0 i1 f1 g1 i2 f2 g2), fun wq hq => ?_, ?_⟩
  · go_simp; refine (sBefore_any _ _ _ _ _ _ _ wi1 wf1 wg1 wi2 wf2 wg2 _).mono ?_; rintro e wz ⟨rfl, xz⟩; exact ⟨rfl, hq.trans xz⟩
  go_simp
  refine hK _ ?_
  clear hK K
  refine wpQuiet_step (fun K hK => ?_)
  rw [if_pos (by rfl)]
  refine ⟨.bool (befB a0 i1 f1 g1 i2 f2 g2), fun wq hq => ?_, ?_⟩
  · simp [go_sem]
  go_simp
  refine hK _ ?_
  clear hK K
  refine wpQuiet_nil ?_
  intro W1 x1
  replace ka0 := x1.box ka0
  replace ka1 := x1.box ka1
  replace ka2 := x1.box ka2
  replace kb0 := x1.box kb0
  replace kb1 := x1.box kb1
  replace kb2 := x1.box kb2
  replace x1 := x0.trans x1
  clear x0
  go_wp2_with fail
  refine wp_region_quiet (C := Ext W1) (by kernel_rfl) (by kernel_rfl) ((Ext.refl W1).drew) ?_
  refine wpQuiet_step (fun K hK => ?_)
  rw [if_pos (by rfl)]
  refine ⟨.int .i64 a0, fun wq hq => ?_, ?_⟩
  · simp [go_sem]
  go_simp
  refine hK _ ?_
  clear hK K
  refine wpQuiet_step (fun K hK => ?_)
  rw [if_pos (by rfl)]
  refine ⟨(.agg #[.int .i64 i1, .float .f64 f1, .float .f64 g1]), fun wq hq => ?_, ?_⟩
  · have q0 := hq.box ka0; have q1 := hq.box ka1; have q2 := hq.box ka2; simp [go_sem, q0, q1, q2]
  go_simp
  refine hK _ ?_
  clear hK K
  refine wpQuiet_step (fun K hK => ?_)
  rw [if_pos (by rfl)]
  refine ⟨(.agg #[.int .i64 i1, .float .f64 f1, .float .f64 g1]), fun wq hq => ?_, ?_⟩
  · go_simp; refine (toCell_any _ _ _ _).mono ?_; rintro e wz ⟨rfl, xz⟩; exact ⟨rfl, hq.trans xz⟩
  go_simp
  refine hK _ ?_
  clear hK K
  refine wpQuiet_step (fun K hK => ?_)
  rw [if_pos (by rfl)]
  refine ⟨(.agg #[.int .i64 i2, .float .f64 f2, .float .f64 g2]), fun wq hq => ?_, ?_⟩
  · have q0 := hq.box kb0; have q1 := hq.box kb1; have q2 := hq.box kb2; simp [go_sem, q0, q1, q2]
  go_simp
  refine hK _ ?_
  clear hK K
  refine wpQuiet_step (fun K hK => ?_)
  rw [if_pos (by rfl)]
  refine ⟨(.agg #[.int .i64 i2, .float .f64 f2, .float .f64 g2]), fun wq hq => ?_, ?_⟩
  · go_simp; refine (toCell_any _ _ _ _).mono ?_; rintro e wz ⟨rfl, xz⟩; exact ⟨rfl, hq.trans xz⟩
  go_simp
  refine hK _ ?_
  clear hK K
  refine wpQuiet_step (fun K hK => ?_)
  rw [if_pos (by rfl)]
  refine ⟨.bool (befB a0 i1 f1 g1 i2 f2 g2), fun wq hq => ?_, ?_⟩
  · go_simp; refine (iBefore_any _ _ _ _ _ _ _ wi1 wf1 wg1 wi2 wf2 wg2 _).mono ?_; rintro e wz ⟨rfl, xz⟩; exact ⟨rfl, hq.trans xz⟩
  go_simp
  refine hK _ ?_
  clear hK K
  refine wpQuiet_step (fun K hK => ?_)
  rw [if_pos (by rfl)]
  refine ⟨.bool (befB a0 i1 f1 g1 i2 f2 g2), fun wq hq => ?_, ?_⟩
  · simp [go_sem]
  go_simp
  refine hK _ ?_
  clear hK K
  refine wpQuiet_nil ?_
  intro W2 x2
  go_wp2
  go_ret
  exact ⟨rfl, x1.trans x2⟩

set_option maxRecDepth 100000 in
theorem lifted (os : Os) (started : os.Started) (H : Type) (enc : TypeId × Value → H) :
    ReturnsInHanded {} Try.checked os 6 .any (Rows.fnExactBeforeSpec.pre6 enc Try.prog Try.f6 Rows.fnExactBeforeRow.domain false) (Rows.fnExactBeforeSpec.post enc Try.prog Try.f6 false true false false) := by
  refine returnsInHanded_of_change (C := Try.checked) own started (by kernel_rfl) Try.func6
    (ChangeSpec.witness6 (enc := enc) (C := Try.checked) false ⟨#[], #[.int .i64 0, .agg #[.int .i64 0, .float .f64 0, .float .f64 0], .agg #[.int .i64 0, .float .f64 0, .float .f64 0]], []⟩ 8 (by kernel_rfl) (by kernel_rfl) (by kernel_rfl) (by kernel_rfl)) ?_
  intro W base args ds gs before hval0 hW hcnd _
  have hval : ∀ (j : Nat) t v, Try.f6.params[j]? = some t → args[j]? = some v → Value.okWide Try.prog W .any base t v := hval0
  have hW' := hW
  obtain ⟨p, q, hA0, hV, rfl, hfz, hnd⟩ := hW
  have hA : DataW.TrodAll enc Try.prog W 0 (fun _ => true) true Try.f6.params.toList args.toList ds p := hA0
  rw [Try.params6] at hA hval
  obtain ⟨v0, vs0, d0, ds0, p0, q0, hargs, rfl, rfl, h0, r0⟩ := trodAll_cons hA
  obtain ⟨v1, vs1, d1, ds1, p1, q1, rfl, rfl, rfl, h1, r1⟩ := trodAll_cons r0
  obtain ⟨v2, vs2, d2, ds2, p2, q2, rfl, rfl, rfl, h2, r2⟩ := trodAll_cons r1
  obtain ⟨rfl, rfl, rfl⟩ := trodAll_nil r2
  obtain rfl : args = #[v0, v1, v2] := by cases args; simp_all
  obtain ⟨rfl, rfl⟩ := trodVars_none hV
  obtain ⟨a0, rfl, rfl, rfl, w0⟩ := open_int Try.underlying2 (hval 0 2 v0 rfl rfl) h0
  obtain ⟨i1, f1, g1, rfl, rfl, rfl, wi1, wf1, wg1⟩ := open_cell (hval 1 27 v1 rfl rfl) h1
  obtain ⟨i2, f2, g2, rfl, rfl, rfl, wi2, wf2, wg2⟩ := open_cell (hval 2 27 v2 rfl rfl) h2
  clear hA0 hval0
  simp only [List.append_nil] at hW'
  refine (walk a0 w0 i1 f1 g1 (wf_I64 wi1) (wf_B64 wf1) (wf_B64 wg1) i2 f2 g2 (wf_I64 wi2) (wf_B64 wf2) (wf_B64 wg2) W).mono fun e W' ⟨he, hg⟩ => ?_
  subst he
  exact ⟨_, rfl, post_of_same (pa := []) (pv := []) hW' (fun _ _ _ => (trodAll_cons_mk (shut_bool Try.underlying4 _) trodAll_mk0)) (fun sp _ => (trodAll_cons_mk (shut_int Try.underlying2 w0) (trodAll_cons_mk (shut_cell wi1 wf1 wg1) (trodAll_cons_mk (shut_cell wi2 wf2 wg2) trodAll_mk0)))) (fun _ _ => rfl) rfl
    (hg.bl.frame _) hg.fz (ok_one (by kernel_rfl) rfl (okWide_bool_mk Try.underlying4 _))⟩

theorem over : Rows.fnExactBeforeRow.holds Try.pinned (OpenSpec.ofChange Rows.fnExactBeforeSpec) :=
  OpenClaim.holds_of_wide 6 Try.f6 rfl rfl rfl rfl rfl rfl rfl ⟨rfl, rfl, rfl, rfl, rfl⟩ rfl rfl rfl rfl rfl (by kernel_rfl) Try.func6 (by kernel_rfl)
    (of_decide_eq_true (by kernel_rfl)) (by unfold Func.isWrapper; first | (rw [if_pos (by decide +kernel)]; kernel_rfl) | (rw [if_neg (by decide +kernel)]; exact ⟨rfl, rfl⟩))
    (fun os started H enc _ => lifted os started H enc)
end Go.Proofs.Ythaajmkfeniofaa.fnExactBefore
namespace Go.Proofs.Ythaajmkfeniofaa
theorem fnExactBefore_holds : Rows.FnExactBeforeSaid := fnExactBefore.over
end Go.Proofs.Ythaajmkfeniofaa
