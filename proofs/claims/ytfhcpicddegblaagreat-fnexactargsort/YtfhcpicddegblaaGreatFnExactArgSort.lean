import Derived.Test.YtfhcpicddegblaaGreatRows
import Derived.Test.YtfhcpicddegblaaGreatM1
import Derived.Test.YtfhcpicddegblaaGreatM1
import Derived.Test.YtfhcpicddegblaaGreatFsLaw3
namespace Go.Proofs.YtfhcpicddegblaaGreat.fnExactArgSort
open Go.ChangeShapes Go.WideShapes Go.ChangeAt Go.RowKit Go.Deep FL
set_option linter.unusedVariables false
set_option linter.unusedSimpArgs false

set_option maxRecDepth 100000 in
theorem zn26 (os : Os) (started : os.Started) (H : Type) (enc : TypeId × Value → H) :
    ReturnsInHanded {} Tryz.checked os 5 .any (Rows.fnExactArgSortSpec.pre6 enc Tryz.prog Tryz.f5 Rows.fnExactArgSortRow.domain false) (Rows.fnExactArgSortSpec.post enc Tryz.prog Tryz.f5 false true false false) := by
  refine returnsInHanded_of_change (C := Tryz.checked) zi27 started (by kernel_rfl) Tryz.func5
    (ChangeSpec.witness6 (enc := enc) (C := Tryz.checked) false ⟨#[], #[.agg #[.slice none 0 0], .agg #[.int .i64 0, .slice none 0 0, .slice none 0 0, .int .i64 0], .int .i64 0, .agg #[.int .i64 0, .slice none 0 0, .slice none 0 0, .int .i64 0]], []⟩ 8 (by kernel_rfl) (by kernel_rfl) (by kernel_rfl) (by kernel_rfl)) ?_
  intro W base args ds gs before hval0 hW hcnd _
  have hval : ∀ (j : Nat) t v, Tryz.f5.params[j]? = some t → args[j]? = some v → Value.okWide Tryz.prog W .any base t v := hval0
  have hW' := hW
  obtain ⟨p, q, hA0, hV, rfl, hfz, hnd⟩ := hW
  have hA : DataW.TrodAll enc Tryz.prog W 0 (fun _ => true) true Tryz.f5.params.toList args.toList ds p := hA0
  rw [Tryz.params5] at hA hval
  obtain ⟨v0, vs0, d0, ds0, p0', q0, hargs, rfl, rfl, h0, r0⟩ := trodAll_cons hA
  obtain ⟨v1, vs1, d1, ds1, p1', q1, rfl, rfl, rfl, h1, r1⟩ := trodAll_cons r0
  obtain ⟨v2, vs2, d2, ds2, p2', q2, rfl, rfl, rfl, h2, r2⟩ := trodAll_cons r1
  obtain ⟨v3, vs3, d3, ds3, p3', q3, rfl, rfl, rfl, h3, r3⟩ := trodAll_cons r2
  obtain ⟨rfl, rfl, rfl⟩ := trodAll_nil r3
  obtain rfl : args = #[v0, v1, v2, v3] := by cases args; simp_all
  obtain ⟨rfl, rfl⟩ := trodVars_none hV
  obtain ⟨u, ss, rfl, hs, hb, hg⟩ := zp24 (hval 0 24 v0 rfl rfl) h0
  obtain ⟨st1, vS1, vT1, off1, xs1, sv1, rfl, hx1, ht1, lx1, ls1⟩ := zx15 (hval 1 29 v1 rfl rfl) h1
  have h2' := h2
  obtain ⟨a2, rfl, rfl, rfl, w2⟩ := open_int Tryz.underlying2 (hval 2 2 v2 rfl rfl) h2'
  obtain ⟨st3, vS3, vT3, off3, xs3, sv3, rfl, hx3, ht3, lx3, ls3⟩ := zx15 (hval 3 29 v3 rfl rfl) h3
  clear hA0 hval0
  simp only [List.append_nil] at hW'
  have hlt0 : ∀ x ∈ p0', x.block < W.heap.size := fun x hx => hW'.lt x (by simp [hx])
  have hlt1 : ∀ x ∈ p1', x.block < W.heap.size := fun x hx => hW'.lt x (by simp [hx])
  have hlt3 : ∀ x ∈ p3', x.block < W.heap.size := fun x hx => hW'.lt x (by simp [hx])
  refine (zf27 W u vS1 vT1 vS3 vT3 ss ⟨st1, xs1, sv1, off1⟩ ⟨st3, xs3, sv3, off3⟩ a2 hs hb hg hx1 ht1 hx3 ht3 lx1 ls1 lx3 ls3).mono fun e W' hL => ?_
  obtain ⟨rfl, hB⟩ : e = .returned (.bool true) ∧ Below W.heap.size W W' := hL
  refine ⟨_, rfl, _, _, _, [], p0' ++ (p1' ++ p3'), [], hW', ?_, ?_, ?_, hB.frame _, fun h => by cases h⟩
  · exact trodAll_cons_mk (shut_bool Tryz.underlying4 _) trodAll_mk0
  · have t0 := Below.trod zx9 (by kernel_rfl) (of_decide_eq_true (by kernel_rfl)) h0 hB hlt0
    have t1 := Below.trod zx9 (by kernel_rfl) (of_decide_eq_true (by kernel_rfl)) h1 hB hlt1
    have t2 := Below.trod zx9 (by kernel_rfl) (of_decide_eq_true (by kernel_rfl)) h2 hB (fun x hx => by simp at hx)
    have t3 := Below.trod zx9 (by kernel_rfl) (of_decide_eq_true (by kernel_rfl)) h3 hB hlt3
    have := trodAll_cons_mk t0 (trodAll_cons_mk t1 (trodAll_cons_mk t2 (trodAll_cons_mk t3 trodAll_mk0)))
    simp only [List.append_nil, List.nil_append] at this
    exact this
  · rfl

theorem over : Rows.fnExactArgSortRow.holds Tryz.pinned (OpenSpec.ofChange Rows.fnExactArgSortSpec) :=
  OpenClaim.holds_of_wide 5 Tryz.f5 rfl rfl rfl rfl rfl rfl rfl ⟨rfl, rfl, rfl, rfl, rfl⟩ rfl rfl rfl rfl rfl (by kernel_rfl) Tryz.func5 (by kernel_rfl)
    (of_decide_eq_true (by kernel_rfl)) (by unfold Func.isWrapper; first | (rw [if_pos (by decide +kernel)]; kernel_rfl) | (rw [if_neg (by decide +kernel)]; exact ⟨rfl, rfl⟩))
    (fun os started H enc _ => zn26 os started H enc)
end Go.Proofs.YtfhcpicddegblaaGreat.fnExactArgSort
namespace Go.Proofs.YtfhcpicddegblaaGreat
theorem fnExactArgSort_holds : Rows.FnExactArgSortSaid := fnExactArgSort.over
end Go.Proofs.YtfhcpicddegblaaGreat
