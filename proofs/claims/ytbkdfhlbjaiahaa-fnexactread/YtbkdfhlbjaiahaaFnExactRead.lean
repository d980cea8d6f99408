import Derived.Test.YtbkdfhlbjaiahaaRows
import Derived.Test.YtbkdfhlbjaiahaaM1
import Derived.Test.YtbkdfhlbjaiahaaM5
namespace Go.Proofs.Ytbkdfhlbjaiahaa.fnExactRead
open Go.ChangeShapes Go.WideShapes Go.ChangeAt Go.RowKit Go.Deep FL
set_option linter.unusedVariables false
set_option linter.unusedSimpArgs false

set_option maxRecDepth 100000 in
theorem lifted (os : Os) (started : os.Started) (H : Type) (enc : TypeId × Value → H) :
    ReturnsInHanded {} Try.checked os 5 .any (Rows.fnExactReadSpec.pre6 enc Try.prog Try.f5 Rows.fnExactReadRow.domain false) (Rows.fnExactReadSpec.post enc Try.prog Try.f5 false true false false) := by
  refine returnsInHanded_of_change (C := Try.checked) ownK started (by kernel_rfl) Try.func5
    (ChangeSpec.witness6 (enc := enc) (C := Try.checked) false ⟨#[], #[.agg #[.slice none 0 0], .agg #[.int .i64 0, .slice none 0 0, .slice none 0 0, .int .i64 0]], []⟩ 8 (by kernel_rfl) (by kernel_rfl) (by kernel_rfl) (by kernel_rfl)) ?_
  intro W base args ds gs before hval0 hW hcnd _
  have hval : ∀ (j : Nat) t v, Try.f5.params[j]? = some t → args[j]? = some v → Value.okWide Try.prog W .any base t v := hval0
  have hW' := hW
  obtain ⟨p, q, hA0, hV, rfl, hfz, hnd⟩ := hW
  have hA : DataW.TrodAll enc Try.prog W 0 (fun _ => true) true Try.f5.params.toList args.toList ds p := hA0
  rw [Try.params5] at hA hval
  obtain ⟨v0, vs0, d0, ds0, p0', q0, hargs, rfl, rfl, h0, r0⟩ := trodAll_cons hA
  obtain ⟨v1, vs1, d1, ds1, p1', q1, rfl, rfl, rfl, h1, r1⟩ := trodAll_cons r0
  obtain ⟨rfl, rfl, rfl⟩ := trodAll_nil r1
  obtain rfl : args = #[v0, v1] := by cases args; simp_all
  obtain ⟨rfl, rfl⟩ := trodVars_none hV
  obtain ⟨u, ss, rfl, hs, hb, hg⟩ := heap_of (hval 0 24 v0 rfl rfl) h0
  obtain ⟨st, vS, vT, off, xs, sv, rfl, hx, ht, lx, ls⟩ := array_of (hval 1 37 v1 rfl rfl) h1
  clear hA0 hval0
  simp only [List.append_nil] at hW'
  have hlt0 : ∀ x ∈ p0', x.block < W.heap.size := fun x hx => hW'.lt x (by simp [hx])
  have hlt1 : ∀ x ∈ p1', x.block < W.heap.size := fun x hx => hW'.lt x (by simp [hx])
  refine (lawRd W u vS vT ss st xs sv off hs hb hg hx ht lx ls).mono fun e W' hL => ?_
  obtain ⟨rfl, hB⟩ : e = .returned (.bool true) ∧ Below W.heap.size W W' := hL
  refine ⟨_, rfl, _, _, _, [], p0' ++ p1', [], hW', ?_, ?_, ?_, hB.frame _, fun h => by cases h⟩
  · exact trodAll_cons_mk (shut_bool Try.underlying4 _) trodAll_mk0
  · have t0 := Below.trod laidOut (by kernel_rfl) (of_decide_eq_true (by kernel_rfl)) h0 hB hlt0
    have t1 := Below.trod laidOut (by kernel_rfl) (of_decide_eq_true (by kernel_rfl)) h1 hB hlt1
    have := trodAll_cons_mk t0 (trodAll_cons_mk t1 trodAll_mk0)
    simp only [List.append_nil] at this
    exact this
  · rfl

theorem over : Rows.fnExactReadRow.holds Try.pinned (OpenSpec.ofChange Rows.fnExactReadSpec) :=
  OpenClaim.holds_of_wide 5 Try.f5 rfl rfl rfl rfl rfl rfl rfl ⟨rfl, rfl, rfl, rfl, rfl⟩ rfl rfl rfl rfl rfl (by kernel_rfl) Try.func5 (by kernel_rfl)
    (of_decide_eq_true (by kernel_rfl)) (by unfold Func.isWrapper; first | (rw [if_pos (by decide +kernel)]; kernel_rfl) | (rw [if_neg (by decide +kernel)]; exact ⟨rfl, rfl⟩))
    (fun os started H enc _ => lifted os started H enc)
end Go.Proofs.Ytbkdfhlbjaiahaa.fnExactRead
namespace Go.Proofs.Ytbkdfhlbjaiahaa
theorem fnExactRead_holds : Rows.FnExactReadSaid := fnExactRead.over
end Go.Proofs.Ytbkdfhlbjaiahaa
