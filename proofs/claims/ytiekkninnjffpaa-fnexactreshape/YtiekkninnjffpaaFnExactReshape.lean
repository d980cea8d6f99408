import Derived.Test.YtiekkninnjffpaaFrameP
import Derived.Test.YtiekkninnjffpaaLawRS
namespace Go.Proofs.Ytiekkninnjffpaa.fnExactReshape
open Go.ChangeShapes Go.WideShapes Go.ChangeAt Go.RowKit
set_option linter.unusedVariables false
set_option linter.unusedSimpArgs false

set_option maxRecDepth 100000 in
set_option maxHeartbeats 1000000 in
theorem long (w : World) (sa sb sc : Option Addr) (la ca lb cb lc cc : Nat) (off : Int) (hlen : (1048576 : Int) < (lc : Int)) :
    Calls Try.prog 10 #[.agg #[.slice sa la ca, .slice sb lb cb, .int .i64 off], .slice sc lc cc] w fun e w' => LawOk w e w' := by
  have x0 : Ext w (w.alloc (.cells #[.slice sa la ca, .slice sb lb cb, .int .i64 off] 24)) := (Ext.refl w).alloc _ _
  have X0 := hide x0
  clear x0
  go_enter Try.func10, Try.ntmps10
  go_wp2_with fail
  go_wp2
  go_ret
  exact ⟨rfl, X0.out.bl⟩

theorem walk (w : World) (vS vT vP : Value) (off : Int) (xs ss ys : List Int) (hS : Ints w vS xs) (hT : Ints w vT ss) (hP : Ints w vP ys) (lx : xs.length ≤ 9223372036854775807) (ls : ss.length ≤ 9223372036854775807) :
    Calls Try.prog 10 #[.agg #[vS, vT, .int .i64 off], vP] w fun e w' => LawOk w e w' := by
  by_cases h1 : (1048576 : Int) < (ys.length : Int)
  · obtain ⟨sa, ca, rfl, _⟩ := hS
    obtain ⟨sb, cb, rfl, _⟩ := hT
    obtain ⟨sc, cc, rfl, _⟩ := hP
    exact long w sa sb sc _ ca _ cb _ cc off h1
  exact lawRS w vS vT vP off xs ss ys hS hT hP lx ls (by omega)

set_option maxRecDepth 100000 in
theorem lifted (os : Os) (started : os.Started) (H : Type) (enc : TypeId × Value → H) :
    ReturnsInHanded {} Try.checked os 10 .any (Rows.fnExactReshapeSpec.pre6 enc Try.prog Try.f10 Rows.fnExactReshapeRow.domain false) (Rows.fnExactReshapeSpec.post enc Try.prog Try.f10 false true false false) := by
  refine returnsInHanded_of_change (C := Try.checked) ownK started (by kernel_rfl) Try.func10
    (ChangeSpec.witness6 (enc := enc) (C := Try.checked) false ⟨#[], #[.agg #[.slice none 0 0, .slice none 0 0, .int .i64 0], .slice none 0 0], []⟩ 8 (by kernel_rfl) (by kernel_rfl) (by kernel_rfl) (by kernel_rfl)) ?_
  intro W base args ds gs before hval0 hW hcnd _
  have hval : ∀ (j : Nat) t v, Try.f10.params[j]? = some t → args[j]? = some v → Value.okWide Try.prog W .any base t v := hval0
  have hW' := hW
  obtain ⟨p, q, hA0, hV, rfl, hfz, hnd⟩ := hW
  have hA : DataW.TrodAll enc Try.prog W 0 (fun _ => true) true Try.f10.params.toList args.toList ds p := hA0
  rw [Try.params10] at hA hval
  obtain ⟨v0, vs0, d0, ds0, p0, q0, hargs, rfl, rfl, h0, r0⟩ := trodAll_cons hA
  obtain ⟨v1, vs1, d1, ds1, p1, q1, rfl, rfl, rfl, h1, r1⟩ := trodAll_cons r0
  obtain ⟨rfl, rfl, rfl⟩ := trodAll_nil r1
  obtain rfl : args = #[v0, v1] := by cases args; simp_all
  obtain ⟨rfl, rfl⟩ := trodVars_none hV
  obtain ⟨vS, vT, off, xs, ss, rfl, hx, hs, lx, ls, _⟩ := view_of (hval 0 24 v0 rfl rfl) h0
  obtain ⟨ys, hy, _⟩ := ints_arg (hval 1 22 v1 rfl rfl) h1
  clear hA0 hval0
  simp only [List.append_nil] at hW'
  have hlt : ∀ x ∈ p0 ++ p1, x.block < W.heap.size := fun x hx => by simpa using hW'.lt x hx
  have hlt0 : ∀ x ∈ p0, x.block < W.heap.size := fun x hx => hlt x (List.mem_append_left _ hx)
  have hlt1 : ∀ x ∈ p1, x.block < W.heap.size := fun x hx => hlt x (List.mem_append_right _ hx)
  refine (walk W vS vT v1 off xs ss ys hx hs hy lx ls).mono fun e W' hL => ?_
  obtain ⟨rfl, hB⟩ : e = .returned (.bool true) ∧ Below W.heap.size W W' := hL
  refine ⟨_, rfl, _, _, _, [], p0 ++ p1, [], hW', ?_, ?_, ?_, hB.frame _, fun h => by cases h⟩
  · exact trodAll_cons_mk (shut_bool Try.underlying4 _) trodAll_mk0
  · have a0 := Below.trod laidOut (by kernel_rfl) (of_decide_eq_true (by kernel_rfl)) h0 hB hlt0
    have a1 := Below.trod laidOut (by kernel_rfl) (of_decide_eq_true (by kernel_rfl)) h1 hB hlt1
    exact trodAll_mk2 a0 a1
  · rfl

theorem over : Rows.fnExactReshapeRow.holds Try.pinned (OpenSpec.ofChange Rows.fnExactReshapeSpec) :=
  OpenClaim.holds_of_wide 10 Try.f10 rfl rfl rfl rfl rfl rfl rfl ⟨rfl, rfl, rfl, rfl, rfl⟩ rfl rfl rfl rfl rfl (by kernel_rfl) Try.func10 (by kernel_rfl)
    (of_decide_eq_true (by kernel_rfl)) (by unfold Func.isWrapper; first | (rw [if_pos (by decide +kernel)]; kernel_rfl) | (rw [if_neg (by decide +kernel)]; exact ⟨rfl, rfl⟩))
    (fun os started H enc _ => lifted os started H enc)
end Go.Proofs.Ytiekkninnjffpaa.fnExactReshape
namespace Go.Proofs.Ytiekkninnjffpaa
theorem fnExactReshape_holds : Rows.FnExactReshapeSaid := fnExactReshape.over
end Go.Proofs.Ytiekkninnjffpaa
