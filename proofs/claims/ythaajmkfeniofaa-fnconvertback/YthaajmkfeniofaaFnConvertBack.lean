import Derived.Test.YthaajmkfeniofaaRows
import Derived.Test.YthaajmkfeniofaaOpenCode
import Derived.Test.YthaajmkfeniofaaConvX
import Derived.WalkKit
import Derived.ProofKit
import Derived.OpenShut
namespace Go.Proofs.Ythaajmkfeniofaa.fnConvertBack
open Go.ChangeShapes Go.WideShapes Go.ChangeAt Go.RowKit FL
set_option linter.unusedVariables false
set_option linter.unusedSimpArgs false

set_option maxRecDepth 100000 in
set_option maxHeartbeats 1000000 in
theorem long (w : World) (sa : Option Addr) (len cap : Nat) (hlen : (1048576 : Int) < (len : Int)) :
    Calls Try.prog 10 #[.slice sa len cap] w fun e w' => LawOk w e w' := by
  go_enter Try.func10, Try.ntmps10
  go_wp2_with fail
  go_wp2
  go_ret
  exact ⟨rfl, Below.refl _ _⟩

theorem walk (w : World) (sa : Option Addr) (len cap : Nat) (hcode : Code w (.slice sa len cap) len) :
    Calls Try.prog 10 #[.slice sa len cap] w fun e w' => LawOk w e w' := by
  by_cases h : (1048576 : Int) < (len : Int)
  · exact long w sa len cap h
  · exact conv_law w sa len cap hcode h

set_option maxRecDepth 100000 in
theorem lifted (os : Os) (started : os.Started) (H : Type) (enc : TypeId × Value → H) :
    ReturnsInHanded {} Try.checked os 10 .any (Rows.fnConvertBackSpec.pre6 enc Try.prog Try.f10 Rows.fnConvertBackRow.domain false) (Rows.fnConvertBackSpec.post enc Try.prog Try.f10 false true false false) := by
  refine returnsInHanded_of_change (C := Try.checked) own started (by kernel_rfl) Try.func10
    (ChangeSpec.witness6 (enc := enc) (C := Try.checked) false ⟨#[], #[.slice none 0 0], []⟩ 8 (by kernel_rfl) (by kernel_rfl) (by kernel_rfl) (by kernel_rfl)) ?_
  intro W base args ds gs before hval0 hW hcnd _
  have hval : ∀ (j : Nat) t v, Try.f10.params[j]? = some t → args[j]? = some v → Value.okWide Try.prog W .any base t v := hval0
  have hW' := hW
  obtain ⟨p, q, hA0, hV, rfl, hfz, hnd⟩ := hW
  have hA : DataW.TrodAll enc Try.prog W 0 (fun _ => true) true Try.f10.params.toList args.toList ds p := hA0
  rw [Try.params10] at hA hval
  obtain ⟨v0, vs0, d0, ds0, p0, q0, hargs, rfl, rfl, h0, r0⟩ := trodAll_cons hA
  obtain ⟨rfl, rfl, rfl⟩ := trodAll_nil r0
  obtain rfl : args = #[v0] := by cases args; simp_all
  obtain ⟨rfl, rfl⟩ := trodVars_none hV
  obtain ⟨sa, len, cap, rfl, hcode⟩ := code_of (hval 0 41 v0 rfl rfl) h0
  clear hA0 hval0
  simp only [List.append_nil] at hW'
  have hlt : ∀ x ∈ p0, x.block < W.heap.size := fun x hx => by simpa using hW'.lt x hx
  refine (walk W sa len cap hcode).mono fun e W' hL => ?_
  obtain ⟨rfl, hB⟩ : e = .returned (.bool true) ∧ Below W.heap.size W W' := hL
  refine ⟨_, rfl, _, _, _, [], p0, [], hW', ?_, ?_, ?_, hB.frame _, fun h => by cases h⟩
  · exact trodAll_cons_mk (shut_bool Try.underlying4 _) trodAll_mk0
  · exact trodAll_mk1 (Below.trod laid (by kernel_rfl) (of_decide_eq_true (by kernel_rfl)) h0 hB hlt)
  · rfl

theorem over : Rows.fnConvertBackRow.holds Try.pinned (OpenSpec.ofChange Rows.fnConvertBackSpec) :=
  OpenClaim.holds_of_wide 10 Try.f10 rfl rfl rfl rfl rfl rfl rfl ⟨rfl, rfl, rfl, rfl, rfl⟩ rfl rfl rfl rfl rfl (by kernel_rfl) Try.func10 (by kernel_rfl)
    (of_decide_eq_true (by kernel_rfl)) (by unfold Func.isWrapper; first | (rw [if_pos (by decide +kernel)]; kernel_rfl) | (rw [if_neg (by decide +kernel)]; exact ⟨rfl, rfl⟩))
    (fun os started H enc _ => lifted os started H enc)
end Go.Proofs.Ythaajmkfeniofaa.fnConvertBack
namespace Go.Proofs.Ythaajmkfeniofaa
theorem fnConvertBack_holds : Rows.FnConvertBackSaid := fnConvertBack.over
end Go.Proofs.Ythaajmkfeniofaa
