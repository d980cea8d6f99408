import Derived.Test.YtiekkninnjffpaaRows
import Derived.Test.YtiekkninnjffpaaLawBS
import Derived.WalkKit
import Derived.ProofKit
import Derived.OpenShut
import Derived.ChangeSlices
import Derived.Carry
namespace Go.Proofs.Ytiekkninnjffpaa
open Go.ChangeShapes Go.WideShapes Go.ChangeAt Go.RowKit
set_option linter.unusedVariables false
set_option linter.unusedSimpArgs false

theorem own : ownKnob Try.prog.godebug = none := by kernel_rfl
theorem laid : laidOutB Try.prog = true := by kernel_rfl
theorem cells2 : Try.prog.cellsOf 2 = 1 := by kernel_rfl

set_option maxRecDepth 100000 in
theorem ints_of {H : Type} {enc : TypeId × Value → H} {W : World} {b0 : Nat} {v : Value} {d : DataW H} {p : List MemPlace} (hv : Value.okWide Try.prog W .any b0 22 v)
    (h : DataW.Trod enc Try.prog W 0 (fun _ => true) true 22 v d p) : ∃ xs : List Int, Ints W v xs := by
  obtain ⟨a0, len, cap, rfl⟩ := okWide_slice Try.underlying22 hv
  obtain ⟨fuel, hf⟩ := h
  rcases open_ints Try.underlying22 Try.underlying2 cells2 hf with ⟨hcs, hx⟩ | ⟨a, len', cap', zs, hcs, _, hl, hm, hz, hx, hcell, hwz⟩
  · simp [Value.cells] at hcs
    obtain ⟨rfl, rfl, rfl⟩ := hcs
    exact ⟨[], none, 0, rfl, Or.inl rfl⟩
  · simp [Value.cells] at hcs
    obtain ⟨rfl, rfl, rfl⟩ := hcs
    simp only [if_true] at hz
    simp only [Value.okWide, Try.underlying22, Cell.okWide, Cell.ok] at hv
    obtain ⟨_, _, _, hs, row, cells, hsh, _⟩ := hv
    obtain ⟨b, off, spot⟩ := a
    simp only at hs hsh
    subst hs
    have hlen : (zs.take len).length = len := by rw [List.length_take]; omega
    refine ⟨zs.take len, some ⟨b, off, none⟩, cap, by rw [hlen], Or.inr ⟨b, off, rfl, fun j hj => ?_⟩⟩
    rw [hlen] at hj
    have ha : (⟨b, off, none⟩ : Addr).add j = ⟨b, off + j, none⟩ := by cases j <;> simp [Addr.add]
    have h1 := hcell j (by omega)
    rw [ha] at h1
    rw [h1, List.getD_eq_getElem?_getD, List.getD_eq_getElem?_getD, List.getElem?_take, if_pos hj]
end Go.Proofs.Ytiekkninnjffpaa

namespace Go.Proofs.Ytiekkninnjffpaa.fnExactBroadcastShape
open Go.ChangeShapes Go.WideShapes Go.ChangeAt Go.RowKit
set_option linter.unusedVariables false
set_option linter.unusedSimpArgs false

set_option maxRecDepth 100000 in
set_option maxHeartbeats 1000000 in
theorem long1 (w : World) (sa sb : Option Addr) (la ca lb cb : Nat) (hlen : (1048576 : Int) < (la : Int)) :
    Calls Try.prog 4 #[.slice sa la ca, .slice sb lb cb] w fun e w' => LawOk w e w' := by
  go_enter Try.func4, Try.ntmps4
  go_wp2_with fail
  go_wp2
  go_ret
  exact ⟨rfl, Below.refl _ _⟩

set_option maxRecDepth 100000 in
set_option maxHeartbeats 1000000 in
theorem long2 (w : World) (sa sb : Option Addr) (la ca lb cb : Nat) (hla : ¬ (1048576 : Int) < (la : Int)) (hlen : (1048576 : Int) < (lb : Int)) :
    Calls Try.prog 4 #[.slice sa la ca, .slice sb lb cb] w fun e w' => LawOk w e w' := by
  go_enter Try.func4, Try.ntmps4
  go_wp2_with fail
  go_wp2
  go_ret
  exact ⟨rfl, Below.refl _ _⟩

theorem walk (w : World) (vA vB : Value) (xs ys : List Int) (hA : Ints w vA xs) (hB : Ints w vB ys) :
    Calls Try.prog 4 #[vA, vB] w fun e w' => LawOk w e w' := by
  by_cases h1 : (1048576 : Int) < (xs.length : Int)
  · obtain ⟨sa, ca, rfl, _⟩ := hA
    obtain ⟨sb, cb, rfl, _⟩ := hB
    exact long1 w sa sb _ ca _ cb h1
  by_cases h2 : (1048576 : Int) < (ys.length : Int)
  · obtain ⟨sa, ca, rfl, _⟩ := hA
    obtain ⟨sb, cb, rfl, _⟩ := hB
    exact long2 w sa sb _ ca _ cb h1 h2
  exact law w vA vB xs ys hA hB (by omega) (by omega)

set_option maxRecDepth 100000 in
theorem lifted (os : Os) (started : os.Started) (H : Type) (enc : TypeId × Value → H) :
    ReturnsInHanded {} Try.checked os 4 .any (Rows.fnExactBroadcastShapeSpec.pre6 enc Try.prog Try.f4 Rows.fnExactBroadcastShapeRow.domain false) (Rows.fnExactBroadcastShapeSpec.post enc Try.prog Try.f4 false true false false) := by
  refine returnsInHanded_of_change (C := Try.checked) own started (by kernel_rfl) Try.func4
    (ChangeSpec.witness6 (enc := enc) (C := Try.checked) false ⟨#[], #[.slice none 0 0, .slice none 0 0], []⟩ 8 (by kernel_rfl) (by kernel_rfl) (by kernel_rfl) (by kernel_rfl)) ?_
  intro W base args ds gs before hval0 hW hcnd _
  have hval : ∀ (j : Nat) t v, Try.f4.params[j]? = some t → args[j]? = some v → Value.okWide Try.prog W .any base t v := hval0
  have hW' := hW
  obtain ⟨p, q, hA0, hV, rfl, hfz, hnd⟩ := hW
  have hA : DataW.TrodAll enc Try.prog W 0 (fun _ => true) true Try.f4.params.toList args.toList ds p := hA0
  rw [Try.params4] at hA hval
  obtain ⟨v0, vs0, d0, ds0, p0, q0, hargs, rfl, rfl, h0, r0⟩ := trodAll_cons hA
  obtain ⟨v1, vs1, d1, ds1, p1, q1, rfl, rfl, rfl, h1, r1⟩ := trodAll_cons r0
  obtain ⟨rfl, rfl, rfl⟩ := trodAll_nil r1
  obtain rfl : args = #[v0, v1] := by cases args; simp_all
  obtain ⟨rfl, rfl⟩ := trodVars_none hV
  obtain ⟨xs, hx⟩ := ints_of (hval 0 22 v0 rfl rfl) h0
  obtain ⟨ys, hy⟩ := ints_of (hval 1 22 v1 rfl rfl) h1
  clear hA0 hval0
  simp only [List.append_nil] at hW'
  have hlt : ∀ x ∈ p0 ++ p1, x.block < W.heap.size := fun x hx => by simpa using hW'.lt x hx
  have hlt0 : ∀ x ∈ p0, x.block < W.heap.size := fun x hx => hlt x (List.mem_append_left _ hx)
  have hlt1 : ∀ x ∈ p1, x.block < W.heap.size := fun x hx => hlt x (List.mem_append_right _ hx)
  refine (walk W v0 v1 xs ys hx hy).mono fun e W' hL => ?_
  obtain ⟨rfl, hB⟩ : e = .returned (.bool true) ∧ Below W.heap.size W W' := hL
  refine ⟨_, rfl, _, _, _, [], p0 ++ p1, [], hW', ?_, ?_, ?_, hB.frame _, fun h => by cases h⟩
  · exact trodAll_cons_mk (shut_bool Try.underlying4 _) trodAll_mk0
  · have a0 := Below.trod laid (by kernel_rfl) (of_decide_eq_true (by kernel_rfl)) h0 hB hlt0
    have a1 := Below.trod laid (by kernel_rfl) (of_decide_eq_true (by kernel_rfl)) h1 hB hlt1
    exact trodAll_mk2 a0 a1
  · rfl

theorem over : Rows.fnExactBroadcastShapeRow.holds Try.pinned (OpenSpec.ofChange Rows.fnExactBroadcastShapeSpec) :=
  OpenClaim.holds_of_wide 4 Try.f4 rfl rfl rfl rfl rfl rfl rfl ⟨rfl, rfl, rfl, rfl, rfl⟩ rfl rfl rfl rfl rfl (by kernel_rfl) Try.func4 (by kernel_rfl)
    (of_decide_eq_true (by kernel_rfl)) (by unfold Func.isWrapper; first | (rw [if_pos (by decide +kernel)]; kernel_rfl) | (rw [if_neg (by decide +kernel)]; exact ⟨rfl, rfl⟩))
    (fun os started H enc _ => lifted os started H enc)
end Go.Proofs.Ytiekkninnjffpaa.fnExactBroadcastShape
namespace Go.Proofs.Ytiekkninnjffpaa
theorem fnExactBroadcastShape_holds : Rows.FnExactBroadcastShapeSaid := fnExactBroadcastShape.over
end Go.Proofs.Ytiekkninnjffpaa
