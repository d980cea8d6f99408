import Derived.Test.YtjjemnlknnnkbaaRows
import Derived.Test.YtjjemnlknnnkbaaFPoolC
import Derived.WalkKit
import Derived.ProofKit
import Derived.OpenShut
import Derived.ChangeSlices
import Derived.Carry
namespace Go.Proofs.Ytjjemnlknnnkbaa.fnPool
open Go.ChangeShapes Go.WideShapes Go.ChangeAt Go.RowKit
set_option linter.unusedVariables false
set_option linter.unusedSimpArgs false

theorem ownK : ownKnob Try.prog.godebug = none := by kernel_rfl
theorem laidOut : laidOutB Try.prog = true := by kernel_rfl
theorem cells5 : Try.prog.cellsOf 5 = 1 := by kernel_rfl

set_option maxRecDepth 100000 in
theorem code_of {H : Type} {enc : TypeId × Value → H} {W : World} {b0 : Nat} {v : Value} {d : DataW H} {p : List MemPlace} (hv : Value.okWide Try.prog W .any b0 24 v)
    (h : DataW.Trod enc Try.prog W 0 (fun _ => true) true 24 v d p) : ∃ cs : List Int, Code W v cs := by
  obtain ⟨a0, len, cap, rfl⟩ := okWide_slice Try.underlying24 hv
  obtain ⟨fuel, hf⟩ := h
  rcases open_ints Try.underlying24 Try.underlying5 cells5 hf with ⟨hcs, hx⟩ | ⟨a, len', cap', zs, hcs, _, hl, hm, hz, hx, hcell, hwz⟩
  · simp [Value.cells] at hcs
    obtain ⟨rfl, rfl, rfl⟩ := hcs
    exact ⟨[], none, 0, rfl, by simp, Or.inl rfl⟩
  · simp [Value.cells] at hcs
    obtain ⟨rfl, rfl, rfl⟩ := hcs
    simp only [if_true] at hz
    simp only [Value.okWide, Try.underlying24, Cell.okWide, Cell.ok] at hv
    obtain ⟨_, _, _, hs, row, cells, hsh, _⟩ := hv
    obtain ⟨b, off, spot⟩ := a
    simp only at hs hsh
    subst hs
    have hb : b < W.heap.size := by
      by_cases e : b < W.heap.size
      · exact e
      · have e2 : W.heap[b]? = none := by simp; omega
        rw [World.shape?, e2] at hsh; cases hsh
    have hlen : (zs.take len).length = len := by rw [List.length_take]; omega
    refine ⟨zs.take len, some ⟨b, off, none⟩, cap, by rw [hlen], by rw [hlen]; omega, Or.inr ⟨b, off, rfl, hb, fun j hj => ?_⟩⟩
    rw [hlen] at hj
    have e : (zs.take len).getD j 0 = zs.getD j 0 := by rw [List.getD_eq_getElem?_getD, List.getD_eq_getElem?_getD, List.getElem?_take, if_pos hj]
    rw [e]
    have hc : W.cell? ⟨b, off + j, none⟩ = some (.int .u8 (zs.getD j 0)) := by
      have ha : (⟨b, off, none⟩ : Addr).add j = ⟨b, off + j, none⟩ := by cases j <;> simp [Addr.add]
      have h1 := hcell j (by omega)
      rw [ha] at h1; exact h1
    have hw := hwz (zs.getD j 0) (by rw [List.getD_eq_getElem?_getD, List.getElem?_eq_getElem (by omega)]; exact List.getElem_mem _)
    refine ⟨hc, ?_⟩
    have := bounds_u8 hw
    omega

set_option maxRecDepth 100000 in
set_option maxHeartbeats 1000000 in
theorem long (w : World) (sa : Option Addr) (len cap : Nat) (hlen : (1048576 : Int) < (len : Int)) :
    Calls Try.prog 4 #[.slice sa len cap] w fun e w' => LawOk w e w' := by
  go_enter Try.func4, Try.ntmps4
  go_wp2
  go_ret
  exact ⟨rfl, Below.refl _ _⟩

theorem walk (w : World) (v : Value) (cs : List Int) (hC : Code w v cs) : Calls Try.prog 4 #[v] w fun e w' => LawOk w e w' := by
  by_cases h : (1048576 : Int) < (cs.length : Int)
  · obtain ⟨sa, cap, rfl, _⟩ := hC
    exact long w sa _ cap h
  · exact lawFP w v cs hC (by omega)

set_option maxRecDepth 100000 in
theorem lifted (os : Os) (started : os.Started) (H : Type) (enc : TypeId × Value → H) :
    ReturnsInHanded {} Try.checked os 4 .any (Rows.fnPoolSpec.pre6 enc Try.prog Try.f4 Rows.fnPoolRow.domain false) (Rows.fnPoolSpec.post enc Try.prog Try.f4 false true false false) := by
  refine returnsInHanded_of_change (C := Try.checked) ownK started (by kernel_rfl) Try.func4
    (ChangeSpec.witness6 (enc := enc) (C := Try.checked) false ⟨#[], #[.slice none 0 0], []⟩ 8 (by kernel_rfl) (by kernel_rfl) (by kernel_rfl) (by kernel_rfl)) ?_
  intro W base args ds gs before hval0 hW hcnd _
  have hval : ∀ (j : Nat) t v, Try.f4.params[j]? = some t → args[j]? = some v → Value.okWide Try.prog W .any base t v := hval0
  have hW' := hW
  obtain ⟨p, q, hA0, hV, rfl, hfz, hnd⟩ := hW
  have hA : DataW.TrodAll enc Try.prog W 0 (fun _ => true) true Try.f4.params.toList args.toList ds p := hA0
  rw [Try.params4] at hA hval
  obtain ⟨v0, vs0, d0, ds0, p0', q0, hargs, rfl, rfl, h0, r0⟩ := trodAll_cons hA
  obtain ⟨rfl, rfl, rfl⟩ := trodAll_nil r0
  obtain rfl : args = #[v0] := by cases args; simp_all
  obtain ⟨rfl, rfl⟩ := trodVars_none hV
  obtain ⟨cs, hcode⟩ := code_of (hval 0 24 v0 rfl rfl) h0
  clear hA0 hval0
  simp only [List.append_nil] at hW'
  have hlt : ∀ x ∈ p0', x.block < W.heap.size := fun x hx => by simpa using hW'.lt x hx
  refine (walk W v0 cs hcode).mono fun e W' hL => ?_
  obtain ⟨rfl, hB⟩ : e = .returned (.bool true) ∧ Below W.heap.size W W' := hL
  refine ⟨_, rfl, _, _, _, [], p0', [], hW', ?_, ?_, ?_, hB.frame _, fun h => by cases h⟩
  · exact trodAll_cons_mk (shut_bool Try.underlying4 _) trodAll_mk0
  · exact trodAll_mk1 (Below.trod laidOut (by kernel_rfl) (of_decide_eq_true (by kernel_rfl)) h0 hB hlt)
  · rfl

theorem over : Rows.fnPoolRow.holds Try.pinned (OpenSpec.ofChange Rows.fnPoolSpec) :=
  OpenClaim.holds_of_wide 4 Try.f4 rfl rfl rfl rfl rfl rfl rfl ⟨rfl, rfl, rfl, rfl, rfl⟩ rfl rfl rfl rfl rfl (by kernel_rfl) Try.func4 (by kernel_rfl)
    (of_decide_eq_true (by kernel_rfl)) (by unfold Func.isWrapper; first | (rw [if_pos (by decide +kernel)]; kernel_rfl) | (rw [if_neg (by decide +kernel)]; exact ⟨rfl, rfl⟩))
    (fun os started H enc _ => lifted os started H enc)
end Go.Proofs.Ytjjemnlknnnkbaa.fnPool
namespace Go.Proofs.Ytjjemnlknnnkbaa
theorem fnPool_holds : Rows.FnPoolSaid := fnPool.over
end Go.Proofs.Ytjjemnlknnnkbaa
