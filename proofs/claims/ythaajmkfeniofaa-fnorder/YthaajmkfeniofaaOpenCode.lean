import Derived.Test.YthaajmkfeniofaaDrawB
import Derived.Test.YthaajmkfeniofaaOpen
import Derived.ChangeSlices
import Derived.Carry
namespace Go.Proofs.Ythaajmkfeniofaa
open Go.ChangeShapes Go.WideShapes Go.ChangeAt Go.RowKit FL
set_option linter.unusedVariables false
set_option linter.unusedSimpArgs false

theorem laid : laidOutB Try.prog = true := by kernel_rfl
theorem cells5 : Try.prog.cellsOf 5 = 1 := by kernel_rfl

set_option maxRecDepth 100000 in
theorem code_of {H : Type} {enc : TypeId × Value → H} {W : World} {b0 : Nat} {v : Value} {d : DataW H} {p : List MemPlace} (hv : Value.okWide Try.prog W .any b0 41 v)
    (h : DataW.Trod enc Try.prog W 0 (fun _ => true) true 41 v d p) : ∃ sa len cap, v = .slice sa len cap ∧ Code W v len := by
  obtain ⟨a0, len, cap, rfl⟩ := okWide_slice Try.underlying41 hv
  obtain ⟨fuel, hf⟩ := h
  rcases open_ints Try.underlying41 Try.underlying5 cells5 hf with ⟨hcs, hx⟩ | ⟨a, len', cap', zs, hcs, _, hl, hm, hz, hx, hcell, hwz⟩
  · simp [Value.cells] at hcs
    obtain ⟨rfl, rfl, rfl⟩ := hcs
    exact ⟨_, _, _, rfl, Or.inl ⟨rfl, rfl⟩⟩
  · simp [Value.cells] at hcs
    obtain ⟨rfl, rfl, rfl⟩ := hcs
    simp only [if_true] at hz
    simp only [Value.okWide, Try.underlying41, Cell.okWide, Cell.ok] at hv
    obtain ⟨_, _, _, hs, row, cells, hsh, _⟩ := hv
    obtain ⟨b, off, spot⟩ := a
    simp only at hs hsh
    subst hs
    have hb : b < W.heap.size := by
      by_cases e : b < W.heap.size
      · exact e
      · have e2 : W.heap[b]? = none := by simp; omega
        rw [World.shape?, e2] at hsh; cases hsh
    refine ⟨_, _, _, rfl, Or.inr ⟨b, off, _, rfl, hb, by omega, fun j hj => ?_⟩⟩
    have hc : W.cell? ⟨b, off + j, none⟩ = some (.int .u8 (zs.getD j 0)) := by
      have ha : (⟨b, off, none⟩ : Addr).add j = ⟨b, off + j, none⟩ := by cases j <;> simp [Addr.add]
      have h1 := hcell j (by omega)
      rw [ha] at h1; exact h1
    have hw := hwz (zs.getD j 0) (by rw [List.getD_eq_getElem?_getD, List.getElem?_eq_getElem (by omega)]; exact List.getElem_mem _)
    refine ⟨_, hc, ?_⟩
    have := bounds_u8 hw
    omega
end Go.Proofs.Ythaajmkfeniofaa
