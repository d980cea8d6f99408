import Derived.Test.YtbkdfhlbjaiahaaHFrame
import Derived.Test.YtbkdfhlbjaiahaaBase
namespace Go.Proofs.Ytbkdfhlbjaiahaa
open Go.ChangeShapes Go.WideShapes Go.ChangeAt Go.RowKit Go.Deep FL
set_option linter.unusedVariables false
set_option linter.unusedSimpArgs false
theorem cells33 : Try.prog.cellsOf 33 = 1 := by kernel_rfl
theorem cells35 : Try.prog.cellsOf 35 = 3 := by kernel_rfl
theorem cells37 : Try.prog.cellsOf 37 = 4 := by kernel_rfl
section
variable {H : Type} {enc : TypeId × Value → H} {W : World}
set_option maxRecDepth 100000 in
theorem ints_of {u : Value} {n : Nat} {y : DataW H × List MemPlace} (h : DataW.trod enc Try.prog W 0 (fun _ => true) true n 33 [u] = some y) : ∃ xs : List Int, Ints W u xs ∧ xs.length ≤ 9223372036854775807 := by
  rcases open_ints Try.underlying33 Try.underlying2 cells2 h with ⟨hcs, hx⟩ | ⟨a, len, cap, zs, hcs, _, hl, hm, hz, hx, hcell, hwz⟩
  · simp at hcs
    subst hcs
    exact ⟨[], ⟨none, 0, rfl, Or.inl rfl⟩, by simp⟩
  · simp at hcs
    subst hcs
    simp only [if_true] at hz
    have hlen : (zs.take len).length = len := by rw [List.length_take]; omega
    refine ⟨zs.take len, ⟨some a, cap, by rw [hlen], ?_⟩, by rw [hlen]; unfold maxLen at hm; omega⟩
    by_cases e : len = 0
    · subst e; exact Or.inl (by simp)
    · have hs : a.spot = none := no_spot (by have := hcell 0 (by omega); simpa [Addr.add] using this)
      obtain ⟨b, off, spot⟩ := a
      simp only at hs
      subst hs
      refine Or.inr ⟨b, off, rfl, fun j hj => ?_⟩
      rw [hlen] at hj
      have h1 := hcell j (by omega)
      rw [Addr.add_lit] at h1
      rw [h1, List.getD_eq_getElem?_getD, List.getD_eq_getElem?_getD, List.getElem?_take, if_pos hj]
set_option maxRecDepth 100000 in
theorem array_of {b0 : Nat} {v : Value} {d : DataW H} {p : List MemPlace} (hv : Value.okWide Try.prog W .any b0 37 v)
    (h : DataW.Trod enc Try.prog W 0 (fun _ => true) true 37 v d p) : ∃ (st : Int) (vS vT : Value) (off : Int) (xs sv : List Int), v = .agg #[.int .i64 st, vS, vT, .int .i64 off] ∧ Ints W vS xs ∧ Ints W vT sv ∧ xs.length ≤ 9223372036854775807 ∧ sv.length ≤ 9223372036854775807 := by
  obtain ⟨cs, rfl, hsz⟩ := okWide_struct Try.underlying37 hv
  rw [cells37] at hsz
  obtain ⟨c0, c1, c2, c3, rfl⟩ : ∃ c0 c1 c2 c3, cs = #[c0, c1, c2, c3] := by
    obtain ⟨l⟩ := cs
    match l, hsz with
    | [c0, c1, c2, c3], _ => exact ⟨c0, c1, c2, c3, rfl⟩
  obtain ⟨fuel, hf⟩ := h
  obtain ⟨y0, y1, n, _, _, h0, h1⟩ := trod_struct2 Try.underlying37 hf
  simp [Value.cells, cells2, cells35] at h0 h1
  obtain ⟨st, e0, _, _⟩ := DataW.trod_int Try.underlying2 h0
  simp at e0
  subst e0
  obtain ⟨z0, z1, z2, m, _, _, g0, g1, g2⟩ := trod_struct3 Try.underlying35 h1
  simp [cells2, cells33] at g0 g1 g2
  obtain ⟨off, e3, _, _⟩ := DataW.trod_int Try.underlying2 g2
  simp at e3
  subst e3
  obtain ⟨xs, hx, lx⟩ := ints_of g0
  obtain ⟨sv, hs, ls⟩ := ints_of g1
  exact ⟨st, c1, c2, off, xs, sv, rfl, hx, hs, lx, ls⟩
end
end Go.Proofs.Ytbkdfhlbjaiahaa
