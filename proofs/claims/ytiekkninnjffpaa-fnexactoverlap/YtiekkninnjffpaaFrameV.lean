import Derived.Test.YtiekkninnjffpaaRows
import Derived.Test.YtiekkninnjffpaaLawVV
import Derived.WalkKit
import Derived.ProofKit
import Derived.OpenShut
import Derived.ChangeSlices
import Derived.Carry
import Derived.Lib.SmallJoins
namespace Go.Proofs.Ytiekkninnjffpaa
open Go.ChangeShapes Go.WideShapes Go.ChangeAt Go.RowKit Go.Joins
set_option linter.unusedVariables false
set_option linter.unusedSimpArgs false

theorem ownK : ownKnob Try.prog.godebug = none := by kernel_rfl
theorem laidOut : laidOutB Try.prog = true := by kernel_rfl
theorem cellsOf2 : Try.prog.cellsOf 2 = 1 := by kernel_rfl
theorem cellsOf24 : Try.prog.cellsOf 24 = 3 := by kernel_rfl
theorem types24 : Try.prog.cellTypes Try.prog.depth 24 = some [22, 22, 2] := by kernel_rfl

set_option maxRecDepth 100000 in
theorem ints_cell {H : Type} {enc : TypeId × Value → H} {W : World} {b0 n : Nat} {v : Value} {y : DataW H × List MemPlace} (hv0 : Cell.okWide Try.prog W .any b0 22 v)
    (hf : DataW.trod enc Try.prog W 0 (fun _ => true) true n 22 [v] = some y) : ∃ xs : List Int, Ints W v xs ∧ xs.length ≤ 9223372036854775807 := by
  have hv : Value.okWide Try.prog W .any b0 22 v := by simp only [Value.okWide, Try.underlying22]; exact hv0
  obtain ⟨a0, len, cap, rfl⟩ := okWide_slice Try.underlying22 hv
  rcases open_ints Try.underlying22 Try.underlying2 cellsOf2 hf with ⟨hcs, hx⟩ | ⟨a, len', cap', zs, hcs, _, hl, hm, hz, hx, hcell, hwz⟩
  · simp at hcs
    obtain ⟨rfl, rfl, rfl⟩ := hcs
    exact ⟨[], ⟨none, 0, rfl, Or.inl rfl⟩, by simp⟩
  · simp at hcs
    obtain ⟨rfl, rfl, rfl⟩ := hcs
    simp only [if_true] at hz
    simp only [Value.okWide, Try.underlying22, Cell.okWide, Cell.ok] at hv
    obtain ⟨_, _, _, hs, row, cells, hsh, _⟩ := hv
    obtain ⟨b, off, spot⟩ := a
    simp only at hs hsh
    subst hs
    have hlen : (zs.take len).length = len := by rw [List.length_take]; omega
    refine ⟨zs.take len, ⟨some ⟨b, off, none⟩, cap, by rw [hlen], Or.inr ⟨b, off, rfl, fun j hj => ?_⟩⟩, by rw [hlen]; unfold maxLen at hm; omega⟩
    rw [hlen] at hj
    have ha : (⟨b, off, none⟩ : Addr).add j = ⟨b, off + j, none⟩ := by cases j <;> simp [Addr.add]
    have h1 := hcell j (by omega)
    rw [ha] at h1
    rw [h1, List.getD_eq_getElem?_getD, List.getD_eq_getElem?_getD, List.getElem?_take, if_pos hj]

set_option maxRecDepth 100000 in
theorem view_of {H : Type} {enc : TypeId × Value → H} {W : World} {b0 : Nat} {v : Value} {d : DataW H} {p : List MemPlace} (hv : Value.okWide Try.prog W .any b0 24 v)
    (h : DataW.Trod enc Try.prog W 0 (fun _ => true) true 24 v d p) :
    ∃ (vS vT : Value) (off : Int) (xs ss : List Int), v = .agg #[vS, vT, .int .i64 off] ∧ Ints W vS xs ∧ Ints W vT ss ∧ xs.length ≤ 9223372036854775807 ∧ ss.length ≤ 9223372036854775807 ∧ (Lit.int .i64 off).wf = true := by
  have hv2 := hv
  obtain ⟨c0, c1, c2, y0, y1, y2, m, rfl, _, _, hy0, hy1, hy2⟩ := open_agg3 Try.underlying24 (by kernel_rfl) cellsOf24 hv h
  obtain ⟨x, e0, _, wx⟩ := DataW.trod_int Try.underlying2 hy2
  simp at e0
  subst e0
  simp only [Value.okWide, Try.underlying24] at hv2
  obtain ⟨cs, hcs, _, ts, ht, _, hc⟩ := hv2
  rw [types24] at ht
  obtain rfl : [22, 22, 2] = ts := by simpa using ht
  obtain rfl : #[c0, c1, .int .i64 x] = cs := by simpa using hcs
  obtain ⟨u0, hu0, k0⟩ := hc 0 c0 (by simp)
  obtain ⟨u1, hu1, k1⟩ := hc 1 c1 (by simp)
  obtain rfl : 22 = u0 := by simpa using hu0
  obtain rfl : 22 = u1 := by simpa using hu1
  obtain ⟨xs, hx, lx⟩ := ints_cell k0 hy0
  obtain ⟨ss, hs, ls⟩ := ints_cell k1 hy1
  exact ⟨c0, c1, x, xs, ss, rfl, hx, hs, lx, ls, wx⟩
end Go.Proofs.Ytiekkninnjffpaa
