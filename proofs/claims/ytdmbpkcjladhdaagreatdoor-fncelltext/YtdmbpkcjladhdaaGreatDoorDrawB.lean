import Derived.Test.YtdmbpkcjladhdaaGreatDoorPairA
namespace Go.Proofs.YtdmbpkcjladhdaaGreatDoor
open Go.RowKit FL
set_option linter.unusedSimpArgs false
set_option linter.unusedVariables false

/-- A slice of bytes that can be read in w. -/
def Code (w : World) (v : Value) (len : Nat) : Prop :=
  (v = .slice none 0 0 ∧ len = 0) ∨ ∃ cb off cap, v = .slice (some ⟨cb, off, none⟩) len cap ∧ cb < w.heap.size ∧ len ≤ maxLen ∧ ∀ j, j < len → ∃ x : Int, w.cell? ⟨cb, off + j, none⟩ = some (.int .u8 x) ∧ 0 ≤ x ∧ x < 256

theorem Code.ext {w w' : World} {v : Value} {len : Nat} (h : Code w v len) (x : Ext w w') : Code w' v len := by
  rcases h with h | ⟨cb, off, cap, h1, h2, h3, h4⟩
  · exact Or.inl h
  · refine Or.inr ⟨cb, off, cap, h1, Nat.lt_of_lt_of_le h2 x.bl.size, h3, fun j hj => ?_⟩
    obtain ⟨y, hy, hr⟩ := h4 j hj
    exact ⟨y, x.box hy, hr⟩

theorem source_code {w : World} {v : Value} {len : Nat} (h : Code w v len) : Calls Tryz.prog 10 #[v] w fun e w' => SourceOk w e w' := by
  rcases h with ⟨rfl, rfl⟩ | ⟨cb, off, cap, rfl, h2, h3, h4⟩
  · exact source_nil w
  · exact source_any cb off len cap w h3 h2 h4

end Go.Proofs.YtdmbpkcjladhdaaGreatDoor
