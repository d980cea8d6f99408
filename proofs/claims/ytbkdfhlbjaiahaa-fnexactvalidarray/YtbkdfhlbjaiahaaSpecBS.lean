import Derived.Test.YtbkdfhlbjaiahaaFix
namespace Go.Proofs.Ytbkdfhlbjaiahaa
open Go.ChangeShapes Go.RowKit
set_option linter.unusedSimpArgs false
set_option linter.unusedVariables false

theorem Ints.below {w w' : World} {v : Value} {xs : List Int} (h : Ints w v xs) (x : Below w.heap.size w w') : Ints w' v xs := by
  obtain ⟨sa, cap, rfl, h⟩ := h
  refine ⟨sa, cap, rfl, ?_⟩
  rcases h with h | ⟨b, off, h1, h2⟩
  · exact Or.inl h
  · exact Or.inr ⟨b, off, h1, fun j hj => by rw [x.cell (p := ⟨b, off + j, none⟩) (cell_lt (h2 j hj))]; exact h2 j hj⟩

/-- An owned row of integers. -/
theorem row_of_own {w : World} {base g n cap : Nat} {L : List Int} (h : w.ownsRow base 2 1 (.slice (some ⟨g, 0, none⟩) n cap) n (L.map (Value.int .i64))) : Row w g 0 L ∧ n = L.length := by
  have hl : n = L.length := by have := h.1; simp at this; omega
  refine ⟨fun j hj => ?_, hl⟩
  rw [Nat.zero_add, h.cellAt j (by omega), List.getElem?_map, List.getElem?_eq_getElem hj, List.getD_eq_getElem?_getD, List.getElem?_eq_getElem hj]
  rfl

/-- A slice of integers of the call's own. -/
def OwnI (w' : World) (lo : Nat) (sa : Option Addr) (L : List Int) : Prop := L = [] ∨ ∃ g, sa = some ⟨g, 0, none⟩ ∧ lo ≤ g ∧ Row w' g 0 L ∧ ∀ o, w'.frozen? ⟨g, o, none⟩ = false

theorem good_cnt {xs : List Int} (h : Good xs) : ¬ cntL xs < 0 := by
  have := prod_bd xs xs.length h.1 (Nat.le_refl _) h.2.1
  rw [List.take_length] at this
  unfold cntL; rw [if_pos h]; omega
theorem bad_cnt {xs : List Int} (h : ¬ Good xs) : cntL xs < 0 := by
  unfold cntL; rw [if_neg h]; omega

end Go.Proofs.Ytbkdfhlbjaiahaa
