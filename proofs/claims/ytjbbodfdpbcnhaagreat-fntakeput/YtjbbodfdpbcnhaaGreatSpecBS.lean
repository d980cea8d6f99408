import Derived.Test.YtjbbodfdpbcnhaaGreatFix
namespace Go.Proofs.YtjbbodfdpbcnhaaGreat
open Go.Value renaming slice → σ
open Go.ChangeShapes Go.RowKit
set_option linter.unusedSimpArgs false
set_option linter.unusedVariables false
theorem Ints.below {w w' : World} {v : Value} {xs : List Int} (h : Ints w v xs) (x : Below w.heap.size w w') : Ints w' v xs := by
 obtain ⟨sa, cap, rfl, h⟩ := h
 refine ⟨sa, cap, rfl, ?_⟩
 rcases h with h | ⟨b, off, h1, h2⟩
 ·exact Or.inl h
 ·exact Or.inr ⟨b, off, h1, fun j hj => by rw [x.cell (p := ⟨b, off + j, none⟩) (zl (h2 j hj))]; exact h2 j hj⟩
theorem zh8 {w : World} {base g n cap : Nat} {L : List Int} (h : w.ownsRow base 2 1 (σ (some ⟨g, 0, none⟩) n cap) n (L.map (Value.int .i64))) : Row w g 0 L ∧ n = L.length := by
 have hl : n = L.length := by have := h.1; simp at this; omega
 refine ⟨fun j hj => ?_, hl⟩
 rw [Nat.zero_add, h.cellAt j (by omega), List.getElem?_map, List.getElem?_eq_getElem hj, List.getD_eq_getElem?_getD, List.getElem?_eq_getElem hj]
 rfl
def OwnI (w' : World) (lo : Nat) (sa : Option Addr) (L : List Int) : Prop := L = [] ∨ ∃ g, sa = some ⟨g, 0, none⟩ ∧ lo ≤ g ∧ Row w' g 0 L ∧ ∀ o, w'.frozen? ⟨g, o, none⟩ = false
theorem zf14 {xs : List Int} (h : Good xs) : ¬ cntL xs < 0 := by
 have := zh2 xs xs.length h.1 (Nat.le_refl _) h.2.1
 rw [List.take_length] at this
 unfold cntL; rw [if_pos h]; omega
theorem zg21 {xs : List Int} (h : ¬ Good xs) : cntL xs < 0 := by
 unfold cntL; rw [if_neg h]; omega
end Go.Proofs.YtjbbodfdpbcnhaaGreat
