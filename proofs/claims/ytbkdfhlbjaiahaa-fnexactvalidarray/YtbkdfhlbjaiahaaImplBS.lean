import Derived.Test.YtbkdfhlbjaiahaaSpecBS
namespace Go.Proofs.Ytbkdfhlbjaiahaa
open Go.ChangeShapes Go.RowKit
set_option linter.unusedSimpArgs false
set_option linter.unusedVariables false

def ListOk (w : World) (L : List Int) (e : Ending) (w' : World) : Prop :=
  ∃ (sa : Option Addr) (cap : Nat), e = .returned (.slice sa L.length cap) ∧ OwnI w' w.heap.size sa L ∧ Below w.heap.size w w'

theorem own_of {w w3 : World} {base n : Nat} {v : Value} {L : List Int} (hb : w.heap.size ≤ base) (h : w3.ownsRow base 2 1 v n (L.map (Value.int .i64))) : ∃ sa cap, v = .slice sa L.length cap ∧ OwnI w3 w.heap.size sa L := by
  have hl : n = L.length := by have := h.1; simp at this; omega
  rcases h.2 with ⟨h1, h2⟩ | ⟨g, cap, cur, h1, hg, _⟩
  · have : L = [] := List.eq_nil_of_length_eq_zero (by omega)
    subst this
    exact ⟨none, 0, h1, Or.inl rfl⟩
  · subst h1
    obtain ⟨hr, _⟩ := row_of_own h
    exact ⟨_, cap, by rw [hl], Or.inr ⟨g, rfl, by omega, hr, fun o => h.frozenAt o⟩⟩

end Go.Proofs.Ytbkdfhlbjaiahaa
