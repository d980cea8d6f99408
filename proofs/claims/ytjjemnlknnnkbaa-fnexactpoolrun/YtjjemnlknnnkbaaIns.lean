import Derived.Test.YtjjemnlknnnkbaaSearch
import Derived.Test.YtjjemnlknnnkbaaPoolC
import Derived.Shelf.Spec.SlicesInsertGrow
namespace Go.Proofs.Ytjjemnlknnnkbaa
open Go.ChangeShapes Go.RowKit Go.Lib
set_option linter.unusedSimpArgs false
set_option linter.unusedVariables false

/-- A list of integers at a place in a block of its own, with room behind it. -/
structure FLat (w : World) (b off cap : Nat) (L : List Int) : Prop where
  cur : ∃ cur, w.heap[b]? = some (.cells cur 2 (0, 0)) ∧ off + cap ≤ cur.size
  row : Row w b off L
  le : L.length ≤ cap
  cm : cap ≤ maxLen
theorem FLat.isS {w : World} {b off cap : Nat} {L : List Int} (h : FLat w b off cap L) (j : Nat) (hj : j < cap) : (w.cell? ⟨b, off + j, none⟩).isSome = true := by
  obtain ⟨cur, h1, h2⟩ := h.cur
  rw [cell_of_row w b (off + j) cur 2 (0, 0) h1, Array.getElem?_eq_getElem (by omega)]
  rfl
theorem FLat.unfrozen {w : World} {b off cap : Nat} {L : List Int} (h : FLat w b off cap L) (o : Nat) : w.frozen? ⟨b, o, none⟩ = false := by
  obtain ⟨cur, h1, h2⟩ := h.cur
  exact frozen_of_row w b o cur 2 h1
theorem FLat.lt {w : World} {b off cap : Nat} {L : List Int} (h : FLat w b off cap L) : b < w.heap.size := by
  obtain ⟨cur, h1, h2⟩ := h.cur
  exact (Array.getElem?_eq_some_iff.1 h1).1
def FV (w : World) (v : Value) (L : List Int) : Prop := (L = [] ∧ v = .slice none 0 0) ∨ (∃ b off cap, v = .slice (some ⟨b, off, none⟩) L.length cap ∧ FLat w b off cap L)
theorem FV.ints {w : World} {v : Value} {L : List Int} (h : FV w v L) : Ints w v L := by
  rcases h with ⟨rfl, rfl⟩ | ⟨b, off, cap, rfl, h⟩
  · exact ⟨none, 0, rfl, Or.inl rfl⟩
  · exact ⟨_, _, rfl, Or.inr ⟨b, off, rfl, h.row⟩⟩
theorem FV.block {w w' : World} {v : Value} {L : List Int} (h : FV w v L) (hb : ∀ k, v.ownBlock = some k → w'.heap[k]? = w.heap[k]?) : FV w' v L := by
  rcases h with h | ⟨b, off, cap, rfl, h⟩
  · exact Or.inl h
  · have hk := hb b rfl
    obtain ⟨cur, h1, h2⟩ := h.cur
    exact Or.inr ⟨b, off, cap, rfl, ⟨⟨cur, by rw [hk]; exact h1, h2⟩, fun j hj => (World.cell?_of_block hk).trans (h.row j hj), h.le, h.cm⟩⟩
theorem FV.lt {w : World} {v : Value} {L : List Int} (h : FV w v L) : ∀ k, v.ownBlock = some k → k < w.heap.size := by
  rcases h with ⟨_, rfl⟩ | ⟨b, off, cap, rfl, h⟩
  · intro k hk; simp [Value.ownBlock] at hk
  · intro k hk
    simp [Value.ownBlock] at hk
    subst hk
    exact h.lt
theorem setCells_heap (b : Nat) : ∀ (vs : List Value) (o : Nat) (w : World) (cur : Array Value) (t : TypeId), w.heap[b]? = some (.cells cur t (0, 0)) → ∃ cur', (w.setCells b o vs).heap[b]? = some (.cells cur' t (0, 0)) ∧ cur'.size = cur.size
  | [], o, w, cur, t, h => ⟨cur, h, rfl⟩
  | v :: vs, o, w, cur, t, h => by
    obtain ⟨c1, h1, h2⟩ := setCells_heap b vs (o + 1) (w.setCell ⟨b, o, none⟩ v) (cur.setIfInBounds o v) t (heap_setCell_same w b o cur t v h)
    exact ⟨c1, h1, by rw [h2]; simp⟩
theorem setCells_grown (b : Nat) : ∀ (vs : List Value) (o : Nat) (w : World), w.grownBy (w.setCells b o vs) (some b)
  | [], o, w => grown_refl _ _
  | v :: vs, o, w => by
    have h1 := setCells_grown b vs (o + 1) (w.setCell ⟨b, o, none⟩ v)
    have h0 : w.grownBy (w.setCell ⟨b, o, none⟩ v) (some b) := ⟨rfl, rfl, rfl, by simp [World.setCell], fun k _ hk => heap_setCell_other w ⟨b, o, none⟩ k v (fun e => hk (by simp [e]))⟩
    exact ⟨h1.os.trans h0.os, h1.tape.trans h0.tape, h1.output.trans h0.output, Nat.le_trans h0.size h1.size, fun k hk hn => (h1.block k (Nat.lt_of_lt_of_le hk h0.size) hn).trans (h0.block k hk hn)⟩
/-- x at place p. -/
def insL (L : List Int) (p : Nat) (x : Int) : List Int := L.take p ++ x :: L.drop p
theorem insL_len (L : List Int) (p : Nat) (x : Int) (hp : p ≤ L.length) : (insL L p x).length = L.length + 1 := by
  unfold insL; simp; omega
theorem insL_getD (L : List Int) (p : Nat) (x : Int) (hp : p ≤ L.length) (j : Nat) : (insL L p x).getD j 0 = if j < p then L.getD j 0 else if j = p then x else L.getD (j - 1) 0 := by
  unfold insL
  simp only [List.getD_eq_getElem?_getD]
  by_cases h : j < p
  · rw [if_pos h, List.getElem?_append_left (by rw [List.length_take]; omega), List.getElem?_take, if_pos h]
  · rw [if_neg h, List.getElem?_append_right (by rw [List.length_take]; omega), List.length_take, Nat.min_eq_left hp]
    by_cases e : j = p
    · rw [if_pos e, e]; simp
    · rw [if_neg e]
      obtain ⟨m, rfl⟩ : ∃ m, j = p + m + 1 := ⟨j - p - 1, by omega⟩
      rw [show p + m + 1 - p = m + 1 by omega, List.getElem?_cons_succ, List.getElem?_drop]
      rfl
/-- The list as the cells hold it. -/
def ivals (L : List Int) : List Value := L.map (.int .i64)
theorem ivals_len (L : List Int) : (ivals L).length = L.length := List.length_map _
theorem ivals_one (L : List Int) : ∀ v ∈ ivals L, v.oneCell' = true := fun v hv => by
  obtain ⟨x, _, rfl⟩ := List.mem_map.1 hv
  rfl
theorem FLat.at {w : World} {b off cap : Nat} {L : List Int} (h : FLat w b off cap L) (j : Nat) (v : Value) (hj : (ivals L)[j]? = some v) : w.cell? ⟨b, off + j, none⟩ = some v := by
  unfold ivals at hj
  rw [List.getElem?_map] at hj
  obtain ⟨x, hx, rfl⟩ := Option.map_eq_some_iff.1 hj
  have hl := (List.getElem?_eq_some_iff.1 hx).1
  have := h.row j hl
  rw [List.getD_eq_getElem?_getD, hx] at this
  exact this
def InsOk (w : World) (v : Value) (L : List Int) (p : Nat) (x : Int) (e : Ending) (w' : World) : Prop :=
  ∃ v', e = .returned v' ∧ FV w' v' (insL L p x) ∧ w.grownBy w' v.ownBlock ∧ (v'.ownBlock = v.ownBlock ∨ ∃ k, v'.ownBlock = some k ∧ w.heap.size ≤ k)

end Go.Proofs.Ytjjemnlknnnkbaa
