import Derived.Test.YtanbgpmbccianaaM2
import Derived.Laws.AppendOwn
namespace Go.Proofs.Ytanbgpmbccianaa
open Go.ChangeShapes Go.RowKit
set_option linter.unusedSimpArgs false
set_option linter.unusedVariables false

theorem cell_one_new (w : World) (x : Value) (t : TypeId) : ∀ j u, [x][j]? = some u → (w.alloc (.cells #[x] t)).cell? ((⟨w.heap.size, 0, none⟩ : Addr).add j) = some u := by
  intro j u hu
  have hj : j = 0 := by
    have := (List.getElem?_eq_some_iff.1 hu).1
    simpa using this
  subst hj
  simp at hu
  subst hu
  simp [Addr.add]

theorem Ints.below {w w' : World} {v : Value} {xs : List Int} (h : Ints w v xs) (x : Below w.heap.size w w') : Ints w' v xs := by
  obtain ⟨sa, cap, rfl, h⟩ := h
  refine ⟨sa, cap, rfl, ?_⟩
  rcases h with h | ⟨b, off, h1, h2⟩
  · exact Or.inl h
  · exact Or.inr ⟨b, off, h1, fun j hj => by rw [x.cell (p := ⟨b, off + j, none⟩) (cell_lt (h2 j hj))]; exact h2 j hj⟩

/-- An owned row of integers. -/
theorem row_of_own {w : World} {base g n cap : Nat} {L : List Int} (h : w.ownsRow base 2 1 (.slice (some ⟨g, 0, none⟩) n cap) n (L.map (Value.int .i64))) : Row w g 0 L ∧ n = L.length := by
  have hl : n = L.length := by have := h.1; simp at this; omega
  refine ⟨fun j hj => ?_, hl⟩
  rw [Nat.zero_add, h.cellAt j (by omega), List.getElem?_map, List.getElem?_eq_getElem hj, List.getD_eq_getElem?_getD, List.getElem?_eq_getElem hj]
  rfl

def bsL (xs ys : List Int) : Int × List Int := if Good xs ∧ Good ys ∧ Joins xs ys (max xs.length ys.length) then (0, jn xs ys (max xs.length ys.length)) else (6, [])

/-- A slice of integers of the call's own. -/
def OwnI (w' : World) (lo : Nat) (sa : Option Addr) (L : List Int) : Prop := L = [] ∨ ∃ g, sa = some ⟨g, 0, none⟩ ∧ lo ≤ g ∧ Row w' g 0 L ∧ ∀ o, w'.frozen? ⟨g, o, none⟩ = false

def BSOk (w : World) (xs ys : List Int) (e : Ending) (w' : World) : Prop :=
  ∃ (sa : Option Addr) (cap : Nat), e = .returned (.agg #[.int .i64 (bsL xs ys).1, .slice sa (bsL xs ys).2.length cap]) ∧ OwnI w' w.heap.size sa (bsL xs ys).2 ∧ Below w.heap.size w w'

theorem good_cnt {xs : List Int} (h : Good xs) : ¬ cntL xs < 0 := by
  have := prod_bd xs xs.length h.1 (Nat.le_refl _) h.2.1
  rw [List.take_length] at this
  unfold cntL; rw [if_pos h]; omega
theorem bad_cnt {xs : List Int} (h : ¬ Good xs) : cntL xs < 0 := by
  unfold cntL; rw [if_neg h]; omega

theorem jn_good {xs ys : List Int} (hx : Good xs) (hy : Good ys) : Good (jn xs ys (max xs.length ys.length)) ↔ prod (jn xs ys (max xs.length ys.length)) ≤ 4096 := by
  have h1 := hx.1
  have h2 := hy.1
  exact ⟨fun g => g.2.2, fun g => ⟨by rw [jn_len]; omega, jn_in hx.2.1 hy.2.1 _, g⟩⟩

theorem bad_ok {w w' : World} {xs ys : List Int} (h : ¬ (Good xs ∧ Good ys ∧ Joins xs ys (max xs.length ys.length))) (hB : Below w.heap.size w w') : BSOk w xs ys (.returned (.agg #[.int .i64 6, .slice none 0 0])) w' := by
  have e : bsL xs ys = (6, []) := if_neg h
  refine ⟨none, 0, by rw [e]; rfl, ?_, hB⟩
  rw [e]; exact Or.inl rfl

/-- The world of the loop. -/
structure SB (w wr : World) (L : List Int) (k : Nat) (v : Value) : Prop where
  own : wr.ownsRow (w.heap.size + 1) 2 1 v k ((L.take k).map (Value.int .i64))
  bl : Below w.heap.size w wr
  r0 : wr.cell? ⟨w.heap.size, 0, none⟩ = some (.int .i64 0)
  r1 : wr.cell? ⟨w.heap.size, 1, none⟩ = some (.slice none 0 0)
  rf : ∀ o, wr.frozen? ⟨w.heap.size, o, none⟩ = false
  sz : w.heap.size + 1 ≤ wr.heap.size
  nn : ∃ g cap, v = .slice (some ⟨g, 0, none⟩) k cap

theorem SB.step {w wr w3 : World} {L : List Int} {k : Nat} {v v3 : Value} (h : SB w wr L k v) (hk : k < L.length) (x : Int) (hx : x = L.getD k 0)
    (hown : w3.ownsRow (w.heap.size + 1) 2 1 v3 (k + 1) ((L.take k).map (Value.int .i64) ++ [.int .i64 x])) (hgrow : World.grownBy (wr.alloc (.cells #[.int .i64 x] 2)) w3 v.ownBlock)
    (hnil : v3 = .slice none 0 0 ↔ v = .slice none 0 0 ∧ 1 = 0) : SB w w3 L (k + 1) v3 := by
  have hs := h.sz
  obtain ⟨g, cap, rfl⟩ := h.nn
  have hg : w.heap.size + 1 ≤ g := (h.own.lt g rfl).1
  have hcell : ∀ o, w3.cell? ⟨w.heap.size, o, none⟩ = wr.cell? ⟨w.heap.size, o, none⟩ := fun o => by
    rw [World.cell?_of_block (hgrow.block w.heap.size (by simp; omega) (by simp [Value.ownBlock]; omega))]
    exact (Below.refl wr.heap.size wr |>.alloc (Nat.le_refl _) _).cell (by show w.heap.size < wr.heap.size; omega)
  have hfz : ∀ o, w3.frozen? ⟨w.heap.size, o, none⟩ = wr.frozen? ⟨w.heap.size, o, none⟩ := fun o => by
    rw [World.frozen?_of_block (hgrow.block w.heap.size (by simp; omega) (by simp [Value.ownBlock]; omega))]
    exact (Below.refl wr.heap.size wr |>.alloc (Nat.le_refl _) _).frozen (by show w.heap.size < wr.heap.size; omega)
  refine ⟨?_, (h.bl.alloc h.bl.size (.cells #[.int .i64 x] 2)).grown hgrow (by simp; omega) (fun j hj => by simp [Value.ownBlock] at hj; omega), (hcell 0).trans h.r0, (hcell 1).trans h.r1, fun o => (hfz o).trans (h.rf o), ?_, ?_⟩
  · have e : (L.take (k + 1)).map (Value.int .i64) = (L.take k).map (Value.int .i64) ++ [.int .i64 x] := by
      rw [List.take_add_one, List.getElem?_eq_getElem hk, List.map_append, hx, List.getD_eq_getElem?_getD, List.getElem?_eq_getElem hk]
      rfl
    rw [e]; exact hown
  · have := hgrow.size
    simp at this; omega
  · rcases hown.2 with ⟨h1, _⟩ | ⟨g2, cap2, cur, h1, _⟩
    · have := (hnil.1 h1).2; omega
    · exact ⟨g2, cap2, h1⟩

end Go.Proofs.Ytanbgpmbccianaa
