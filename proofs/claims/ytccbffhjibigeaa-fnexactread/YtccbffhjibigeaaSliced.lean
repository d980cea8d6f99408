import Derived.Test.YtccbffhjibigeaaFixVA
namespace Go.Proofs.Ytccbffhjibigeaa
open Go.ChangeShapes Go.RowKit
set_option linter.unusedSimpArgs false
set_option linter.unusedVariables false

theorem set_getD (xs : List Int) (a : Nat) (c : Int) (ha : a < xs.length) (j : Nat) : (xs.set a c).getD j 0 = if a = j then c else xs.getD j 0 := by
  by_cases h : a = j
  · subst h; rw [if_pos rfl]; simp [List.getD_eq_getElem?_getD, ha]
  · rw [if_neg h]; simp [List.getD_eq_getElem?_getD, List.getElem?_set, h]

/-- The world of 'sliced': f at w.heap.size, the answer behind it. -/
structure FW (w W : World) (n : Int) (xs ss : List Int) (off : Int) : Prop where
  c0 : W.cell? ⟨w.heap.size, 0, none⟩ = some (.int .i64 n)
  l : ∀ j, j < 4 → W.cell? ⟨w.heap.size, 1 + j, none⟩ = some (.int .i64 (xs.getD j 0))
  s : ∀ j, j < 4 → W.cell? ⟨w.heap.size, 5 + j, none⟩ = some (.int .i64 (ss.getD j 0))
  c9 : W.cell? ⟨w.heap.size, 9, none⟩ = some (.int .i64 off)
  r : ∀ j, j < 10 → W.cell? ⟨w.heap.size + 1, j, none⟩ = some (.int .i64 0)
  ex : Ext w W
theorem FW.keep {w W W' : World} {n : Int} {xs ss : List Int} {off : Int} (h : FW w W n xs ss off) (x : Ext W W') : FW w W' n xs ss off :=
  ⟨x.box h.c0, fun j hj => x.box (h.l j hj), fun j hj => x.box (h.s j hj), x.box h.c9, fun j hj => x.box (h.r j hj), h.ex.trans x⟩
theorem FW.setL {w W : World} {n : Int} {xs ss : List Int} {off : Int} (h : FW w W n xs ss off) (a : Nat) (ha : a < xs.length) (h4 : a < 4) (c : Int) : FW w (W.setCell ⟨w.heap.size, 1 + a, none⟩ (.int .i64 c)) n (xs.set a c) ss off := by
  refine ⟨near (by omega) h.c0, fun j hj => ?_, fun j hj => near (by omega) (h.s j hj), near (by omega) h.c9, fun j hj => far1 (by omega) (h.r j hj), h.ex.setCell (Nat.le_refl _) _⟩
  rw [set_getD xs a c ha j]
  by_cases e : a = j
  · subst e; rw [if_pos rfl]; exact World.cell?_setCell_same _ _ _ (h.l a hj)
  · rw [if_neg e]; exact near (by omega) (h.l j hj)
theorem FW.setS {w W : World} {n : Int} {xs ss : List Int} {off : Int} (h : FW w W n xs ss off) (a : Nat) (ha : a < ss.length) (h4 : a < 4) (c : Int) : FW w (W.setCell ⟨w.heap.size, 5 + a, none⟩ (.int .i64 c)) n xs (ss.set a c) off := by
  refine ⟨near (by omega) h.c0, fun j hj => near (by omega) (h.l j hj), fun j hj => ?_, near (by omega) h.c9, fun j hj => far1 (by omega) (h.r j hj), h.ex.setCell (Nat.le_refl _) _⟩
  rw [set_getD ss a c ha j]
  by_cases e : a = j
  · subst e; rw [if_pos rfl]; exact World.cell?_setCell_same _ _ _ (h.s a hj)
  · rw [if_neg e]; exact near (by omega) (h.s j hj)
theorem FW.setO {w W : World} {n : Int} {xs ss : List Int} {off : Int} (h : FW w W n xs ss off) (o : Int) : FW w (W.setCell ⟨w.heap.size, 9, none⟩ (.int .i64 o)) n xs ss o :=
  ⟨near (by omega) h.c0, fun j hj => near (by omega) (h.l j hj), fun j hj => near (by omega) (h.s j hj), World.cell?_setCell_same _ _ _ h.c9, fun j hj => far1 (by omega) (h.r j hj), h.ex.setCell (Nat.le_refl _) _⟩

/-- The ten cells of the answer. -/
theorem chain10 {W : World} {R : Nat} (h : ∀ j, j < 10 → W.cell? ⟨R, j, none⟩ = some (.int .i64 0)) (v0 v1 v2 v3 v4 v5 v6 v7 v8 v9 : Value) :
    let C := (((((((((W.setCell ⟨R, 0, none⟩ v0).setCell ⟨R, 1, none⟩ v1).setCell ⟨R, 2, none⟩ v2).setCell ⟨R, 3, none⟩ v3).setCell ⟨R, 4, none⟩ v4).setCell ⟨R, 5, none⟩ v5).setCell ⟨R, 6, none⟩ v6).setCell ⟨R, 7, none⟩ v7).setCell ⟨R, 8, none⟩ v8).setCell ⟨R, 9, none⟩ v9
    C.cell? ⟨R, 0, none⟩ = some v0 ∧ C.cell? ⟨R, 1, none⟩ = some v1 ∧ C.cell? ⟨R, 2, none⟩ = some v2 ∧ C.cell? ⟨R, 3, none⟩ = some v3 ∧ C.cell? ⟨R, 4, none⟩ = some v4 ∧ C.cell? ⟨R, 5, none⟩ = some v5 ∧ C.cell? ⟨R, 6, none⟩ = some v6 ∧ C.cell? ⟨R, 7, none⟩ = some v7 ∧ C.cell? ⟨R, 8, none⟩ = some v8 ∧ C.cell? ⟨R, 9, none⟩ = some v9 := by
  intro C
  have Z := zt (zt (zt (zt (zt (zt (zt (zt (zt (zt (f := fun _ => (.int .i64 0 : Value)) h 0 v0) 1 v1) 2 v2) 3 v3) 4 v4) 5 v5) 6 v6) 7 v7) 8 v8) 9 v9
  exact ⟨(Z 0 (by omega)).trans rfl, (Z 1 (by omega)).trans rfl, (Z 2 (by omega)).trans rfl, (Z 3 (by omega)).trans rfl, (Z 4 (by omega)).trans rfl, (Z 5 (by omega)).trans rfl, (Z 6 (by omega)).trans rfl, (Z 7 (by omega)).trans rfl, (Z 8 (by omega)).trans rfl, (Z 9 (by omega)).trans rfl⟩

end Go.Proofs.Ytccbffhjibigeaa
