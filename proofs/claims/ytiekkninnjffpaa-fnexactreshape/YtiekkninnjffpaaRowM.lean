import Derived.Test.YtiekkninnjffpaaResh
import Derived.Test.YtiekkninnjffpaaImplBR
namespace Go.Proofs.Ytiekkninnjffpaa
open Go.ChangeShapes Go.RowKit Go.Shelf
set_option linter.unusedSimpArgs false
set_option linter.unusedVariables false

theorem set10 {W : World} {R : Nat} (h : ∀ j, j < 10 → W.cell? ⟨R, j, none⟩ = some (.int .i64 0)) (v0 v1 v2 v3 v4 v5 v6 v7 v8 v9 : Value) :
    ((((((((((W.setCell ⟨R, 0, none⟩ v0).setCell ⟨R, 1, none⟩ v1).setCell ⟨R, 2, none⟩ v2).setCell ⟨R, 3, none⟩ v3).setCell ⟨R, 4, none⟩ v4).setCell ⟨R, 5, none⟩ v5).setCell ⟨R, 6, none⟩ v6).setCell ⟨R, 7, none⟩ v7).setCell ⟨R, 8, none⟩ v8).setCell ⟨R, 9, none⟩ v9).cell? ⟨R, 0, none⟩ = some v0 ∧ ((((((((((W.setCell ⟨R, 0, none⟩ v0).setCell ⟨R, 1, none⟩ v1).setCell ⟨R, 2, none⟩ v2).setCell ⟨R, 3, none⟩ v3).setCell ⟨R, 4, none⟩ v4).setCell ⟨R, 5, none⟩ v5).setCell ⟨R, 6, none⟩ v6).setCell ⟨R, 7, none⟩ v7).setCell ⟨R, 8, none⟩ v8).setCell ⟨R, 9, none⟩ v9).cell? ⟨R, 1, none⟩ = some v1 ∧ ((((((((((W.setCell ⟨R, 0, none⟩ v0).setCell ⟨R, 1, none⟩ v1).setCell ⟨R, 2, none⟩ v2).setCell ⟨R, 3, none⟩ v3).setCell ⟨R, 4, none⟩ v4).setCell ⟨R, 5, none⟩ v5).setCell ⟨R, 6, none⟩ v6).setCell ⟨R, 7, none⟩ v7).setCell ⟨R, 8, none⟩ v8).setCell ⟨R, 9, none⟩ v9).cell? ⟨R, 2, none⟩ = some v2 ∧ ((((((((((W.setCell ⟨R, 0, none⟩ v0).setCell ⟨R, 1, none⟩ v1).setCell ⟨R, 2, none⟩ v2).setCell ⟨R, 3, none⟩ v3).setCell ⟨R, 4, none⟩ v4).setCell ⟨R, 5, none⟩ v5).setCell ⟨R, 6, none⟩ v6).setCell ⟨R, 7, none⟩ v7).setCell ⟨R, 8, none⟩ v8).setCell ⟨R, 9, none⟩ v9).cell? ⟨R, 3, none⟩ = some v3 ∧ ((((((((((W.setCell ⟨R, 0, none⟩ v0).setCell ⟨R, 1, none⟩ v1).setCell ⟨R, 2, none⟩ v2).setCell ⟨R, 3, none⟩ v3).setCell ⟨R, 4, none⟩ v4).setCell ⟨R, 5, none⟩ v5).setCell ⟨R, 6, none⟩ v6).setCell ⟨R, 7, none⟩ v7).setCell ⟨R, 8, none⟩ v8).setCell ⟨R, 9, none⟩ v9).cell? ⟨R, 4, none⟩ = some v4 ∧ ((((((((((W.setCell ⟨R, 0, none⟩ v0).setCell ⟨R, 1, none⟩ v1).setCell ⟨R, 2, none⟩ v2).setCell ⟨R, 3, none⟩ v3).setCell ⟨R, 4, none⟩ v4).setCell ⟨R, 5, none⟩ v5).setCell ⟨R, 6, none⟩ v6).setCell ⟨R, 7, none⟩ v7).setCell ⟨R, 8, none⟩ v8).setCell ⟨R, 9, none⟩ v9).cell? ⟨R, 5, none⟩ = some v5 ∧ ((((((((((W.setCell ⟨R, 0, none⟩ v0).setCell ⟨R, 1, none⟩ v1).setCell ⟨R, 2, none⟩ v2).setCell ⟨R, 3, none⟩ v3).setCell ⟨R, 4, none⟩ v4).setCell ⟨R, 5, none⟩ v5).setCell ⟨R, 6, none⟩ v6).setCell ⟨R, 7, none⟩ v7).setCell ⟨R, 8, none⟩ v8).setCell ⟨R, 9, none⟩ v9).cell? ⟨R, 6, none⟩ = some v6 ∧ ((((((((((W.setCell ⟨R, 0, none⟩ v0).setCell ⟨R, 1, none⟩ v1).setCell ⟨R, 2, none⟩ v2).setCell ⟨R, 3, none⟩ v3).setCell ⟨R, 4, none⟩ v4).setCell ⟨R, 5, none⟩ v5).setCell ⟨R, 6, none⟩ v6).setCell ⟨R, 7, none⟩ v7).setCell ⟨R, 8, none⟩ v8).setCell ⟨R, 9, none⟩ v9).cell? ⟨R, 7, none⟩ = some v7 ∧ ((((((((((W.setCell ⟨R, 0, none⟩ v0).setCell ⟨R, 1, none⟩ v1).setCell ⟨R, 2, none⟩ v2).setCell ⟨R, 3, none⟩ v3).setCell ⟨R, 4, none⟩ v4).setCell ⟨R, 5, none⟩ v5).setCell ⟨R, 6, none⟩ v6).setCell ⟨R, 7, none⟩ v7).setCell ⟨R, 8, none⟩ v8).setCell ⟨R, 9, none⟩ v9).cell? ⟨R, 8, none⟩ = some v8 ∧ ((((((((((W.setCell ⟨R, 0, none⟩ v0).setCell ⟨R, 1, none⟩ v1).setCell ⟨R, 2, none⟩ v2).setCell ⟨R, 3, none⟩ v3).setCell ⟨R, 4, none⟩ v4).setCell ⟨R, 5, none⟩ v5).setCell ⟨R, 6, none⟩ v6).setCell ⟨R, 7, none⟩ v7).setCell ⟨R, 8, none⟩ v8).setCell ⟨R, 9, none⟩ v9).cell? ⟨R, 9, none⟩ = some v9 := by
  have Zz := (zt (zt (zt (zt (zt (zt (zt (zt (zt (zt (show ∀ j, j < 10 → W.cell? ⟨R, j, none⟩ = some ((fun _ => (.int .i64 0 : Value)) j) from h) 0 v0) 1 v1) 2 v2) 3 v3) 4 v4) 5 v5) 6 v6) 7 v7) 8 v8) 9 v9)
  exact ⟨(Zz 0 (by omega)).trans rfl, (Zz 1 (by omega)).trans rfl, (Zz 2 (by omega)).trans rfl, (Zz 3 (by omega)).trans rfl, (Zz 4 (by omega)).trans rfl, (Zz 5 (by omega)).trans rfl, (Zz 6 (by omega)).trans rfl, (Zz 7 (by omega)).trans rfl, (Zz 8 (by omega)).trans rfl, (Zz 9 (by omega)).trans rfl⟩

/-- The loop of rowMajor: the strides from k on are laid. -/
structure RM (w wr : World) (ys : List Int) (off : Int) (k : Nat) : Prop where
  s : ∀ j, j < 4 → wr.cell? ⟨w.heap.size, 1 + j, none⟩ = some (.int .i64 (ys.getD j 0))
  r : ∀ j, j < 10 → wr.cell? ⟨w.heap.size + 1, j, none⟩ = some (.int .i64 0)
  f0 : wr.cell? ⟨w.heap.size + 1 + 1, 0, none⟩ = some (.int .i64 ys.length)
  fl : ∀ j, j < 4 → wr.cell? ⟨w.heap.size + 1 + 1, 1 + j, none⟩ = some (.int .i64 (ys.getD j 0))
  fs : ∀ j, j < 4 → wr.cell? ⟨w.heap.size + 1 + 1, 5 + j, none⟩ = some (.int .i64 (if k ≤ j ∧ j < ys.length then prod (ys.drop (j + 1)) else 0))
  f9 : wr.cell? ⟨w.heap.size + 1 + 1, 9, none⟩ = some (.int .i64 off)
  ex : Ext w wr
theorem RM.step {w wr : World} {ys : List Int} {off : Int} {k : Nat} (h : RM w wr ys off (k + 1)) (hk : k < 4) (hl : k < ys.length) : RM w (wr.setCell ⟨w.heap.size + 1 + 1, 5 + k, none⟩ (.int .i64 (prod (ys.drop (k + 1))))) ys off k := by
  have m : Mut (w.heap.size + 1 + 1) wr (wr.setCell ⟨w.heap.size + 1 + 1, 5 + k, none⟩ (.int .i64 (prod (ys.drop (k + 1))))) := (Mut.refl _ _).setCell _ _
  refine ⟨fun j hj => m.box (by omega) (h.s j hj), fun j hj => m.box (by omega) (h.r j hj), near (by omega) h.f0, fun j hj => near (by omega) (h.fl j hj), fun j hj => ?_, near (by omega) h.f9, h.ex.setCell (by show w.heap.size ≤ w.heap.size + 1 + 1; omega) _⟩
  by_cases e : k = j
  · subst e
    rw [if_pos ⟨Nat.le_refl _, hl⟩]
    exact World.cell?_setCell_same _ _ _ (h.fs k hj)
  · refine near (by omega) ((h.fs j hj).trans ?_)
    by_cases q : k + 1 ≤ j ∧ j < ys.length
    · rw [if_pos q, if_pos ⟨by omega, q.2⟩]
    · rw [if_neg q, if_neg (fun p => q ⟨by omega, p.2⟩)]

set_option maxRecDepth 100000 in
set_option maxHeartbeats 1000000 in
theorem rowM_any (w : World) (ys : List Int) (off : Int) (h4 : ys.length ≤ 4) (hr : InR ys ys.length) :
    Calls Try.prog 69 #[.agg (shp ys), .int .i64 off] w fun e w' => e = .returned (.agg (vw ys (rmS ys) off)) ∧ Ext w w' := by
  have hc := hide (fun W => count_any W ys h4 hr)
  have HR := hide hr
  clear hr
  unfold shp at hc ⊢
  generalize hd0 : ys.getD 0 0 = d0 at hc ⊢
  generalize hd1 : ys.getD 1 0 = d1 at hc ⊢
  generalize hd2 : ys.getD 2 0 = d2 at hc ⊢
  generalize hd3 : ys.getD 3 0 = d3 at hc ⊢
  have y1 : Ext (w.alloc (.cells #[.int .i64 ys.length, .int .i64 d0, .int .i64 d1, .int .i64 d2, .int .i64 d3] 62)) ((((w.alloc (.cells #[.int .i64 ys.length, .int .i64 d0, .int .i64 d1, .int .i64 d2, .int .i64 d3] 62)).alloc (.cells #[.int .i64 0, .int .i64 0, .int .i64 0, .int .i64 0, .int .i64 0, .int .i64 0, .int .i64 0, .int .i64 0, .int .i64 0, .int .i64 0] 64)).alloc (.cells #[.int .i64 ys.length, .int .i64 d0, .int .i64 d1, .int .i64 d2, .int .i64 d3, .int .i64 0, .int .i64 0, .int .i64 0, .int .i64 0, .int .i64 off] 64)).alloc (.cells #[.int .i64 ys.length, .int .i64 d0, .int .i64 d1, .int .i64 d2, .int .i64 d3] 62)) := (((Ext.refl _).alloc _ _).alloc _ _).alloc _ _
  have y2 : Ext ((w.alloc (.cells #[.int .i64 ys.length, .int .i64 d0, .int .i64 d1, .int .i64 d2, .int .i64 d3] 62)).alloc (.cells #[.int .i64 0, .int .i64 0, .int .i64 0, .int .i64 0, .int .i64 0, .int .i64 0, .int .i64 0, .int .i64 0, .int .i64 0, .int .i64 0] 64)) ((((w.alloc (.cells #[.int .i64 ys.length, .int .i64 d0, .int .i64 d1, .int .i64 d2, .int .i64 d3] 62)).alloc (.cells #[.int .i64 0, .int .i64 0, .int .i64 0, .int .i64 0, .int .i64 0, .int .i64 0, .int .i64 0, .int .i64 0, .int .i64 0, .int .i64 0] 64)).alloc (.cells #[.int .i64 ys.length, .int .i64 d0, .int .i64 d1, .int .i64 d2, .int .i64 d3, .int .i64 0, .int .i64 0, .int .i64 0, .int .i64 0, .int .i64 off] 64)).alloc (.cells #[.int .i64 ys.length, .int .i64 d0, .int .i64 d1, .int .i64 d2, .int .i64 d3] 62)) := ((Ext.refl _).alloc _ _).alloc _ _
  have y3 : Ext (((w.alloc (.cells #[.int .i64 ys.length, .int .i64 d0, .int .i64 d1, .int .i64 d2, .int .i64 d3] 62)).alloc (.cells #[.int .i64 0, .int .i64 0, .int .i64 0, .int .i64 0, .int .i64 0, .int .i64 0, .int .i64 0, .int .i64 0, .int .i64 0, .int .i64 0] 64)).alloc (.cells #[.int .i64 ys.length, .int .i64 d0, .int .i64 d1, .int .i64 d2, .int .i64 d3, .int .i64 0, .int .i64 0, .int .i64 0, .int .i64 0, .int .i64 off] 64)) ((((w.alloc (.cells #[.int .i64 ys.length, .int .i64 d0, .int .i64 d1, .int .i64 d2, .int .i64 d3] 62)).alloc (.cells #[.int .i64 0, .int .i64 0, .int .i64 0, .int .i64 0, .int .i64 0, .int .i64 0, .int .i64 0, .int .i64 0, .int .i64 0, .int .i64 0] 64)).alloc (.cells #[.int .i64 ys.length, .int .i64 d0, .int .i64 d1, .int .i64 d2, .int .i64 d3, .int .i64 0, .int .i64 0, .int .i64 0, .int .i64 0, .int .i64 off] 64)).alloc (.cells #[.int .i64 ys.length, .int .i64 d0, .int .i64 d1, .int .i64 d2, .int .i64 d3] 62)) := (Ext.refl _).alloc _ _
  have x0 : Ext w ((((w.alloc (.cells #[.int .i64 ys.length, .int .i64 d0, .int .i64 d1, .int .i64 d2, .int .i64 d3] 62)).alloc (.cells #[.int .i64 0, .int .i64 0, .int .i64 0, .int .i64 0, .int .i64 0, .int .i64 0, .int .i64 0, .int .i64 0, .int .i64 0, .int .i64 0] 64)).alloc (.cells #[.int .i64 ys.length, .int .i64 d0, .int .i64 d1, .int .i64 d2, .int .i64 d3, .int .i64 0, .int .i64 0, .int .i64 0, .int .i64 0, .int .i64 off] 64)).alloc (.cells #[.int .i64 ys.length, .int .i64 d0, .int .i64 d1, .int .i64 d2, .int .i64 d3] 62)) := ((((Ext.refl _).alloc _ _).alloc _ _).alloc _ _).alloc _ _
  have n1 := fun j => new_cell w #[.int .i64 ys.length, .int .i64 d0, .int .i64 d1, .int .i64 d2, .int .i64 d3] 62 w.heap.size rfl j
  have n2 := fun j => new_cell (w.alloc (.cells #[.int .i64 ys.length, .int .i64 d0, .int .i64 d1, .int .i64 d2, .int .i64 d3] 62)) #[.int .i64 0, .int .i64 0, .int .i64 0, .int .i64 0, .int .i64 0, .int .i64 0, .int .i64 0, .int .i64 0, .int .i64 0, .int .i64 0] 64 (w.heap.size + 1) (by simp) j
  have n3 := fun j => new_cell ((w.alloc (.cells #[.int .i64 ys.length, .int .i64 d0, .int .i64 d1, .int .i64 d2, .int .i64 d3] 62)).alloc (.cells #[.int .i64 0, .int .i64 0, .int .i64 0, .int .i64 0, .int .i64 0, .int .i64 0, .int .i64 0, .int .i64 0, .int .i64 0, .int .i64 0] 64)) #[.int .i64 ys.length, .int .i64 d0, .int .i64 d1, .int .i64 d2, .int .i64 d3, .int .i64 0, .int .i64 0, .int .i64 0, .int .i64 0, .int .i64 off] 64 (w.heap.size + 1 + 1) (by simp) j
  have S0 : RM w ((((w.alloc (.cells #[.int .i64 ys.length, .int .i64 d0, .int .i64 d1, .int .i64 d2, .int .i64 d3] 62)).alloc (.cells #[.int .i64 0, .int .i64 0, .int .i64 0, .int .i64 0, .int .i64 0, .int .i64 0, .int .i64 0, .int .i64 0, .int .i64 0, .int .i64 0] 64)).alloc (.cells #[.int .i64 ys.length, .int .i64 d0, .int .i64 d1, .int .i64 d2, .int .i64 d3, .int .i64 0, .int .i64 0, .int .i64 0, .int .i64 0, .int .i64 off] 64)).alloc (.cells #[.int .i64 ys.length, .int .i64 d0, .int .i64 d1, .int .i64 d2, .int .i64 d3] 62)) ys off ys.length := by
    refine ⟨fun j hj => ?_, fun j hj => ?_, y3.box (n3 0), fun j hj => ?_, fun j hj => ?_, y3.box (n3 9), x0⟩
    · obtain rfl | rfl | rfl | rfl : j = 0 ∨ j = 1 ∨ j = 2 ∨ j = 3 := by omega
      · rw [hd0]; exact y1.box (n1 1)
      · rw [hd1]; exact y1.box (n1 2)
      · rw [hd2]; exact y1.box (n1 3)
      · rw [hd3]; exact y1.box (n1 4)
    · obtain rfl | rfl | rfl | rfl | rfl | rfl | rfl | rfl | rfl | rfl : j = 0 ∨ j = 1 ∨ j = 2 ∨ j = 3 ∨ j = 4 ∨ j = 5 ∨ j = 6 ∨ j = 7 ∨ j = 8 ∨ j = 9 := by omega
      all_goals exact y2.box (n2 _)
    · obtain rfl | rfl | rfl | rfl : j = 0 ∨ j = 1 ∨ j = 2 ∨ j = 3 := by omega
      · rw [hd0]; exact y3.box (n3 1)
      · rw [hd1]; exact y3.box (n3 2)
      · rw [hd2]; exact y3.box (n3 3)
      · rw [hd3]; exact y3.box (n3 4)
    · rw [if_neg (by omega)]
      obtain rfl | rfl | rfl | rfl : j = 0 ∨ j = 1 ∨ j = 2 ∨ j = 3 := by omega
      · exact y3.box (n3 5)
      · exact y3.box (n3 6)
      · exact y3.box (n3 7)
      · exact y3.box (n3 8)
  have HS0 := hide S0
  have Hd0 := hide hd0
  have Hd1 := hide hd1
  have Hd2 := hide hd2
  have Hd3 := hide hd3
  have sl0 : ((((w.alloc (.cells #[.int .i64 ys.length, .int .i64 d0, .int .i64 d1, .int .i64 d2, .int .i64 d3] 62)).alloc (.cells #[.int .i64 0, .int .i64 0, .int .i64 0, .int .i64 0, .int .i64 0, .int .i64 0, .int .i64 0, .int .i64 0, .int .i64 0, .int .i64 0] 64)).alloc (.cells #[.int .i64 ys.length, .int .i64 d0, .int .i64 d1, .int .i64 d2, .int .i64 d3, .int .i64 0, .int .i64 0, .int .i64 0, .int .i64 0, .int .i64 off] 64)).alloc (.cells #[.int .i64 ys.length, .int .i64 d0, .int .i64 d1, .int .i64 d2, .int .i64 d3] 62)).cell? ⟨w.heap.size, 0, none⟩ = some (.int .i64 ys.length) := y1.box (n1 0)
  clear S0 y1 y2 y3 x0 n1 n2 n3 hd0 hd1 hd2 hd3
  go_enter Try.func69, Try.ntmps69
  go_wp2_with fail
  refine (hc.out _).mono ?_
  rintro e w' ⟨rfl, rfl⟩
  clear hc
  generalize hW : (((w.alloc (.cells #[.int .i64 ys.length, .int .i64 d0, .int .i64 d1, .int .i64 d2, .int .i64 d3] 62)).alloc (.cells #[.int .i64 0, .int .i64 0, .int .i64 0, .int .i64 0, .int .i64 0, .int .i64 0, .int .i64 0, .int .i64 0, .int .i64 0, .int .i64 0] 64)).alloc (.cells #[.int .i64 ys.length, .int .i64 d0, .int .i64 d1, .int .i64 d2, .int .i64 d3, .int .i64 0, .int .i64 0, .int .i64 0, .int .i64 0, .int .i64 off] 64)).alloc (.cells #[.int .i64 ys.length, .int .i64 d0, .int .i64 d1, .int .i64 d2, .int .i64 d3] 62) = W at HS0 sl0 ⊢
  clear hW
  have fin : Hid (∀ (W : World) (S : List Int), RM w W ys off 0 → (∀ j, j < 4 → S.getD j 0 = (rmS ys).getD j 0) → True) := fun _ _ _ _ => trivial
  clear fin
  generalize hP : prod ys = P
  by_cases hz : P = 0
  · have HP : Hid (prod ys = 0) := hP.trans hz
    subst hz
    clear hP
    have g0 := HS0.out.f0
    have g1 : W.cell? ⟨w.heap.size + 1 + 1, 1, none⟩ = _ := HS0.out.fl 0 (by omega)
    have g2 : W.cell? ⟨w.heap.size + 1 + 1, 2, none⟩ = _ := HS0.out.fl 1 (by omega)
    have g3 : W.cell? ⟨w.heap.size + 1 + 1, 3, none⟩ = _ := HS0.out.fl 2 (by omega)
    have g4 : W.cell? ⟨w.heap.size + 1 + 1, 4, none⟩ = _ := HS0.out.fl 3 (by omega)
    have g5 : W.cell? ⟨w.heap.size + 1 + 1, 5, none⟩ = some (.int .i64 ((rmS ys).getD 0 0)) := (HS0.out.fs 0 (by omega)).trans (by rw [if_neg (by omega), rmS_getD, if_pos HP.out, ite_self])
    have g6 : W.cell? ⟨w.heap.size + 1 + 1, 6, none⟩ = some (.int .i64 ((rmS ys).getD 1 0)) := (HS0.out.fs 1 (by omega)).trans (by rw [if_neg (by omega), rmS_getD, if_pos HP.out, ite_self])
    have g7 : W.cell? ⟨w.heap.size + 1 + 1, 7, none⟩ = some (.int .i64 ((rmS ys).getD 2 0)) := (HS0.out.fs 2 (by omega)).trans (by rw [if_neg (by omega), rmS_getD, if_pos HP.out, ite_self])
    have g8 : W.cell? ⟨w.heap.size + 1 + 1, 8, none⟩ = some (.int .i64 ((rmS ys).getD 3 0)) := (HS0.out.fs 3 (by omega)).trans (by rw [if_neg (by omega), rmS_getD, if_pos HP.out, ite_self])
    have g9 := HS0.out.f9
    have rr := hide HS0.out.r
    have rr0 := rr.out 0 (by omega)
    have rr1 := rr.out 1 (by omega)
    have rr2 := rr.out 2 (by omega)
    have rr3 := rr.out 3 (by omega)
    have rr4 := rr.out 4 (by omega)
    have rr5 := rr.out 5 (by omega)
    have rr6 := rr.out 6 (by omega)
    have rr7 := rr.out 7 (by omega)
    have rr8 := rr.out 8 (by omega)
    have rr9 := rr.out 9 (by omega)
    have rf := fun o => HS0.out.ex.unfrozen (b := w.heap.size + 1) (by omega) o
    have Ex := hide HS0.out.ex
    generalize hc0 : ys.getD 0 0 = c0 at g1
    have Hc0 := hide hc0
    clear hc0
    generalize hc1 : ys.getD 1 0 = c1 at g2
    have Hc1 := hide hc1
    clear hc1
    generalize hc2 : ys.getD 2 0 = c2 at g3
    have Hc2 := hide hc2
    clear hc2
    generalize hc3 : ys.getD 3 0 = c3 at g4
    have Hc3 := hide hc3
    clear hc3
    generalize he0 : (rmS ys).getD 0 0 = e0 at g5
    have He0 := hide he0
    clear he0
    generalize he1 : (rmS ys).getD 1 0 = e1 at g6
    have He1 := hide he1
    clear he1
    generalize he2 : (rmS ys).getD 2 0 = e2 at g7
    have He2 := hide he2
    clear he2
    generalize he3 : (rmS ys).getD 3 0 = e3 at g8
    have He3 := hide he3
    clear he3
    go_wp2
    obtain ⟨q0, q1, q2, q3, q4, q5, q6, q7, q8, q9⟩ := set10 rr.out (.int .i64 (ys.length : Int)) (.int .i64 c0) (.int .i64 c1) (.int .i64 c2) (.int .i64 c3) (.int .i64 e0) (.int .i64 e1) (.int .i64 e2) (.int .i64 e3) (.int .i64 off)
    exact bodyPost_ret (v := .agg #[.int .i64 (ys.length : Int), .int .i64 c0, .int .i64 c1, .int .i64 c2, .int .i64 c3, .int .i64 e0, .int .i64 e1, .int .i64 e2, .int .i64 e3, .int .i64 off]) (by simp [results, Try.results69, go_sem, q0, q1, q2, q3, q4, q5, q6, q7, q8, q9]) rfl ⟨by unfold vw; rw [Hc0.out, Hc1.out, Hc2.out, Hc3.out, He0.out, He1.out, He2.out, He3.out], by repeat (first | with_reducible exact Ex.out | with_reducible refine Ext.setCell ?_ (by show w.heap.size ≤ w.heap.size + 1; omega) _)⟩
  · have HP : Hid (prod ys ≠ 0) := fun h => hz (hP ▸ h)
    have hPb : (P == 0) = false := by simp [hz]
    clear hP
    go_wp2_with fail
    go_loopw [6, 7] (fun m i wr => ∃ k : Nat, i = .int .i64 ((k : Int) - 1) ∧ m = .int .i64 (prod (ys.drop k)) ∧ k ≤ ys.length ∧ RM w wr ys off k) (fun m i _ => (intOf i + 1).toNat)
    case atStart => exact ⟨ys.length, rfl, by rw [List.drop_length]; rfl, Nat.le_refl _, HS0.out⟩
    case round =>
      obtain ⟨k, rfl, rfl, hk, hR⟩ := hrel
      have HM := hide hR
      clear hR
      cases k with
      | zero =>
        rw [show ((0 : Nat) : Int) - 1 = -1 from rfl]
        have g0 := HM.out.f0
        have g1 : wr.cell? ⟨w.heap.size + 1 + 1, 1, none⟩ = _ := HM.out.fl 0 (by omega)
        have g2 : wr.cell? ⟨w.heap.size + 1 + 1, 2, none⟩ = _ := HM.out.fl 1 (by omega)
        have g3 : wr.cell? ⟨w.heap.size + 1 + 1, 3, none⟩ = _ := HM.out.fl 2 (by omega)
        have g4 : wr.cell? ⟨w.heap.size + 1 + 1, 4, none⟩ = _ := HM.out.fl 3 (by omega)
        have g5 : wr.cell? ⟨w.heap.size + 1 + 1, 5, none⟩ = some (.int .i64 ((rmS ys).getD 0 0)) := (HM.out.fs 0 (by omega)).trans (by rw [rmS_getD, if_neg HP.out]; simp only [Nat.zero_le, true_and])
        have g6 : wr.cell? ⟨w.heap.size + 1 + 1, 6, none⟩ = some (.int .i64 ((rmS ys).getD 1 0)) := (HM.out.fs 1 (by omega)).trans (by rw [rmS_getD, if_neg HP.out]; simp only [Nat.zero_le, true_and])
        have g7 : wr.cell? ⟨w.heap.size + 1 + 1, 7, none⟩ = some (.int .i64 ((rmS ys).getD 2 0)) := (HM.out.fs 2 (by omega)).trans (by rw [rmS_getD, if_neg HP.out]; simp only [Nat.zero_le, true_and])
        have g8 : wr.cell? ⟨w.heap.size + 1 + 1, 8, none⟩ = some (.int .i64 ((rmS ys).getD 3 0)) := (HM.out.fs 3 (by omega)).trans (by rw [rmS_getD, if_neg HP.out]; simp only [Nat.zero_le, true_and])
        have g9 := HM.out.f9
        have rr := hide HM.out.r
        have rr0 := rr.out 0 (by omega)
        have rr1 := rr.out 1 (by omega)
        have rr2 := rr.out 2 (by omega)
        have rr3 := rr.out 3 (by omega)
        have rr4 := rr.out 4 (by omega)
        have rr5 := rr.out 5 (by omega)
        have rr6 := rr.out 6 (by omega)
        have rr7 := rr.out 7 (by omega)
        have rr8 := rr.out 8 (by omega)
        have rr9 := rr.out 9 (by omega)
        have rf := fun o => HM.out.ex.unfrozen (b := w.heap.size + 1) (by omega) o
        have Ex := hide HM.out.ex
        generalize hc0 : ys.getD 0 0 = c0 at g1
        have Hc0 := hide hc0
        clear hc0
        generalize hc1 : ys.getD 1 0 = c1 at g2
        have Hc1 := hide hc1
        clear hc1
        generalize hc2 : ys.getD 2 0 = c2 at g3
        have Hc2 := hide hc2
        clear hc2
        generalize hc3 : ys.getD 3 0 = c3 at g4
        have Hc3 := hide hc3
        clear hc3
        generalize he0 : (rmS ys).getD 0 0 = e0 at g5
        have He0 := hide he0
        clear he0
        generalize he1 : (rmS ys).getD 1 0 = e1 at g6
        have He1 := hide he1
        clear he1
        generalize he2 : (rmS ys).getD 2 0 = e2 at g7
        have He2 := hide he2
        clear he2
        generalize he3 : (rmS ys).getD 3 0 = e3 at g8
        have He3 := hide he3
        clear he3
        go_wp2
        obtain ⟨q0, q1, q2, q3, q4, q5, q6, q7, q8, q9⟩ := set10 rr.out (.int .i64 (ys.length : Int)) (.int .i64 c0) (.int .i64 c1) (.int .i64 c2) (.int .i64 c3) (.int .i64 e0) (.int .i64 e1) (.int .i64 e2) (.int .i64 e3) (.int .i64 off)
        exact bodyPost_ret (v := .agg #[.int .i64 (ys.length : Int), .int .i64 c0, .int .i64 c1, .int .i64 c2, .int .i64 c3, .int .i64 e0, .int .i64 e1, .int .i64 e2, .int .i64 e3, .int .i64 off]) (by simp [results, Try.results69, go_sem, q0, q1, q2, q3, q4, q5, q6, q7, q8, q9]) rfl ⟨by unfold vw; rw [Hc0.out, Hc1.out, Hc2.out, Hc3.out, He0.out, He1.out, He2.out, He3.out], by repeat (first | with_reducible exact Ex.out | with_reducible refine Ext.setCell ?_ (by show w.heap.size ≤ w.heap.size + 1; omega) _)⟩
      | succ k =>
        have hk4 : k < 4 := by omega
        have hk0 : (0 : Int) ≤ (k : Int) := Int.natCast_nonneg _
        have hk44 : (k : Int) < 4 := by omega
        have hi : ((k + 1 : Nat) : Int) - 1 = (k : Int) := by omega
        rw [hi]
        have q0 := HM.out.s k hk4
        have q1 := HM.out.fs k hk4
        rw [if_neg (by omega)] at q1
        have St := hide (HM.out.step hk4 (by omega))
        have hp := prod_drop ys k (by omega)
        have hb := drop_bd' h4 HR.out k
        have hb1 := drop_bd' h4 HR.out (k + 1)
        have bf := fun o => HM.out.ex.unfrozen (b := w.heap.size + 1 + 1) (by omega) o
        generalize ys.getD k 0 = x at q0 hp
        generalize hPk : prod (ys.drop k) = Pk at hp hb
        have HPk := hide hPk
        clear hPk
        generalize prod (ys.drop (k + 1)) = Q at hp hb1 St ⊢
        have hw1 : wrap64 (Q * x) = Pk := by rw [Int.mul_comm, ← hp]; unfold wrap64; omega
        clear hp
        have q2 : (wr.setCell ⟨w.heap.size + 1 + 1, 5 + k, none⟩ (.int .i64 Q)).cell? ⟨w.heap.size, 1 + k, none⟩ = some (.int .i64 x) := ((Mut.refl (w.heap.size + 1 + 1) wr).setCell _ _).box (by omega) q0
        go_wp2
        go_roundw
        · exact ⟨k, by go_num, by first | (rw [HPk.out]; done) | (rw [HPk.out, hw1]), by omega, St.out⟩
        · first | (simp [intOf]; done) | (simp [intOf]; omega)
end Go.Proofs.Ytiekkninnjffpaa
