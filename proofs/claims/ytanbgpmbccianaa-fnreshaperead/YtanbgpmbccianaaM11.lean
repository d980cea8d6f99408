import Derived.Test.YtanbgpmbccianaaM8
import Derived.Test.YtanbgpmbccianaaM4
import Derived.Test.YtanbgpmbccianaaM7
import Derived.Test.YtanbgpmbccianaaDDr
import Derived.WalkKit
import Derived.WalkSpells
import Derived.WalkLawsBesides
import Derived.Outline
import Derived.Deep.Light
import Ieee.Arith
import Derived.Laws.FloatBits
namespace Go.Proofs.Ytanbgpmbccianaa
open Go.ChangeShapes Go.RowKit Go.Shelf
set_option linter.unusedSimpArgs false
set_option linter.unusedVariables false

theorem set10 {W : World} {R : Nat} (h : ∀ j, j < 10 → W.cell? ⟨R, j, none⟩ = some (.int .i64 0)) (v0 v1 v2 v3 v4 v5 v6 v7 v8 v9 : Value) :
    ((((((((((W.setCell ⟨R, 0, none⟩ v0).setCell ⟨R, 1, none⟩ v1).setCell ⟨R, 2, none⟩ v2).setCell ⟨R, 3, none⟩ v3).setCell ⟨R, 4, none⟩ v4).setCell ⟨R, 5, none⟩ v5).setCell ⟨R, 6, none⟩ v6).setCell ⟨R, 7, none⟩ v7).setCell ⟨R, 8, none⟩ v8).setCell ⟨R, 9, none⟩ v9).cell? ⟨R, 0, none⟩ = some v0 ∧ ((((((((((W.setCell ⟨R, 0, none⟩ v0).setCell ⟨R, 1, none⟩ v1).setCell ⟨R, 2, none⟩ v2).setCell ⟨R, 3, none⟩ v3).setCell ⟨R, 4, none⟩ v4).setCell ⟨R, 5, none⟩ v5).setCell ⟨R, 6, none⟩ v6).setCell ⟨R, 7, none⟩ v7).setCell ⟨R, 8, none⟩ v8).setCell ⟨R, 9, none⟩ v9).cell? ⟨R, 1, none⟩ = some v1 ∧ ((((((((((W.setCell ⟨R, 0, none⟩ v0).setCell ⟨R, 1, none⟩ v1).setCell ⟨R, 2, none⟩ v2).setCell ⟨R, 3, none⟩ v3).setCell ⟨R, 4, none⟩ v4).setCell ⟨R, 5, none⟩ v5).setCell ⟨R, 6, none⟩ v6).setCell ⟨R, 7, none⟩ v7).setCell ⟨R, 8, none⟩ v8).setCell ⟨R, 9, none⟩ v9).cell? ⟨R, 2, none⟩ = some v2 ∧ ((((((((((W.setCell ⟨R, 0, none⟩ v0).setCell ⟨R, 1, none⟩ v1).setCell ⟨R, 2, none⟩ v2).setCell ⟨R, 3, none⟩ v3).setCell ⟨R, 4, none⟩ v4).setCell ⟨R, 5, none⟩ v5).setCell ⟨R, 6, none⟩ v6).setCell ⟨R, 7, none⟩ v7).setCell ⟨R, 8, none⟩ v8).setCell ⟨R, 9, none⟩ v9).cell? ⟨R, 3, none⟩ = some v3 ∧ ((((((((((W.setCell ⟨R, 0, none⟩ v0).setCell ⟨R, 1, none⟩ v1).setCell ⟨R, 2, none⟩ v2).setCell ⟨R, 3, none⟩ v3).setCell ⟨R, 4, none⟩ v4).setCell ⟨R, 5, none⟩ v5).setCell ⟨R, 6, none⟩ v6).setCell ⟨R, 7, none⟩ v7).setCell ⟨R, 8, none⟩ v8).setCell ⟨R, 9, none⟩ v9).cell? ⟨R, 4, none⟩ = some v4 ∧ ((((((((((W.setCell ⟨R, 0, none⟩ v0).setCell ⟨R, 1, none⟩ v1).setCell ⟨R, 2, none⟩ v2).setCell ⟨R, 3, none⟩ v3).setCell ⟨R, 4, none⟩ v4).setCell ⟨R, 5, none⟩ v5).setCell ⟨R, 6, none⟩ v6).setCell ⟨R, 7, none⟩ v7).setCell ⟨R, 8, none⟩ v8).setCell ⟨R, 9, none⟩ v9).cell? ⟨R, 5, none⟩ = some v5 ∧ ((((((((((W.setCell ⟨R, 0, none⟩ v0).setCell ⟨R, 1, none⟩ v1).setCell ⟨R, 2, none⟩ v2).setCell ⟨R, 3, none⟩ v3).setCell ⟨R, 4, none⟩ v4).setCell ⟨R, 5, none⟩ v5).setCell ⟨R, 6, none⟩ v6).setCell ⟨R, 7, none⟩ v7).setCell ⟨R, 8, none⟩ v8).setCell ⟨R, 9, none⟩ v9).cell? ⟨R, 6, none⟩ = some v6 ∧ ((((((((((W.setCell ⟨R, 0, none⟩ v0).setCell ⟨R, 1, none⟩ v1).setCell ⟨R, 2, none⟩ v2).setCell ⟨R, 3, none⟩ v3).setCell ⟨R, 4, none⟩ v4).setCell ⟨R, 5, none⟩ v5).setCell ⟨R, 6, none⟩ v6).setCell ⟨R, 7, none⟩ v7).setCell ⟨R, 8, none⟩ v8).setCell ⟨R, 9, none⟩ v9).cell? ⟨R, 7, none⟩ = some v7 ∧ ((((((((((W.setCell ⟨R, 0, none⟩ v0).setCell ⟨R, 1, none⟩ v1).setCell ⟨R, 2, none⟩ v2).setCell ⟨R, 3, none⟩ v3).setCell ⟨R, 4, none⟩ v4).setCell ⟨R, 5, none⟩ v5).setCell ⟨R, 6, none⟩ v6).setCell ⟨R, 7, none⟩ v7).setCell ⟨R, 8, none⟩ v8).setCell ⟨R, 9, none⟩ v9).cell? ⟨R, 8, none⟩ = some v8 ∧ ((((((((((W.setCell ⟨R, 0, none⟩ v0).setCell ⟨R, 1, none⟩ v1).setCell ⟨R, 2, none⟩ v2).setCell ⟨R, 3, none⟩ v3).setCell ⟨R, 4, none⟩ v4).setCell ⟨R, 5, none⟩ v5).setCell ⟨R, 6, none⟩ v6).setCell ⟨R, 7, none⟩ v7).setCell ⟨R, 8, none⟩ v8).setCell ⟨R, 9, none⟩ v9).cell? ⟨R, 9, none⟩ = some v9 := by
  have Zz := (zt (zt (zt (zt (zt (zt (zt (zt (zt (zt (show ∀ j, j < 10 → W.cell? ⟨R, j, none⟩ = some ((fun _ => (.int .i64 0 : Value)) j) from h) 0 v0) 1 v1) 2 v2) 3 v3) 4 v4) 5 v5) 6 v6) 7 v7) 8 v8) 9 v9)
  exact ⟨(Zz 0 (by omega)).trans rfl, (Zz 1 (by omega)).trans rfl, (Zz 2 (by omega)).trans rfl, (Zz 3 (by omega)).trans rfl, (Zz 4 (by omega)).trans rfl, (Zz 5 (by omega)).trans rfl, (Zz 6 (by omega)).trans rfl, (Zz 7 (by omega)).trans rfl, (Zz 8 (by omega)).trans rfl, (Zz 9 (by omega)).trans rfl⟩

/-- The loop of rowMajor: the strides from k on are laid. -/
structure RM (w wr : World) (ys : List Int) (off : Int) (k : Nat) : Prop where
  s : ∀ j, j < 4 → wr.cell? ⟨w.heap.size, 1 + j, none⟩ = some (.int .i64 (ys.getD j 0))
  r : ∀ j, j < 10 → wr.cell? ⟨w.heap.size + 1, j, none⟩ = some (.int .i64 0)
  f0 : wr.cell? ⟨w.heap.size + 1 + 1, 0, none⟩ = some (.int .i64 ys.length)
  fl : ∀ j, j < 4 → wr.cell? ⟨w.heap.size + 1 + 1, 1 + j, none⟩ = some (.int .i64 (ys.getD j 0))
  fs : ∀ j, j < 4 → wr.cell? ⟨w.heap.size + 1 + 1, 5 + j, none⟩ = some (.int .i64 (if k ≤ j ∧ j < ys.length then prod (ys.drop (j + 1)) else 0))
  f9 : wr.cell? ⟨w.heap.size + 1 + 1, 9, none⟩ = some (.int .i64 off)
  ex : Ext w wr
theorem RM.step {w wr : World} {ys : List Int} {off : Int} {k : Nat} (h : RM w wr ys off (k + 1)) (hk : k < 4) (hl : k < ys.length) : RM w (wr.setCell ⟨w.heap.size + 1 + 1, 5 + k, none⟩ (.int .i64 (prod (ys.drop (k + 1))))) ys off k := by
  have m : Mut (w.heap.size + 1 + 1) wr (wr.setCell ⟨w.heap.size + 1 + 1, 5 + k, none⟩ (.int .i64 (prod (ys.drop (k + 1))))) := (Mut.refl _ _).setCell _ _
  refine ⟨fun j hj => m.box (by omega) (h.s j hj), fun j hj => m.box (by omega) (h.r j hj), near (by omega) h.f0, fun j hj => near (by omega) (h.fl j hj), fun j hj => ?_, near (by omega) h.f9, h.ex.setCell (by show w.heap.size ≤ w.heap.size + 1 + 1; omega) _⟩
  by_cases e : k = j
  · subst e
    rw [if_pos ⟨Nat.le_refl _, hl⟩]
    exact World.cell?_setCell_same _ _ _ (h.fs k hj)
  · refine near (by omega) ((h.fs j hj).trans ?_)
    by_cases q : k + 1 ≤ j ∧ j < ys.length
    · rw [if_pos q, if_pos ⟨by omega, q.2⟩]
    · rw [if_neg q, if_neg (fun p => q ⟨by omega, p.2⟩)]

set_option maxRecDepth 100000 in
set_option maxHeartbeats 1000000 in
theorem rowM_any (w : World) (ys : List Int) (off : Int) (h4 : ys.length ≤ 4) (hr : InR ys ys.length) :
    Calls Try.prog 21 #[.agg (shp ys), .int .i64 off] w fun e w' => e = .returned (.agg (vw ys (rmS ys) off)) ∧ Ext w w' := by
  have hc := hide (fun W => count_any W ys h4 hr)
  have HR := hide hr
  clear hr
  unfold shp at hc ⊢
  generalize hd0 : ys.getD 0 0 = d0 at hc ⊢
  generalize hd1 : ys.getD 1 0 = d1 at hc ⊢
  generalize hd2 : ys.getD 2 0 = d2 at hc ⊢
  generalize hd3 : ys.getD 3 0 = d3 at hc ⊢
  have y1 : Ext (w.alloc (.cells #[.int .i64 ys.length, .int .i64 d0, .int .i64 d1, .int .i64 d2, .int .i64 d3] 56)) ((((w.alloc (.cells #[.int .i64 ys.length, .int .i64 d0, .int .i64 d1, .int .i64 d2, .int .i64 d3] 56)).alloc (.cells #[.int .i64 0, .int .i64 0, .int .i64 0, .int .i64 0, .int .i64 0, .int .i64 0, .int .i64 0, .int .i64 0, .int .i64 0, .int .i64 0] 58)).alloc (.cells #[.int .i64 ys.length, .int .i64 d0, .int .i64 d1, .int .i64 d2, .int .i64 d3, .int .i64 0, .int .i64 0, .int .i64 0, .int .i64 0, .int .i64 off] 58)).alloc (.cells #[.int .i64 ys.length, .int .i64 d0, .int .i64 d1, .int .i64 d2, .int .i64 d3] 56)) := (((Ext.refl _).alloc _ _).alloc _ _).alloc _ _
  have y2 : Ext ((w.alloc (.cells #[.int .i64 ys.length, .int .i64 d0, .int .i64 d1, .int .i64 d2, .int .i64 d3] 56)).alloc (.cells #[.int .i64 0, .int .i64 0, .int .i64 0, .int .i64 0, .int .i64 0, .int .i64 0, .int .i64 0, .int .i64 0, .int .i64 0, .int .i64 0] 58)) ((((w.alloc (.cells #[.int .i64 ys.length, .int .i64 d0, .int .i64 d1, .int .i64 d2, .int .i64 d3] 56)).alloc (.cells #[.int .i64 0, .int .i64 0, .int .i64 0, .int .i64 0, .int .i64 0, .int .i64 0, .int .i64 0, .int .i64 0, .int .i64 0, .int .i64 0] 58)).alloc (.cells #[.int .i64 ys.length, .int .i64 d0, .int .i64 d1, .int .i64 d2, .int .i64 d3, .int .i64 0, .int .i64 0, .int .i64 0, .int .i64 0, .int .i64 off] 58)).alloc (.cells #[.int .i64 ys.length, .int .i64 d0, .int .i64 d1, .int .i64 d2, .int .i64 d3] 56)) := ((Ext.refl _).alloc _ _).alloc _ _
  have y3 : Ext (((w.alloc (.cells #[.int .i64 ys.length, .int .i64 d0, .int .i64 d1, .int .i64 d2, .int .i64 d3] 56)).alloc (.cells #[.int .i64 0, .int .i64 0, .int .i64 0, .int .i64 0, .int .i64 0, .int .i64 0, .int .i64 0, .int .i64 0, .int .i64 0, .int .i64 0] 58)).alloc (.cells #[.int .i64 ys.length, .int .i64 d0, .int .i64 d1, .int .i64 d2, .int .i64 d3, .int .i64 0, .int .i64 0, .int .i64 0, .int .i64 0, .int .i64 off] 58)) ((((w.alloc (.cells #[.int .i64 ys.length, .int .i64 d0, .int .i64 d1, .int .i64 d2, .int .i64 d3] 56)).alloc (.cells #[.int .i64 0, .int .i64 0, .int .i64 0, .int .i64 0, .int .i64 0, .int .i64 0, .int .i64 0, .int .i64 0, .int .i64 0, .int .i64 0] 58)).alloc (.cells #[.int .i64 ys.length, .int .i64 d0, .int .i64 d1, .int .i64 d2, .int .i64 d3, .int .i64 0, .int .i64 0, .int .i64 0, .int .i64 0, .int .i64 off] 58)).alloc (.cells #[.int .i64 ys.length, .int .i64 d0, .int .i64 d1, .int .i64 d2, .int .i64 d3] 56)) := (Ext.refl _).alloc _ _
  have x0 : Ext w ((((w.alloc (.cells #[.int .i64 ys.length, .int .i64 d0, .int .i64 d1, .int .i64 d2, .int .i64 d3] 56)).alloc (.cells #[.int .i64 0, .int .i64 0, .int .i64 0, .int .i64 0, .int .i64 0, .int .i64 0, .int .i64 0, .int .i64 0, .int .i64 0, .int .i64 0] 58)).alloc (.cells #[.int .i64 ys.length, .int .i64 d0, .int .i64 d1, .int .i64 d2, .int .i64 d3, .int .i64 0, .int .i64 0, .int .i64 0, .int .i64 0, .int .i64 off] 58)).alloc (.cells #[.int .i64 ys.length, .int .i64 d0, .int .i64 d1, .int .i64 d2, .int .i64 d3] 56)) := ((((Ext.refl _).alloc _ _).alloc _ _).alloc _ _).alloc _ _
  have n1 := fun j => new_cell w #[.int .i64 ys.length, .int .i64 d0, .int .i64 d1, .int .i64 d2, .int .i64 d3] 56 w.heap.size rfl j
  have n2 := fun j => new_cell (w.alloc (.cells #[.int .i64 ys.length, .int .i64 d0, .int .i64 d1, .int .i64 d2, .int .i64 d3] 56)) #[.int .i64 0, .int .i64 0, .int .i64 0, .int .i64 0, .int .i64 0, .int .i64 0, .int .i64 0, .int .i64 0, .int .i64 0, .int .i64 0] 58 (w.heap.size + 1) (by simp) j
  have n3 := fun j => new_cell ((w.alloc (.cells #[.int .i64 ys.length, .int .i64 d0, .int .i64 d1, .int .i64 d2, .int .i64 d3] 56)).alloc (.cells #[.int .i64 0, .int .i64 0, .int .i64 0, .int .i64 0, .int .i64 0, .int .i64 0, .int .i64 0, .int .i64 0, .int .i64 0, .int .i64 0] 58)) #[.int .i64 ys.length, .int .i64 d0, .int .i64 d1, .int .i64 d2, .int .i64 d3, .int .i64 0, .int .i64 0, .int .i64 0, .int .i64 0, .int .i64 off] 58 (w.heap.size + 1 + 1) (by simp) j
  have S0 : RM w ((((w.alloc (.cells #[.int .i64 ys.length, .int .i64 d0, .int .i64 d1, .int .i64 d2, .int .i64 d3] 56)).alloc (.cells #[.int .i64 0, .int .i64 0, .int .i64 0, .int .i64 0, .int .i64 0, .int .i64 0, .int .i64 0, .int .i64 0, .int .i64 0, .int .i64 0] 58)).alloc (.cells #[.int .i64 ys.length, .int .i64 d0, .int .i64 d1, .int .i64 d2, .int .i64 d3, .int .i64 0, .int .i64 0, .int .i64 0, .int .i64 0, .int .i64 off] 58)).alloc (.cells #[.int .i64 ys.length, .int .i64 d0, .int .i64 d1, .int .i64 d2, .int .i64 d3] 56)) ys off ys.length := by
    refine ⟨fun j hj => ?_, fun j hj => ?_, y3.box (n3 0), fun j hj => ?_, fun j hj => ?_, y3.box (n3 9), x0⟩
    · obtain rfl | rfl | rfl | rfl : j = 0 ∨ j = 1 ∨ j = 2 ∨ j = 3 := by omega
      · rw [hd0]; exact y1.box (n1 1)
      · rw [hd1]; exact y1.box (n1 2)
      · rw [hd2]; exact y1.box (n1 3)
      · rw [hd3]; exact y1.box (n1 4)
    · obtain rfl | rfl | rfl | rfl | rfl | rfl | rfl | rfl | rfl | rfl : j = 0 ∨ j = 1 ∨ j = 2 ∨ j = 3 ∨ j = 4 ∨ j = 5 ∨ j = 6 ∨ j = 7 ∨ j = 8 ∨ j = 9 := by omega
      all_goals exact y2.box (n2 _)
    · obtain rfl | rfl | rfl | rfl : j = 0 ∨ j = 1 ∨ j = 2 ∨ j = 3 := by omega
      · rw [hd0]; exact y3.box (n3 1)
      · rw [hd1]; exact y3.box (n3 2)
      · rw [hd2]; exact y3.box (n3 3)
      · rw [hd3]; exact y3.box (n3 4)
    · rw [if_neg (by omega)]
      obtain rfl | rfl | rfl | rfl : j = 0 ∨ j = 1 ∨ j = 2 ∨ j = 3 := by omega
      · exact y3.box (n3 5)
      · exact y3.box (n3 6)
      · exact y3.box (n3 7)
      · exact y3.box (n3 8)
  have HS0 := hide S0
  have Hd0 := hide hd0
  have Hd1 := hide hd1
  have Hd2 := hide hd2
  have Hd3 := hide hd3
  have sl0 : ((((w.alloc (.cells #[.int .i64 ys.length, .int .i64 d0, .int .i64 d1, .int .i64 d2, .int .i64 d3] 56)).alloc (.cells #[.int .i64 0, .int .i64 0, .int .i64 0, .int .i64 0, .int .i64 0, .int .i64 0, .int .i64 0, .int .i64 0, .int .i64 0, .int .i64 0] 58)).alloc (.cells #[.int .i64 ys.length, .int .i64 d0, .int .i64 d1, .int .i64 d2, .int .i64 d3, .int .i64 0, .int .i64 0, .int .i64 0, .int .i64 0, .int .i64 off] 58)).alloc (.cells #[.int .i64 ys.length, .int .i64 d0, .int .i64 d1, .int .i64 d2, .int .i64 d3] 56)).cell? ⟨w.heap.size, 0, none⟩ = some (.int .i64 ys.length) := y1.box (n1 0)
  clear S0 y1 y2 y3 x0 n1 n2 n3 hd0 hd1 hd2 hd3
  go_enter Try.func21, Try.ntmps21
  go_wp2_with fail
  refine (hc.out _).mono ?_
  rintro e w' ⟨rfl, rfl⟩
  clear hc
  generalize hW : (((w.alloc (.cells #[.int .i64 ys.length, .int .i64 d0, .int .i64 d1, .int .i64 d2, .int .i64 d3] 56)).alloc (.cells #[.int .i64 0, .int .i64 0, .int .i64 0, .int .i64 0, .int .i64 0, .int .i64 0, .int .i64 0, .int .i64 0, .int .i64 0, .int .i64 0] 58)).alloc (.cells #[.int .i64 ys.length, .int .i64 d0, .int .i64 d1, .int .i64 d2, .int .i64 d3, .int .i64 0, .int .i64 0, .int .i64 0, .int .i64 0, .int .i64 off] 58)).alloc (.cells #[.int .i64 ys.length, .int .i64 d0, .int .i64 d1, .int .i64 d2, .int .i64 d3] 56) = W at HS0 sl0 ⊢
  clear hW
  have fin : Hid (∀ (W : World) (S : List Int), RM w W ys off 0 → (∀ j, j < 4 → S.getD j 0 = (rmS ys).getD j 0) → True) := fun _ _ _ _ => trivial
  clear fin
  generalize hP : prod ys = P
  by_cases hz : P = 0
  · have HP : Hid (prod ys = 0) := hP.trans hz
    subst hz
    clear hP
    have g0 := HS0.out.f0
    have g1 : W.cell? ⟨w.heap.size + 1 + 1, 1, none⟩ = _ := HS0.out.fl 0 (by omega)
    have g2 : W.cell? ⟨w.heap.size + 1 + 1, 2, none⟩ = _ := HS0.out.fl 1 (by omega)
    have g3 : W.cell? ⟨w.heap.size + 1 + 1, 3, none⟩ = _ := HS0.out.fl 2 (by omega)
    have g4 : W.cell? ⟨w.heap.size + 1 + 1, 4, none⟩ = _ := HS0.out.fl 3 (by omega)
    have g5 : W.cell? ⟨w.heap.size + 1 + 1, 5, none⟩ = some (.int .i64 ((rmS ys).getD 0 0)) := (HS0.out.fs 0 (by omega)).trans (by rw [if_neg (by omega), rmS_getD, if_pos HP.out, ite_self])
    have g6 : W.cell? ⟨w.heap.size + 1 + 1, 6, none⟩ = some (.int .i64 ((rmS ys).getD 1 0)) := (HS0.out.fs 1 (by omega)).trans (by rw [if_neg (by omega), rmS_getD, if_pos HP.out, ite_self])
    have g7 : W.cell? ⟨w.heap.size + 1 + 1, 7, none⟩ = some (.int .i64 ((rmS ys).getD 2 0)) := (HS0.out.fs 2 (by omega)).trans (by rw [if_neg (by omega), rmS_getD, if_pos HP.out, ite_self])
    have g8 : W.cell? ⟨w.heap.size + 1 + 1, 8, none⟩ = some (.int .i64 ((rmS ys).getD 3 0)) := (HS0.out.fs 3 (by omega)).trans (by rw [if_neg (by omega), rmS_getD, if_pos HP.out, ite_self])
    have g9 := HS0.out.f9
    have rr := hide HS0.out.r
    have rr0 := rr.out 0 (by omega)
    have rr1 := rr.out 1 (by omega)
    have rr2 := rr.out 2 (by omega)
    have rr3 := rr.out 3 (by omega)
    have rr4 := rr.out 4 (by omega)
    have rr5 := rr.out 5 (by omega)
    have rr6 := rr.out 6 (by omega)
    have rr7 := rr.out 7 (by omega)
    have rr8 := rr.out 8 (by omega)
    have rr9 := rr.out 9 (by omega)
    have rf := fun o => HS0.out.ex.unfrozen (b := w.heap.size + 1) (by omega) o
    have Ex := hide HS0.out.ex
    generalize hc0 : ys.getD 0 0 = c0 at g1
    have Hc0 := hide hc0
    clear hc0
    generalize hc1 : ys.getD 1 0 = c1 at g2
    have Hc1 := hide hc1
    clear hc1
    generalize hc2 : ys.getD 2 0 = c2 at g3
    have Hc2 := hide hc2
    clear hc2
    generalize hc3 : ys.getD 3 0 = c3 at g4
    have Hc3 := hide hc3
    clear hc3
    generalize he0 : (rmS ys).getD 0 0 = e0 at g5
    have He0 := hide he0
    clear he0
    generalize he1 : (rmS ys).getD 1 0 = e1 at g6
    have He1 := hide he1
    clear he1
    generalize he2 : (rmS ys).getD 2 0 = e2 at g7
    have He2 := hide he2
    clear he2
    generalize he3 : (rmS ys).getD 3 0 = e3 at g8
    have He3 := hide he3
    clear he3
    go_wp2
    obtain ⟨q0, q1, q2, q3, q4, q5, q6, q7, q8, q9⟩ := set10 rr.out (.int .i64 (ys.length : Int)) (.int .i64 c0) (.int .i64 c1) (.int .i64 c2) (.int .i64 c3) (.int .i64 e0) (.int .i64 e1) (.int .i64 e2) (.int .i64 e3) (.int .i64 off)
    exact bodyPost_ret (v := .agg #[.int .i64 (ys.length : Int), .int .i64 c0, .int .i64 c1, .int .i64 c2, .int .i64 c3, .int .i64 e0, .int .i64 e1, .int .i64 e2, .int .i64 e3, .int .i64 off]) (by simp [results, Try.results21, go_sem, q0, q1, q2, q3, q4, q5, q6, q7, q8, q9]) rfl ⟨by unfold vw; rw [Hc0.out, Hc1.out, Hc2.out, Hc3.out, He0.out, He1.out, He2.out, He3.out], by repeat (first | with_reducible exact Ex.out | with_reducible refine Ext.setCell ?_ (by show w.heap.size ≤ w.heap.size + 1; omega) _)⟩
  · have HP : Hid (prod ys ≠ 0) := fun h => hz (hP ▸ h)
    have hPb : (P == 0) = false := by simp [hz]
    clear hP
    go_wp2_with fail
    go_loopw [6, 7] (fun m i wr => ∃ k : Nat, i = .int .i64 ((k : Int) - 1) ∧ m = .int .i64 (prod (ys.drop k)) ∧ k ≤ ys.length ∧ RM w wr ys off k) (fun m i _ => (intOf i + 1).toNat)
    case atStart => exact ⟨ys.length, rfl, by rw [List.drop_length]; rfl, Nat.le_refl _, HS0.out⟩
    case round =>
      obtain ⟨k, rfl, rfl, hk, hR⟩ := hrel
      have HM := hide hR
      clear hR
      cases k with
      | zero =>
        rw [show ((0 : Nat) : Int) - 1 = -1 from rfl]
        have g0 := HM.out.f0
        have g1 : wr.cell? ⟨w.heap.size + 1 + 1, 1, none⟩ = _ := HM.out.fl 0 (by omega)
        have g2 : wr.cell? ⟨w.heap.size + 1 + 1, 2, none⟩ = _ := HM.out.fl 1 (by omega)
        have g3 : wr.cell? ⟨w.heap.size + 1 + 1, 3, none⟩ = _ := HM.out.fl 2 (by omega)
        have g4 : wr.cell? ⟨w.heap.size + 1 + 1, 4, none⟩ = _ := HM.out.fl 3 (by omega)
        have g5 : wr.cell? ⟨w.heap.size + 1 + 1, 5, none⟩ = some (.int .i64 ((rmS ys).getD 0 0)) := (HM.out.fs 0 (by omega)).trans (by rw [rmS_getD, if_neg HP.out]; simp only [Nat.zero_le, true_and])
        have g6 : wr.cell? ⟨w.heap.size + 1 + 1, 6, none⟩ = some (.int .i64 ((rmS ys).getD 1 0)) := (HM.out.fs 1 (by omega)).trans (by rw [rmS_getD, if_neg HP.out]; simp only [Nat.zero_le, true_and])
        have g7 : wr.cell? ⟨w.heap.size + 1 + 1, 7, none⟩ = some (.int .i64 ((rmS ys).getD 2 0)) := (HM.out.fs 2 (by omega)).trans (by rw [rmS_getD, if_neg HP.out]; simp only [Nat.zero_le, true_and])
        have g8 : wr.cell? ⟨w.heap.size + 1 + 1, 8, none⟩ = some (.int .i64 ((rmS ys).getD 3 0)) := (HM.out.fs 3 (by omega)).trans (by rw [rmS_getD, if_neg HP.out]; simp only [Nat.zero_le, true_and])
        have g9 := HM.out.f9
        have rr := hide HM.out.r
        have rr0 := rr.out 0 (by omega)
        have rr1 := rr.out 1 (by omega)
        have rr2 := rr.out 2 (by omega)
        have rr3 := rr.out 3 (by omega)
        have rr4 := rr.out 4 (by omega)
        have rr5 := rr.out 5 (by omega)
        have rr6 := rr.out 6 (by omega)
        have rr7 := rr.out 7 (by omega)
        have rr8 := rr.out 8 (by omega)
        have rr9 := rr.out 9 (by omega)
        have rf := fun o => HM.out.ex.unfrozen (b := w.heap.size + 1) (by omega) o
        have Ex := hide HM.out.ex
        generalize hc0 : ys.getD 0 0 = c0 at g1
        have Hc0 := hide hc0
        clear hc0
        generalize hc1 : ys.getD 1 0 = c1 at g2
        have Hc1 := hide hc1
        clear hc1
        generalize hc2 : ys.getD 2 0 = c2 at g3
        have Hc2 := hide hc2
        clear hc2
        generalize hc3 : ys.getD 3 0 = c3 at g4
        have Hc3 := hide hc3
        clear hc3
        generalize he0 : (rmS ys).getD 0 0 = e0 at g5
        have He0 := hide he0
        clear he0
        generalize he1 : (rmS ys).getD 1 0 = e1 at g6
        have He1 := hide he1
        clear he1
        generalize he2 : (rmS ys).getD 2 0 = e2 at g7
        have He2 := hide he2
        clear he2
        generalize he3 : (rmS ys).getD 3 0 = e3 at g8
        have He3 := hide he3
        clear he3
        go_wp2
        obtain ⟨q0, q1, q2, q3, q4, q5, q6, q7, q8, q9⟩ := set10 rr.out (.int .i64 (ys.length : Int)) (.int .i64 c0) (.int .i64 c1) (.int .i64 c2) (.int .i64 c3) (.int .i64 e0) (.int .i64 e1) (.int .i64 e2) (.int .i64 e3) (.int .i64 off)
        exact bodyPost_ret (v := .agg #[.int .i64 (ys.length : Int), .int .i64 c0, .int .i64 c1, .int .i64 c2, .int .i64 c3, .int .i64 e0, .int .i64 e1, .int .i64 e2, .int .i64 e3, .int .i64 off]) (by simp [results, Try.results21, go_sem, q0, q1, q2, q3, q4, q5, q6, q7, q8, q9]) rfl ⟨by unfold vw; rw [Hc0.out, Hc1.out, Hc2.out, Hc3.out, He0.out, He1.out, He2.out, He3.out], by repeat (first | with_reducible exact Ex.out | with_reducible refine Ext.setCell ?_ (by show w.heap.size ≤ w.heap.size + 1; omega) _)⟩
      | succ k =>
        have hk4 : k < 4 := by omega
        have hk0 : (0 : Int) ≤ (k : Int) := Int.natCast_nonneg _
        have hk44 : (k : Int) < 4 := by omega
        have hi : ((k + 1 : Nat) : Int) - 1 = (k : Int) := by omega
        rw [hi]
        have q0 := HM.out.s k hk4
        have q1 := HM.out.fs k hk4
        rw [if_neg (by omega)] at q1
        have St := hide (HM.out.step hk4 (by omega))
        have hp := prod_drop ys k (by omega)
        have hb := drop_bd' h4 HR.out k
        have hb1 := drop_bd' h4 HR.out (k + 1)
        have bf := fun o => HM.out.ex.unfrozen (b := w.heap.size + 1 + 1) (by omega) o
        generalize ys.getD k 0 = x at q0 hp
        generalize hPk : prod (ys.drop k) = Pk at hp hb
        have HPk := hide hPk
        clear hPk
        generalize prod (ys.drop (k + 1)) = Q at hp hb1 St ⊢
        have hw1 : wrap64 (Q * x) = Pk := by rw [Int.mul_comm, ← hp]; unfold wrap64; omega
        clear hp
        have q2 : (wr.setCell ⟨w.heap.size + 1 + 1, 5 + k, none⟩ (.int .i64 Q)).cell? ⟨w.heap.size, 1 + k, none⟩ = some (.int .i64 x) := ((Mut.refl (w.heap.size + 1 + 1) wr).setCell _ _).box (by omega) q0
        go_wp2
        go_roundw
        · exact ⟨k, by go_num, by first | (rw [HPk.out]; done) | (rw [HPk.out, hw1]), by omega, St.out⟩
        · first | (simp [intOf]; done) | (simp [intOf]; omega)
end Go.Proofs.Ytanbgpmbccianaa
namespace Go.Proofs.Ytanbgpmbccianaa
open Go.ChangeShapes Go.RowKit Go.Shelf
set_option linter.unusedSimpArgs false
set_option linter.unusedVariables false

set_option maxRecDepth 100000 in
set_option maxHeartbeats 4000000 in
theorem iRS_any {w : World} {vS vT vP : Value} {xs ss ys : List Int} (hS : Ints w vS xs) (hT : Ints w vT ss) (hP : Ints w vP ys) (off : Int) (lx : xs.length ≤ 1048576) (ls : ss.length ≤ 1048576) (ly : ys.length ≤ 1048576) {c : Int} {L S : List Int} {o : Int} (hr : rsL xs ss off ys = (c, L, S, o)) :
    Calls Try.prog 5 #[.agg #[vS, vT, .int .i64 off], vP] w fun e w' => VROk w c L S o e w' := by
  have Hr := hide hr.symm
  clear hr
  have x0 : Ext w ((w.alloc (.cells #[vS, vT, .int .i64 off] 25)).alloc (.cells #[.int .i64 0, .slice none 0 0, .slice none 0 0, .int .i64 0] 29)) := ((Ext.refl w).alloc _ _).alloc _ _
  have n2 := fun j => new_cell (w.alloc (.cells #[vS, vT, .int .i64 off] 25)) #[.int .i64 0, .slice none 0 0, .slice none 0 0, .int .i64 0] 29 (w.heap.size + 1) (by simp) j
  have q0 : ((w.alloc (.cells #[vS, vT, .int .i64 off] 25)).alloc (.cells #[.int .i64 0, .slice none 0 0, .slice none 0 0, .int .i64 0] 29)).cell? ⟨w.heap.size + 1, 0, none⟩ = some (.int .i64 0) := n2 0
  have q1 : ((w.alloc (.cells #[vS, vT, .int .i64 off] 25)).alloc (.cells #[.int .i64 0, .slice none 0 0, .slice none 0 0, .int .i64 0] 29)).cell? ⟨w.heap.size + 1, 1, none⟩ = some (.slice none 0 0) := n2 1
  have q2 : ((w.alloc (.cells #[vS, vT, .int .i64 off] 25)).alloc (.cells #[.int .i64 0, .slice none 0 0, .slice none 0 0, .int .i64 0] 29)).cell? ⟨w.heap.size + 1, 2, none⟩ = some (.slice none 0 0) := n2 2
  have q3 : ((w.alloc (.cells #[vS, vT, .int .i64 off] 25)).alloc (.cells #[.int .i64 0, .slice none 0 0, .slice none 0 0, .int .i64 0] 29)).cell? ⟨w.heap.size + 1, 3, none⟩ = some (.int .i64 0) := n2 3
  have X0 := hide x0
  have HS := hide (hS.ext x0)
  have HT := hide (hT.ext x0)
  have HP := hide (hP.ext x0)
  have sz0 : Hid (w.heap.size + 2 ≤ ((w.alloc (.cells #[vS, vT, .int .i64 off] 25)).alloc (.cells #[.int .i64 0, .slice none 0 0, .slice none 0 0, .int .i64 0] 29)).heap.size) := by show w.heap.size + 2 ≤ ((w.alloc (.cells #[vS, vT, .int .i64 off] 25)).alloc (.cells #[.int .i64 0, .slice none 0 0, .slice none 0 0, .int .i64 0] 29)).heap.size; simp
  obtain ⟨sa, ca, rfl, _⟩ := hS
  obtain ⟨sb, cb, rfl, _⟩ := hT
  obtain ⟨sp, cp, rfl, rP⟩ := hP
  have RP0 := hide rP
  clear x0 n2 rP
  go_enter Try.func5, Try.ntmps5
  go_wp2_with fail
  refine (fixView_any HS.out HT.out off lx ls).mono ?_
  rintro e w1 ⟨A, rfl, hA, ⟨a0, a1, a2, a3, a4, a5, a6, a7, a8, a9, rfl⟩, x1⟩
  have y1 : Ext w1 (w1.alloc (.cells #[.int .i64 a0, .int .i64 a1, .int .i64 a2, .int .i64 a3, .int .i64 a4, .int .i64 a5, .int .i64 a6, .int .i64 a7, .int .i64 a8, .int .i64 a9] 58)) := (Ext.refl w1).alloc _ _
  have n1 := fun j => new_cell w1 #[.int .i64 a0, .int .i64 a1, .int .i64 a2, .int .i64 a3, .int .i64 a4, .int .i64 a5, .int .i64 a6, .int .i64 a7, .int .i64 a8, .int .i64 a9] 58 w1.heap.size rfl j
  have f0 : (w1.alloc (.cells #[.int .i64 a0, .int .i64 a1, .int .i64 a2, .int .i64 a3, .int .i64 a4, .int .i64 a5, .int .i64 a6, .int .i64 a7, .int .i64 a8, .int .i64 a9] 58)).cell? ⟨w1.heap.size, 0, none⟩ = some (.int .i64 a0) := n1 0
  have f1 : (w1.alloc (.cells #[.int .i64 a0, .int .i64 a1, .int .i64 a2, .int .i64 a3, .int .i64 a4, .int .i64 a5, .int .i64 a6, .int .i64 a7, .int .i64 a8, .int .i64 a9] 58)).cell? ⟨w1.heap.size, 1, none⟩ = some (.int .i64 a1) := n1 1
  have f2 : (w1.alloc (.cells #[.int .i64 a0, .int .i64 a1, .int .i64 a2, .int .i64 a3, .int .i64 a4, .int .i64 a5, .int .i64 a6, .int .i64 a7, .int .i64 a8, .int .i64 a9] 58)).cell? ⟨w1.heap.size, 2, none⟩ = some (.int .i64 a2) := n1 2
  have f3 : (w1.alloc (.cells #[.int .i64 a0, .int .i64 a1, .int .i64 a2, .int .i64 a3, .int .i64 a4, .int .i64 a5, .int .i64 a6, .int .i64 a7, .int .i64 a8, .int .i64 a9] 58)).cell? ⟨w1.heap.size, 3, none⟩ = some (.int .i64 a3) := n1 3
  have f4 : (w1.alloc (.cells #[.int .i64 a0, .int .i64 a1, .int .i64 a2, .int .i64 a3, .int .i64 a4, .int .i64 a5, .int .i64 a6, .int .i64 a7, .int .i64 a8, .int .i64 a9] 58)).cell? ⟨w1.heap.size, 4, none⟩ = some (.int .i64 a4) := n1 4
  have f5 : (w1.alloc (.cells #[.int .i64 a0, .int .i64 a1, .int .i64 a2, .int .i64 a3, .int .i64 a4, .int .i64 a5, .int .i64 a6, .int .i64 a7, .int .i64 a8, .int .i64 a9] 58)).cell? ⟨w1.heap.size, 5, none⟩ = some (.int .i64 a5) := n1 5
  have f6 : (w1.alloc (.cells #[.int .i64 a0, .int .i64 a1, .int .i64 a2, .int .i64 a3, .int .i64 a4, .int .i64 a5, .int .i64 a6, .int .i64 a7, .int .i64 a8, .int .i64 a9] 58)).cell? ⟨w1.heap.size, 6, none⟩ = some (.int .i64 a6) := n1 6
  have f7 : (w1.alloc (.cells #[.int .i64 a0, .int .i64 a1, .int .i64 a2, .int .i64 a3, .int .i64 a4, .int .i64 a5, .int .i64 a6, .int .i64 a7, .int .i64 a8, .int .i64 a9] 58)).cell? ⟨w1.heap.size, 7, none⟩ = some (.int .i64 a7) := n1 7
  have f8 : (w1.alloc (.cells #[.int .i64 a0, .int .i64 a1, .int .i64 a2, .int .i64 a3, .int .i64 a4, .int .i64 a5, .int .i64 a6, .int .i64 a7, .int .i64 a8, .int .i64 a9] 58)).cell? ⟨w1.heap.size, 8, none⟩ = some (.int .i64 a8) := n1 8
  have f9 : (w1.alloc (.cells #[.int .i64 a0, .int .i64 a1, .int .i64 a2, .int .i64 a3, .int .i64 a4, .int .i64 a5, .int .i64 a6, .int .i64 a7, .int .i64 a8, .int .i64 a9] 58)).cell? ⟨w1.heap.size, 9, none⟩ = some (.int .i64 a9) := n1 9
  have r0 := y1.box (x1.box q0)
  have r1 := y1.box (x1.box q1)
  have r2 := y1.box (x1.box q2)
  have r3 := y1.box (x1.box q3)
  have Y1 := hide ((X0.out.trans x1).trans y1)
  have HP1 := hide ((HP.out.ext x1).ext y1)
  have sz1 : Hid (w.heap.size + 2 ≤ (w1.alloc (.cells #[.int .i64 a0, .int .i64 a1, .int .i64 a2, .int .i64 a3, .int .i64 a4, .int .i64 a5, .int .i64 a6, .int .i64 a7, .int .i64 a8, .int .i64 a9] 58)).heap.size ∧ w.heap.size + 2 ≤ w1.heap.size) := ⟨Nat.le_trans sz0.out (Below.size (x1.trans y1).bl), Nat.le_trans sz0.out (Below.size x1.bl)⟩
  have rf := fun o => Y1.out.unfrozen (b := w.heap.size + 1) (by omega) o
  have HA := hide hA
  clear hA n1 y1 x1 HS HT q0 q1 q2 q3
  cases hv : (dcValidV xs ss off)
  · have hn := hide (Hr.out.trans (show rsL xs ss off ys = (12, [], [], 0) from if_neg (of_decide_eq_false hv)))
    clear hv
    go_wp2
    exact bodyPost_ret (v := .agg #[.int .i64 12, .slice none 0 0, .slice none 0 0, .int .i64 0]) (by simp [results, Try.results5, go_sem, set4_0 r0, set4_1 r1, set4_2 r2, set4_3 r3]) rfl (vr_bad hn.out Y1.out.bl sz1.out.1)
  have gv : ValidV xs ss off := of_decide_eq_true hv
  have hA := HA.out gv
  have hbr : Hid (rsL xs ss off ys = (if Good ys ∧ prod ys = prod xs then (if offsL xs ss off = ups off (offsL xs ss off).length then (0, ys, rmS ys, off) else (13, [], [], 0)) else (6, [], [], 0))) := if_pos gv
  have hx4 := gv.1.1
  have Hl := hide gv.2.1
  have E0 : Hid (a0 = (xs.length : Int)) := vint (congrArg (fun (A : Array Value) => A.getD 0 undef) hA)
  have E1 : Hid (a1 = xs.getD 0 0) := vint (congrArg (fun (A : Array Value) => A.getD 1 undef) hA)
  have E2 : Hid (a2 = xs.getD 1 0) := vint (congrArg (fun (A : Array Value) => A.getD 2 undef) hA)
  have E3 : Hid (a3 = xs.getD 2 0) := vint (congrArg (fun (A : Array Value) => A.getD 3 undef) hA)
  have E4 : Hid (a4 = xs.getD 3 0) := vint (congrArg (fun (A : Array Value) => A.getD 4 undef) hA)
  have E9 : Hid (a9 = off) := vint (congrArg (fun (A : Array Value) => A.getD 9 undef) hA)
  have Hcf : Hid (∀ W, Calls Try.prog 19 #[.agg #[.int .i64 a0, .int .i64 a1, .int .i64 a2, .int .i64 a3, .int .i64 a4]] W fun e w' => e = .returned (.int .i64 (prod xs)) ∧ Ext W w') := fun W => by
    have e : shp xs = #[.int .i64 a0, .int .i64 a1, .int .i64 a2, .int .i64 a3, .int .i64 a4] := by unfold shp; rw [E0.out, E1.out, E2.out, E3.out, E4.out]
    rw [← e]
    refine (count_any W xs gv.1.1 gv.1.2.1).mono ?_
    rintro e w' ⟨rfl, rfl⟩
    exact ⟨rfl, (Ext.refl _).alloc _ _⟩
  have Hgo : Hid (∀ W, Calls Try.prog 20 #[.agg #[.int .i64 a0, .int .i64 a1, .int .i64 a2, .int .i64 a3, .int .i64 a4, .int .i64 a5, .int .i64 a6, .int .i64 a7, .int .i64 a8, .int .i64 a9]] W fun e w' => e = .returned (.bool (decide (offsL xs ss off = ups off (offsL xs ss off).length))) ∧ Bel W w') := fun W => by
    rw [hA]; exact goesUp_any gv W
  have HPX := hide (prod_bd xs xs.length gv.1.1 (Nat.le_refl _) gv.1.2.1)
  have e9 := E9.out
  subst e9
  clear hA HA gv E0 E1 E2 E3 E4
  generalize hvb : (dcValidV xs ss a9) = vb at hv
  subst hv
  clear hvb
  go_wp2_with fail
  refine (fixShape_any HP1.out (by omega)).mono ?_
  rintro e w2 ⟨b0, b1, b2, b3, b4, rfl, hB, x2⟩
  have Hcs : Hid (Good ys → ∀ W, Calls Try.prog 19 #[.agg #[.int .i64 b0, .int .i64 b1, .int .i64 b2, .int .i64 b3, .int .i64 b4]] W fun e w' => e = .returned (.int .i64 (prod ys)) ∧ Ext W w') := fun g W => by
    obtain ⟨rfl, rfl, rfl, rfl, rfl⟩ := hB g
    refine (count_any W ys g.1 g.2.1).mono ?_
    rintro e w' ⟨rfl, rfl⟩
    exact ⟨rfl, (Ext.refl _).alloc _ _⟩
  have Hrm : Hid (Good ys → ∀ W, Calls Try.prog 21 #[.agg #[.int .i64 b0, .int .i64 b1, .int .i64 b2, .int .i64 b3, .int .i64 b4], .int .i64 a9] W fun e w' => e = .returned (.agg (vw ys (rmS ys) a9)) ∧ Ext W w') := fun g W => by
    obtain ⟨rfl, rfl, rfl, rfl, rfl⟩ := hB g
    exact rowM_any W ys a9 g.1 g.2.1
  clear hB
  have g0 := x2.box f0
  have g1 := x2.box f1
  have g2 := x2.box f2
  have g3 := x2.box f3
  have g4 := x2.box f4
  have g5 := x2.box f5
  have g6 := x2.box f6
  have g7 := x2.box f7
  have g8 := x2.box f8
  have g9 := x2.box f9
  have u0 := x2.box r0
  have u1 := x2.box r1
  have u2 := x2.box r2
  have u3 := x2.box r3
  have Y2 := hide (Y1.out.trans x2)
  have sz2 : Hid (w.heap.size + 2 ≤ w2.heap.size ∧ w1.heap.size < w2.heap.size) := ⟨Nat.le_trans sz1.out.1 (Below.size x2.bl), cell_lt g0⟩
  have uf := fun o => Y2.out.unfrozen (b := w.heap.size + 1) (by omega) o
  clear x2 HP1 f0 f1 f2 f3 f4 f5 f6 f7 f8 f9 r0 r1 r2 r3 rf Y1 sz1
  cases hg : goodB ys
  · have hn := hide (Hr.out.trans (hbr.out.trans (if_neg (fun q => of_decide_eq_false hg q.1))))
    clear hg
    have y3 : Ext w2 (w2.alloc (.cells #[.int .i64 b0, .int .i64 b1, .int .i64 b2, .int .i64 b3, .int .i64 b4] 56)) := (Ext.refl w2).alloc _ _
    have t0 := y3.box u0
    have t1 := y3.box u1
    have t2 := y3.box u2
    have t3 := y3.box u3
    have Y3 := hide (Y2.out.trans y3)
    have sz3 := hide (Nat.le_trans sz2.out.1 (Below.size y3.bl))
    have tf := fun o => Y3.out.unfrozen (b := w.heap.size + 1) (by omega) o
    clear y3
    go_wp2_with fail
    go_region
    all_goals go_wp2
    all_goals exact bodyPost_ret (v := .agg #[.int .i64 6, .slice none 0 0, .slice none 0 0, .int .i64 0]) (by simp [results, Try.results5, go_sem, set4_0 t0, set4_1 t1, set4_2 t2, set4_3 t3]) rfl (vr_bad hn.out Y3.out.drew.bl sz3.out)
  have gg : Good ys := of_decide_eq_true hg
  have HG := hide gg
  clear hg gg
  have n3 := fun j => new_cell w2 #[.int .i64 b0, .int .i64 b1, .int .i64 b2, .int .i64 b3, .int .i64 b4] 56 w2.heap.size rfl j
  have y3 : Ext w2 (w2.alloc (.cells #[.int .i64 b0, .int .i64 b1, .int .i64 b2, .int .i64 b3, .int .i64 b4] 56)) := (Ext.refl w2).alloc _ _
  have k0 : (w2.alloc (.cells #[.int .i64 b0, .int .i64 b1, .int .i64 b2, .int .i64 b3, .int .i64 b4] 56)).cell? ⟨w2.heap.size, 0, none⟩ = some (.int .i64 b0) := n3 0
  have k1 : (w2.alloc (.cells #[.int .i64 b0, .int .i64 b1, .int .i64 b2, .int .i64 b3, .int .i64 b4] 56)).cell? ⟨w2.heap.size, 1, none⟩ = some (.int .i64 b1) := n3 1
  have k2 : (w2.alloc (.cells #[.int .i64 b0, .int .i64 b1, .int .i64 b2, .int .i64 b3, .int .i64 b4] 56)).cell? ⟨w2.heap.size, 2, none⟩ = some (.int .i64 b2) := n3 2
  have k3 : (w2.alloc (.cells #[.int .i64 b0, .int .i64 b1, .int .i64 b2, .int .i64 b3, .int .i64 b4] 56)).cell? ⟨w2.heap.size, 3, none⟩ = some (.int .i64 b3) := n3 3
  have k4 : (w2.alloc (.cells #[.int .i64 b0, .int .i64 b1, .int .i64 b2, .int .i64 b3, .int .i64 b4] 56)).cell? ⟨w2.heap.size, 4, none⟩ = some (.int .i64 b4) := n3 4
  have h0 := y3.box g0
  have h1 := y3.box g1
  have h2 := y3.box g2
  have h3 := y3.box g3
  have h4 := y3.box g4
  have h5 := y3.box g5
  have h6 := y3.box g6
  have h7 := y3.box g7
  have h8 := y3.box g8
  have h9 := y3.box g9
  have t0 := y3.box u0
  have t1 := y3.box u1
  have t2 := y3.box u2
  have t3 := y3.box u3
  have Y3 := hide (Y2.out.trans y3)
  have sz3 := hide (Nat.le_trans sz2.out.1 (Below.size y3.bl))
  clear y3 n3 g0 g1 g2 g3 g4 g5 g6 g7 g8 g9 u0 u1 u2 u3 uf Y2 sz2
  go_wp2_with fail
  generalize hW : w2.alloc (.cells #[.int .i64 b0, .int .i64 b1, .int .i64 b2, .int .i64 b3, .int .i64 b4] 56) = V at k0 k1 k2 k3 k4 h0 h1 h2 h3 h4 h5 h6 h7 h8 h9 t0 t1 t2 t3 Y3 sz3 ⊢
  clear hW
  have SA : Hid ((fun w' => w'.cell? ⟨w2.heap.size, 0, none⟩ = some (.int .i64 b0) ∧ w'.cell? ⟨w2.heap.size, 1, none⟩ = some (.int .i64 b1) ∧ w'.cell? ⟨w2.heap.size, 2, none⟩ = some (.int .i64 b2) ∧ w'.cell? ⟨w2.heap.size, 3, none⟩ = some (.int .i64 b3) ∧ w'.cell? ⟨w2.heap.size, 4, none⟩ = some (.int .i64 b4) ∧ w'.cell? ⟨w1.heap.size, 0, none⟩ = some (.int .i64 a0) ∧ w'.cell? ⟨w1.heap.size, 1, none⟩ = some (.int .i64 a1) ∧ w'.cell? ⟨w1.heap.size, 2, none⟩ = some (.int .i64 a2) ∧ w'.cell? ⟨w1.heap.size, 3, none⟩ = some (.int .i64 a3) ∧ w'.cell? ⟨w1.heap.size, 4, none⟩ = some (.int .i64 a4)) V.drew) := ⟨k0, k1, k2, k3, k4, h0, h1, h2, h3, h4⟩
  go_region_held3 (fun w' => w'.cell? ⟨w2.heap.size, 0, none⟩ = some (.int .i64 b0) ∧ w'.cell? ⟨w2.heap.size, 1, none⟩ = some (.int .i64 b1) ∧ w'.cell? ⟨w2.heap.size, 2, none⟩ = some (.int .i64 b2) ∧ w'.cell? ⟨w2.heap.size, 3, none⟩ = some (.int .i64 b3) ∧ w'.cell? ⟨w2.heap.size, 4, none⟩ = some (.int .i64 b4) ∧ w'.cell? ⟨w1.heap.size, 0, none⟩ = some (.int .i64 a0) ∧ w'.cell? ⟨w1.heap.size, 1, none⟩ = some (.int .i64 a1) ∧ w'.cell? ⟨w1.heap.size, 2, none⟩ = some (.int .i64 a2) ∧ w'.cell? ⟨w1.heap.size, 3, none⟩ = some (.int .i64 a3) ∧ w'.cell? ⟨w1.heap.size, 4, none⟩ = some (.int .i64 a4)) (first | with_reducible exact SA.out | with_reducible exact SB'.out | with_reducible exact SC'.out | fail) (first | (go_at_call 19; refine (Hcf.out w3).mono ?_; rintro e w4 ⟨rfl, x4⟩; have X4 := hide (X3.out.trans x4); have SC' : Hid ((fun w' => w'.cell? ⟨w2.heap.size, 0, none⟩ = some (.int .i64 b0) ∧ w'.cell? ⟨w2.heap.size, 1, none⟩ = some (.int .i64 b1) ∧ w'.cell? ⟨w2.heap.size, 2, none⟩ = some (.int .i64 b2) ∧ w'.cell? ⟨w2.heap.size, 3, none⟩ = some (.int .i64 b3) ∧ w'.cell? ⟨w2.heap.size, 4, none⟩ = some (.int .i64 b4) ∧ w'.cell? ⟨w1.heap.size, 0, none⟩ = some (.int .i64 a0) ∧ w'.cell? ⟨w1.heap.size, 1, none⟩ = some (.int .i64 a1) ∧ w'.cell? ⟨w1.heap.size, 2, none⟩ = some (.int .i64 a2) ∧ w'.cell? ⟨w1.heap.size, 3, none⟩ = some (.int .i64 a3) ∧ w'.cell? ⟨w1.heap.size, 4, none⟩ = some (.int .i64 a4)) w4) := ⟨X4.out.box k0, X4.out.box k1, X4.out.box k2, X4.out.box k3, X4.out.box k4, X4.out.box h0, X4.out.box h1, X4.out.box h2, X4.out.box h3, X4.out.box h4⟩; clear x4) | (go_at_call 19; refine (Hcs.out HG.out V.drew).mono ?_; rintro e w3 ⟨rfl, x3⟩; have X3 := hide ((Ext.refl V).drew.trans x3); have SB' : Hid ((fun w' => w'.cell? ⟨w2.heap.size, 0, none⟩ = some (.int .i64 b0) ∧ w'.cell? ⟨w2.heap.size, 1, none⟩ = some (.int .i64 b1) ∧ w'.cell? ⟨w2.heap.size, 2, none⟩ = some (.int .i64 b2) ∧ w'.cell? ⟨w2.heap.size, 3, none⟩ = some (.int .i64 b3) ∧ w'.cell? ⟨w2.heap.size, 4, none⟩ = some (.int .i64 b4) ∧ w'.cell? ⟨w1.heap.size, 0, none⟩ = some (.int .i64 a0) ∧ w'.cell? ⟨w1.heap.size, 1, none⟩ = some (.int .i64 a1) ∧ w'.cell? ⟨w1.heap.size, 2, none⟩ = some (.int .i64 a2) ∧ w'.cell? ⟨w1.heap.size, 3, none⟩ = some (.int .i64 a3) ∧ w'.cell? ⟨w1.heap.size, 4, none⟩ = some (.int .i64 a4)) w3) := ⟨X3.out.box k0, X3.out.box k1, X3.out.box k2, X3.out.box k3, X3.out.box k4, X3.out.box h0, X3.out.box h1, X3.out.box h2, X3.out.box h3, X3.out.box h4⟩; clear x3) | fail)
  clear SA SB' SC'
  have m0 := X4.out.box h0
  have m1 := X4.out.box h1
  have m2 := X4.out.box h2
  have m3 := X4.out.box h3
  have m4 := X4.out.box h4
  have m5 := X4.out.box h5
  have m6 := X4.out.box h6
  have m7 := X4.out.box h7
  have m8 := X4.out.box h8
  have m9 := X4.out.box h9
  have n0 := X4.out.box k0
  have n1 := X4.out.box k1
  have n2 := X4.out.box k2
  have n3 := X4.out.box k3
  have n4 := X4.out.box k4
  have p0 := X4.out.box t0
  have p1 := X4.out.box t1
  have p2 := X4.out.box t2
  have p3 := X4.out.box t3
  have Y4 := hide (Y3.out.trans X4.out)
  have sz4 := hide (Nat.le_trans sz3.out (Below.size X4.out.bl))
  have pf := fun o => Y4.out.unfrozen (b := w.heap.size + 1) (by omega) o
  clear h0 h1 h2 h3 h4 h5 h6 h7 h8 h9 k0 k1 k2 k3 k4 t0 t1 t2 t3 Y3 sz3 X3 X4 Hcf Hcs
  by_cases hpe : prod ys = prod xs
  case neg =>
    have hn := hide (Hr.out.trans (hbr.out.trans (if_neg (fun q => hpe q.2))))
    have hpb : (prod ys != prod xs) = true := by simp [hpe]
    rw [hpb]
    go_wp2
    exact bodyPost_ret (v := .agg #[.int .i64 6, .slice none 0 0, .slice none 0 0, .int .i64 0]) (by simp [results, Try.results5, go_sem, set4_0 p0, set4_1 p1, set4_2 p2, set4_3 p3]) rfl (vr_bad hn.out Y4.out.bl sz4.out)
  have hpb : (prod ys != prod xs) = false := by simp [hpe]
  have hb2 := hide (Hr.out.trans (hbr.out.trans (if_pos ⟨HG.out, hpe⟩)))
  rw [hpb]
  generalize prod ys = PY
  generalize prod xs = PX
  clear hpe hpb
  go_wp2_with fail
  refine (Hgo.out _).mono ?_
  rintro e w5 ⟨rfl, x5⟩
  have o9 := Bel.box x5 m9
  have o0 := Bel.box x5 n0
  have o1 := Bel.box x5 n1
  have o2 := Bel.box x5 n2
  have o3 := Bel.box x5 n3
  have o4 := Bel.box x5 n4
  have v0 := Bel.box x5 p0
  have v1 := Bel.box x5 p1
  have v2 := Bel.box x5 p2
  have v3 := Bel.box x5 p3
  have Y5 := hide (Bel.tr Y4.out.bl x5)
  have sz5 := hide (Nat.le_trans sz4.out (Below.size x5))
  have vf : ∀ o, w5.frozen? ⟨w.heap.size + 1, o, none⟩ = false := fun o => (Below.frozen x5 (p := ⟨w.heap.size + 1, o, none⟩) (cell_lt p0)).trans (pf o)
  clear m0 m1 m2 m3 m4 m5 m6 m7 m8 m9 n0 n1 n2 n3 n4 p0 p1 p2 p3 pf Y4 sz4 x5 Hgo
  cases hgo : decide (offsL xs ss a9 = ups a9 (offsL xs ss a9).length)
  · have hn := hide (hb2.out.trans (if_neg (of_decide_eq_false hgo)))
    clear hgo
    go_wp2
    exact bodyPost_ret (v := .agg #[.int .i64 13, .slice none 0 0, .slice none 0 0, .int .i64 0]) (by simp [results, Try.results5, go_sem, set4_0 v0, set4_1 v1, set4_2 v2, set4_3 v3]) rfl (vr_bad hn.out Y5.out sz5.out)
  have hn := hide (hb2.out.trans (if_pos (of_decide_eq_true hgo)))
  clear hgo hb2 hbr
  go_wp2_with fail
  refine (Hrm.out HG.out _).mono ?_
  rintro e w6 ⟨rfl, x6⟩
  have y0 := x6.box v0
  have y1 := x6.box v1
  have y2 := x6.box v2
  have y3 := x6.box v3
  have yf : ∀ o, w6.frozen? ⟨w.heap.size + 1, o, none⟩ = false := fun o => (x6.fz _).trans (vf o)
  have Y6 := hide (Bel.tr Y5.out x6.bl)
  have sz6 := hide (Nat.le_trans sz5.out (Below.size x6.bl))
  clear x6 v0 v1 v2 v3 vf Y5 sz5 o0 o1 o2 o3 o4 o9 Hrm
  go_wp2_with fail
  refine (view_any _ ys (rmS ys) a9 HG.out.1 (rmS_len ys)).mono ?_
  rintro e w7 ⟨sa4, sb4, ca4, cb4, rfl, hT4, x7⟩
  have z0 := Bel.box x7 y0
  have z1 := Bel.box x7 y1
  have z2 := Bel.box x7 y2
  have z3 := Bel.box x7 y3
  have HT4 := hide hT4
  have HB4 := hide (Bel.tr Y6.out x7)
  have zf : ∀ o, w7.frozen? ⟨w.heap.size + 1, o, none⟩ = false := fun o => (Below.frozen x7 (p := ⟨w.heap.size + 1, o, none⟩) (cell_lt y0)).trans (yf o)
  clear hT4 x7 y0 y1 y2 y3 yf
  generalize hl1 : (rmS ys).length = l1
  have Hl1 := hide hl1
  clear hl1
  go_wp2
  rw [← Hl1.out]
  exact bodyPost_ret (v := .agg #[.int .i64 0, .slice sa4 ys.length ca4, .slice sb4 (rmS ys).length cb4, .int .i64 a9]) (by simp [results, Try.results5, go_sem, set4_0 z0, set4_1 z1, set4_2 z2, set4_3 z3]) rfl (vr_good hn.out HB4.out sz6.out HT4.out)
end Go.Proofs.Ytanbgpmbccianaa
namespace Go.Proofs.Ytanbgpmbccianaa
open Go.RowKit
set_option linter.unusedSimpArgs false
set_option linter.unusedVariables false

def kindL (dt : Int) : Int :=
  if dt = 1 then 0 else if 2 ≤ dt ∧ dt ≤ 6 then 1 else if dt = 7 ∨ dt = 8 then 2 else if dt = 9 then 3 else -1
def isDtB (dt : Int) : Bool := decide (1 ≤ dt ∧ dt ≤ 9)
def skindL (dt : Int) : Int := if dt = 1 then 0 else if dt ≤ 6 then 1 else if dt ≤ 8 then 2 else 3
def bytesL (dt : Int) : Int := if 1 ≤ dt ∧ dt ≤ 3 then 1 else if dt = 4 then 2 else if dt = 5 ∨ dt = 7 then 4 else if dt = 9 then 16 else 8

theorem kind_neg (dt : Int) : (kindL dt != -1) = isDtB dt := by
  unfold kindL isDtB
  rw [Bool.eq_iff_iff]; simp only [bne_iff_ne, decide_eq_true_eq]
  repeat' split
  all_goals omega

set_option maxHeartbeats 400000 in
theorem kindOf_any (dt : Int) (w : World) :
    Calls Try.prog 47 #[.int .i64 dt] w fun e w' => e = .returned (.int .i64 (kindL dt)) ∧ w' = w := by
  go_enter Try.func47, Try.ntmps47
  go_wp2
  all_goals go_ret
  all_goals refine ⟨ret_int ?_, rfl⟩
  all_goals (unfold kindL; simp only [beq_iff_eq, beq_eq_false_iff_ne, ne_eq] at *; repeat' split)
  all_goals omega

set_option maxHeartbeats 400000 in
theorem isDType_any (dt : Int) (w : World) :
    Calls Try.prog 44 #[.int .i64 dt] w fun e w' => e = .returned (.bool (isDtB dt)) ∧ w' = w := by
  go_enter Try.func44, Try.ntmps44
  go_wp2_with (go_at_call 47; refine (kindOf_any _ _).mono ?_; rintro e w' ⟨rfl, rfl⟩)
  go_ret
  exact ⟨ret_bool (kind_neg dt), rfl⟩

def promL (a b : Int) : Int :=
  if ¬ (1 ≤ a ∧ a ≤ 9) ∨ ¬ (1 ≤ b ∧ b ≤ 9) then 0
  else if min a b = 2 ∧ max a b = 3 then 4
  else if max a b = 7 ∧ (min a b = 5 ∨ min a b = 6) then 8
  else max a b


end Go.Proofs.Ytanbgpmbccianaa
namespace Go.Proofs.Ytanbgpmbccianaa
open Go.RowKit
set_option linter.unusedSimpArgs false
set_option linter.unusedVariables false

theorem skind_eq (dt : Int) (h : 1 ≤ dt ∧ dt ≤ 9) : skindL dt = kindL dt := by unfold skindL kindL; omega

def castL (f t r : Int) : Bool :=
  decide ((1 ≤ f ∧ f ≤ 9) ∧ (1 ≤ t ∧ t ≤ 9) ∧ ((r = 0 ∧ promL f t = t) ∨ (r = 1 ∧ (promL f t = t ∨ kindL f ≤ kindL t)) ∨ r = 2))

end Go.Proofs.Ytanbgpmbccianaa
namespace Go.Proofs.Ytanbgpmbccianaa
namespace FL
open Ieee
set_option linter.unusedSimpArgs false
set_option linter.unusedVariables false

def magR (F : Format) (r : Nat) : Nat := if r < F.binade then r else F.binade + r % F.binade
def upR (F : Format) (r : Nat) : Nat := if r < F.binade then 0 else r / F.binade - 1
def bigR (F : Format) (r : Nat) : Nat := magR F r * 2 ^ upR F r

theorem binade_pos (F : Format) : 0 < F.binade := Nat.two_pow_pos _

theorem read_finite (F : Format) (x : Nat) (h : x % F.signWeight < F.infRung) :
    F.read x = .number (x / F.signWeight % 2 == 1) (magR F (x % F.signWeight)) (F.leastPlace + (upR F (x % F.signWeight) : Nat)) := by
  unfold Format.read magR upR
  dsimp only
  split
  · simp
  · rfl

theorem read_inf (F : Format) (x : Nat) (h : x % F.signWeight = F.infRung) (hb : F.binade ≤ F.infRung) : F.read x = .infinity (x / F.signWeight % 2 == 1) := by
  unfold Format.read
  dsimp only
  rw [if_neg (by omega), if_neg (by omega), if_pos h]

theorem read_nan (F : Format) (x : Nat) (h : F.infRung < x % F.signWeight) (hb : F.binade ≤ F.infRung) : F.read x = .nan (x / F.signWeight % 2 == 1) (x % F.signWeight - F.infRung) := by
  unfold Format.read
  dsimp only
  rw [if_neg (by omega), if_neg (by omega), if_neg (by omega)]

theorem bigR_succ (F : Format) (r : Nat) : bigR F r < bigR F (r + 1) := by
  have hb := binade_pos F
  unfold bigR magR upR
  generalize F.binade = b at *
  by_cases h1 : r + 1 < b
  · rw [if_pos (by omega), if_pos (by omega), if_pos h1, if_pos h1]; omega
  · by_cases h2 : r < b
    · have e : r + 1 = b := by omega
      rw [if_pos h2, if_pos h2, if_neg h1, if_neg h1, e, Nat.mod_self, Nat.div_self hb]
      simp; omega
    · rw [if_neg h2, if_neg h2, if_neg h1, if_neg h1]
      have hq : 1 ≤ r / b := (Nat.one_le_div_iff hb).2 (by omega)
      have hm := Nat.mod_lt r hb
      have hd := Nat.div_add_mod r b
      by_cases h3 : r % b + 1 < b
      · have e1 : (r + 1) / b = r / b := by
          rw [Nat.div_eq_iff hb]
          refine ⟨?_, ?_⟩
          · rw [Nat.mul_comm]; omega
          · rw [Nat.mul_comm]; omega
        have e2 : (r + 1) % b = r % b + 1 := by
          have := Nat.div_add_mod (r + 1) b
          rw [e1] at this; omega
        rw [e1, e2]
        exact Nat.mul_lt_mul_of_pos_right (by omega) (Nat.two_pow_pos _)
      · have e3 : r + 1 = b * (r / b + 1) := by rw [Nat.mul_add]; omega
        have e1 : (r + 1) / b = r / b + 1 := by rw [e3]; exact Nat.mul_div_cancel_left _ hb
        have e2 : (r + 1) % b = 0 := by rw [e3]; exact Nat.mul_mod_right _ _
        rw [e1, e2]
        have e4 : r / b + 1 - 1 = (r / b - 1) + 1 := by omega
        rw [e4, Nat.pow_succ, Nat.add_zero, Nat.mul_comm (2 ^ (r / b - 1)) 2, ← Nat.mul_assoc]
        exact Nat.mul_lt_mul_of_pos_right (by omega) (Nat.two_pow_pos _)

theorem bigR_mono (F : Format) (r s : Nat) (h : r < s) : bigR F r < bigR F s := by
  induction s with
  | zero => omega
  | succ s ih =>
    by_cases e : r = s
    · subst e; exact bigR_succ F r
    · exact Nat.lt_trans (ih (by omega)) (bigR_succ F s)

theorem bigR_lt (F : Format) (r s : Nat) : bigR F r < bigR F s ↔ r < s := by
  refine ⟨fun h => ?_, bigR_mono F r s⟩
  by_cases e : r = s
  · subst e; omega
  · by_cases g : s < r
    · have := bigR_mono F s r g; omega
    · omega

theorem bigR_eq (F : Format) (r s : Nat) : bigR F r = bigR F s ↔ r = s := by
  refine ⟨fun h => ?_, fun h => by rw [h]⟩
  have h1 := bigR_lt F r s
  have h2 := bigR_lt F s r
  omega

def keyW (F : Format) (x : Nat) : Int := if (x / F.signWeight % 2 == 1) = true then -((x % F.signWeight : Nat) : Int) else ((x % F.signWeight : Nat) : Int)
def nanW (F : Format) (x : Nat) : Bool := decide (F.infRung < x % F.signWeight)

theorem cmp_congr {a b c d : Int} (h1 : a < b ↔ c < d) (h2 : a = b ↔ c = d) : compare a b = compare c d := by
  show compareOfLessAndEq a b = compareOfLessAndEq c d
  unfold compareOfLessAndEq
  by_cases e1 : a < b
  · rw [if_pos e1, if_pos (h1.1 e1)]
  · rw [if_neg e1, if_neg (fun h => e1 (h1.2 h))]
    by_cases e2 : a = b
    · rw [if_pos e2, if_pos (h2.1 e2)]
    · rw [if_neg e2, if_neg (fun h => e2 (h2.2 h))]

theorem cmp_lt {a b : Int} (h : a < b) : compare a b = .lt := by
  show compareOfLessAndEq a b = _
  unfold compareOfLessAndEq; rw [if_pos h]
theorem cmp_gt {a b : Int} (h : b < a) : compare a b = .gt := by
  show compareOfLessAndEq a b = _
  unfold compareOfLessAndEq; rw [if_neg (by omega), if_neg (by omega)]
theorem cmp_eq {a b : Int} (h : a = b) : compare a b = .eq := by
  show compareOfLessAndEq a b = _
  unfold compareOfLessAndEq; rw [if_neg (by omega), if_pos h]

theorem cross (F : Format) (r s : Nat) :
    (magR F r * 2 ^ (upR F r - min (upR F r) (upR F s)) < magR F s * 2 ^ (upR F s - min (upR F r) (upR F s)) ↔ r < s) ∧
    (magR F r * 2 ^ (upR F r - min (upR F r) (upR F s)) = magR F s * 2 ^ (upR F s - min (upR F r) (upR F s)) ↔ r = s) := by
  have h1 : magR F r * 2 ^ (upR F r - min (upR F r) (upR F s)) * 2 ^ min (upR F r) (upR F s) = bigR F r := by
    unfold bigR; rw [Nat.mul_assoc, ← Nat.pow_add, Nat.sub_add_cancel (Nat.min_le_left _ _)]
  have h2 : magR F s * 2 ^ (upR F s - min (upR F r) (upR F s)) * 2 ^ min (upR F r) (upR F s) = bigR F s := by
    unfold bigR; rw [Nat.mul_assoc, ← Nat.pow_add, Nat.sub_add_cancel (Nat.min_le_right _ _)]
  rw [← bigR_lt F r s, ← bigR_eq F r s, ← h1, ← h2]
  have hp : 0 < 2 ^ min (upR F r) (upR F s) := Nat.two_pow_pos _
  exact ⟨(Nat.mul_lt_mul_right hp).symm, ⟨fun h => by rw [h], fun h => Nat.eq_of_mul_eq_mul_right hp h⟩⟩

theorem sgn_congr (s t : Bool) (A B r q : Nat) (h1 : A < B ↔ r < q) (h2 : A = B ↔ r = q) (hA : A = 0 ↔ r = 0) (hB : B = 0 ↔ q = 0) :
    compare (if s = true then -(A : Int) else (A : Int)) (if t = true then -(B : Int) else (B : Int)) = compare (if s = true then -(r : Int) else (r : Int)) (if t = true then -(q : Int) else (q : Int)) := by
  apply cmp_congr <;> cases s <;> cases t <;> simp <;> omega

theorem mag_zero (F : Format) (r : Nat) (k : Nat) : magR F r * 2 ^ k = 0 ↔ r = 0 := by
  have hb := binade_pos F
  have hp : 0 < 2 ^ k := Nat.two_pow_pos _
  rw [Nat.mul_eq_zero]
  unfold magR
  split <;> omega

theorem order_key (F : Format) (hb : F.binade ≤ F.infRung) (x y : Nat) (hx : nanW F x = false) (hy : nanW F y = false) :
    F.order x y = some (compare (keyW F x) (keyW F y)) := by
  unfold nanW at hx hy
  simp only [decide_eq_false_iff_not, Nat.not_lt] at hx hy
  unfold Format.order keyW
  by_cases ex : x % F.signWeight = F.infRung
  · rw [read_inf F x ex hb]
    by_cases ey : y % F.signWeight = F.infRung
    · rw [read_inf F y ey hb, ex, ey]
      have hp : 0 < F.infRung := Nat.lt_of_lt_of_le (binade_pos F) hb
      generalize (x / F.signWeight % 2 == 1) = s
      generalize (y / F.signWeight % 2 == 1) = t
      cases s <;> cases t <;> simp only [Datum.order, Bool.toNat_true, Bool.toNat_false]
      · rw [cmp_eq (by simp)]; rfl
      · rw [cmp_gt (by simp; omega)]; rfl
      · rw [cmp_lt (by simp; omega)]; rfl
      · rw [cmp_eq (by simp)]; rfl
    · rw [read_finite F y (by omega), ex]
      have hp : 0 < F.infRung := Nat.lt_of_lt_of_le (binade_pos F) hb
      generalize (x / F.signWeight % 2 == 1) = s
      generalize (y / F.signWeight % 2 == 1) = t
      cases s <;> cases t <;> simp only [Datum.order]
      · rw [cmp_gt (by simp; omega)]; rfl
      · rw [cmp_gt (by simp; omega)]; rfl
      · rw [cmp_lt (by simp; omega)]; rfl
      · rw [cmp_lt (by simp; omega)]; rfl
  · rw [read_finite F x (by omega)]
    by_cases ey : y % F.signWeight = F.infRung
    · rw [read_inf F y ey hb, ey]
      have hp : 0 < F.infRung := Nat.lt_of_lt_of_le (binade_pos F) hb
      generalize (x / F.signWeight % 2 == 1) = s
      generalize (y / F.signWeight % 2 == 1) = t
      cases s <;> cases t <;> simp only [Datum.order]
      · rw [cmp_lt (by simp; omega)]; rfl
      · rw [cmp_gt (by simp; omega)]; rfl
      · rw [cmp_lt (by simp; omega)]; rfl
      · rw [cmp_gt (by simp; omega)]; rfl
    · rw [read_finite F y (by omega)]
      generalize hs : (x / F.signWeight % 2 == 1) = s
      generalize ht : (y / F.signWeight % 2 == 1) = t
      generalize x % F.signWeight = r at *
      generalize y % F.signWeight = q at *
      simp only [Datum.order, signed, Nat.shiftLeft_eq]
      have e1 : (F.leastPlace + (upR F r : Nat) - min (F.leastPlace + (upR F r : Nat)) (F.leastPlace + (upR F q : Nat))).toNat = upR F r - min (upR F r) (upR F q) := by omega
      have e2 : (F.leastPlace + (upR F q : Nat) - min (F.leastPlace + (upR F r : Nat)) (F.leastPlace + (upR F q : Nat))).toNat = upR F q - min (upR F r) (upR F q) := by omega
      rw [e1, e2]
      have hc := cross F r q
      exact congrArg some (sgn_congr s t _ _ r q hc.1 hc.2 (mag_zero F _ _) (mag_zero F _ _))

theorem order_nan_left (F : Format) (hb : F.binade ≤ F.infRung) (x y : Nat) (hx : nanW F x = true) : F.order x y = none := by
  unfold nanW at hx
  simp only [decide_eq_true_eq] at hx
  unfold Format.order
  rw [read_nan F x hx hb]; rfl
theorem order_nan_right (F : Format) (hb : F.binade ≤ F.infRung) (x y : Nat) (hy : nanW F y = true) : F.order x y = none := by
  unfold nanW at hy
  simp only [decide_eq_true_eq] at hy
  unfold Format.order
  rw [read_nan F y hy hb]
  cases F.read x <;> rfl
end FL
end Go.Proofs.Ytanbgpmbccianaa
namespace Go.Proofs.Ytanbgpmbccianaa
namespace FL
open Ieee
set_option linter.unusedSimpArgs false
set_option linter.unusedVariables false

theorem log2_mul (m k : Nat) (h : 0 < m) : (m * 2 ^ k).log2 = m.log2 + k := by
  have hm : m ≠ 0 := by omega
  have hp : 0 < 2 ^ k := Nat.two_pow_pos _
  have hn : m * 2 ^ k ≠ 0 := Nat.mul_ne_zero hm (by omega)
  rw [Nat.log2_eq_iff hn]
  have h1 := (Nat.log2_eq_iff (k := m.log2) hm).1 rfl
  refine ⟨?_, ?_⟩
  · rw [Nat.pow_add]; exact Nat.mul_le_mul_right _ h1.1
  · rw [show m.log2 + k + 1 = m.log2 + 1 + k by omega, Nat.pow_add]; exact Nat.mul_lt_mul_of_pos_right h1.2 hp

/-- A cut of a multiple is exact. -/
theorem cut_exact (way : Toward) (neg : Bool) (m k : Nat) (h : 0 < m) : way.cut neg (m * 2 ^ k) k = m := by
  unfold Toward.cut
  have hl := log2_mul m k h
  have hmin : min k ((m * 2 ^ k).log2 + 2) = k := by omega
  rw [hmin]
  have hp : 0 < 2 ^ k := Nat.two_pow_pos _
  simp only [Nat.shiftLeft_eq, Nat.one_mul, Nat.mul_div_cancel _ hp, Nat.mul_mod_left]
  cases way <;> simp

theorem mag_normal (F : Format) (r : Nat) (h : F.binade ≤ r) : (magR F r).log2 = F.fractionBits := by
  have hb := binade_pos F
  have hm := Nat.mod_lt r hb
  unfold magR
  rw [if_neg (by omega)]
  have hb2 : F.binade = 2 ^ F.fractionBits := rfl
  rw [Nat.log2_eq_iff (by omega), Nat.pow_succ]
  omega

theorem mag_sub (F : Format) (r : Nat) (h0 : 0 < r) (h : r < F.binade) : (magR F r).log2 ≤ F.fractionBits := by
  unfold magR
  rw [if_pos h]
  have hb2 : F.binade = 2 ^ F.fractionBits := rfl
  have := (Nat.log2_lt (by omega : r ≠ 0) (k := F.fractionBits)).2 (by omega)
  omega

theorem mag_pos (F : Format) (r : Nat) (h0 : 0 < r) : 0 < magR F r := by
  have hb := binade_pos F
  unfold magR; split <;> omega

theorem last_eq (F : Format) (r : Nat) (h0 : 0 < r) :
    max (F.leastPlace + (upR F r : Nat) + ((magR F r).log2 : Nat) - F.fractionBits) F.leastPlace = F.leastPlace + (upR F r : Nat) := by
  by_cases h : r < F.binade
  · have := mag_sub F r h0 h
    have e : upR F r = 0 := by unfold upR; rw [if_pos h]
    rw [e]; omega
  · have := mag_normal F r (by omega)
    omega

theorem rung_eq (F : Format) (r : Nat) : upR F r * F.binade + magR F r = r := by
  have hb := binade_pos F
  unfold upR magR
  by_cases h : r < F.binade
  · rw [if_pos h, if_pos h]; omega
  · rw [if_neg h, if_neg h]
    have hq : 1 ≤ r / F.binade := (Nat.one_le_div_iff hb).2 (by omega)
    have hd := Nat.div_add_mod r F.binade
    obtain ⟨q, hq'⟩ : ∃ q, r / F.binade = q + 1 := ⟨r / F.binade - 1, by omega⟩
    rw [hq'] at hd ⊢
    rw [Nat.mul_add, Nat.mul_comm] at hd
    simp only [Nat.add_sub_cancel]
    omega

theorem nearest_up (F : Format) (neg : Bool) (r k : Nat) (h0 : 0 < r) (hi : r < F.infRung) :
    F.nearest neg (magR F r * 2 ^ k) (F.leastPlace + (upR F r : Nat) - k) = F.word neg r := by
  have hm := mag_pos F r h0
  have hp : 0 < 2 ^ k := Nat.two_pow_pos _
  unfold Format.nearest
  rw [if_neg (Nat.mul_ne_zero (by omega) (by omega))]
  dsimp only
  rw [log2_mul _ _ hm]
  have e0 := last_eq F r h0
  have e1 : max (F.leastPlace + (upR F r : Nat) - (k : Int) + ((magR F r).log2 + k : Nat) - F.fractionBits) F.leastPlace = F.leastPlace + (upR F r : Nat) := by
    rw [← e0]; congr 1; omega
  rw [e1]
  have e2 : (F.leastPlace + (upR F r : Nat) - (k : Int) - (F.leastPlace + (upR F r : Nat))).toNat = 0 := by omega
  have e3 : (F.leastPlace + (upR F r : Nat) - (F.leastPlace + (upR F r : Nat) - (k : Int))).toNat = k := by omega
  have e4 : (F.leastPlace + (upR F r : Nat) - F.leastPlace).toNat = upR F r := by omega
  rw [e2, e3, e4, Nat.shiftLeft_zero, cut_exact _ _ _ _ hm, rung_eq, Nat.min_eq_left (by omega)]

theorem nearest_down (F : Format) (neg : Bool) (r m k : Nat) (h0 : 0 < r) (hi : r < F.infRung) (hk : magR F r = m * 2 ^ k) :
    F.nearest neg m (F.leastPlace + (upR F r : Nat) + k) = F.word neg r := by
  have hm0 := mag_pos F r h0
  have hm : 0 < m := by
    cases m with
    | zero => omega
    | succ m => omega
  unfold Format.nearest
  rw [if_neg (by omega)]
  dsimp only
  have e0 := last_eq F r h0
  rw [hk, log2_mul _ _ hm] at e0
  have e1 : max (F.leastPlace + (upR F r : Nat) + (k : Int) + (m.log2 : Nat) - F.fractionBits) F.leastPlace = F.leastPlace + (upR F r : Nat) := by
    rw [← e0]; congr 1; omega
  rw [e1]
  have e2 : (F.leastPlace + (upR F r : Nat) + (k : Int) - (F.leastPlace + (upR F r : Nat))).toNat = k := by omega
  have e3 : (F.leastPlace + (upR F r : Nat) - (F.leastPlace + (upR F r : Nat) + (k : Int))).toNat = 0 := by omega
  have e4 : (F.leastPlace + (upR F r : Nat) - F.leastPlace).toNat = upR F r := by omega
  rw [e2, e3, e4, Nat.shiftLeft_eq, ← hk]
  have e5 := cut_exact .even neg (magR F r) 0 hm0
  rw [Nat.pow_zero, Nat.mul_one] at e5
  rw [e5, rung_eq, Nat.min_eq_left (by omega)]

theorem nearest_zero (F : Format) (neg : Bool) (p : Int) : F.nearest neg 0 p = F.word neg 0 := by
  unfold Format.nearest; rw [if_pos rfl]

/-- Of every number that fits the format there is a rung. -/
theorem has_rung (F : Format) (m : Nat) (p : Int) (h0 : 0 < m) (hm : m < 2 ^ (F.fractionBits + 1)) (hp : F.leastPlace ≤ p) :
    ∃ r k : Nat, 0 < r ∧ magR F r = m * 2 ^ k ∧ p = F.leastPlace + (upR F r : Nat) + k ∧ r < ((p - F.leastPlace).toNat + 2) * F.binade := by
  have hb := binade_pos F
  have hb2 : F.binade = 2 ^ F.fractionBits := rfl
  have hL := (Nat.log2_eq_iff (k := m.log2) (by omega : m ≠ 0)).1 rfl
  have hLf : m.log2 ≤ F.fractionBits := by
    have := (Nat.log2_lt (by omega : m ≠ 0) (k := F.fractionBits + 1)).2 hm
    omega
  obtain ⟨j, hj⟩ : ∃ j : Nat, p = F.leastPlace + j := ⟨(p - F.leastPlace).toNat, by omega⟩
  by_cases hn : F.fractionBits - m.log2 ≤ j
  · -- a normal rung
    generalize hd : F.fractionBits - m.log2 = d at *
    have h1 : F.binade ≤ m * 2 ^ d := by
      rw [hb2, show F.fractionBits = m.log2 + d by omega, Nat.pow_add]; exact Nat.mul_le_mul_right _ hL.1
    have h2 : m * 2 ^ d < 2 * F.binade := by
      rw [hb2, show F.fractionBits = m.log2 + d by omega, ← Nat.pow_succ', show (m.log2 + d).succ = m.log2 + 1 + d by omega, Nat.pow_add]
      exact Nat.mul_lt_mul_of_pos_right hL.2 (Nat.two_pow_pos _)
    refine ⟨(j - d) * F.binade + m * 2 ^ d, d, by omega, ?_, ?_, ?_⟩
    · unfold magR
      have hge : F.binade ≤ (j - d) * F.binade + m * 2 ^ d := by omega
      rw [if_neg (by omega), Nat.add_comm ((j - d) * F.binade), Nat.add_mul_mod_self_right]
      have : (m * 2 ^ d) % F.binade = m * 2 ^ d - F.binade := by
        rw [Nat.mod_eq_sub_mod h1]; exact Nat.mod_eq_of_lt (by omega)
      omega
    · unfold upR
      have hge : F.binade ≤ (j - d) * F.binade + m * 2 ^ d := by omega
      rw [if_neg (by omega), Nat.add_comm ((j - d) * F.binade), Nat.add_mul_div_right _ _ hb]
      have : m * 2 ^ d / F.binade = 1 := by
        rw [Nat.div_eq_iff hb]; omega
      rw [this]; omega
    · rw [hj]
      have e : (F.leastPlace + (j : Int) - F.leastPlace).toNat = j := by omega
      rw [e, Nat.add_mul]
      have : (j - d) * F.binade ≤ j * F.binade := Nat.mul_le_mul_right _ (by omega)
      omega
  · -- a subnormal one
    have h2 : m * 2 ^ j < F.binade := by
      rw [hb2]
      have : 2 ^ F.fractionBits = 2 ^ (m.log2 + 1 + j) * 2 ^ (F.fractionBits - (m.log2 + 1 + j)) := by
        rw [← Nat.pow_add]; congr 1; omega
      rw [this]
      refine Nat.lt_of_lt_of_le ?_ (Nat.le_mul_of_pos_right _ (Nat.two_pow_pos _))
      rw [Nat.pow_add]; exact Nat.mul_lt_mul_of_pos_right hL.2 (Nat.two_pow_pos _)
    have h3 : 0 < m * 2 ^ j := Nat.mul_pos h0 (Nat.two_pow_pos _)
    refine ⟨m * 2 ^ j, j, h3, ?_, ?_, ?_⟩
    · unfold magR; rw [if_pos h2]
    · unfold upR; rw [if_pos h2]; omega
    · have : F.binade ≤ ((p - F.leastPlace).toNat + 2) * F.binade := Nat.le_mul_of_pos_left _ (by omega)
      omega

theorem word_mod (F : Format) (neg : Bool) (r : Nat) (h : r < F.signWeight) : F.word neg r % F.signWeight = r ∧ (F.word neg r / F.signWeight % 2 == 1) = neg := by
  have hp : 0 < F.signWeight := Nat.two_pow_pos _
  unfold Format.word
  cases neg
  · simp only [Bool.false_eq_true, if_false]
    rw [Nat.mod_eq_of_lt h, Nat.div_eq_of_lt h]; exact ⟨rfl, rfl⟩
  · simp only [if_true]
    rw [Nat.add_mod_left, Nat.mod_eq_of_lt h, Nat.add_div_left _ hp, Nat.div_eq_of_lt h]; exact ⟨rfl, rfl⟩

theorem read_word (F : Format) (neg : Bool) (r : Nat) (h : r < F.infRung) : F.read (F.word neg r) = .number neg (magR F r) (F.leastPlace + (upR F r : Nat)) := by
  have hl := F.infRung_lt
  have hw := word_mod F neg r (by omega)
  rw [read_finite F _ (by rw [hw.1]; exact h), hw.1, hw.2]

theorem word_of (F : Format) (x : Nat) (h : x < 2 * F.signWeight) : F.word (x / F.signWeight % 2 == 1) (x % F.signWeight) = x := by
  have hp : 0 < F.signWeight := Nat.two_pow_pos _
  unfold Format.word
  by_cases hx : x < F.signWeight
  · rw [Nat.div_eq_of_lt hx, Nat.mod_eq_of_lt hx]; rfl
  · have e : x / F.signWeight = 1 := by rw [Nat.div_eq_iff hp]; omega
    have e2 : x % F.signWeight = x - F.signWeight := by rw [Nat.mod_eq_sub_mod (by omega)]; exact Nat.mod_eq_of_lt (by omega)
    rw [e, e2]; simp; omega

/-- What a number that fits is written and read as: the same number. -/
theorem write_read (F : Format) (neg : Bool) (m : Nat) (p : Int) (h0 : 0 < m) (hm : m < 2 ^ (F.fractionBits + 1)) (hp : F.leastPlace ≤ p) (hi : ((p - F.leastPlace).toNat + 2) * F.binade ≤ F.infRung) :
    ∃ r k : Nat, 0 < r ∧ r < F.infRung ∧ magR F r = m * 2 ^ k ∧ p = F.leastPlace + (upR F r : Nat) + k ∧ F.nearest neg m p = F.word neg r ∧ F.read (F.nearest neg m p) = .number neg (m * 2 ^ k) (p - k) := by
  obtain ⟨r, k, hr, hk, hpk, hlt⟩ := has_rung F m p h0 hm hp
  have hri : r < F.infRung := by omega
  have hn : F.nearest neg m p = F.word neg r := by rw [hpk]; exact nearest_down F neg r m k hr hri hk
  refine ⟨r, k, hr, hri, hk, hpk, hn, ?_⟩
  rw [hn, read_word F neg r hri, hk]
  congr 1; omega
end FL
end Go.Proofs.Ytanbgpmbccianaa
namespace Go.Proofs.Ytanbgpmbccianaa
namespace FL
open Ieee
set_option linter.unusedSimpArgs false
set_option linter.unusedVariables false

def nanD (x : Nat) : Bool := nanW double x
def nanS (x : Nat) : Bool := nanW single x
def keyD (x : Nat) : Int := keyW double x
def feq (x y : Nat) : Bool := !nanD x && !nanD y && decide (keyD x = keyD y)
def flt (x y : Nat) : Bool := !nanD x && !nanD y && decide (keyD x < keyD y)

theorem dW : double.signWeight = 9223372036854775808 := by decide
theorem dI : double.infRung = 9218868437227405312 := by decide
theorem dB : double.binade = 4503599627370496 := by decide
theorem dL : double.leastPlace = -1074 := by decide
theorem sW : single.signWeight = 2147483648 := by decide
theorem sI : single.infRung = 2139095040 := by decide
theorem sB : single.binade = 8388608 := by decide
theorem sL : single.leastPlace = -149 := by decide
theorem dBI : double.binade ≤ double.infRung := by decide
theorem sBI : single.binade ≤ single.infRung := by decide

theorem nanD_iff (x : Nat) : nanD x = true ↔ 9218868437227405312 < x % 9223372036854775808 := by
  unfold nanD nanW; rw [dW, dI]; simp
theorem nanS_iff (x : Nat) : nanS x = true ↔ 2139095040 < x % 2147483648 := by
  unfold nanS nanW; rw [sW, sI]; simp
theorem keyD_eq (x : Nat) (h : x < 18446744073709551616) : keyD x = if x < 9223372036854775808 then (x : Int) else 9223372036854775808 - (x : Int) := by
  unfold keyD keyW; rw [dW]
  simp only [beq_iff_eq]
  split <;> split <;> omega

theorem order_feq (x y : Nat) : (double.order x y == some .eq) = feq x y := by
  unfold feq
  cases hx : nanD x
  · cases hy : nanD y
    · rw [order_key double dBI x y hx hy]
      by_cases h : keyW double x = keyW double y
      · rw [cmp_eq h]; simp [keyD, h]
      · by_cases h2 : keyW double x < keyW double y
        · rw [cmp_lt h2]; simp [keyD, h]
        · rw [cmp_gt (by omega)]; simp [keyD, h]
    · rw [order_nan_right double dBI x y hy]; simp
  · rw [order_nan_left double dBI x y hx]; simp

theorem order_flt (x y : Nat) : (double.order x y == some .lt) = flt x y := by
  unfold flt
  cases hx : nanD x
  · cases hy : nanD y
    · rw [order_key double dBI x y hx hy]
      by_cases h : keyW double x = keyW double y
      · rw [cmp_eq h]; simp [keyD, h]
      · by_cases h2 : keyW double x < keyW double y
        · rw [cmp_lt h2]; simp [keyD, h2]
        · rw [cmp_gt (by omega)]; simp [keyD, h2]
    · rw [order_nan_right double dBI x y hy]; simp
  · rw [order_nan_left double dBI x y hx]; simp

theorem order_fgt (x y : Nat) : (double.order x y == some .gt) = flt y x := by
  unfold flt
  cases hx : nanD x
  · cases hy : nanD y
    · rw [order_key double dBI x y hx hy]
      by_cases h : keyW double x = keyW double y
      · rw [cmp_eq h]; simp [keyD, h]
      · by_cases h2 : keyW double x < keyW double y
        · have h3 : ¬ keyW double y < keyW double x := by omega
          rw [cmp_lt h2]; simp [keyD, h3]
        · have h3 : keyW double y < keyW double x := by omega
          rw [cmp_gt h3]; simp [keyD, h3, hx, hy]
    · rw [order_nan_right double dBI x y hy]; simp
  · rw [order_nan_left double dBI x y hx]; simp

theorem feq_self (x : Nat) : feq x x = !nanD x := by unfold feq; cases nanD x <;> simp

theorem key_inj (a b : Nat) (ha : a < 18446744073709551616) (hb : b < 18446744073709551616) (h : keyD a = keyD b) : a = b ∨ (a = 0 ∧ b = 9223372036854775808) ∨ (a = 9223372036854775808 ∧ b = 0) := by
  rw [keyD_eq a ha, keyD_eq b hb] at h
  split at h <;> split at h <;> omega

/-! ### single and double -/
def narrow (x : Nat) : Nat := single.write (double.read x)
def wide (u : Nat) : Nat := double.write (single.read u)
def over (x : Nat) : Bool := match double.read x with
  | .number .. => (single.read (narrow x)).isInfinity
  | _ => false
def sngB (x : Nat) : Bool := nanD x || (!over x && wide (narrow x) == x)

theorem mag_lt (F : Format) (r : Nat) : magR F r < 2 ^ (F.fractionBits + 1) := by
  have hb := binade_pos F
  have hm := Nat.mod_lt r hb
  have hb2 : F.binade = 2 ^ F.fractionBits := rfl
  unfold magR
  rw [Nat.pow_succ]
  split <;> omega

theorem upR_le (F : Format) (r n : Nat) (h : r < (n + 1) * F.binade) (hn : 0 < n) : upR F r ≤ n - 1 := by
  have hb := binade_pos F
  unfold upR
  split
  · omega
  · have : r / F.binade < n + 1 := (Nat.div_lt_iff_lt_mul hb).2 h
    omega

/-- A finite single that is not zero: what it is as a double, and back. -/
theorem wide_finite (u : Nat) (hu : u < 4294967296) (h0 : 0 < u % 2147483648) (h : u % 2147483648 < 2139095040) :
    ∃ r, 0 < r ∧ r < double.infRung ∧ wide u = double.word (u / 2147483648 % 2 == 1) r ∧ narrow (wide u) = u := by
  have hr := read_finite single u (by rw [sW, sI]; exact h)
  rw [sW] at hr
  have hup := upR_le single (u % 2147483648) 254 (by rw [sB]; omega) (by omega)
  have hml := mag_lt single (u % 2147483648)
  have hmp := mag_pos single _ h0
  have hf : (2 : Nat) ^ (single.fractionBits + 1) = 16777216 := by decide
  have hf2 : (2 : Nat) ^ (double.fractionBits + 1) = 9007199254740992 := by decide
  rw [hf] at hml
  generalize hneg : (u / 2147483648 % 2 == 1) = neg at *
  obtain ⟨r, k, hr0, hri, hk, hpk, hn, hrd⟩ := write_read double neg (magR single (u % 2147483648)) (single.leastPlace + (upR single (u % 2147483648) : Nat)) hmp (by rw [hf2]; omega)
    (by rw [dL, sL]; omega) (by rw [dL, sL, dB, dI]; omega)
  refine ⟨r, hr0, hri, ?_, ?_⟩
  · unfold wide; rw [hr]; exact hn
  · unfold narrow wide
    rw [hr]
    show single.write (double.read (double.nearest _ _ _)) = u
    rw [hrd]
    show single.nearest _ _ _ = u
    rw [nearest_up single neg (u % 2147483648) k h0 (by rw [sI]; exact h)]
    have := word_of single u (by rw [sW]; omega)
    rw [sW, hneg] at this
    exact this

theorem wide_zero (u : Nat) (hu : u < 4294967296) (h0 : u % 2147483648 = 0) : wide u = double.word (u / 2147483648 % 2 == 1) 0 ∧ narrow (wide u) = u := by
  have : u = 0 ∨ u = 2147483648 := by omega
  rcases this with rfl | rfl <;> decide

theorem wide_inf (u : Nat) (hu : u < 4294967296) (h0 : u % 2147483648 = 2139095040) : wide u = double.word (u / 2147483648 % 2 == 1) double.infRung ∧ narrow (wide u) = u := by
  have : u = 2139095040 ∨ u = 4286578688 := by omega
  rcases this with rfl | rfl <;> decide

theorem wide_lt (u : Nat) : wide u < 18446744073709551616 := double.write_lt _
theorem narrow_lt (u : Nat) : narrow u < 4294967296 := single.write_lt _

theorem word_cases (neg : Bool) (r : Nat) (h : r < 9223372036854775808) : double.word neg r % 9223372036854775808 = r := by
  have := (word_mod double neg r (by rw [dW]; exact h)).1
  rw [dW] at this; exact this

theorem wide_narrow (u : Nat) (hu : u < 4294967296) (hn : nanS u = false) : narrow (wide u) = u ∧ nanD (wide u) = false := by
  have hn' : ¬ 2139095040 < u % 2147483648 := fun h => by rw [(nanS_iff u).2 h] at hn; cases hn
  have key : ∀ x : Nat, x % 9223372036854775808 ≤ 9218868437227405312 → nanD x = false := fun x h => by
    cases e : nanD x
    · rfl
    · have := (nanD_iff x).1 e; omega
  by_cases h0 : u % 2147483648 = 0
  · have := wide_zero u hu h0
    refine ⟨this.2, key _ ?_⟩
    rw [this.1, word_cases _ _ (by omega)]; omega
  · by_cases hi : u % 2147483648 = 2139095040
    · have := wide_inf u hu hi
      refine ⟨this.2, key _ ?_⟩
      rw [this.1, word_cases _ _ (by rw [dI]; omega), dI]; omega
    · obtain ⟨r, h1, h2, h3, h4⟩ := wide_finite u hu (by omega) (by omega)
      rw [dI] at h2
      refine ⟨h4, key _ ?_⟩
      rw [h3, word_cases _ _ (by omega)]; omega

theorem over_wide (u : Nat) (hu : u < 4294967296) (hn : nanS u = false) : over (wide u) = false := by
  have hn' : ¬ 2139095040 < u % 2147483648 := fun h => by rw [(nanS_iff u).2 h] at hn; cases hn
  have hw := (wide_narrow u hu hn).1
  by_cases hi : u % 2147483648 = 2139095040
  · have : u = 2139095040 ∨ u = 4286578688 := by omega
    rcases this with rfl | rfl <;> decide
  · unfold over
    rw [hw, read_finite single u (by rw [sW, sI]; omega)]
    split <;> rfl

theorem nanS_narrow (x : Nat) (hx : nanD x = false) : nanS (narrow x) = false := by
  have hx' : ¬ 9218868437227405312 < x % 9223372036854775808 := fun h => by rw [(nanD_iff x).2 h] at hx; cases hx
  have key : ∀ y : Nat, y % 2147483648 ≤ 2139095040 → nanS y = false := fun y h => by
    cases e : nanS y
    · rfl
    · have := (nanS_iff y).1 e; omega
  have word : ∀ neg r, r ≤ 2139095040 → single.word neg r % 2147483648 ≤ 2139095040 := fun neg r h => by
    have := (word_mod single neg r (by rw [sW]; omega)).1
    rw [sW] at this; omega
  apply key
  unfold narrow
  by_cases hi : x % 9223372036854775808 = 9218868437227405312
  · rw [read_inf double x (by rw [dW, dI]; exact hi) dBI]
    show single.word _ single.infRung % _ ≤ _
    exact word _ _ (by rw [sI]; omega)
  · rw [read_finite double x (by rw [dW, dI]; omega)]
    show single.nearest _ _ _ % _ ≤ _
    unfold Format.nearest
    split
    · exact word _ _ (by omega)
    · refine word _ _ ?_
      rw [← sI]; exact Nat.min_le_right _ _

def SingleR (x r : Nat) : Prop :=
  r < 18446744073709551616 ∧ ((nanD x = true ∧ nanD r = true) ∨ (nanD x = false ∧ ∃ u, u < 4294967296 ∧ (over x = true ∨ u = narrow x) ∧ ((nanS u = true ∧ nanD r = true) ∨ (nanS u = false ∧ r = wide u))))

theorem singR_same {x r : Nat} (h : SingleR x r) (hs : sngB x = true) : (nanD x = true ∧ nanD r = true) ∨ (nanD x = false ∧ r = x) := by
  rcases h.2 with h1 | ⟨h1, u, hu, h2, h3⟩
  · exact Or.inl h1
  · right
    unfold sngB at hs
    simp only [h1, Bool.false_or, Bool.and_eq_true, Bool.not_eq_true', beq_iff_eq] at hs
    rcases h2 with h2 | h2
    · rw [hs.1] at h2; cases h2
    · rcases h3 with h3 | h3
      · rw [h2, nanS_narrow x h1] at h3; cases h3.1
      · exact ⟨h1, by rw [h3.2, h2, hs.2]⟩

theorem singR_not {x r : Nat} (hx : x < 18446744073709551616) (h : SingleR x r) (hs : sngB x = false) : nanD x = false ∧ feq r x = false := by
  unfold sngB at hs
  simp only [Bool.or_eq_false_iff] at hs
  refine ⟨hs.1, ?_⟩
  rcases h.2 with h1 | ⟨h1, u, hu, h2, h3⟩
  · rw [hs.1] at h1; cases h1.1
  · rcases h3 with h3 | h3
    · unfold feq; rw [h3.2]; rfl
    · cases e : feq r x
      · rfl
      · unfold feq at e
        simp only [Bool.and_eq_true, decide_eq_true_eq] at e
        have hi := key_inj r x h.1 hx e.2
        have hz : x = 0 ∨ x = 9223372036854775808 → False := by
          intro hz
          have : (!over x && wide (narrow x) == x) = true := by rcases hz with rfl | rfl <;> decide
          rw [this] at hs; cases hs.2
        have hrx : r = x := by
          rcases hi with hi | hi | hi
          · exact hi
          · exact (hz (Or.inr hi.2)).elim
          · exact (hz (Or.inl hi.2)).elim
        have hxw : x = wide u := by rw [← hrx]; exact h3.2
        have : (!over x && wide (narrow x) == x) = true := by
          rw [hxw, over_wide u hu h3.1, (wide_narrow u hu h3.1).1]; simp
        rw [this] at hs; cases hs.2

theorem singR_sng {x r : Nat} (h : SingleR x r) : sngB r = true := by
  have hw : ∀ u, u < 4294967296 → nanS u = false → sngB (wide u) = true := fun u hu hn => by
    unfold sngB
    rw [over_wide u hu hn, (wide_narrow u hu hn).1]; simp
  have hnan : nanD r = true → sngB r = true := fun e => by unfold sngB; rw [e]; rfl
  rcases h.2 with h1 | ⟨h1, u, hu, h2, h3⟩
  · exact hnan h1.2
  · rcases h3 with h3 | h3
    · exact hnan h3.2
    · rw [h3.2]; exact hw u hu h3.1

/-! ### minus one times -/
def flip (x : Nat) : Nat := if x < 9223372036854775808 then x + 9223372036854775808 else x - 9223372036854775808

theorem flip_word (x : Nat) (hx : x < 18446744073709551616) : double.word (!(x / 9223372036854775808 % 2 == 1)) (x % 9223372036854775808) = flip x := by
  unfold Format.word flip
  rw [dW]
  by_cases h : x < 9223372036854775808
  · have e : x / 9223372036854775808 % 2 = 0 := by omega
    rw [if_pos h, e]; simp; omega
  · have e : x / 9223372036854775808 % 2 = 1 := by omega
    rw [if_neg h, e]; simp; omega

theorem neg_mul (x : Nat) (hx : x < 18446744073709551616) (hn : nanD x = false) : double.mul 13830554455654793216 x = some (flip x) := by
  have hx' : ¬ 9218868437227405312 < x % 9223372036854775808 := fun h => by rw [(nanD_iff x).2 h] at hn; cases hn
  have hone : double.read 13830554455654793216 = .number true 4503599627370496 (-52) := by decide
  unfold Format.mul
  rw [hone, ← flip_word x hx]
  by_cases hi : x % 9223372036854775808 = 9218868437227405312
  · rw [read_inf double x (by rw [dW, dI]; exact hi) dBI, dW, hi]
    show some (double.word _ double.infRung) = _
    rw [dI]; cases (x / 9223372036854775808 % 2 == 1) <;> rfl
  · rw [read_finite double x (by rw [dW, dI]; omega), dW]
    show some (double.nearest _ _ _) = _
    congr 1
    by_cases h0 : x % 9223372036854775808 = 0
    · have hm : magR double (x % 9223372036854775808) = 0 := by rw [h0]; decide
      rw [hm, Nat.mul_zero, nearest_zero, h0]
      cases (x / 9223372036854775808 % 2 == 1) <;> rfl
    · have := nearest_up double (!(x / 9223372036854775808 % 2 == 1)) (x % 9223372036854775808) 52 (by omega) (by rw [dI]; omega)
      rw [← this]
      have e1 : (true ^^ (x / 9223372036854775808 % 2 == 1)) = !(x / 9223372036854775808 % 2 == 1) := by cases (x / 9223372036854775808 % 2 == 1) <;> rfl
      rw [e1, Nat.mul_comm]
      congr 1
      omega
end FL
end Go.Proofs.Ytanbgpmbccianaa
