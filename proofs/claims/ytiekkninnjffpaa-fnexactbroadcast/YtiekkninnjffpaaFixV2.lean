import Derived.Test.YtiekkninnjffpaaFixV
namespace Go.Proofs.Ytiekkninnjffpaa
open Go.ChangeShapes Go.RowKit
set_option linter.unusedSimpArgs false
set_option linter.unusedVariables false

def FixVOk (w : World) (xs ss : List Int) (off : Int) (e : Ending) (w' : World) : Prop :=
  ∃ A : Array Value, e = .returned (.tuple #[.agg A, .bool (dcValidV xs ss off)]) ∧ (ValidV xs ss off → A = vw xs ss off) ∧ (∃ a0 a1 a2 a3 a4 a5 a6 a7 a8 a9 : Int, A = #[.int .i64 a0, .int .i64 a1, .int .i64 a2, .int .i64 a3, .int .i64 a4, .int .i64 a5, .int .i64 a6, .int .i64 a7, .int .i64 a8, .int .i64 a9]) ∧ Ext w w'

theorem bad_fv {w w' : World} {xs ss : List Int} {off : Int} (h : (dcValidV xs ss off) = false) (x : Ext w w') : FixVOk w xs ss off (.returned (.tuple #[.agg #[.int .i64 0, .int .i64 0, .int .i64 0, .int .i64 0, .int .i64 0, .int .i64 0, .int .i64 0, .int .i64 0, .int .i64 0, .int .i64 0], .bool false])) w' :=
  ⟨_, by rw [h], fun q => absurd q (of_decide_eq_false h), ⟨0, 0, 0, 0, 0, 0, 0, 0, 0, 0, rfl⟩, x⟩

theorem zs {W : World} {R : Nat} (h : ∀ j, j < 10 → W.cell? ⟨R, j, none⟩ = some (.int .i64 0)) (i : Nat) : ∀ j, j < 10 → (W.setCell ⟨R, i, none⟩ (.int .i64 0)).cell? ⟨R, j, none⟩ = some (.int .i64 0) := fun j hj => by
  by_cases e : i = j
  · subst e; exact World.cell?_setCell_same _ _ _ (h i hj)
  · rw [World.cell?_setCell_other _ _ _ _ (by intro h; simp only [Addr.mk.injEq] at h; omega)]; exact h j hj

/-- The world of the loop. -/
structure FVS (w wr : World) (B : Nat) (vS vT : Value) (xs ss : List Int) (off : Int) (k : Nat) : Prop where
  v1 : wr.cell? ⟨w.heap.size, 1, none⟩ = some vT
  r : ∀ j, j < 10 → wr.cell? ⟨w.heap.size + 1, j, none⟩ = some (.int .i64 0)
  f0 : wr.cell? ⟨B, 0, none⟩ = some (.int .i64 xs.length)
  fl : ∀ j, j < 4 → wr.cell? ⟨B, 1 + j, none⟩ = some (.int .i64 (xs.getD j 0))
  fs : ∀ j, j < 4 → wr.cell? ⟨B, 5 + j, none⟩ = some (.int .i64 (if j < k then ss.getD j 0 else 0))
  f9 : wr.cell? ⟨B, 9, none⟩ = some (.int .i64 off)
  ex : Ext w wr

theorem FVS.step {w wr : World} {B : Nat} {vS vT : Value} {xs ss : List Int} {off : Int} {k : Nat} (h : FVS w wr B vS vT xs ss off k) (hk : k < 4) (hB : w.heap.size + 1 < B) :
    FVS w (wr.setCell ⟨B, 5 + k, none⟩ (.int .i64 (ss.getD k 0))) B vS vT xs ss off (k + 1) := by
  have m : Mut B wr (wr.setCell ⟨B, 5 + k, none⟩ (.int .i64 (ss.getD k 0))) := (Mut.refl _ _).setCell _ _
  refine ⟨m.box (by omega) h.v1, fun j hj => m.box (by omega) (h.r j hj), ?_, fun j hj => ?_, fun j hj => ?_, ?_, h.ex.setCell (by show w.heap.size ≤ B; omega) _⟩
  · rw [World.cell?_setCell_other _ _ _ _ (by intro h; simp only [Addr.mk.injEq] at h; omega)]; exact h.f0
  · rw [World.cell?_setCell_other _ _ _ _ (by intro h; simp only [Addr.mk.injEq] at h; omega)]; exact h.fl j hj
  · by_cases e : j = k
    · subst e
      rw [if_pos (by omega)]
      exact World.cell?_setCell_same _ _ _ (h.fs j hj)
    · rw [World.cell?_setCell_other _ _ _ _ (by intro h; simp only [Addr.mk.injEq] at h; omega), h.fs j hj]
      by_cases h1 : j < k
      · rw [if_pos h1, if_pos (by omega)]
      · rw [if_neg h1, if_neg (by omega)]
  · rw [World.cell?_setCell_other _ _ _ _ (by intro h; simp only [Addr.mk.injEq] at h; omega)]; exact h.f9

set_option maxRecDepth 100000 in
set_option maxHeartbeats 1000000 in
/-- A view that is refused ahead of the loop over its strides. -/
theorem fixView_bad {w : World} {vS vT : Value} {xs ss : List Int} (hS : Ints w vS xs) (hT : Ints w vT ss) (off : Int) (lx : xs.length ≤ 1048576) (ls : ss.length ≤ 1048576) (hbad : ¬ (Good xs ∧ ss.length = xs.length ∧ (0 ≤ off ∧ off ≤ 4096))) :
    Calls Try.prog 53 #[.agg #[vS, vT, .int .i64 off]] w fun e w' => FixVOk w xs ss off e w' := by
  obtain ⟨sa, cap, rfl, rS⟩ := hS
  obtain ⟨ta, dap, rfl, rT⟩ := hT
  have x0 : Ext w ((w.alloc (.cells #[.slice sa xs.length cap, .slice ta ss.length dap, .int .i64 off] 27)).alloc (.cells #[.int .i64 0, .int .i64 0, .int .i64 0, .int .i64 0, .int .i64 0, .int .i64 0, .int .i64 0, .int .i64 0, .int .i64 0, .int .i64 0] 64)) := ((Ext.refl w).alloc _ _).alloc _ _
  have y0 : Ext (w.alloc (.cells #[.slice sa xs.length cap, .slice ta ss.length dap, .int .i64 off] 27)) ((w.alloc (.cells #[.slice sa xs.length cap, .slice ta ss.length dap, .int .i64 off] 27)).alloc (.cells #[.int .i64 0, .int .i64 0, .int .i64 0, .int .i64 0, .int .i64 0, .int .i64 0, .int .i64 0, .int .i64 0, .int .i64 0, .int .i64 0] 64)) := (Ext.refl _).alloc _ _
  have HS : Hid (Ints ((w.alloc (.cells #[.slice sa xs.length cap, .slice ta ss.length dap, .int .i64 off] 27)).alloc (.cells #[.int .i64 0, .int .i64 0, .int .i64 0, .int .i64 0, .int .i64 0, .int .i64 0, .int .i64 0, .int .i64 0, .int .i64 0, .int .i64 0] 64)) (.slice sa xs.length cap) xs) := Ints.ext ⟨sa, cap, rfl, rS⟩ x0
  have HT : Hid (Ints ((w.alloc (.cells #[.slice sa xs.length cap, .slice ta ss.length dap, .int .i64 off] 27)).alloc (.cells #[.int .i64 0, .int .i64 0, .int .i64 0, .int .i64 0, .int .i64 0, .int .i64 0, .int .i64 0, .int .i64 0, .int .i64 0, .int .i64 0] 64)) (.slice ta ss.length dap) ss) := Ints.ext ⟨ta, dap, rfl, rT⟩ x0
  have n1 := fun j => new_cell w #[.slice sa xs.length cap, .slice ta ss.length dap, .int .i64 off] 27 w.heap.size rfl j
  have n2 := fun j => new_cell (w.alloc (.cells #[.slice sa xs.length cap, .slice ta ss.length dap, .int .i64 off] 27)) #[.int .i64 0, .int .i64 0, .int .i64 0, .int .i64 0, .int .i64 0, .int .i64 0, .int .i64 0, .int .i64 0, .int .i64 0, .int .i64 0] 64 (w.heap.size + 1) (by simp) j
  have k0 := y0.box (n1 0)
  have k1 := y0.box (n1 1)
  have k2 := y0.box (n1 2)
  have z0 : ((w.alloc (.cells #[.slice sa xs.length cap, .slice ta ss.length dap, .int .i64 off] 27)).alloc (.cells #[.int .i64 0, .int .i64 0, .int .i64 0, .int .i64 0, .int .i64 0, .int .i64 0, .int .i64 0, .int .i64 0, .int .i64 0, .int .i64 0] 64)).cell? ⟨w.heap.size + 1, 0, none⟩ = some (.int .i64 0) := n2 0
  have z1 : ((w.alloc (.cells #[.slice sa xs.length cap, .slice ta ss.length dap, .int .i64 off] 27)).alloc (.cells #[.int .i64 0, .int .i64 0, .int .i64 0, .int .i64 0, .int .i64 0, .int .i64 0, .int .i64 0, .int .i64 0, .int .i64 0, .int .i64 0] 64)).cell? ⟨w.heap.size + 1, 1, none⟩ = some (.int .i64 0) := n2 1
  have z2 : ((w.alloc (.cells #[.slice sa xs.length cap, .slice ta ss.length dap, .int .i64 off] 27)).alloc (.cells #[.int .i64 0, .int .i64 0, .int .i64 0, .int .i64 0, .int .i64 0, .int .i64 0, .int .i64 0, .int .i64 0, .int .i64 0, .int .i64 0] 64)).cell? ⟨w.heap.size + 1, 2, none⟩ = some (.int .i64 0) := n2 2
  have z3 : ((w.alloc (.cells #[.slice sa xs.length cap, .slice ta ss.length dap, .int .i64 off] 27)).alloc (.cells #[.int .i64 0, .int .i64 0, .int .i64 0, .int .i64 0, .int .i64 0, .int .i64 0, .int .i64 0, .int .i64 0, .int .i64 0, .int .i64 0] 64)).cell? ⟨w.heap.size + 1, 3, none⟩ = some (.int .i64 0) := n2 3
  have z4 : ((w.alloc (.cells #[.slice sa xs.length cap, .slice ta ss.length dap, .int .i64 off] 27)).alloc (.cells #[.int .i64 0, .int .i64 0, .int .i64 0, .int .i64 0, .int .i64 0, .int .i64 0, .int .i64 0, .int .i64 0, .int .i64 0, .int .i64 0] 64)).cell? ⟨w.heap.size + 1, 4, none⟩ = some (.int .i64 0) := n2 4
  have z5 : ((w.alloc (.cells #[.slice sa xs.length cap, .slice ta ss.length dap, .int .i64 off] 27)).alloc (.cells #[.int .i64 0, .int .i64 0, .int .i64 0, .int .i64 0, .int .i64 0, .int .i64 0, .int .i64 0, .int .i64 0, .int .i64 0, .int .i64 0] 64)).cell? ⟨w.heap.size + 1, 5, none⟩ = some (.int .i64 0) := n2 5
  have z6 : ((w.alloc (.cells #[.slice sa xs.length cap, .slice ta ss.length dap, .int .i64 off] 27)).alloc (.cells #[.int .i64 0, .int .i64 0, .int .i64 0, .int .i64 0, .int .i64 0, .int .i64 0, .int .i64 0, .int .i64 0, .int .i64 0, .int .i64 0] 64)).cell? ⟨w.heap.size + 1, 6, none⟩ = some (.int .i64 0) := n2 6
  have z7 : ((w.alloc (.cells #[.slice sa xs.length cap, .slice ta ss.length dap, .int .i64 off] 27)).alloc (.cells #[.int .i64 0, .int .i64 0, .int .i64 0, .int .i64 0, .int .i64 0, .int .i64 0, .int .i64 0, .int .i64 0, .int .i64 0, .int .i64 0] 64)).cell? ⟨w.heap.size + 1, 7, none⟩ = some (.int .i64 0) := n2 7
  have z8 : ((w.alloc (.cells #[.slice sa xs.length cap, .slice ta ss.length dap, .int .i64 off] 27)).alloc (.cells #[.int .i64 0, .int .i64 0, .int .i64 0, .int .i64 0, .int .i64 0, .int .i64 0, .int .i64 0, .int .i64 0, .int .i64 0, .int .i64 0] 64)).cell? ⟨w.heap.size + 1, 8, none⟩ = some (.int .i64 0) := n2 8
  have z9 : ((w.alloc (.cells #[.slice sa xs.length cap, .slice ta ss.length dap, .int .i64 off] 27)).alloc (.cells #[.int .i64 0, .int .i64 0, .int .i64 0, .int .i64 0, .int .i64 0, .int .i64 0, .int .i64 0, .int .i64 0, .int .i64 0, .int .i64 0] 64)).cell? ⟨w.heap.size + 1, 9, none⟩ = some (.int .i64 0) := n2 9
  have HrT := hide rT
  have X0 := hide x0
  clear n1 n2 x0 y0 rS rT
  go_enter Try.func53, Try.ntmps53
  go_wp2_with fail
  refine (fixShape_any HS.out (by omega)).mono ?_
  rintro e w1 ⟨n, a0, a1, a2, a3, rfl, hX, x1⟩
  have y1 : Ext w1 (w1.alloc (.cells #[.int .i64 n, .int .i64 a0, .int .i64 a1, .int .i64 a2, .int .i64 a3] 62)) := (Ext.refl w1).alloc _ _
  have n3 := fun j => new_cell w1 #[.int .i64 n, .int .i64 a0, .int .i64 a1, .int .i64 a2, .int .i64 a3] 62 w1.heap.size rfl j
  have s0 : (w1.alloc (.cells #[.int .i64 n, .int .i64 a0, .int .i64 a1, .int .i64 a2, .int .i64 a3] 62)).cell? ⟨w1.heap.size, 0, none⟩ = some (.int .i64 n) := n3 0
  have s1 : (w1.alloc (.cells #[.int .i64 n, .int .i64 a0, .int .i64 a1, .int .i64 a2, .int .i64 a3] 62)).cell? ⟨w1.heap.size, 1, none⟩ = some (.int .i64 a0) := n3 1
  have s2 : (w1.alloc (.cells #[.int .i64 n, .int .i64 a0, .int .i64 a1, .int .i64 a2, .int .i64 a3] 62)).cell? ⟨w1.heap.size, 2, none⟩ = some (.int .i64 a1) := n3 2
  have s3 : (w1.alloc (.cells #[.int .i64 n, .int .i64 a0, .int .i64 a1, .int .i64 a2, .int .i64 a3] 62)).cell? ⟨w1.heap.size, 3, none⟩ = some (.int .i64 a2) := n3 3
  have s4 : (w1.alloc (.cells #[.int .i64 n, .int .i64 a0, .int .i64 a1, .int .i64 a2, .int .i64 a3] 62)).cell? ⟨w1.heap.size, 4, none⟩ = some (.int .i64 a3) := n3 4
  have v0 := x1.box k0
  have vv0 := y1.box v0
  have v1 := x1.box k1
  have vv1 := y1.box v1
  have v2 := x1.box k2
  have vv2 := y1.box v2
  have r0 := x1.box z0
  have r1 := x1.box z1
  have r2 := x1.box z2
  have r3 := x1.box z3
  have r4 := x1.box z4
  have r5 := x1.box z5
  have r6 := x1.box z6
  have r7 := x1.box z7
  have r8 := x1.box z8
  have r9 := x1.box z9
  have X1 := hide ((X0.out.trans x1).trans y1)
  have hB1 : w.heap.size + 1 < w1.heap.size := cell_lt (x1.box z0)
  have HX := hide hX
  have Hr : Hid (∀ j, j < 10 → w1.cell? ⟨w.heap.size + 1, j, none⟩ = some (.int .i64 0)) := fun j hj => by
    obtain rfl | rfl | rfl | rfl | rfl | rfl | rfl | rfl | rfl | rfl : j = 0 ∨ j = 1 ∨ j = 2 ∨ j = 3 ∨ j = 4 ∨ j = 5 ∨ j = 6 ∨ j = 7 ∨ j = 8 ∨ j = 9 := by omega
    all_goals assumption
  have XW1 := hide (X0.out.trans x1)
  have rf := fun o => (X0.out.trans x1).unfrozen (b := w.heap.size + 1) (by omega) o
  clear hX n3 k0 k1 k2 y1 x1 HS HT z0 z1 z2 z3 z4 z5 z6 z7 z8 z9
  cases hg : goodB xs
  · have Hno : Hid ((dcValidV xs ss off) = false) := decide_eq_false (fun q => absurd q.1 (of_decide_eq_false hg))
    go_wp2
    have Zz := (zs (zs (zs (zs (zs (zs (zs (zs (zs (zs Hr.out 0) 1) 2) 3) 4) 5) 6) 7) 8) 9)
    have e0 := ((Ext.refl _).alloc #[.int .i64 n, .int .i64 a0, .int .i64 a1, .int .i64 a2, .int .i64 a3] 62).box (Zz 0 (by omega))
    have e1 := ((Ext.refl _).alloc #[.int .i64 n, .int .i64 a0, .int .i64 a1, .int .i64 a2, .int .i64 a3] 62).box (Zz 1 (by omega))
    have e2 := ((Ext.refl _).alloc #[.int .i64 n, .int .i64 a0, .int .i64 a1, .int .i64 a2, .int .i64 a3] 62).box (Zz 2 (by omega))
    have e3 := ((Ext.refl _).alloc #[.int .i64 n, .int .i64 a0, .int .i64 a1, .int .i64 a2, .int .i64 a3] 62).box (Zz 3 (by omega))
    have e4 := ((Ext.refl _).alloc #[.int .i64 n, .int .i64 a0, .int .i64 a1, .int .i64 a2, .int .i64 a3] 62).box (Zz 4 (by omega))
    have e5 := ((Ext.refl _).alloc #[.int .i64 n, .int .i64 a0, .int .i64 a1, .int .i64 a2, .int .i64 a3] 62).box (Zz 5 (by omega))
    have e6 := ((Ext.refl _).alloc #[.int .i64 n, .int .i64 a0, .int .i64 a1, .int .i64 a2, .int .i64 a3] 62).box (Zz 6 (by omega))
    have e7 := ((Ext.refl _).alloc #[.int .i64 n, .int .i64 a0, .int .i64 a1, .int .i64 a2, .int .i64 a3] 62).box (Zz 7 (by omega))
    have e8 := ((Ext.refl _).alloc #[.int .i64 n, .int .i64 a0, .int .i64 a1, .int .i64 a2, .int .i64 a3] 62).box (Zz 8 (by omega))
    have e9 := ((Ext.refl _).alloc #[.int .i64 n, .int .i64 a0, .int .i64 a1, .int .i64 a2, .int .i64 a3] 62).box (Zz 9 (by omega))
    exact bodyPost_ret (v := .tuple #[.agg #[.int .i64 0, .int .i64 0, .int .i64 0, .int .i64 0, .int .i64 0, .int .i64 0, .int .i64 0, .int .i64 0, .int .i64 0, .int .i64 0], .bool false]) (by simp [results, Try.results53, go_sem, e0, e1, e2, e3, e4, e5, e6, e7, e8, e9]) rfl (bad_fv Hno.out (by repeat (first | with_reducible exact XW1.out | with_reducible apply Ext.alloc | with_reducible refine Ext.setCell ?_ (by show w.heap.size ≤ w.heap.size + 1; omega) _)))
  have hgood : Good xs := of_decide_eq_true hg
  obtain ⟨en, e0, e1, e2, e3⟩ := HX.out hgood
  have hx4 := hgood.1
  by_cases hl : ss.length = xs.length
  · by_cases ho : 0 ≤ off ∧ off ≤ 4096
    · exact absurd ⟨hgood, hl, ho⟩ hbad
    · have Hno : Hid ((dcValidV xs ss off) = false) := decide_eq_false (fun q => ho q.2.2.1)
      have hln : (ss.length : Int) = n := by omega
      have hor : off < 0 ∨ (¬ off < 0 ∧ 4096 < off) := by omega
      clear en e0 e1 e2 e3 HX hgood hl ho
      rcases hor with o1 | ⟨o1, o2⟩
      all_goals
        go_wp2
        have Zz := (zs (zs (zs (zs (zs (zs (zs (zs (zs (zs Hr.out 0) 1) 2) 3) 4) 5) 6) 7) 8) 9)
        have e0 := ((Ext.refl _).alloc #[.int .i64 n, .int .i64 a0, .int .i64 a1, .int .i64 a2, .int .i64 a3] 62).box (Zz 0 (by omega))
        have e1 := ((Ext.refl _).alloc #[.int .i64 n, .int .i64 a0, .int .i64 a1, .int .i64 a2, .int .i64 a3] 62).box (Zz 1 (by omega))
        have e2 := ((Ext.refl _).alloc #[.int .i64 n, .int .i64 a0, .int .i64 a1, .int .i64 a2, .int .i64 a3] 62).box (Zz 2 (by omega))
        have e3 := ((Ext.refl _).alloc #[.int .i64 n, .int .i64 a0, .int .i64 a1, .int .i64 a2, .int .i64 a3] 62).box (Zz 3 (by omega))
        have e4 := ((Ext.refl _).alloc #[.int .i64 n, .int .i64 a0, .int .i64 a1, .int .i64 a2, .int .i64 a3] 62).box (Zz 4 (by omega))
        have e5 := ((Ext.refl _).alloc #[.int .i64 n, .int .i64 a0, .int .i64 a1, .int .i64 a2, .int .i64 a3] 62).box (Zz 5 (by omega))
        have e6 := ((Ext.refl _).alloc #[.int .i64 n, .int .i64 a0, .int .i64 a1, .int .i64 a2, .int .i64 a3] 62).box (Zz 6 (by omega))
        have e7 := ((Ext.refl _).alloc #[.int .i64 n, .int .i64 a0, .int .i64 a1, .int .i64 a2, .int .i64 a3] 62).box (Zz 7 (by omega))
        have e8 := ((Ext.refl _).alloc #[.int .i64 n, .int .i64 a0, .int .i64 a1, .int .i64 a2, .int .i64 a3] 62).box (Zz 8 (by omega))
        have e9 := ((Ext.refl _).alloc #[.int .i64 n, .int .i64 a0, .int .i64 a1, .int .i64 a2, .int .i64 a3] 62).box (Zz 9 (by omega))
        exact bodyPost_ret (v := .tuple #[.agg #[.int .i64 0, .int .i64 0, .int .i64 0, .int .i64 0, .int .i64 0, .int .i64 0, .int .i64 0, .int .i64 0, .int .i64 0, .int .i64 0], .bool false]) (by simp [results, Try.results53, go_sem, e0, e1, e2, e3, e4, e5, e6, e7, e8, e9]) rfl (bad_fv Hno.out (by repeat (first | with_reducible exact XW1.out | with_reducible apply Ext.alloc | with_reducible refine Ext.setCell ?_ (by show w.heap.size ≤ w.heap.size + 1; omega) _)))
  · have Hno : Hid ((dcValidV xs ss off) = false) := decide_eq_false (fun q => hl q.2.1)
    have hln : ¬ (ss.length : Int) = n := by omega
    clear en e0 e1 e2 e3 HX hgood hl
    go_wp2
    have Zz := (zs (zs (zs (zs (zs (zs (zs (zs (zs (zs Hr.out 0) 1) 2) 3) 4) 5) 6) 7) 8) 9)
    have e0 := ((Ext.refl _).alloc #[.int .i64 n, .int .i64 a0, .int .i64 a1, .int .i64 a2, .int .i64 a3] 62).box (Zz 0 (by omega))
    have e1 := ((Ext.refl _).alloc #[.int .i64 n, .int .i64 a0, .int .i64 a1, .int .i64 a2, .int .i64 a3] 62).box (Zz 1 (by omega))
    have e2 := ((Ext.refl _).alloc #[.int .i64 n, .int .i64 a0, .int .i64 a1, .int .i64 a2, .int .i64 a3] 62).box (Zz 2 (by omega))
    have e3 := ((Ext.refl _).alloc #[.int .i64 n, .int .i64 a0, .int .i64 a1, .int .i64 a2, .int .i64 a3] 62).box (Zz 3 (by omega))
    have e4 := ((Ext.refl _).alloc #[.int .i64 n, .int .i64 a0, .int .i64 a1, .int .i64 a2, .int .i64 a3] 62).box (Zz 4 (by omega))
    have e5 := ((Ext.refl _).alloc #[.int .i64 n, .int .i64 a0, .int .i64 a1, .int .i64 a2, .int .i64 a3] 62).box (Zz 5 (by omega))
    have e6 := ((Ext.refl _).alloc #[.int .i64 n, .int .i64 a0, .int .i64 a1, .int .i64 a2, .int .i64 a3] 62).box (Zz 6 (by omega))
    have e7 := ((Ext.refl _).alloc #[.int .i64 n, .int .i64 a0, .int .i64 a1, .int .i64 a2, .int .i64 a3] 62).box (Zz 7 (by omega))
    have e8 := ((Ext.refl _).alloc #[.int .i64 n, .int .i64 a0, .int .i64 a1, .int .i64 a2, .int .i64 a3] 62).box (Zz 8 (by omega))
    have e9 := ((Ext.refl _).alloc #[.int .i64 n, .int .i64 a0, .int .i64 a1, .int .i64 a2, .int .i64 a3] 62).box (Zz 9 (by omega))
    exact bodyPost_ret (v := .tuple #[.agg #[.int .i64 0, .int .i64 0, .int .i64 0, .int .i64 0, .int .i64 0, .int .i64 0, .int .i64 0, .int .i64 0, .int .i64 0, .int .i64 0], .bool false]) (by simp [results, Try.results53, go_sem, e0, e1, e2, e3, e4, e5, e6, e7, e8, e9]) rfl (bad_fv Hno.out (by repeat (first | with_reducible exact XW1.out | with_reducible apply Ext.alloc | with_reducible refine Ext.setCell ?_ (by show w.heap.size ≤ w.heap.size + 1; omega) _)))
end Go.Proofs.Ytiekkninnjffpaa
