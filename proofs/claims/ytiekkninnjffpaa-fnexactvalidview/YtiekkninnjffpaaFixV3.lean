import Derived.Test.YtiekkninnjffpaaFixV2
import Derived.Deep.RegionHeld3
import Derived.Deep.RegionHeldLaw
namespace Go.Proofs.Ytiekkninnjffpaa
open Go.ChangeShapes Go.RowKit
set_option linter.unusedSimpArgs false
set_option linter.unusedVariables false

theorem far1 {W : World} {R B i j : Nat} {v u : Value} (hne : R ≠ B) (h : W.cell? ⟨B, j, none⟩ = some u) : (W.setCell ⟨R, i, none⟩ v).cell? ⟨B, j, none⟩ = some u := by
  rw [World.cell?_setCell_other _ _ _ _ (by intro h; simp only [Addr.mk.injEq] at h; omega)]; exact h

theorem far10 {W : World} {R B j : Nat} {v0 v1 v2 v3 v4 v5 v6 v7 v8 v9 u : Value} (hne : R ≠ B) (h : W.cell? ⟨B, j, none⟩ = some u) :
    ((((((((((W.setCell ⟨R, 0, none⟩ v0).setCell ⟨R, 1, none⟩ v1).setCell ⟨R, 2, none⟩ v2).setCell ⟨R, 3, none⟩ v3).setCell ⟨R, 4, none⟩ v4).setCell ⟨R, 5, none⟩ v5).setCell ⟨R, 6, none⟩ v6).setCell ⟨R, 7, none⟩ v7).setCell ⟨R, 8, none⟩ v8).setCell ⟨R, 9, none⟩ v9).cell? ⟨B, j, none⟩ = some u :=
  far1 hne (far1 hne (far1 hne (far1 hne (far1 hne (far1 hne (far1 hne (far1 hne (far1 hne (far1 hne h)))))))))

theorem zt {W : World} {R : Nat} {f : Nat → Value} (h : ∀ j, j < 10 → W.cell? ⟨R, j, none⟩ = some (f j)) (i : Nat) (v : Value) : ∀ j, j < 10 → (W.setCell ⟨R, i, none⟩ v).cell? ⟨R, j, none⟩ = some (if i = j then v else f j) := fun j hj => by
  by_cases e : i = j
  · subst e; rw [if_pos rfl]; exact World.cell?_setCell_same _ _ _ (h i hj)
  · rw [if_neg e, World.cell?_setCell_other _ _ _ _ (by intro h; simp only [Addr.mk.injEq] at h; omega)]; exact h j hj

set_option maxRecDepth 100000 in
set_option maxHeartbeats 16000000 in
theorem fixView_good {w : World} {vS vT : Value} {xs ss : List Int} (hS : Ints w vS xs) (hT : Ints w vT ss) (off : Int) (lx : xs.length ≤ 1048576) (ls : ss.length ≤ 1048576) (hgood : Good xs) (hl : ss.length = xs.length) (ho : 0 ≤ off ∧ off ≤ 4096) :
    Calls Try.prog 53 #[.agg #[vS, vT, .int .i64 off]] w fun e w' => FixVOk w xs ss off e w' := by
  have Hl := hide hl
  have Hgood := hide hgood
  clear hl hgood
  obtain ⟨sa, cap, rfl, rS⟩ := hS
  obtain ⟨ta, dap, rfl, rT⟩ := hT
  have x0 : Ext w ((w.alloc (.cells #[.slice sa xs.length cap, .slice ta ss.length dap, .int .i64 off] 27)).alloc (.cells #[.int .i64 0, .int .i64 0, .int .i64 0, .int .i64 0, .int .i64 0, .int .i64 0, .int .i64 0, .int .i64 0, .int .i64 0, .int .i64 0] 64)) := ((Ext.refl w).alloc _ _).alloc _ _
  have y0 : Ext (w.alloc (.cells #[.slice sa xs.length cap, .slice ta ss.length dap, .int .i64 off] 27)) ((w.alloc (.cells #[.slice sa xs.length cap, .slice ta ss.length dap, .int .i64 off] 27)).alloc (.cells #[.int .i64 0, .int .i64 0, .int .i64 0, .int .i64 0, .int .i64 0, .int .i64 0, .int .i64 0, .int .i64 0, .int .i64 0, .int .i64 0] 64)) := (Ext.refl _).alloc _ _
  have HS : Hid (Ints ((w.alloc (.cells #[.slice sa xs.length cap, .slice ta ss.length dap, .int .i64 off] 27)).alloc (.cells #[.int .i64 0, .int .i64 0, .int .i64 0, .int .i64 0, .int .i64 0, .int .i64 0, .int .i64 0, .int .i64 0, .int .i64 0, .int .i64 0] 64)) (.slice sa xs.length cap) xs) := Ints.ext ⟨sa, cap, rfl, rS⟩ x0
  have HT : Hid (Ints ((w.alloc (.cells #[.slice sa xs.length cap, .slice ta ss.length dap, .int .i64 off] 27)).alloc (.cells #[.int .i64 0, .int .i64 0, .int .i64 0, .int .i64 0, .int .i64 0, .int .i64 0, .int .i64 0, .int .i64 0, .int .i64 0, .int .i64 0] 64)) (.slice ta ss.length dap) ss) := Ints.ext ⟨ta, dap, rfl, rT⟩ x0
  have n1 := fun j => new_cell w #[.slice sa xs.length cap, .slice ta ss.length dap, .int .i64 off] 27 w.heap.size rfl j
  have n2 := fun j => new_cell (w.alloc (.cells #[.slice sa xs.length cap, .slice ta ss.length dap, .int .i64 off] 27)) #[.int .i64 0, .int .i64 0, .int .i64 0, .int .i64 0, .int .i64 0, .int .i64 0, .int .i64 0, .int .i64 0, .int .i64 0, .int .i64 0] 64 (w.heap.size + 1) (by simp) j
  have k0 := y0.box (n1 0)
  have k1 := y0.box (n1 1)
  have k2 := y0.box (n1 2)
  have z0 : ((w.alloc (.cells #[.slice sa xs.length cap, .slice ta ss.length dap, .int .i64 off] 27)).alloc (.cells #[.int .i64 0, .int .i64 0, .int .i64 0, .int .i64 0, .int .i64 0, .int .i64 0, .int .i64 0, .int .i64 0, .int .i64 0, .int .i64 0] 64)).cell? ⟨w.heap.size + 1, 0, none⟩ = some (.int .i64 0) := n2 0
  have z1 : ((w.alloc (.cells #[.slice sa xs.length cap, .slice ta ss.length dap, .int .i64 off] 27)).alloc (.cells #[.int .i64 0, .int .i64 0, .int .i64 0, .int .i64 0, .int .i64 0, .int .i64 0, .int .i64 0, .int .i64 0, .int .i64 0, .int .i64 0] 64)).cell? ⟨w.heap.size + 1, 1, none⟩ = some (.int .i64 0) := n2 1
  have z2 : ((w.alloc (.cells #[.slice sa xs.length cap, .slice ta ss.length dap, .int .i64 off] 27)).alloc (.cells #[.int .i64 0, .int .i64 0, .int .i64 0, .int .i64 0, .int .i64 0, .int .i64 0, .int .i64 0, .int .i64 0, .int .i64 0, .int .i64 0] 64)).cell? ⟨w.heap.size + 1, 2, none⟩ = some (.int .i64 0) := n2 2
  have z3 : ((w.alloc (.cells #[.slice sa xs.length cap, .slice ta ss.length dap, .int .i64 off] 27)).alloc (.cells #[.int .i64 0, .int .i64 0, .int .i64 0, .int .i64 0, .int .i64 0, .int .i64 0, .int .i64 0, .int .i64 0, .int .i64 0, .int .i64 0] 64)).cell? ⟨w.heap.size + 1, 3, none⟩ = some (.int .i64 0) := n2 3
  have z4 : ((w.alloc (.cells #[.slice sa xs.length cap, .slice ta ss.length dap, .int .i64 off] 27)).alloc (.cells #[.int .i64 0, .int .i64 0, .int .i64 0, .int .i64 0, .int .i64 0, .int .i64 0, .int .i64 0, .int .i64 0, .int .i64 0, .int .i64 0] 64)).cell? ⟨w.heap.size + 1, 4, none⟩ = some (.int .i64 0) := n2 4
  have z5 : ((w.alloc (.cells #[.slice sa xs.length cap, .slice ta ss.length dap, .int .i64 off] 27)).alloc (.cells #[.int .i64 0, .int .i64 0, .int .i64 0, .int .i64 0, .int .i64 0, .int .i64 0, .int .i64 0, .int .i64 0, .int .i64 0, .int .i64 0] 64)).cell? ⟨w.heap.size + 1, 5, none⟩ = some (.int .i64 0) := n2 5
  have z6 : ((w.alloc (.cells #[.slice sa xs.length cap, .slice ta ss.length dap, .int .i64 off] 27)).alloc (.cells #[.int .i64 0, .int .i64 0, .int .i64 0, .int .i64 0, .int .i64 0, .int .i64 0, .int .i64 0, .int .i64 0, .int .i64 0, .int .i64 0] 64)).cell? ⟨w.heap.size + 1, 6, none⟩ = some (.int .i64 0) := n2 6
  have z7 : ((w.alloc (.cells #[.slice sa xs.length cap, .slice ta ss.length dap, .int .i64 off] 27)).alloc (.cells #[.int .i64 0, .int .i64 0, .int .i64 0, .int .i64 0, .int .i64 0, .int .i64 0, .int .i64 0, .int .i64 0, .int .i64 0, .int .i64 0] 64)).cell? ⟨w.heap.size + 1, 7, none⟩ = some (.int .i64 0) := n2 7
  have z8 : ((w.alloc (.cells #[.slice sa xs.length cap, .slice ta ss.length dap, .int .i64 off] 27)).alloc (.cells #[.int .i64 0, .int .i64 0, .int .i64 0, .int .i64 0, .int .i64 0, .int .i64 0, .int .i64 0, .int .i64 0, .int .i64 0, .int .i64 0] 64)).cell? ⟨w.heap.size + 1, 8, none⟩ = some (.int .i64 0) := n2 8
  have z9 : ((w.alloc (.cells #[.slice sa xs.length cap, .slice ta ss.length dap, .int .i64 off] 27)).alloc (.cells #[.int .i64 0, .int .i64 0, .int .i64 0, .int .i64 0, .int .i64 0, .int .i64 0, .int .i64 0, .int .i64 0, .int .i64 0, .int .i64 0] 64)).cell? ⟨w.heap.size + 1, 9, none⟩ = some (.int .i64 0) := n2 9
  have HrT := hide rT
  have X0 := hide x0
  clear n1 n2 x0 y0 rS rT
  go_enter Try.func53, Try.ntmps53
  go_wp2_with fail
  refine (fixShape_any HS.out (by omega)).mono ?_
  rintro e w1 ⟨n, a0, a1, a2, a3, rfl, hX, x1⟩
  have y1 : Ext w1 (w1.alloc (.cells #[.int .i64 n, .int .i64 a0, .int .i64 a1, .int .i64 a2, .int .i64 a3] 62)) := (Ext.refl w1).alloc _ _
  have n3 := fun j => new_cell w1 #[.int .i64 n, .int .i64 a0, .int .i64 a1, .int .i64 a2, .int .i64 a3] 62 w1.heap.size rfl j
  have s0 : (w1.alloc (.cells #[.int .i64 n, .int .i64 a0, .int .i64 a1, .int .i64 a2, .int .i64 a3] 62)).cell? ⟨w1.heap.size, 0, none⟩ = some (.int .i64 n) := n3 0
  have s1 : (w1.alloc (.cells #[.int .i64 n, .int .i64 a0, .int .i64 a1, .int .i64 a2, .int .i64 a3] 62)).cell? ⟨w1.heap.size, 1, none⟩ = some (.int .i64 a0) := n3 1
  have s2 : (w1.alloc (.cells #[.int .i64 n, .int .i64 a0, .int .i64 a1, .int .i64 a2, .int .i64 a3] 62)).cell? ⟨w1.heap.size, 2, none⟩ = some (.int .i64 a1) := n3 2
  have s3 : (w1.alloc (.cells #[.int .i64 n, .int .i64 a0, .int .i64 a1, .int .i64 a2, .int .i64 a3] 62)).cell? ⟨w1.heap.size, 3, none⟩ = some (.int .i64 a2) := n3 3
  have s4 : (w1.alloc (.cells #[.int .i64 n, .int .i64 a0, .int .i64 a1, .int .i64 a2, .int .i64 a3] 62)).cell? ⟨w1.heap.size, 4, none⟩ = some (.int .i64 a3) := n3 4
  have v0 := x1.box k0
  have vv0 := y1.box v0
  have v1 := x1.box k1
  have vv1 := y1.box v1
  have v2 := x1.box k2
  have vv2 := y1.box v2
  have r0 := x1.box z0
  have r1 := x1.box z1
  have r2 := x1.box z2
  have r3 := x1.box z3
  have r4 := x1.box z4
  have r5 := x1.box z5
  have r6 := x1.box z6
  have r7 := x1.box z7
  have r8 := x1.box z8
  have r9 := x1.box z9
  have X1 := hide ((X0.out.trans x1).trans y1)
  have hB1 : w.heap.size + 1 < w1.heap.size := cell_lt (x1.box z0)
  have HX := hide hX
  have Hr : Hid (∀ j, j < 10 → w1.cell? ⟨w.heap.size + 1, j, none⟩ = some (.int .i64 0)) := fun j hj => by
    obtain rfl | rfl | rfl | rfl | rfl | rfl | rfl | rfl | rfl | rfl : j = 0 ∨ j = 1 ∨ j = 2 ∨ j = 3 ∨ j = 4 ∨ j = 5 ∨ j = 6 ∨ j = 7 ∨ j = 8 ∨ j = 9 := by omega
    all_goals assumption
  have XW1 := hide (X0.out.trans x1)
  have rf := fun o => (X0.out.trans x1).unfrozen (b := w.heap.size + 1) (by omega) o
  clear hX n3 k0 k1 k2 y1 x1 HS HT z0 z1 z2 z3 z4 z5 z6 z7 z8 z9
  have hg : goodB xs = true := decide_eq_true Hgood.out
  obtain ⟨en, e0, e1, e2, e3⟩ := HX.out Hgood.out
  have hx4 := Hgood.out.1
  have e12 : Ext (w1.alloc (.cells #[.int .i64 n, .int .i64 a0, .int .i64 a1, .int .i64 a2, .int .i64 a3] 62)) ((w1.alloc (.cells #[.int .i64 n, .int .i64 a0, .int .i64 a1, .int .i64 a2, .int .i64 a3] 62)).alloc (.cells #[.int .i64 n, .int .i64 a0, .int .i64 a1, .int .i64 a2, .int .i64 a3, .int .i64 0, .int .i64 0, .int .i64 0, .int .i64 0, .int .i64 off] 64)) := (Ext.refl _).alloc _ _
  have nf := fun j => new_cell (w1.alloc (.cells #[.int .i64 n, .int .i64 a0, .int .i64 a1, .int .i64 a2, .int .i64 a3] 62)) #[.int .i64 n, .int .i64 a0, .int .i64 a1, .int .i64 a2, .int .i64 a3, .int .i64 0, .int .i64 0, .int .i64 0, .int .i64 0, .int .i64 off] 64 (w1.heap.size + 1) (by simp) j
  have S0 : FVS w ((w1.alloc (.cells #[.int .i64 n, .int .i64 a0, .int .i64 a1, .int .i64 a2, .int .i64 a3] 62)).alloc (.cells #[.int .i64 n, .int .i64 a0, .int .i64 a1, .int .i64 a2, .int .i64 a3, .int .i64 0, .int .i64 0, .int .i64 0, .int .i64 0, .int .i64 off] 64)) (w1.heap.size + 1) (.slice sa xs.length cap) (.slice ta ss.length dap) xs ss off 0 := by
    refine ⟨e12.box vv1, fun j hj => e12.box (((Ext.refl w1).alloc _ _).box (Hr.out j hj)), ?_, fun j hj => ?_, fun j hj => ?_, nf 9, X1.out.trans e12⟩
    · rw [← en]; exact nf 0
    · obtain rfl | rfl | rfl | rfl : j = 0 ∨ j = 1 ∨ j = 2 ∨ j = 3 := by omega
      · rw [← e0]; exact nf 1
      · rw [← e1]; exact nf 2
      · rw [← e2]; exact nf 3
      · rw [← e3]; exact nf 4
    · rw [if_neg (by omega)]
      obtain rfl | rfl | rfl | rfl : j = 0 ∨ j = 1 ∨ j = 2 ∨ j = 3 := by omega
      · exact nf 5
      · exact nf 6
      · exact nf 7
      · exact nf 8
  have HS0 := hide S0
  have t1 := S0.v1
  have hln : (ss.length : Int) = n := by have := Hl.out; omega
  have o1 : ¬ off < 0 := by omega
  have o2 : ¬ 4096 < off := by omega
  have Hx4 := hide hx4
  have hB2 := hide hB1
  clear S0 nf e12 HX en e0 e1 e2 e3 hx4
  go_wp2
  try simp only [show decide (off < 0) = false from decide_eq_false o1, show decide (4096 < off) = false from decide_eq_false o2]
  generalize hB : w1.heap.size + 1 = B at HS0 ⊢
  have HBB : Hid (w.heap.size + 1 < B) := by have := hB2.out; show w.heap.size + 1 < B; omega
  clear hB t1 hB1
  go_loopw [43] (fun i wr => ∃ k : Nat, i = .int .i64 k ∧ k ≤ ss.length ∧ Hid (InS ss k) ∧ FVS w wr B (.slice sa xs.length cap) (.slice ta ss.length dap) xs ss off k) (fun i _ => ss.length - (intOf i).toNat)
  case atStart => exact ⟨0, rfl, by omega, fun j hj => absurd hj (Nat.not_lt_zero _), HS0.out⟩
  case round =>
    obtain ⟨k, rfl, hk, hin, hS⟩ := hrel
    have HS := hide hS
    clear hS
    have rr0 := HS.out.r 0 (by omega)
    have rr1 := HS.out.r 1 (by omega)
    have rr2 := HS.out.r 2 (by omega)
    have rr3 := HS.out.r 3 (by omega)
    have rr4 := HS.out.r 4 (by omega)
    have rr5 := HS.out.r 5 (by omega)
    have rr6 := HS.out.r 6 (by omega)
    have rr7 := HS.out.r 7 (by omega)
    have rr8 := HS.out.r 8 (by omega)
    have rr9 := HS.out.r 9 (by omega)
    have rf2 := fun o => HS.out.ex.unfrozen (b := w.heap.size + 1) (by omega) o
    have sf := fun o => HS.out.ex.unfrozen (b := B) (by have := HBB.out; omega) o
    by_cases hlt : k < ss.length
    · rcases HrT.out with h0 | ⟨b, o, rfl, hrow⟩
      · rw [h0] at hlt; simp at hlt
      have q0 := HS.out.ex.box (hrow k hlt)
      have hk4 : k < 4 := by have := Hl.out; have := Hx4.out; omega
      have hk0 : (0 : Int) ≤ (k : Int) := Int.natCast_nonneg _
      have hk1 : (k : Int) < (ss.length : Int) := by omega
      have hk2 : (k : Int) < n := by omega
      have hk44 : (k : Int) < 4 := by omega
      by_cases hr : -4096 ≤ ss.getD k 0 ∧ ss.getD k 0 ≤ 4096
      · have hin2 := hide (hin.out.step hr)
        have St := HS.out.step hk4 HBB.out
        have sk := HS.out.fs k hk4
        generalize ss.getD k 0 = x at q0 hr St
        have HSt := hide St
        clear St hrow
        have hlo : ¬ x < -4096 := by omega
        have hhi : ¬ 4096 < x := by omega
        go_wp2
        go_roundw
        · exact ⟨k + 1, by go_num, by omega, hin2, HSt.out⟩
        · simp [intOf]; omega
      · have Hno : Hid ((dcValidV xs ss off) = false) := decide_eq_false (fun q => hr (q.2.2.2.1 k hlt))
        generalize ss.getD k 0 = x at q0 hr
        clear hrow
        have hor : x < -4096 ∨ (¬ x < -4096 ∧ 4096 < x) := by omega
        rcases hor with hlo | ⟨hlo, hhi⟩
        all_goals
          go_wp2
          have Zz := (zs (zs (zs (zs (zs (zs (zs (zs (zs (zs HS.out.r 0) 1) 2) 3) 4) 5) 6) 7) 8) 9)
          have e0 := Zz 0 (by omega)
          have e1 := Zz 1 (by omega)
          have e2 := Zz 2 (by omega)
          have e3 := Zz 3 (by omega)
          have e4 := Zz 4 (by omega)
          have e5 := Zz 5 (by omega)
          have e6 := Zz 6 (by omega)
          have e7 := Zz 7 (by omega)
          have e8 := Zz 8 (by omega)
          have e9 := Zz 9 (by omega)
          exact bodyPost_ret (v := .tuple #[.agg #[.int .i64 0, .int .i64 0, .int .i64 0, .int .i64 0, .int .i64 0, .int .i64 0, .int .i64 0, .int .i64 0, .int .i64 0, .int .i64 0], .bool false]) (by simp [results, Try.results53, go_sem, e0, e1, e2, e3, e4, e5, e6, e7, e8, e9]) rfl (bad_fv Hno.out (by repeat (first | with_reducible exact HS.out.ex | with_reducible refine Ext.setCell ?_ (by show w.heap.size ≤ w.heap.size + 1; omega) _)))
    · have hkk : k = ss.length := by omega
      subst hkk
      have hsj : ∀ j, j < 4 → wr.cell? ⟨B, 5 + j, none⟩ = some (.int .i64 (ss.getD j 0)) := fun j hj => by
        rw [HS.out.fs j hj]
        by_cases e : j < ss.length
        · rw [if_pos e]
        · rw [if_neg e, List.getD_eq_getElem?_getD, List.getElem?_eq_none (by omega)]; rfl
      have g0 := HS.out.f0
      have g1 : wr.cell? ⟨B, 1, none⟩ = _ := HS.out.fl 0 (by omega)
      have g2 : wr.cell? ⟨B, 2, none⟩ = _ := HS.out.fl 1 (by omega)
      have g3 : wr.cell? ⟨B, 3, none⟩ = _ := HS.out.fl 2 (by omega)
      have g4 : wr.cell? ⟨B, 4, none⟩ = _ := HS.out.fl 3 (by omega)
      have g5 : wr.cell? ⟨B, 5, none⟩ = _ := hsj 0 (by omega)
      have g6 : wr.cell? ⟨B, 6, none⟩ = _ := hsj 1 (by omega)
      have g7 : wr.cell? ⟨B, 7, none⟩ = _ := hsj 2 (by omega)
      have g8 : wr.cell? ⟨B, 8, none⟩ = _ := hsj 3 (by omega)
      have g9 := HS.out.f9
      clear hsj
      have hval : Hid ((dcValidV xs ss off) = inB xs ss off) := decide_eq_decide.2 ⟨fun q => q.2.2.2.2, fun q => ⟨Hgood.out, Hl.out, ho, hin.out, q⟩⟩
      have hw := hide (fun W => within_any W xs ss off Hgood.out.1 Hgood.out.2.1 Hl.out hin.out ho)
      unfold vw at hw
      have HE := hide HS.out.ex
      generalize hc0 : xs.getD 0 0 = c0 at g1 hw
      have Hc0 := hide hc0
      clear hc0
      generalize hc1 : xs.getD 1 0 = c1 at g2 hw
      have Hc1 := hide hc1
      clear hc1
      generalize hc2 : xs.getD 2 0 = c2 at g3 hw
      have Hc2 := hide hc2
      clear hc2
      generalize hc3 : xs.getD 3 0 = c3 at g4 hw
      have Hc3 := hide hc3
      clear hc3
      generalize hd0 : ss.getD 0 0 = d0 at g5 hw
      have Hd0 := hide hd0
      clear hd0
      generalize hd1 : ss.getD 1 0 = d1 at g6 hw
      have Hd1 := hide hd1
      clear hd1
      generalize hd2 : ss.getD 2 0 = d2 at g7 hw
      have Hd2 := hide hd2
      clear hd2
      generalize hd3 : ss.getD 3 0 = d3 at g8 hw
      have Hd3 := hide hd3
      clear hd3
      generalize inB xs ss off = ib at hval hw
      go_wp2_with fail
      have D0 : Ext wr wr.drew := (Ext.refl wr).drew
      have dr0 := D0.box rr0
      have dr1 := D0.box rr1
      have dr2 := D0.box rr2
      have dr3 := D0.box rr3
      have dr4 := D0.box rr4
      have dr5 := D0.box rr5
      have dr6 := D0.box rr6
      have dr7 := D0.box rr7
      have dr8 := D0.box rr8
      have dr9 := D0.box rr9
      have dg0 := D0.box g0
      have dg1 := D0.box g1
      have dg2 := D0.box g2
      have dg3 := D0.box g3
      have dg4 := D0.box g4
      have dg5 := D0.box g5
      have dg6 := D0.box g6
      have dg7 := D0.box g7
      have dg8 := D0.box g8
      have dg9 := D0.box g9
      have HED := hide (HE.out.trans D0)
      have hne : w.heap.size + 1 ≠ B := by have := HBB.out; omega
      have Hne := hide hne
      have SA : Hid ((fun w' => w'.cell? ⟨B, 0, none⟩ = some (.int .i64 (xs.length : Int)) ∧ w'.cell? ⟨B, 1, none⟩ = some (.int .i64 c0) ∧ w'.cell? ⟨B, 2, none⟩ = some (.int .i64 c1) ∧ w'.cell? ⟨B, 3, none⟩ = some (.int .i64 c2) ∧ w'.cell? ⟨B, 4, none⟩ = some (.int .i64 c3) ∧ w'.cell? ⟨B, 5, none⟩ = some (.int .i64 d0) ∧ w'.cell? ⟨B, 6, none⟩ = some (.int .i64 d1) ∧ w'.cell? ⟨B, 7, none⟩ = some (.int .i64 d2) ∧ w'.cell? ⟨B, 8, none⟩ = some (.int .i64 d3) ∧ w'.cell? ⟨B, 9, none⟩ = some (.int .i64 off)) wr.drew) := ⟨dg0, dg1, dg2, dg3, dg4, dg5, dg6, dg7, dg8, dg9⟩
      clear D0 hne
      go_region_held3 (fun w' => w'.cell? ⟨B, 0, none⟩ = some (.int .i64 (xs.length : Int)) ∧ w'.cell? ⟨B, 1, none⟩ = some (.int .i64 c0) ∧ w'.cell? ⟨B, 2, none⟩ = some (.int .i64 c1) ∧ w'.cell? ⟨B, 3, none⟩ = some (.int .i64 c2) ∧ w'.cell? ⟨B, 4, none⟩ = some (.int .i64 c3) ∧ w'.cell? ⟨B, 5, none⟩ = some (.int .i64 d0) ∧ w'.cell? ⟨B, 6, none⟩ = some (.int .i64 d1) ∧ w'.cell? ⟨B, 7, none⟩ = some (.int .i64 d2) ∧ w'.cell? ⟨B, 8, none⟩ = some (.int .i64 d3) ∧ w'.cell? ⟨B, 9, none⟩ = some (.int .i64 off)) (first | with_reducible exact SA.out | with_reducible exact SB'.out | with_reducible exact SC'.out) (first | (go_at_call 79; refine (hw.out _).mono ?_; rintro e w2 ⟨rfl, x2⟩; have y0 := x2.box dr0; have y1 := x2.box dr1; have y2 := x2.box dr2; have y3 := x2.box dr3; have y4 := x2.box dr4; have y5 := x2.box dr5; have y6 := x2.box dr6; have y7 := x2.box dr7; have y8 := x2.box dr8; have y9 := x2.box dr9; have z0 := x2.box dg0; have z1 := x2.box dg1; have z2 := x2.box dg2; have z3 := x2.box dg3; have z4 := x2.box dg4; have z5 := x2.box dg5; have z6 := x2.box dg6; have z7 := x2.box dg7; have z8 := x2.box dg8; have z9 := x2.box dg9; have yf : ∀ o, w2.frozen? ⟨w.heap.size + 1, o, none⟩ = false := fun o => (x2.fz _).trans (by first | exact rf2 o | (simp [rf2]; done)); have HX2 := hide (HED.out.trans x2); clear x2; have SB' : Hid ((fun w' => w'.cell? ⟨B, 0, none⟩ = some (.int .i64 (xs.length : Int)) ∧ w'.cell? ⟨B, 1, none⟩ = some (.int .i64 c0) ∧ w'.cell? ⟨B, 2, none⟩ = some (.int .i64 c1) ∧ w'.cell? ⟨B, 3, none⟩ = some (.int .i64 c2) ∧ w'.cell? ⟨B, 4, none⟩ = some (.int .i64 c3) ∧ w'.cell? ⟨B, 5, none⟩ = some (.int .i64 d0) ∧ w'.cell? ⟨B, 6, none⟩ = some (.int .i64 d1) ∧ w'.cell? ⟨B, 7, none⟩ = some (.int .i64 d2) ∧ w'.cell? ⟨B, 8, none⟩ = some (.int .i64 d3) ∧ w'.cell? ⟨B, 9, none⟩ = some (.int .i64 off)) w2) := ⟨z0, z1, z2, z3, z4, z5, z6, z7, z8, z9⟩; have SC' : Hid ((fun w' => w'.cell? ⟨B, 0, none⟩ = some (.int .i64 (xs.length : Int)) ∧ w'.cell? ⟨B, 1, none⟩ = some (.int .i64 c0) ∧ w'.cell? ⟨B, 2, none⟩ = some (.int .i64 c1) ∧ w'.cell? ⟨B, 3, none⟩ = some (.int .i64 c2) ∧ w'.cell? ⟨B, 4, none⟩ = some (.int .i64 c3) ∧ w'.cell? ⟨B, 5, none⟩ = some (.int .i64 d0) ∧ w'.cell? ⟨B, 6, none⟩ = some (.int .i64 d1) ∧ w'.cell? ⟨B, 7, none⟩ = some (.int .i64 d2) ∧ w'.cell? ⟨B, 8, none⟩ = some (.int .i64 d3) ∧ w'.cell? ⟨B, 9, none⟩ = some (.int .i64 off)) ((((((((((w2.setCell ⟨w.heap.size + 1, 0, none⟩ (.int .i64 (xs.length : Int))).setCell ⟨w.heap.size + 1, 1, none⟩ (.int .i64 c0)).setCell ⟨w.heap.size + 1, 2, none⟩ (.int .i64 c1)).setCell ⟨w.heap.size + 1, 3, none⟩ (.int .i64 c2)).setCell ⟨w.heap.size + 1, 4, none⟩ (.int .i64 c3)).setCell ⟨w.heap.size + 1, 5, none⟩ (.int .i64 d0)).setCell ⟨w.heap.size + 1, 6, none⟩ (.int .i64 d1)).setCell ⟨w.heap.size + 1, 7, none⟩ (.int .i64 d2)).setCell ⟨w.heap.size + 1, 8, none⟩ (.int .i64 d3)).setCell ⟨w.heap.size + 1, 9, none⟩ (.int .i64 off))) := ⟨far10 Hne.out z0, far10 Hne.out z1, far10 Hne.out z2, far10 Hne.out z3, far10 Hne.out z4, far10 Hne.out z5, far10 Hne.out z6, far10 Hne.out z7, far10 Hne.out z8, far10 Hne.out z9⟩))
      all_goals go_wp2
      all_goals
        have hy : ∀ j, j < 10 → w2.cell? ⟨w.heap.size + 1, j, none⟩ = some ((fun _ => (.int .i64 0 : Value)) j) := fun j hj => by
          obtain rfl | rfl | rfl | rfl | rfl | rfl | rfl | rfl | rfl | rfl : j = 0 ∨ j = 1 ∨ j = 2 ∨ j = 3 ∨ j = 4 ∨ j = 5 ∨ j = 6 ∨ j = 7 ∨ j = 8 ∨ j = 9 := by omega
          all_goals assumption
        have Zz := (zt (zt (zt (zt (zt (zt (zt (zt (zt (zt hy 0 (.int .i64 (xs.length : Int))) 1 (.int .i64 c0)) 2 (.int .i64 c1)) 3 (.int .i64 c2)) 4 (.int .i64 c3)) 5 (.int .i64 d0)) 6 (.int .i64 d1)) 7 (.int .i64 d2)) 8 (.int .i64 d3)) 9 (.int .i64 off))
        have q0 : ((((((((((w2.setCell ⟨w.heap.size + 1, 0, none⟩ (.int .i64 (xs.length : Int))).setCell ⟨w.heap.size + 1, 1, none⟩ (.int .i64 c0)).setCell ⟨w.heap.size + 1, 2, none⟩ (.int .i64 c1)).setCell ⟨w.heap.size + 1, 3, none⟩ (.int .i64 c2)).setCell ⟨w.heap.size + 1, 4, none⟩ (.int .i64 c3)).setCell ⟨w.heap.size + 1, 5, none⟩ (.int .i64 d0)).setCell ⟨w.heap.size + 1, 6, none⟩ (.int .i64 d1)).setCell ⟨w.heap.size + 1, 7, none⟩ (.int .i64 d2)).setCell ⟨w.heap.size + 1, 8, none⟩ (.int .i64 d3)).setCell ⟨w.heap.size + 1, 9, none⟩ (.int .i64 off)).cell? ⟨w.heap.size + 1, 0, none⟩ = some (.int .i64 (xs.length : Int)) := (Zz 0 (by omega)).trans rfl
        have q1 : ((((((((((w2.setCell ⟨w.heap.size + 1, 0, none⟩ (.int .i64 (xs.length : Int))).setCell ⟨w.heap.size + 1, 1, none⟩ (.int .i64 c0)).setCell ⟨w.heap.size + 1, 2, none⟩ (.int .i64 c1)).setCell ⟨w.heap.size + 1, 3, none⟩ (.int .i64 c2)).setCell ⟨w.heap.size + 1, 4, none⟩ (.int .i64 c3)).setCell ⟨w.heap.size + 1, 5, none⟩ (.int .i64 d0)).setCell ⟨w.heap.size + 1, 6, none⟩ (.int .i64 d1)).setCell ⟨w.heap.size + 1, 7, none⟩ (.int .i64 d2)).setCell ⟨w.heap.size + 1, 8, none⟩ (.int .i64 d3)).setCell ⟨w.heap.size + 1, 9, none⟩ (.int .i64 off)).cell? ⟨w.heap.size + 1, 1, none⟩ = some (.int .i64 c0) := (Zz 1 (by omega)).trans rfl
        have q2 : ((((((((((w2.setCell ⟨w.heap.size + 1, 0, none⟩ (.int .i64 (xs.length : Int))).setCell ⟨w.heap.size + 1, 1, none⟩ (.int .i64 c0)).setCell ⟨w.heap.size + 1, 2, none⟩ (.int .i64 c1)).setCell ⟨w.heap.size + 1, 3, none⟩ (.int .i64 c2)).setCell ⟨w.heap.size + 1, 4, none⟩ (.int .i64 c3)).setCell ⟨w.heap.size + 1, 5, none⟩ (.int .i64 d0)).setCell ⟨w.heap.size + 1, 6, none⟩ (.int .i64 d1)).setCell ⟨w.heap.size + 1, 7, none⟩ (.int .i64 d2)).setCell ⟨w.heap.size + 1, 8, none⟩ (.int .i64 d3)).setCell ⟨w.heap.size + 1, 9, none⟩ (.int .i64 off)).cell? ⟨w.heap.size + 1, 2, none⟩ = some (.int .i64 c1) := (Zz 2 (by omega)).trans rfl
        have q3 : ((((((((((w2.setCell ⟨w.heap.size + 1, 0, none⟩ (.int .i64 (xs.length : Int))).setCell ⟨w.heap.size + 1, 1, none⟩ (.int .i64 c0)).setCell ⟨w.heap.size + 1, 2, none⟩ (.int .i64 c1)).setCell ⟨w.heap.size + 1, 3, none⟩ (.int .i64 c2)).setCell ⟨w.heap.size + 1, 4, none⟩ (.int .i64 c3)).setCell ⟨w.heap.size + 1, 5, none⟩ (.int .i64 d0)).setCell ⟨w.heap.size + 1, 6, none⟩ (.int .i64 d1)).setCell ⟨w.heap.size + 1, 7, none⟩ (.int .i64 d2)).setCell ⟨w.heap.size + 1, 8, none⟩ (.int .i64 d3)).setCell ⟨w.heap.size + 1, 9, none⟩ (.int .i64 off)).cell? ⟨w.heap.size + 1, 3, none⟩ = some (.int .i64 c2) := (Zz 3 (by omega)).trans rfl
        have q4 : ((((((((((w2.setCell ⟨w.heap.size + 1, 0, none⟩ (.int .i64 (xs.length : Int))).setCell ⟨w.heap.size + 1, 1, none⟩ (.int .i64 c0)).setCell ⟨w.heap.size + 1, 2, none⟩ (.int .i64 c1)).setCell ⟨w.heap.size + 1, 3, none⟩ (.int .i64 c2)).setCell ⟨w.heap.size + 1, 4, none⟩ (.int .i64 c3)).setCell ⟨w.heap.size + 1, 5, none⟩ (.int .i64 d0)).setCell ⟨w.heap.size + 1, 6, none⟩ (.int .i64 d1)).setCell ⟨w.heap.size + 1, 7, none⟩ (.int .i64 d2)).setCell ⟨w.heap.size + 1, 8, none⟩ (.int .i64 d3)).setCell ⟨w.heap.size + 1, 9, none⟩ (.int .i64 off)).cell? ⟨w.heap.size + 1, 4, none⟩ = some (.int .i64 c3) := (Zz 4 (by omega)).trans rfl
        have q5 : ((((((((((w2.setCell ⟨w.heap.size + 1, 0, none⟩ (.int .i64 (xs.length : Int))).setCell ⟨w.heap.size + 1, 1, none⟩ (.int .i64 c0)).setCell ⟨w.heap.size + 1, 2, none⟩ (.int .i64 c1)).setCell ⟨w.heap.size + 1, 3, none⟩ (.int .i64 c2)).setCell ⟨w.heap.size + 1, 4, none⟩ (.int .i64 c3)).setCell ⟨w.heap.size + 1, 5, none⟩ (.int .i64 d0)).setCell ⟨w.heap.size + 1, 6, none⟩ (.int .i64 d1)).setCell ⟨w.heap.size + 1, 7, none⟩ (.int .i64 d2)).setCell ⟨w.heap.size + 1, 8, none⟩ (.int .i64 d3)).setCell ⟨w.heap.size + 1, 9, none⟩ (.int .i64 off)).cell? ⟨w.heap.size + 1, 5, none⟩ = some (.int .i64 d0) := (Zz 5 (by omega)).trans rfl
        have q6 : ((((((((((w2.setCell ⟨w.heap.size + 1, 0, none⟩ (.int .i64 (xs.length : Int))).setCell ⟨w.heap.size + 1, 1, none⟩ (.int .i64 c0)).setCell ⟨w.heap.size + 1, 2, none⟩ (.int .i64 c1)).setCell ⟨w.heap.size + 1, 3, none⟩ (.int .i64 c2)).setCell ⟨w.heap.size + 1, 4, none⟩ (.int .i64 c3)).setCell ⟨w.heap.size + 1, 5, none⟩ (.int .i64 d0)).setCell ⟨w.heap.size + 1, 6, none⟩ (.int .i64 d1)).setCell ⟨w.heap.size + 1, 7, none⟩ (.int .i64 d2)).setCell ⟨w.heap.size + 1, 8, none⟩ (.int .i64 d3)).setCell ⟨w.heap.size + 1, 9, none⟩ (.int .i64 off)).cell? ⟨w.heap.size + 1, 6, none⟩ = some (.int .i64 d1) := (Zz 6 (by omega)).trans rfl
        have q7 : ((((((((((w2.setCell ⟨w.heap.size + 1, 0, none⟩ (.int .i64 (xs.length : Int))).setCell ⟨w.heap.size + 1, 1, none⟩ (.int .i64 c0)).setCell ⟨w.heap.size + 1, 2, none⟩ (.int .i64 c1)).setCell ⟨w.heap.size + 1, 3, none⟩ (.int .i64 c2)).setCell ⟨w.heap.size + 1, 4, none⟩ (.int .i64 c3)).setCell ⟨w.heap.size + 1, 5, none⟩ (.int .i64 d0)).setCell ⟨w.heap.size + 1, 6, none⟩ (.int .i64 d1)).setCell ⟨w.heap.size + 1, 7, none⟩ (.int .i64 d2)).setCell ⟨w.heap.size + 1, 8, none⟩ (.int .i64 d3)).setCell ⟨w.heap.size + 1, 9, none⟩ (.int .i64 off)).cell? ⟨w.heap.size + 1, 7, none⟩ = some (.int .i64 d2) := (Zz 7 (by omega)).trans rfl
        have q8 : ((((((((((w2.setCell ⟨w.heap.size + 1, 0, none⟩ (.int .i64 (xs.length : Int))).setCell ⟨w.heap.size + 1, 1, none⟩ (.int .i64 c0)).setCell ⟨w.heap.size + 1, 2, none⟩ (.int .i64 c1)).setCell ⟨w.heap.size + 1, 3, none⟩ (.int .i64 c2)).setCell ⟨w.heap.size + 1, 4, none⟩ (.int .i64 c3)).setCell ⟨w.heap.size + 1, 5, none⟩ (.int .i64 d0)).setCell ⟨w.heap.size + 1, 6, none⟩ (.int .i64 d1)).setCell ⟨w.heap.size + 1, 7, none⟩ (.int .i64 d2)).setCell ⟨w.heap.size + 1, 8, none⟩ (.int .i64 d3)).setCell ⟨w.heap.size + 1, 9, none⟩ (.int .i64 off)).cell? ⟨w.heap.size + 1, 8, none⟩ = some (.int .i64 d3) := (Zz 8 (by omega)).trans rfl
        have q9 : ((((((((((w2.setCell ⟨w.heap.size + 1, 0, none⟩ (.int .i64 (xs.length : Int))).setCell ⟨w.heap.size + 1, 1, none⟩ (.int .i64 c0)).setCell ⟨w.heap.size + 1, 2, none⟩ (.int .i64 c1)).setCell ⟨w.heap.size + 1, 3, none⟩ (.int .i64 c2)).setCell ⟨w.heap.size + 1, 4, none⟩ (.int .i64 c3)).setCell ⟨w.heap.size + 1, 5, none⟩ (.int .i64 d0)).setCell ⟨w.heap.size + 1, 6, none⟩ (.int .i64 d1)).setCell ⟨w.heap.size + 1, 7, none⟩ (.int .i64 d2)).setCell ⟨w.heap.size + 1, 8, none⟩ (.int .i64 d3)).setCell ⟨w.heap.size + 1, 9, none⟩ (.int .i64 off)).cell? ⟨w.heap.size + 1, 9, none⟩ = some (.int .i64 off) := (Zz 9 (by omega)).trans rfl
        exact bodyPost_ret (v := .tuple #[.agg #[.int .i64 (xs.length : Int), .int .i64 c0, .int .i64 c1, .int .i64 c2, .int .i64 c3, .int .i64 d0, .int .i64 d1, .int .i64 d2, .int .i64 d3, .int .i64 off], .bool ib]) (by simp [results, Try.results53, go_sem, q0, q1, q2, q3, q4, q5, q6, q7, q8, q9]) rfl ⟨_, by rw [hval.out], fun _ => by unfold vw; rw [Hc0.out, Hc1.out, Hc2.out, Hc3.out, Hd0.out, Hd1.out, Hd2.out, Hd3.out], ⟨_, _, _, _, _, _, _, _, _, _, rfl⟩, by repeat (first | with_reducible exact HX2.out | with_reducible refine Ext.setCell ?_ (by show w.heap.size ≤ w.heap.size + 1; omega) _)⟩
end Go.Proofs.Ytiekkninnjffpaa
