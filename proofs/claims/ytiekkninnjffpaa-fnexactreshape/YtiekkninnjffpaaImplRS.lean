import Derived.Test.YtiekkninnjffpaaRowM
import Derived.Test.YtiekkninnjffpaaViewW
import Derived.Test.YtiekkninnjffpaaImplTR
namespace Go.Proofs.Ytiekkninnjffpaa
open Go.ChangeShapes Go.RowKit Go.Shelf
set_option linter.unusedSimpArgs false
set_option linter.unusedVariables false

set_option maxRecDepth 100000 in
set_option maxHeartbeats 4000000 in
theorem iRS_any {w : World} {vS vT vP : Value} {xs ss ys : List Int} (hS : Ints w vS xs) (hT : Ints w vT ss) (hP : Ints w vP ys) (off : Int) (lx : xs.length ≤ 1048576) (ls : ss.length ≤ 1048576) (ly : ys.length ≤ 1048576) {c : Int} {L S : List Int} {o : Int} (hr : rsL xs ss off ys = (c, L, S, o)) :
    Calls Try.prog 42 #[.agg #[vS, vT, .int .i64 off], vP] w fun e w' => VROk w c L S o e w' := by
  have Hr := hide hr.symm
  clear hr
  have x0 : Ext w ((w.alloc (.cells #[vS, vT, .int .i64 off] 27)).alloc (.cells #[.int .i64 0, .slice none 0 0, .slice none 0 0, .int .i64 0] 43)) := ((Ext.refl w).alloc _ _).alloc _ _
  have n2 := fun j => new_cell (w.alloc (.cells #[vS, vT, .int .i64 off] 27)) #[.int .i64 0, .slice none 0 0, .slice none 0 0, .int .i64 0] 43 (w.heap.size + 1) (by simp) j
  have q0 : ((w.alloc (.cells #[vS, vT, .int .i64 off] 27)).alloc (.cells #[.int .i64 0, .slice none 0 0, .slice none 0 0, .int .i64 0] 43)).cell? ⟨w.heap.size + 1, 0, none⟩ = some (.int .i64 0) := n2 0
  have q1 : ((w.alloc (.cells #[vS, vT, .int .i64 off] 27)).alloc (.cells #[.int .i64 0, .slice none 0 0, .slice none 0 0, .int .i64 0] 43)).cell? ⟨w.heap.size + 1, 1, none⟩ = some (.slice none 0 0) := n2 1
  have q2 : ((w.alloc (.cells #[vS, vT, .int .i64 off] 27)).alloc (.cells #[.int .i64 0, .slice none 0 0, .slice none 0 0, .int .i64 0] 43)).cell? ⟨w.heap.size + 1, 2, none⟩ = some (.slice none 0 0) := n2 2
  have q3 : ((w.alloc (.cells #[vS, vT, .int .i64 off] 27)).alloc (.cells #[.int .i64 0, .slice none 0 0, .slice none 0 0, .int .i64 0] 43)).cell? ⟨w.heap.size + 1, 3, none⟩ = some (.int .i64 0) := n2 3
  have X0 := hide x0
  have HS := hide (hS.ext x0)
  have HT := hide (hT.ext x0)
  have HP := hide (hP.ext x0)
  have sz0 : Hid (w.heap.size + 2 ≤ ((w.alloc (.cells #[vS, vT, .int .i64 off] 27)).alloc (.cells #[.int .i64 0, .slice none 0 0, .slice none 0 0, .int .i64 0] 43)).heap.size) := by show w.heap.size + 2 ≤ ((w.alloc (.cells #[vS, vT, .int .i64 off] 27)).alloc (.cells #[.int .i64 0, .slice none 0 0, .slice none 0 0, .int .i64 0] 43)).heap.size; simp
  obtain ⟨sa, ca, rfl, _⟩ := hS
  obtain ⟨sb, cb, rfl, _⟩ := hT
  obtain ⟨sp, cp, rfl, rP⟩ := hP
  have RP0 := hide rP
  clear x0 n2 rP
  go_enter Try.func42, Try.ntmps42
  go_wp2_with fail
  refine (fixView_any HS.out HT.out off lx ls).mono ?_
  rintro e w1 ⟨A, rfl, hA, ⟨a0, a1, a2, a3, a4, a5, a6, a7, a8, a9, rfl⟩, x1⟩
  have y1 : Ext w1 (w1.alloc (.cells #[.int .i64 a0, .int .i64 a1, .int .i64 a2, .int .i64 a3, .int .i64 a4, .int .i64 a5, .int .i64 a6, .int .i64 a7, .int .i64 a8, .int .i64 a9] 64)) := (Ext.refl w1).alloc _ _
  have n1 := fun j => new_cell w1 #[.int .i64 a0, .int .i64 a1, .int .i64 a2, .int .i64 a3, .int .i64 a4, .int .i64 a5, .int .i64 a6, .int .i64 a7, .int .i64 a8, .int .i64 a9] 64 w1.heap.size rfl j
  have f0 : (w1.alloc (.cells #[.int .i64 a0, .int .i64 a1, .int .i64 a2, .int .i64 a3, .int .i64 a4, .int .i64 a5, .int .i64 a6, .int .i64 a7, .int .i64 a8, .int .i64 a9] 64)).cell? ⟨w1.heap.size, 0, none⟩ = some (.int .i64 a0) := n1 0
  have f1 : (w1.alloc (.cells #[.int .i64 a0, .int .i64 a1, .int .i64 a2, .int .i64 a3, .int .i64 a4, .int .i64 a5, .int .i64 a6, .int .i64 a7, .int .i64 a8, .int .i64 a9] 64)).cell? ⟨w1.heap.size, 1, none⟩ = some (.int .i64 a1) := n1 1
  have f2 : (w1.alloc (.cells #[.int .i64 a0, .int .i64 a1, .int .i64 a2, .int .i64 a3, .int .i64 a4, .int .i64 a5, .int .i64 a6, .int .i64 a7, .int .i64 a8, .int .i64 a9] 64)).cell? ⟨w1.heap.size, 2, none⟩ = some (.int .i64 a2) := n1 2
  have f3 : (w1.alloc (.cells #[.int .i64 a0, .int .i64 a1, .int .i64 a2, .int .i64 a3, .int .i64 a4, .int .i64 a5, .int .i64 a6, .int .i64 a7, .int .i64 a8, .int .i64 a9] 64)).cell? ⟨w1.heap.size, 3, none⟩ = some (.int .i64 a3) := n1 3
  have f4 : (w1.alloc (.cells #[.int .i64 a0, .int .i64 a1, .int .i64 a2, .int .i64 a3, .int .i64 a4, .int .i64 a5, .int .i64 a6, .int .i64 a7, .int .i64 a8, .int .i64 a9] 64)).cell? ⟨w1.heap.size, 4, none⟩ = some (.int .i64 a4) := n1 4
  have f5 : (w1.alloc (.cells #[.int .i64 a0, .int .i64 a1, .int .i64 a2, .int .i64 a3, .int .i64 a4, .int .i64 a5, .int .i64 a6, .int .i64 a7, .int .i64 a8, .int .i64 a9] 64)).cell? ⟨w1.heap.size, 5, none⟩ = some (.int .i64 a5) := n1 5
  have f6 : (w1.alloc (.cells #[.int .i64 a0, .int .i64 a1, .int .i64 a2, .int .i64 a3, .int .i64 a4, .int .i64 a5, .int .i64 a6, .int .i64 a7, .int .i64 a8, .int .i64 a9] 64)).cell? ⟨w1.heap.size, 6, none⟩ = some (.int .i64 a6) := n1 6
  have f7 : (w1.alloc (.cells #[.int .i64 a0, .int .i64 a1, .int .i64 a2, .int .i64 a3, .int .i64 a4, .int .i64 a5, .int .i64 a6, .int .i64 a7, .int .i64 a8, .int .i64 a9] 64)).cell? ⟨w1.heap.size, 7, none⟩ = some (.int .i64 a7) := n1 7
  have f8 : (w1.alloc (.cells #[.int .i64 a0, .int .i64 a1, .int .i64 a2, .int .i64 a3, .int .i64 a4, .int .i64 a5, .int .i64 a6, .int .i64 a7, .int .i64 a8, .int .i64 a9] 64)).cell? ⟨w1.heap.size, 8, none⟩ = some (.int .i64 a8) := n1 8
  have f9 : (w1.alloc (.cells #[.int .i64 a0, .int .i64 a1, .int .i64 a2, .int .i64 a3, .int .i64 a4, .int .i64 a5, .int .i64 a6, .int .i64 a7, .int .i64 a8, .int .i64 a9] 64)).cell? ⟨w1.heap.size, 9, none⟩ = some (.int .i64 a9) := n1 9
  have r0 := y1.box (x1.box q0)
  have r1 := y1.box (x1.box q1)
  have r2 := y1.box (x1.box q2)
  have r3 := y1.box (x1.box q3)
  have Y1 := hide ((X0.out.trans x1).trans y1)
  have HP1 := hide ((HP.out.ext x1).ext y1)
  have sz1 : Hid (w.heap.size + 2 ≤ (w1.alloc (.cells #[.int .i64 a0, .int .i64 a1, .int .i64 a2, .int .i64 a3, .int .i64 a4, .int .i64 a5, .int .i64 a6, .int .i64 a7, .int .i64 a8, .int .i64 a9] 64)).heap.size ∧ w.heap.size + 2 ≤ w1.heap.size) := ⟨Nat.le_trans sz0.out (Below.size (x1.trans y1).bl), Nat.le_trans sz0.out (Below.size x1.bl)⟩
  have rf := fun o => Y1.out.unfrozen (b := w.heap.size + 1) (by omega) o
  have HA := hide hA
  clear hA n1 y1 x1 HS HT q0 q1 q2 q3
  cases hv : (dcValidV xs ss off)
  · have hn := hide (Hr.out.trans (show rsL xs ss off ys = (12, [], [], 0) from if_neg (of_decide_eq_false hv)))
    clear hv
    go_wp2
    exact bodyPost_ret (v := .agg #[.int .i64 12, .slice none 0 0, .slice none 0 0, .int .i64 0]) (by simp [results, Try.results42, go_sem, set4_0 r0, set4_1 r1, set4_2 r2, set4_3 r3]) rfl (vr_bad hn.out Y1.out.bl sz1.out.1)
  have gv : ValidV xs ss off := of_decide_eq_true hv
  have hA := HA.out gv
  have hbr : Hid (rsL xs ss off ys = (if Good ys ∧ prod ys = prod xs then (if offsL xs ss off = ups off (offsL xs ss off).length then (0, ys, rmS ys, off) else (13, [], [], 0)) else (6, [], [], 0))) := if_pos gv
  have hx4 := gv.1.1
  have Hl := hide gv.2.1
  have E0 : Hid (a0 = (xs.length : Int)) := vint (congrArg (fun (A : Array Value) => A.getD 0 undef) hA)
  have E1 : Hid (a1 = xs.getD 0 0) := vint (congrArg (fun (A : Array Value) => A.getD 1 undef) hA)
  have E2 : Hid (a2 = xs.getD 1 0) := vint (congrArg (fun (A : Array Value) => A.getD 2 undef) hA)
  have E3 : Hid (a3 = xs.getD 2 0) := vint (congrArg (fun (A : Array Value) => A.getD 3 undef) hA)
  have E4 : Hid (a4 = xs.getD 3 0) := vint (congrArg (fun (A : Array Value) => A.getD 4 undef) hA)
  have E9 : Hid (a9 = off) := vint (congrArg (fun (A : Array Value) => A.getD 9 undef) hA)
  have Hcf : Hid (∀ W, Calls Try.prog 61 #[.agg #[.int .i64 a0, .int .i64 a1, .int .i64 a2, .int .i64 a3, .int .i64 a4]] W fun e w' => e = .returned (.int .i64 (prod xs)) ∧ Ext W w') := fun W => by
    have e : shp xs = #[.int .i64 a0, .int .i64 a1, .int .i64 a2, .int .i64 a3, .int .i64 a4] := by unfold shp; rw [E0.out, E1.out, E2.out, E3.out, E4.out]
    rw [← e]
    refine (count_any W xs gv.1.1 gv.1.2.1).mono ?_
    rintro e w' ⟨rfl, rfl⟩
    exact ⟨rfl, (Ext.refl _).alloc _ _⟩
  have Hgo : Hid (∀ W, Calls Try.prog 68 #[.agg #[.int .i64 a0, .int .i64 a1, .int .i64 a2, .int .i64 a3, .int .i64 a4, .int .i64 a5, .int .i64 a6, .int .i64 a7, .int .i64 a8, .int .i64 a9]] W fun e w' => e = .returned (.bool (decide (offsL xs ss off = ups off (offsL xs ss off).length))) ∧ Bel W w') := fun W => by
    rw [hA]; exact goesUp_any gv W
  have HPX := hide (prod_bd xs xs.length gv.1.1 (Nat.le_refl _) gv.1.2.1)
  have e9 := E9.out
  subst e9
  clear hA HA gv E0 E1 E2 E3 E4
  generalize hvb : (dcValidV xs ss a9) = vb at hv
  subst hv
  clear hvb
  go_wp2_with fail
  refine (fixShape_any HP1.out (by omega)).mono ?_
  rintro e w2 ⟨b0, b1, b2, b3, b4, rfl, hB, x2⟩
  have Hcs : Hid (Good ys → ∀ W, Calls Try.prog 61 #[.agg #[.int .i64 b0, .int .i64 b1, .int .i64 b2, .int .i64 b3, .int .i64 b4]] W fun e w' => e = .returned (.int .i64 (prod ys)) ∧ Ext W w') := fun g W => by
    obtain ⟨rfl, rfl, rfl, rfl, rfl⟩ := hB g
    refine (count_any W ys g.1 g.2.1).mono ?_
    rintro e w' ⟨rfl, rfl⟩
    exact ⟨rfl, (Ext.refl _).alloc _ _⟩
  have Hrm : Hid (Good ys → ∀ W, Calls Try.prog 69 #[.agg #[.int .i64 b0, .int .i64 b1, .int .i64 b2, .int .i64 b3, .int .i64 b4], .int .i64 a9] W fun e w' => e = .returned (.agg (vw ys (rmS ys) a9)) ∧ Ext W w') := fun g W => by
    obtain ⟨rfl, rfl, rfl, rfl, rfl⟩ := hB g
    exact rowM_any W ys a9 g.1 g.2.1
  clear hB
  have g0 := x2.box f0
  have g1 := x2.box f1
  have g2 := x2.box f2
  have g3 := x2.box f3
  have g4 := x2.box f4
  have g5 := x2.box f5
  have g6 := x2.box f6
  have g7 := x2.box f7
  have g8 := x2.box f8
  have g9 := x2.box f9
  have u0 := x2.box r0
  have u1 := x2.box r1
  have u2 := x2.box r2
  have u3 := x2.box r3
  have Y2 := hide (Y1.out.trans x2)
  have sz2 : Hid (w.heap.size + 2 ≤ w2.heap.size ∧ w1.heap.size < w2.heap.size) := ⟨Nat.le_trans sz1.out.1 (Below.size x2.bl), cell_lt g0⟩
  have uf := fun o => Y2.out.unfrozen (b := w.heap.size + 1) (by omega) o
  clear x2 HP1 f0 f1 f2 f3 f4 f5 f6 f7 f8 f9 r0 r1 r2 r3 rf Y1 sz1
  cases hg : goodB ys
  · have hn := hide (Hr.out.trans (hbr.out.trans (if_neg (fun q => of_decide_eq_false hg q.1))))
    clear hg
    have y3 : Ext w2 (w2.alloc (.cells #[.int .i64 b0, .int .i64 b1, .int .i64 b2, .int .i64 b3, .int .i64 b4] 62)) := (Ext.refl w2).alloc _ _
    have t0 := y3.box u0
    have t1 := y3.box u1
    have t2 := y3.box u2
    have t3 := y3.box u3
    have Y3 := hide (Y2.out.trans y3)
    have sz3 := hide (Nat.le_trans sz2.out.1 (Below.size y3.bl))
    have tf := fun o => Y3.out.unfrozen (b := w.heap.size + 1) (by omega) o
    clear y3
    go_wp2_with fail
    go_region
    all_goals go_wp2
    all_goals exact bodyPost_ret (v := .agg #[.int .i64 6, .slice none 0 0, .slice none 0 0, .int .i64 0]) (by simp [results, Try.results42, go_sem, set4_0 t0, set4_1 t1, set4_2 t2, set4_3 t3]) rfl (vr_bad hn.out Y3.out.drew.bl sz3.out)
  have gg : Good ys := of_decide_eq_true hg
  have HG := hide gg
  clear hg gg
  have n3 := fun j => new_cell w2 #[.int .i64 b0, .int .i64 b1, .int .i64 b2, .int .i64 b3, .int .i64 b4] 62 w2.heap.size rfl j
  have y3 : Ext w2 (w2.alloc (.cells #[.int .i64 b0, .int .i64 b1, .int .i64 b2, .int .i64 b3, .int .i64 b4] 62)) := (Ext.refl w2).alloc _ _
  have k0 : (w2.alloc (.cells #[.int .i64 b0, .int .i64 b1, .int .i64 b2, .int .i64 b3, .int .i64 b4] 62)).cell? ⟨w2.heap.size, 0, none⟩ = some (.int .i64 b0) := n3 0
  have k1 : (w2.alloc (.cells #[.int .i64 b0, .int .i64 b1, .int .i64 b2, .int .i64 b3, .int .i64 b4] 62)).cell? ⟨w2.heap.size, 1, none⟩ = some (.int .i64 b1) := n3 1
  have k2 : (w2.alloc (.cells #[.int .i64 b0, .int .i64 b1, .int .i64 b2, .int .i64 b3, .int .i64 b4] 62)).cell? ⟨w2.heap.size, 2, none⟩ = some (.int .i64 b2) := n3 2
  have k3 : (w2.alloc (.cells #[.int .i64 b0, .int .i64 b1, .int .i64 b2, .int .i64 b3, .int .i64 b4] 62)).cell? ⟨w2.heap.size, 3, none⟩ = some (.int .i64 b3) := n3 3
  have k4 : (w2.alloc (.cells #[.int .i64 b0, .int .i64 b1, .int .i64 b2, .int .i64 b3, .int .i64 b4] 62)).cell? ⟨w2.heap.size, 4, none⟩ = some (.int .i64 b4) := n3 4
  have h0 := y3.box g0
  have h1 := y3.box g1
  have h2 := y3.box g2
  have h3 := y3.box g3
  have h4 := y3.box g4
  have h5 := y3.box g5
  have h6 := y3.box g6
  have h7 := y3.box g7
  have h8 := y3.box g8
  have h9 := y3.box g9
  have t0 := y3.box u0
  have t1 := y3.box u1
  have t2 := y3.box u2
  have t3 := y3.box u3
  have Y3 := hide (Y2.out.trans y3)
  have sz3 := hide (Nat.le_trans sz2.out.1 (Below.size y3.bl))
  clear y3 n3 g0 g1 g2 g3 g4 g5 g6 g7 g8 g9 u0 u1 u2 u3 uf Y2 sz2
  go_wp2_with fail
  generalize hW : w2.alloc (.cells #[.int .i64 b0, .int .i64 b1, .int .i64 b2, .int .i64 b3, .int .i64 b4] 62) = V at k0 k1 k2 k3 k4 h0 h1 h2 h3 h4 h5 h6 h7 h8 h9 t0 t1 t2 t3 Y3 sz3 ⊢
  clear hW
  have SA : Hid ((fun w' => w'.cell? ⟨w2.heap.size, 0, none⟩ = some (.int .i64 b0) ∧ w'.cell? ⟨w2.heap.size, 1, none⟩ = some (.int .i64 b1) ∧ w'.cell? ⟨w2.heap.size, 2, none⟩ = some (.int .i64 b2) ∧ w'.cell? ⟨w2.heap.size, 3, none⟩ = some (.int .i64 b3) ∧ w'.cell? ⟨w2.heap.size, 4, none⟩ = some (.int .i64 b4) ∧ w'.cell? ⟨w1.heap.size, 0, none⟩ = some (.int .i64 a0) ∧ w'.cell? ⟨w1.heap.size, 1, none⟩ = some (.int .i64 a1) ∧ w'.cell? ⟨w1.heap.size, 2, none⟩ = some (.int .i64 a2) ∧ w'.cell? ⟨w1.heap.size, 3, none⟩ = some (.int .i64 a3) ∧ w'.cell? ⟨w1.heap.size, 4, none⟩ = some (.int .i64 a4)) V.drew) := ⟨k0, k1, k2, k3, k4, h0, h1, h2, h3, h4⟩
  go_region_held3 (fun w' => w'.cell? ⟨w2.heap.size, 0, none⟩ = some (.int .i64 b0) ∧ w'.cell? ⟨w2.heap.size, 1, none⟩ = some (.int .i64 b1) ∧ w'.cell? ⟨w2.heap.size, 2, none⟩ = some (.int .i64 b2) ∧ w'.cell? ⟨w2.heap.size, 3, none⟩ = some (.int .i64 b3) ∧ w'.cell? ⟨w2.heap.size, 4, none⟩ = some (.int .i64 b4) ∧ w'.cell? ⟨w1.heap.size, 0, none⟩ = some (.int .i64 a0) ∧ w'.cell? ⟨w1.heap.size, 1, none⟩ = some (.int .i64 a1) ∧ w'.cell? ⟨w1.heap.size, 2, none⟩ = some (.int .i64 a2) ∧ w'.cell? ⟨w1.heap.size, 3, none⟩ = some (.int .i64 a3) ∧ w'.cell? ⟨w1.heap.size, 4, none⟩ = some (.int .i64 a4)) (first | with_reducible exact SA.out | with_reducible exact SB'.out | with_reducible exact SC'.out | fail) (first | (go_at_call 61; refine (Hcf.out w3).mono ?_; rintro e w4 ⟨rfl, x4⟩; have X4 := hide (X3.out.trans x4); have SC' : Hid ((fun w' => w'.cell? ⟨w2.heap.size, 0, none⟩ = some (.int .i64 b0) ∧ w'.cell? ⟨w2.heap.size, 1, none⟩ = some (.int .i64 b1) ∧ w'.cell? ⟨w2.heap.size, 2, none⟩ = some (.int .i64 b2) ∧ w'.cell? ⟨w2.heap.size, 3, none⟩ = some (.int .i64 b3) ∧ w'.cell? ⟨w2.heap.size, 4, none⟩ = some (.int .i64 b4) ∧ w'.cell? ⟨w1.heap.size, 0, none⟩ = some (.int .i64 a0) ∧ w'.cell? ⟨w1.heap.size, 1, none⟩ = some (.int .i64 a1) ∧ w'.cell? ⟨w1.heap.size, 2, none⟩ = some (.int .i64 a2) ∧ w'.cell? ⟨w1.heap.size, 3, none⟩ = some (.int .i64 a3) ∧ w'.cell? ⟨w1.heap.size, 4, none⟩ = some (.int .i64 a4)) w4) := ⟨X4.out.box k0, X4.out.box k1, X4.out.box k2, X4.out.box k3, X4.out.box k4, X4.out.box h0, X4.out.box h1, X4.out.box h2, X4.out.box h3, X4.out.box h4⟩; clear x4) | (go_at_call 61; refine (Hcs.out HG.out V.drew).mono ?_; rintro e w3 ⟨rfl, x3⟩; have X3 := hide ((Ext.refl V).drew.trans x3); have SB' : Hid ((fun w' => w'.cell? ⟨w2.heap.size, 0, none⟩ = some (.int .i64 b0) ∧ w'.cell? ⟨w2.heap.size, 1, none⟩ = some (.int .i64 b1) ∧ w'.cell? ⟨w2.heap.size, 2, none⟩ = some (.int .i64 b2) ∧ w'.cell? ⟨w2.heap.size, 3, none⟩ = some (.int .i64 b3) ∧ w'.cell? ⟨w2.heap.size, 4, none⟩ = some (.int .i64 b4) ∧ w'.cell? ⟨w1.heap.size, 0, none⟩ = some (.int .i64 a0) ∧ w'.cell? ⟨w1.heap.size, 1, none⟩ = some (.int .i64 a1) ∧ w'.cell? ⟨w1.heap.size, 2, none⟩ = some (.int .i64 a2) ∧ w'.cell? ⟨w1.heap.size, 3, none⟩ = some (.int .i64 a3) ∧ w'.cell? ⟨w1.heap.size, 4, none⟩ = some (.int .i64 a4)) w3) := ⟨X3.out.box k0, X3.out.box k1, X3.out.box k2, X3.out.box k3, X3.out.box k4, X3.out.box h0, X3.out.box h1, X3.out.box h2, X3.out.box h3, X3.out.box h4⟩; clear x3) | fail)
  clear SA SB' SC'
  have m0 := X4.out.box h0
  have m1 := X4.out.box h1
  have m2 := X4.out.box h2
  have m3 := X4.out.box h3
  have m4 := X4.out.box h4
  have m5 := X4.out.box h5
  have m6 := X4.out.box h6
  have m7 := X4.out.box h7
  have m8 := X4.out.box h8
  have m9 := X4.out.box h9
  have n0 := X4.out.box k0
  have n1 := X4.out.box k1
  have n2 := X4.out.box k2
  have n3 := X4.out.box k3
  have n4 := X4.out.box k4
  have p0 := X4.out.box t0
  have p1 := X4.out.box t1
  have p2 := X4.out.box t2
  have p3 := X4.out.box t3
  have Y4 := hide (Y3.out.trans X4.out)
  have sz4 := hide (Nat.le_trans sz3.out (Below.size X4.out.bl))
  have pf := fun o => Y4.out.unfrozen (b := w.heap.size + 1) (by omega) o
  clear h0 h1 h2 h3 h4 h5 h6 h7 h8 h9 k0 k1 k2 k3 k4 t0 t1 t2 t3 Y3 sz3 X3 X4 Hcf Hcs
  by_cases hpe : prod ys = prod xs
  case neg =>
    have hn := hide (Hr.out.trans (hbr.out.trans (if_neg (fun q => hpe q.2))))
    have hpb : (prod ys != prod xs) = true := by simp [hpe]
    rw [hpb]
    go_wp2
    exact bodyPost_ret (v := .agg #[.int .i64 6, .slice none 0 0, .slice none 0 0, .int .i64 0]) (by simp [results, Try.results42, go_sem, set4_0 p0, set4_1 p1, set4_2 p2, set4_3 p3]) rfl (vr_bad hn.out Y4.out.bl sz4.out)
  have hpb : (prod ys != prod xs) = false := by simp [hpe]
  have hb2 := hide (Hr.out.trans (hbr.out.trans (if_pos ⟨HG.out, hpe⟩)))
  rw [hpb]
  generalize prod ys = PY
  generalize prod xs = PX
  clear hpe hpb
  go_wp2_with fail
  refine (Hgo.out _).mono ?_
  rintro e w5 ⟨rfl, x5⟩
  have o9 := Bel.box x5 m9
  have o0 := Bel.box x5 n0
  have o1 := Bel.box x5 n1
  have o2 := Bel.box x5 n2
  have o3 := Bel.box x5 n3
  have o4 := Bel.box x5 n4
  have v0 := Bel.box x5 p0
  have v1 := Bel.box x5 p1
  have v2 := Bel.box x5 p2
  have v3 := Bel.box x5 p3
  have Y5 := hide (Bel.tr Y4.out.bl x5)
  have sz5 := hide (Nat.le_trans sz4.out (Below.size x5))
  have vf : ∀ o, w5.frozen? ⟨w.heap.size + 1, o, none⟩ = false := fun o => (Below.frozen x5 (p := ⟨w.heap.size + 1, o, none⟩) (cell_lt p0)).trans (pf o)
  clear m0 m1 m2 m3 m4 m5 m6 m7 m8 m9 n0 n1 n2 n3 n4 p0 p1 p2 p3 pf Y4 sz4 x5 Hgo
  cases hgo : decide (offsL xs ss a9 = ups a9 (offsL xs ss a9).length)
  · have hn := hide (hb2.out.trans (if_neg (of_decide_eq_false hgo)))
    clear hgo
    go_wp2
    exact bodyPost_ret (v := .agg #[.int .i64 13, .slice none 0 0, .slice none 0 0, .int .i64 0]) (by simp [results, Try.results42, go_sem, set4_0 v0, set4_1 v1, set4_2 v2, set4_3 v3]) rfl (vr_bad hn.out Y5.out sz5.out)
  have hn := hide (hb2.out.trans (if_pos (of_decide_eq_true hgo)))
  clear hgo hb2 hbr
  go_wp2_with fail
  refine (Hrm.out HG.out _).mono ?_
  rintro e w6 ⟨rfl, x6⟩
  have y0 := x6.box v0
  have y1 := x6.box v1
  have y2 := x6.box v2
  have y3 := x6.box v3
  have yf : ∀ o, w6.frozen? ⟨w.heap.size + 1, o, none⟩ = false := fun o => (x6.fz _).trans (vf o)
  have Y6 := hide (Bel.tr Y5.out x6.bl)
  have sz6 := hide (Nat.le_trans sz5.out (Below.size x6.bl))
  clear x6 v0 v1 v2 v3 vf Y5 sz5 o0 o1 o2 o3 o4 o9 Hrm
  go_wp2_with fail
  refine (view_any _ ys (rmS ys) a9 HG.out.1 (rmS_len ys)).mono ?_
  rintro e w7 ⟨sa4, sb4, ca4, cb4, rfl, hT4, x7⟩
  have z0 := Bel.box x7 y0
  have z1 := Bel.box x7 y1
  have z2 := Bel.box x7 y2
  have z3 := Bel.box x7 y3
  have HT4 := hide hT4
  have HB4 := hide (Bel.tr Y6.out x7)
  have zf : ∀ o, w7.frozen? ⟨w.heap.size + 1, o, none⟩ = false := fun o => (Below.frozen x7 (p := ⟨w.heap.size + 1, o, none⟩) (cell_lt y0)).trans (yf o)
  clear hT4 x7 y0 y1 y2 y3 yf
  generalize hl1 : (rmS ys).length = l1
  have Hl1 := hide hl1
  clear hl1
  go_wp2
  rw [← Hl1.out]
  exact bodyPost_ret (v := .agg #[.int .i64 0, .slice sa4 ys.length ca4, .slice sb4 (rmS ys).length cb4, .int .i64 a9]) (by simp [results, Try.results42, go_sem, set4_0 z0, set4_1 z1, set4_2 z2, set4_3 z3]) rfl (vr_good hn.out HB4.out sz6.out HT4.out)
end Go.Proofs.Ytiekkninnjffpaa
