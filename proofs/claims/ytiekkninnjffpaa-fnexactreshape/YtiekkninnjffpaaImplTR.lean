import Derived.Test.YtiekkninnjffpaaPerm
namespace Go.Proofs.Ytiekkninnjffpaa
open Go.ChangeShapes Go.RowKit
set_option linter.unusedSimpArgs false
set_option linter.unusedVariables false

def trx (xs ps : List Int) : List Int := ps.map fun p => xs.getD p.toNat 0
theorem trx_len (xs ps : List Int) : (trx xs ps).length = ps.length := by simp [trx]
theorem trx_getD (xs ps : List Int) (j : Nat) : (trx xs ps).getD j 0 = if j < ps.length then xs.getD (ps.getD j 0).toNat 0 else 0 := by
  unfold trx
  by_cases h : j < ps.length
  · rw [if_pos h]; simp [List.getD_eq_getElem?_getD, h]
  · rw [if_neg h]; simp [List.getD_eq_getElem?_getD, h]
def trL (xs ss : List Int) (off : Int) (ps : List Int) : Int × List Int × List Int × Int :=
  if ValidV xs ss off then (if PermOk ps xs.length then (0, trx xs ps, trx ss ps, off) else (5, [], [], 0)) else (12, [], [], 0)
theorem vint {a b : Int} (h : Value.int .i64 a = Value.int .i64 b) : a = b := by injection h

/-- The world of the loop: the answer at w.heap.size + 1, f at F, out at B. -/
structure TW (w wr : World) (F B : Nat) (xs ss ps : List Int) (off : Int) (k : Nat) : Prop where
  r0 : wr.cell? ⟨w.heap.size + 1, 0, none⟩ = some (.int .i64 0)
  r1 : wr.cell? ⟨w.heap.size + 1, 1, none⟩ = some (.slice none 0 0)
  r2 : wr.cell? ⟨w.heap.size + 1, 2, none⟩ = some (.slice none 0 0)
  r3 : wr.cell? ⟨w.heap.size + 1, 3, none⟩ = some (.int .i64 0)
  fl : ∀ j, j < 4 → wr.cell? ⟨F, 1 + j, none⟩ = some (.int .i64 (xs.getD j 0))
  fs : ∀ j, j < 4 → wr.cell? ⟨F, 5 + j, none⟩ = some (.int .i64 (ss.getD j 0))
  o0 : wr.cell? ⟨B, 0, none⟩ = some (.int .i64 xs.length)
  ol : ∀ j, j < 4 → wr.cell? ⟨B, 1 + j, none⟩ = some (.int .i64 (if j < k then (trx xs ps).getD j 0 else xs.getD j 0))
  os : ∀ j, j < 4 → wr.cell? ⟨B, 5 + j, none⟩ = some (.int .i64 (if j < k then (trx ss ps).getD j 0 else ss.getD j 0))
  o9 : wr.cell? ⟨B, 9, none⟩ = some (.int .i64 off)
  ex : Ext w wr
  hF : w.heap.size + 1 < F
  hB : F < B
  sz : B < wr.heap.size
theorem TW.drew {w wr : World} {F B : Nat} {xs ss ps : List Int} {off : Int} {k : Nat} (h : TW w wr F B xs ss ps off k) : TW w wr.drew F B xs ss ps off k :=
  ⟨h.r0, h.r1, h.r2, h.r3, h.fl, h.fs, h.o0, h.ol, h.os, h.o9, h.ex.drew, h.hF, h.hB, h.sz⟩
theorem TW.step {w wr : World} {F B : Nat} {xs ss ps : List Int} {off : Int} {k : Nat} (h : TW w wr F B xs ss ps off k) (hk : k < 4) {x y : Int} (hx : x = (trx xs ps).getD k 0) (hy : y = (trx ss ps).getD k 0) :
    TW w ((wr.setCell ⟨B, 1 + k, none⟩ (.int .i64 x)).setCell ⟨B, 5 + k, none⟩ (.int .i64 y)) F B xs ss ps off (k + 1) := by
  have m : Mut B wr ((wr.setCell ⟨B, 1 + k, none⟩ (.int .i64 x)).setCell ⟨B, 5 + k, none⟩ (.int .i64 y)) := ((Mut.refl _ _).setCell _ _).setCell _ _
  have h1 := h.hF
  have h2 := h.hB
  refine ⟨m.box (by omega) h.r0, m.box (by omega) h.r1, m.box (by omega) h.r2, m.box (by omega) h.r3, fun j hj => m.box (by omega) (h.fl j hj), fun j hj => m.box (by omega) (h.fs j hj), near (by omega) (near (by omega) h.o0), fun j hj => ?_, fun j hj => ?_, near (by omega) (near (by omega) h.o9), (h.ex.setCell (by show w.heap.size ≤ B; omega) _).setCell (by show w.heap.size ≤ B; omega) _, h1, h2, Nat.lt_of_lt_of_le h.sz m.size⟩
  · refine near (by omega) ?_
    by_cases e : k = j
    · subst e
      rw [if_pos (by omega), ← hx]
      exact World.cell?_setCell_same _ _ _ (h.ol k hj)
    · refine near (by omega) ((h.ol j hj).trans ?_)
      by_cases q : j < k
      · rw [if_pos q, if_pos (by omega)]
      · rw [if_neg q, if_neg (by omega)]
  · by_cases e : k = j
    · subst e
      rw [if_pos (by omega), ← hy]
      exact World.cell?_setCell_same _ _ _ (near (by omega) (h.os k hj))
    · refine near (by omega) (near (by omega) ((h.os j hj).trans ?_))
      by_cases q : j < k
      · rw [if_pos q, if_pos (by omega)]
      · rw [if_neg q, if_neg (by omega)]
def TRel (w : World) (F B : Nat) (xs ss ps : List Int) (off : Int) (i : Value) (wr : World) : Prop := ∃ k : Nat, i = .int .i64 k ∧ k ≤ ps.length ∧ TW w wr F B xs ss ps off k

set_option maxRecDepth 100000 in
set_option maxHeartbeats 4000000 in
theorem iTR_any {w : World} {vS vT vP : Value} {xs ss ys : List Int} (hS : Ints w vS xs) (hT : Ints w vT ss) (hP : Ints w vP ys) (off : Int) (lx : xs.length ≤ 1048576) (ls : ss.length ≤ 1048576) (ly : ys.length ≤ 1048576) {c : Int} {L S : List Int} {o : Int} (hr : trL xs ss off ys = (c, L, S, o)) :
    Calls Try.prog 35 #[.agg #[vS, vT, .int .i64 off], vP] w fun e w' => VROk w c L S o e w' := by
  have Hr := hide hr.symm
  clear hr
  have x0 : Ext w ((w.alloc (.cells #[vS, vT, .int .i64 off] 27)).alloc (.cells #[.int .i64 0, .slice none 0 0, .slice none 0 0, .int .i64 0] 43)) := ((Ext.refl w).alloc _ _).alloc _ _
  have n2 := fun j => new_cell (w.alloc (.cells #[vS, vT, .int .i64 off] 27)) #[.int .i64 0, .slice none 0 0, .slice none 0 0, .int .i64 0] 43 (w.heap.size + 1) (by simp) j
  have q0 : ((w.alloc (.cells #[vS, vT, .int .i64 off] 27)).alloc (.cells #[.int .i64 0, .slice none 0 0, .slice none 0 0, .int .i64 0] 43)).cell? ⟨w.heap.size + 1, 0, none⟩ = some (.int .i64 0) := n2 0
  have q1 : ((w.alloc (.cells #[vS, vT, .int .i64 off] 27)).alloc (.cells #[.int .i64 0, .slice none 0 0, .slice none 0 0, .int .i64 0] 43)).cell? ⟨w.heap.size + 1, 1, none⟩ = some (.slice none 0 0) := n2 1
  have q2 : ((w.alloc (.cells #[vS, vT, .int .i64 off] 27)).alloc (.cells #[.int .i64 0, .slice none 0 0, .slice none 0 0, .int .i64 0] 43)).cell? ⟨w.heap.size + 1, 2, none⟩ = some (.slice none 0 0) := n2 2
  have q3 : ((w.alloc (.cells #[vS, vT, .int .i64 off] 27)).alloc (.cells #[.int .i64 0, .slice none 0 0, .slice none 0 0, .int .i64 0] 43)).cell? ⟨w.heap.size + 1, 3, none⟩ = some (.int .i64 0) := n2 3
  have X0 := hide x0
  have HS := hide (hS.ext x0)
  have HT := hide (hT.ext x0)
  have HP := hide (hP.ext x0)
  have sz0 : Hid (w.heap.size + 2 ≤ ((w.alloc (.cells #[vS, vT, .int .i64 off] 27)).alloc (.cells #[.int .i64 0, .slice none 0 0, .slice none 0 0, .int .i64 0] 43)).heap.size) := by show w.heap.size + 2 ≤ ((w.alloc (.cells #[vS, vT, .int .i64 off] 27)).alloc (.cells #[.int .i64 0, .slice none 0 0, .slice none 0 0, .int .i64 0] 43)).heap.size; simp
  obtain ⟨sa, ca, rfl, _⟩ := hS
  obtain ⟨sb, cb, rfl, _⟩ := hT
  obtain ⟨sp, cp, rfl, rP⟩ := hP
  have RP0 := hide rP
  clear x0 n2 rP
  go_enter Try.func35, Try.ntmps35
  go_wp2_with fail
  refine (fixView_any HS.out HT.out off lx ls).mono ?_
  rintro e w1 ⟨A, rfl, hA, ⟨a0, a1, a2, a3, a4, a5, a6, a7, a8, a9, rfl⟩, x1⟩
  have y1 : Ext w1 (w1.alloc (.cells #[.int .i64 a0, .int .i64 a1, .int .i64 a2, .int .i64 a3, .int .i64 a4, .int .i64 a5, .int .i64 a6, .int .i64 a7, .int .i64 a8, .int .i64 a9] 64)) := (Ext.refl w1).alloc _ _
  have n1 := fun j => new_cell w1 #[.int .i64 a0, .int .i64 a1, .int .i64 a2, .int .i64 a3, .int .i64 a4, .int .i64 a5, .int .i64 a6, .int .i64 a7, .int .i64 a8, .int .i64 a9] 64 w1.heap.size rfl j
  have f0 : (w1.alloc (.cells #[.int .i64 a0, .int .i64 a1, .int .i64 a2, .int .i64 a3, .int .i64 a4, .int .i64 a5, .int .i64 a6, .int .i64 a7, .int .i64 a8, .int .i64 a9] 64)).cell? ⟨w1.heap.size, 0, none⟩ = some (.int .i64 a0) := n1 0
  have f1 : (w1.alloc (.cells #[.int .i64 a0, .int .i64 a1, .int .i64 a2, .int .i64 a3, .int .i64 a4, .int .i64 a5, .int .i64 a6, .int .i64 a7, .int .i64 a8, .int .i64 a9] 64)).cell? ⟨w1.heap.size, 1, none⟩ = some (.int .i64 a1) := n1 1
  have f2 : (w1.alloc (.cells #[.int .i64 a0, .int .i64 a1, .int .i64 a2, .int .i64 a3, .int .i64 a4, .int .i64 a5, .int .i64 a6, .int .i64 a7, .int .i64 a8, .int .i64 a9] 64)).cell? ⟨w1.heap.size, 2, none⟩ = some (.int .i64 a2) := n1 2
  have f3 : (w1.alloc (.cells #[.int .i64 a0, .int .i64 a1, .int .i64 a2, .int .i64 a3, .int .i64 a4, .int .i64 a5, .int .i64 a6, .int .i64 a7, .int .i64 a8, .int .i64 a9] 64)).cell? ⟨w1.heap.size, 3, none⟩ = some (.int .i64 a3) := n1 3
  have f4 : (w1.alloc (.cells #[.int .i64 a0, .int .i64 a1, .int .i64 a2, .int .i64 a3, .int .i64 a4, .int .i64 a5, .int .i64 a6, .int .i64 a7, .int .i64 a8, .int .i64 a9] 64)).cell? ⟨w1.heap.size, 4, none⟩ = some (.int .i64 a4) := n1 4
  have f5 : (w1.alloc (.cells #[.int .i64 a0, .int .i64 a1, .int .i64 a2, .int .i64 a3, .int .i64 a4, .int .i64 a5, .int .i64 a6, .int .i64 a7, .int .i64 a8, .int .i64 a9] 64)).cell? ⟨w1.heap.size, 5, none⟩ = some (.int .i64 a5) := n1 5
  have f6 : (w1.alloc (.cells #[.int .i64 a0, .int .i64 a1, .int .i64 a2, .int .i64 a3, .int .i64 a4, .int .i64 a5, .int .i64 a6, .int .i64 a7, .int .i64 a8, .int .i64 a9] 64)).cell? ⟨w1.heap.size, 6, none⟩ = some (.int .i64 a6) := n1 6
  have f7 : (w1.alloc (.cells #[.int .i64 a0, .int .i64 a1, .int .i64 a2, .int .i64 a3, .int .i64 a4, .int .i64 a5, .int .i64 a6, .int .i64 a7, .int .i64 a8, .int .i64 a9] 64)).cell? ⟨w1.heap.size, 7, none⟩ = some (.int .i64 a7) := n1 7
  have f8 : (w1.alloc (.cells #[.int .i64 a0, .int .i64 a1, .int .i64 a2, .int .i64 a3, .int .i64 a4, .int .i64 a5, .int .i64 a6, .int .i64 a7, .int .i64 a8, .int .i64 a9] 64)).cell? ⟨w1.heap.size, 8, none⟩ = some (.int .i64 a8) := n1 8
  have f9 : (w1.alloc (.cells #[.int .i64 a0, .int .i64 a1, .int .i64 a2, .int .i64 a3, .int .i64 a4, .int .i64 a5, .int .i64 a6, .int .i64 a7, .int .i64 a8, .int .i64 a9] 64)).cell? ⟨w1.heap.size, 9, none⟩ = some (.int .i64 a9) := n1 9
  have r0 := y1.box (x1.box q0)
  have r1 := y1.box (x1.box q1)
  have r2 := y1.box (x1.box q2)
  have r3 := y1.box (x1.box q3)
  have Y1 := hide ((X0.out.trans x1).trans y1)
  have HP1 := hide ((HP.out.ext x1).ext y1)
  have sz1 : Hid (w.heap.size + 2 ≤ (w1.alloc (.cells #[.int .i64 a0, .int .i64 a1, .int .i64 a2, .int .i64 a3, .int .i64 a4, .int .i64 a5, .int .i64 a6, .int .i64 a7, .int .i64 a8, .int .i64 a9] 64)).heap.size ∧ w.heap.size + 2 ≤ w1.heap.size) := ⟨Nat.le_trans sz0.out (Below.size (x1.trans y1).bl), Nat.le_trans sz0.out (Below.size x1.bl)⟩
  have rf := fun o => Y1.out.unfrozen (b := w.heap.size + 1) (by omega) o
  have HA := hide hA
  clear hA n1 y1 x1 HS HT q0 q1 q2 q3
  cases hv : (dcValidV xs ss off)
  · have hn := hide (Hr.out.trans (show trL xs ss off ys = (12, [], [], 0) from if_neg (of_decide_eq_false hv)))
    clear hv
    go_wp2
    exact bodyPost_ret (v := .agg #[.int .i64 12, .slice none 0 0, .slice none 0 0, .int .i64 0]) (by simp [results, Try.results35, go_sem, set4_0 r0, set4_1 r1, set4_2 r2, set4_3 r3]) rfl (vr_bad hn.out Y1.out.bl sz1.out.1)
  have gv : ValidV xs ss off := of_decide_eq_true hv
  have hA := HA.out gv
  have hbr : Hid (trL xs ss off ys = (if PermOk ys xs.length then (0, trx xs ys, trx ss ys, off) else (5, [], [], 0))) := if_pos gv
  have hx4 := gv.1.1
  have Hl := hide gv.2.1
  have E0 : Hid (a0 = (xs.length : Int)) := vint (congrArg (fun (A : Array Value) => A.getD 0 undef) hA)
  have E1 : Hid (a1 = xs.getD 0 0) := vint (congrArg (fun (A : Array Value) => A.getD 1 undef) hA)
  have E2 : Hid (a2 = xs.getD 1 0) := vint (congrArg (fun (A : Array Value) => A.getD 2 undef) hA)
  have E3 : Hid (a3 = xs.getD 2 0) := vint (congrArg (fun (A : Array Value) => A.getD 3 undef) hA)
  have E4 : Hid (a4 = xs.getD 3 0) := vint (congrArg (fun (A : Array Value) => A.getD 4 undef) hA)
  have E5 : Hid (a5 = ss.getD 0 0) := vint (congrArg (fun (A : Array Value) => A.getD 5 undef) hA)
  have E6 : Hid (a6 = ss.getD 1 0) := vint (congrArg (fun (A : Array Value) => A.getD 6 undef) hA)
  have E7 : Hid (a7 = ss.getD 2 0) := vint (congrArg (fun (A : Array Value) => A.getD 7 undef) hA)
  have E8 : Hid (a8 = ss.getD 3 0) := vint (congrArg (fun (A : Array Value) => A.getD 8 undef) hA)
  have E9 : Hid (a9 = off) := vint (congrArg (fun (A : Array Value) => A.getD 9 undef) hA)
  clear hA HA gv
  have e0 := E0.out
  subst e0
  generalize hvb : (dcValidV xs ss off) = vb at hv
  subst hv
  clear hvb
  go_wp2_with fail
  refine (names_any HP1.out xs.length hx4 ly).mono ?_
  rintro e w2 ⟨rfl, x2⟩
  have g0 := x2.box f0
  have g1 := x2.box f1
  have g2 := x2.box f2
  have g3 := x2.box f3
  have g4 := x2.box f4
  have g5 := x2.box f5
  have g6 := x2.box f6
  have g7 := x2.box f7
  have g8 := x2.box f8
  have g9 := x2.box f9
  have u0 := x2.box r0
  have u1 := x2.box r1
  have u2 := x2.box r2
  have u3 := x2.box r3
  have Y2 := hide (Y1.out.trans x2)
  have sz2 : Hid (w.heap.size + 2 ≤ w2.heap.size ∧ w1.heap.size < w2.heap.size) := ⟨Nat.le_trans sz1.out.1 (Below.size x2.bl), cell_lt g0⟩
  have uf := fun o => Y2.out.unfrozen (b := w.heap.size + 1) (by omega) o
  clear x2 HP1 f0 f1 f2 f3 f4 f5 f6 f7 f8 f9 r0 r1 r2 r3 rf
  cases hp : (dcPermOk ys xs.length)
  · have hn := hide (Hr.out.trans (hbr.out.trans (if_neg (of_decide_eq_false hp))))
    clear hp
    go_wp2
    exact bodyPost_ret (v := .agg #[.int .i64 5, .slice none 0 0, .slice none 0 0, .int .i64 0]) (by simp [results, Try.results35, go_sem, set4_0 u0, set4_1 u1, set4_2 u2, set4_3 u3]) rfl (vr_bad hn.out Y2.out.bl sz2.out.1)
  have gp : PermOk ys xs.length := of_decide_eq_true hp
  have Hp := hide gp
  have hyl : ys.length = xs.length := gp.1
  clear gp
  generalize hpb : (dcPermOk ys xs.length) = pb at hp
  subst hp
  clear hpb
  have y3 : Ext w2 (w2.alloc (.cells #[.int .i64 xs.length, .int .i64 a1, .int .i64 a2, .int .i64 a3, .int .i64 a4, .int .i64 a5, .int .i64 a6, .int .i64 a7, .int .i64 a8, .int .i64 a9] 64)) := (Ext.refl w2).alloc _ _
  have n3 := fun j => new_cell w2 #[.int .i64 xs.length, .int .i64 a1, .int .i64 a2, .int .i64 a3, .int .i64 a4, .int .i64 a5, .int .i64 a6, .int .i64 a7, .int .i64 a8, .int .i64 a9] 64 w2.heap.size rfl j
  have S0 : Hid (TW w (w2.alloc (.cells #[.int .i64 xs.length, .int .i64 a1, .int .i64 a2, .int .i64 a3, .int .i64 a4, .int .i64 a5, .int .i64 a6, .int .i64 a7, .int .i64 a8, .int .i64 a9] 64)) w1.heap.size w2.heap.size xs ss ys off 0) := by
    refine ⟨y3.box u0, y3.box u1, y3.box u2, y3.box u3, fun j hj => ?_, fun j hj => ?_, n3 0, fun j hj => ?_, fun j hj => ?_, ?_, Y2.out.trans y3, by have := sz1.out; omega, sz2.out.2, by simp⟩
    · obtain rfl | rfl | rfl | rfl : j = 0 ∨ j = 1 ∨ j = 2 ∨ j = 3 := by omega
      · rw [← E1.out]; exact y3.box g1
      · rw [← E2.out]; exact y3.box g2
      · rw [← E3.out]; exact y3.box g3
      · rw [← E4.out]; exact y3.box g4
    · obtain rfl | rfl | rfl | rfl : j = 0 ∨ j = 1 ∨ j = 2 ∨ j = 3 := by omega
      · rw [← E5.out]; exact y3.box g5
      · rw [← E6.out]; exact y3.box g6
      · rw [← E7.out]; exact y3.box g7
      · rw [← E8.out]; exact y3.box g8
    · rw [if_neg (by omega)]
      obtain rfl | rfl | rfl | rfl : j = 0 ∨ j = 1 ∨ j = 2 ∨ j = 3 := by omega
      · rw [← E1.out]; exact n3 1
      · rw [← E2.out]; exact n3 2
      · rw [← E3.out]; exact n3 3
      · rw [← E4.out]; exact n3 4
    · rw [if_neg (by omega)]
      obtain rfl | rfl | rfl | rfl : j = 0 ∨ j = 1 ∨ j = 2 ∨ j = 3 := by omega
      · rw [← E5.out]; exact n3 5
      · rw [← E6.out]; exact n3 6
      · rw [← E7.out]; exact n3 7
      · rw [← E8.out]; exact n3 8
    · rw [← E9.out]; exact n3 9
  have Hyl := hide hyl
  clear y3 n3 hyl
  go_wp2_with fail
  generalize hFF : w1.heap.size = F at S0 ⊢
  generalize hBB : w2.heap.size = B at S0 ⊢
  clear hFF hBB
  go_loopw [28] (fun i wr => TRel w F B xs ss ys off i wr) (fun i _ => ys.length - (intOf i).toNat)
  case atStart => exact ⟨0, rfl, by omega, S0.out⟩
  case round =>
    obtain ⟨k, rfl, hk, hW⟩ := hrel
    have HW := hide hW
    clear hW
    by_cases hlt : k < ys.length
    · rcases RP0.out with h0 | ⟨bp, op, rfl, hrp⟩
      · rw [h0] at hlt; simp at hlt
      have qp := HW.out.ex.box (hrp k hlt)
      have hk0 : (0 : Int) ≤ (k : Int) := Int.natCast_nonneg _
      have hk1 : (k : Int) < (ys.length : Int) := by omega
      have hk4 : k < 4 := by have := Hyl.out; omega
      have hk44 : (k : Int) < 4 := by omega
      have hpk := Hp.out.2.1 k hlt
      obtain ⟨a, hxa⟩ : ∃ a : Nat, ys.getD k 0 = (a : Int) := ⟨(ys.getD k 0).toNat, by omega⟩
      have ha4 : a < 4 := by omega
      have ha0 : (0 : Int) ≤ (a : Int) := Int.natCast_nonneg _
      have ha44 : (a : Int) < 4 := by omega
      have qx := HW.out.fl a ha4
      have qs := HW.out.fs a ha4
      have ol := HW.out.ol k hk4
      have os := HW.out.os k hk4
      have hst := hide (HW.out.drew.step hk4 (x := xs.getD a 0) (y := ss.getD a 0) (by rw [trx_getD, if_pos hlt, hxa, Int.toNat_natCast]) (by rw [trx_getD, if_pos hlt, hxa, Int.toNat_natCast]))
      have bf := fun o => HW.out.ex.unfrozen (b := B) (by have := HW.out.hF; have := HW.out.hB; omega) o
      have hFB : Hid (B ≠ F) := by show B ≠ F; have := HW.out.hB; omega
      rw [hxa] at qp
      rw [if_neg (by omega)] at ol os
      generalize xs.getD k 0 = X0' at ol
      generalize ss.getD k 0 = Z0' at os
      generalize xs.getD a 0 = X at qx hst
      generalize ss.getD a 0 = Z at qs hst
      have os2 : (wr.setCell ⟨B, 1 + k, none⟩ (.int .i64 X)).drew.cell? ⟨B, 5 + k, none⟩ = some (.int .i64 Z0') := near (by omega) os
      have SA : Hid ((fun w' => w'.cell? ⟨F, 1 + a, none⟩ = some (.int .i64 X) ∧ w'.cell? ⟨F, 5 + a, none⟩ = some (.int .i64 Z)) wr.drew) := ⟨qx, qs⟩
      have SB' : Hid ((fun w' => w'.cell? ⟨F, 1 + a, none⟩ = some (.int .i64 X) ∧ w'.cell? ⟨F, 5 + a, none⟩ = some (.int .i64 Z)) (wr.setCell ⟨B, 1 + k, none⟩ (.int .i64 X)).drew) := ⟨far1 hFB.out qx, far1 hFB.out qs⟩
      have SC' : Hid ((fun w' => w'.cell? ⟨F, 1 + a, none⟩ = some (.int .i64 X) ∧ w'.cell? ⟨F, 5 + a, none⟩ = some (.int .i64 Z)) ((wr.setCell ⟨B, 1 + k, none⟩ (.int .i64 X)).setCell ⟨B, 5 + k, none⟩ (.int .i64 Z)).drew) := ⟨far1 hFB.out (far1 hFB.out qx), far1 hFB.out (far1 hFB.out qs)⟩
      clear hrp hpk hxa
      go_wp2_with fail
      go_region_held3 (fun w' => w'.cell? ⟨F, 1 + a, none⟩ = some (.int .i64 X) ∧ w'.cell? ⟨F, 5 + a, none⟩ = some (.int .i64 Z)) (first | with_reducible exact SA.out | with_reducible exact SB'.out | with_reducible exact SC'.out | exact SA.out | exact SB'.out | exact SC'.out | fail) (fail)
      go_wp2
      go_roundw
      · exact ⟨k + 1, by go_num, by omega, hst.out⟩
      · simp [intOf]; omega
    · have hkk : k = ys.length := by omega
      subst hkk
      have hyl := Hyl.out
      have hoj : ∀ j, j < 4 → wr.cell? ⟨B, 1 + j, none⟩ = some (.int .i64 ((trx xs ys).getD j 0)) := fun j hj => by
        rw [HW.out.ol j hj]
        by_cases e : j < ys.length
        · rw [if_pos e]
        · rw [if_neg e, trx_getD, if_neg e, List.getD_eq_getElem?_getD, List.getElem?_eq_none (by omega)]; rfl
      have hsj : ∀ j, j < 4 → wr.cell? ⟨B, 5 + j, none⟩ = some (.int .i64 ((trx ss ys).getD j 0)) := fun j hj => by
        rw [HW.out.os j hj]
        by_cases e : j < ys.length
        · rw [if_pos e]
        · rw [if_neg e, trx_getD, if_neg e, List.getD_eq_getElem?_getD, List.getElem?_eq_none (by have := Hl.out; omega)]; rfl
      have hV : Hid (∀ W, Calls Try.prog 64 #[.agg (vw (trx xs ys) (trx ss ys) off)] W fun e w' => VOk W (trx xs ys) (trx ss ys) off e w') := fun W => view_any W _ _ off (by rw [trx_len]; omega) (by rw [trx_len, trx_len])
      have hn := hide (Hr.out.trans (hbr.out.trans (if_pos Hp.out)))
      have htl : (((trx xs ys).length : Nat) : Int) = (xs.length : Int) := by rw [trx_len]; omega
      have h0 := HW.out.o0
      have h1 : wr.cell? ⟨B, 1, none⟩ = _ := hoj 0 (by omega)
      have h2 : wr.cell? ⟨B, 2, none⟩ = _ := hoj 1 (by omega)
      have h3 : wr.cell? ⟨B, 3, none⟩ = _ := hoj 2 (by omega)
      have h4 : wr.cell? ⟨B, 4, none⟩ = _ := hoj 3 (by omega)
      have h5 : wr.cell? ⟨B, 5, none⟩ = _ := hsj 0 (by omega)
      have h6 : wr.cell? ⟨B, 6, none⟩ = _ := hsj 1 (by omega)
      have h7 : wr.cell? ⟨B, 7, none⟩ = _ := hsj 2 (by omega)
      have h8 : wr.cell? ⟨B, 8, none⟩ = _ := hsj 3 (by omega)
      have h9 := HW.out.o9
      have v0 := HW.out.r0
      have v1 := HW.out.r1
      have v2 := HW.out.r2
      have v3 := HW.out.r3
      have vf := fun o => HW.out.ex.unfrozen (b := w.heap.size + 1) (by omega) o
      unfold vw at hV
      rw [htl] at hV
      clear hoj hsj htl hyl
      generalize (trx xs ys).getD 0 0 = d1 at h1 hV
      generalize (trx xs ys).getD 1 0 = d2 at h2 hV
      generalize (trx xs ys).getD 2 0 = d3 at h3 hV
      generalize (trx xs ys).getD 3 0 = d4 at h4 hV
      generalize (trx ss ys).getD 0 0 = d5 at h5 hV
      generalize (trx ss ys).getD 1 0 = d6 at h6 hV
      generalize (trx ss ys).getD 2 0 = d7 at h7 hV
      generalize (trx ss ys).getD 3 0 = d8 at h8 hV
      go_wp2_with fail
      refine (hV.out _).mono ?_
      rintro e w4 ⟨sa4, sb4, ca4, cb4, rfl, hT4, x4⟩
      have z0 := Bel.box x4 v0
      have z1 := Bel.box x4 v1
      have z2 := Bel.box x4 v2
      have z3 := Bel.box x4 v3
      have HT4 := hide hT4
      have HB4 := hide (Bel.tr HW.out.ex.bl x4)
      have zf : ∀ o, w4.frozen? ⟨w.heap.size + 1, o, none⟩ = false := fun o => (Below.frozen x4 (p := ⟨w.heap.size + 1, o, none⟩) (cell_lt v0)).trans (vf o)
      have sz3 : Hid (w.heap.size + 2 ≤ wr.heap.size) := by show w.heap.size + 2 ≤ wr.heap.size; have := HW.out.hF; have := HW.out.hB; have := HW.out.sz; omega
      clear hT4 x4 v0 v1 v2 v3 vf
      generalize hl1 : (trx xs ys).length = l1
      generalize hl2 : (trx ss ys).length = l2
      have Hl1 := hide hl1
      have Hl2 := hide hl2
      clear hl1 hl2
      go_wp2
      rw [← Hl1.out, ← Hl2.out]
      exact bodyPost_ret (v := .agg #[.int .i64 0, .slice sa4 (trx xs ys).length ca4, .slice sb4 (trx ss ys).length cb4, .int .i64 off]) (by simp [results, Try.results35, go_sem, set4_0 z0, set4_1 z1, set4_2 z2, set4_3 z3]) rfl (vr_good hn.out HB4.out sz3.out HT4.out)
end Go.Proofs.Ytiekkninnjffpaa
