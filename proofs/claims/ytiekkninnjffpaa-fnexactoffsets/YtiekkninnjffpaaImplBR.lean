import Derived.Test.YtiekkninnjffpaaStr
import Derived.Test.YtiekkninnjffpaaViewW
import Derived.Test.YtiekkninnjffpaaLawVV
namespace Go.Proofs.Ytiekkninnjffpaa
open Go.ChangeShapes Go.RowKit
set_option linter.unusedSimpArgs false
set_option linter.unusedVariables false

theorem Two.low {lo l : Nat} {W : World} {v u : Value} {xs ss : List Int} (h : Two l W v u xs ss) (hl : lo ≤ l) : Two lo W v u xs ss := by
  obtain ⟨g, k, h1, h2, h3⟩ := h
  exact ⟨g, k, by omega, by omega, h3⟩

/-- The answer of a call that gives a view. -/
def VROk (w : World) (c : Int) (L S : List Int) (o : Int) (e : Ending) (w' : World) : Prop :=
  ∃ (sa sb : Option Addr) (ca cb : Nat), e = .returned (.agg #[.int .i64 c, .slice sa L.length ca, .slice sb S.length cb, .int .i64 o]) ∧ Two w.heap.size w' (.slice sa L.length ca) (.slice sb S.length cb) L S ∧ Bel w w'

theorem chain4 {w W : World} {v0 v1 v2 v3 : Value} (h : Bel w W) : Bel w ((((W.setCell ⟨w.heap.size + 1, 0, none⟩ v0).setCell ⟨w.heap.size + 1, 1, none⟩ v1).setCell ⟨w.heap.size + 1, 2, none⟩ v2).setCell ⟨w.heap.size + 1, 3, none⟩ v3) :=
  (((h.setCell (by show w.heap.size ≤ w.heap.size + 1; omega) _).setCell (by show w.heap.size ≤ w.heap.size + 1; omega) _).setCell (by show w.heap.size ≤ w.heap.size + 1; omega) _).setCell (by show w.heap.size ≤ w.heap.size + 1; omega) _
theorem chain4m (R : Nat) (W : World) (v0 v1 v2 v3 : Value) : Mut R W ((((W.setCell ⟨R, 0, none⟩ v0).setCell ⟨R, 1, none⟩ v1).setCell ⟨R, 2, none⟩ v2).setCell ⟨R, 3, none⟩ v3) :=
  ((((Mut.refl _ _).setCell _ _).setCell _ _).setCell _ _).setCell _ _
theorem set4_0 {W : World} {R : Nat} {v0 v1 v2 v3 u : Value} (h : W.cell? ⟨R, 0, none⟩ = some u) : ((((W.setCell ⟨R, 0, none⟩ v0).setCell ⟨R, 1, none⟩ v1).setCell ⟨R, 2, none⟩ v2).setCell ⟨R, 3, none⟩ v3).cell? ⟨R, 0, none⟩ = some v0 :=
  near (by omega) (set3_0 h)
theorem set4_1 {W : World} {R : Nat} {v0 v1 v2 v3 u : Value} (h : W.cell? ⟨R, 1, none⟩ = some u) : ((((W.setCell ⟨R, 0, none⟩ v0).setCell ⟨R, 1, none⟩ v1).setCell ⟨R, 2, none⟩ v2).setCell ⟨R, 3, none⟩ v3).cell? ⟨R, 1, none⟩ = some v1 :=
  near (by omega) (set3_1 h)
theorem set4_2 {W : World} {R : Nat} {v0 v1 v2 v3 u : Value} (h : W.cell? ⟨R, 2, none⟩ = some u) : ((((W.setCell ⟨R, 0, none⟩ v0).setCell ⟨R, 1, none⟩ v1).setCell ⟨R, 2, none⟩ v2).setCell ⟨R, 3, none⟩ v3).cell? ⟨R, 2, none⟩ = some v2 :=
  near (by omega) (set3_2 h)
theorem set4_3 {W : World} {R : Nat} {v0 v1 v2 v3 u : Value} (h : W.cell? ⟨R, 3, none⟩ = some u) : ((((W.setCell ⟨R, 0, none⟩ v0).setCell ⟨R, 1, none⟩ v1).setCell ⟨R, 2, none⟩ v2).setCell ⟨R, 3, none⟩ v3).cell? ⟨R, 3, none⟩ = some v3 :=
  World.cell?_setCell_same _ _ _ (near (by omega) (near (by omega) (near (by omega) h)))

/-- A refusal. -/
theorem vr_bad {w W : World} {c : Int} {L S : List Int} {o k : Int} (hr : (c, L, S, o) = (k, [], [], 0)) (h : Bel w W) (hs : w.heap.size + 2 ≤ W.heap.size) {v0 v1 v2 v3 : Value} :
    VROk w c L S o (.returned (.agg #[.int .i64 k, .slice none 0 0, .slice none 0 0, .int .i64 0])) ((((W.setCell ⟨w.heap.size + 1, 0, none⟩ v0).setCell ⟨w.heap.size + 1, 1, none⟩ v1).setCell ⟨w.heap.size + 1, 2, none⟩ v2).setCell ⟨w.heap.size + 1, 3, none⟩ v3) := by
  simp only [Prod.mk.injEq] at hr
  obtain ⟨rfl, rfl, rfl, rfl⟩ := hr
  exact ⟨none, none, 0, 0, rfl, Two.nil (Nat.le_trans hs (chain4m _ _ _ _ _ _).size), chain4 h⟩

theorem vr_good {w W A : World} {c : Int} {L S : List Int} {o : Int} {sa sb : Option Addr} {ca cb : Nat} {L' S' : List Int} {o' : Int} (hr : (c, L, S, o) = (0, L', S', o')) (h : Bel w W) (hs : w.heap.size + 2 ≤ A.heap.size) (ht : Two A.heap.size W (.slice sa L'.length ca) (.slice sb S'.length cb) L' S') {v0 v1 v2 v3 : Value} :
    VROk w c L S o (.returned (.agg #[.int .i64 0, .slice sa L'.length ca, .slice sb S'.length cb, .int .i64 o'])) ((((W.setCell ⟨w.heap.size + 1, 0, none⟩ v0).setCell ⟨w.heap.size + 1, 1, none⟩ v1).setCell ⟨w.heap.size + 1, 2, none⟩ v2).setCell ⟨w.heap.size + 1, 3, none⟩ v3) := by
  simp only [Prod.mk.injEq] at hr
  obtain ⟨rfl, rfl, rfl, rfl⟩ := hr
  exact ⟨sa, sb, ca, cb, rfl, (ht.mut (chain4m _ _ _ _ _ _) (by omega)).low (by omega), chain4 h⟩

def brL (xs ss : List Int) (off : Int) (ys : List Int) : Int × List Int × List Int × Int :=
  if ValidV xs ss off then (if Good ys ∧ Strs xs ys then (0, ys, bstr xs ss ys, off) else (6, [], [], 0)) else (12, [], [], 0)

set_option maxRecDepth 100000 in
set_option maxHeartbeats 4000000 in
theorem iBR_any {w : World} {vS vT vP : Value} {xs ss ys : List Int} (hS : Ints w vS xs) (hT : Ints w vT ss) (hP : Ints w vP ys) (off : Int) (lx : xs.length ≤ 1048576) (ls : ss.length ≤ 1048576) (ly : ys.length ≤ 1048576) {c : Int} {L S : List Int} {o : Int} (hr : brL xs ss off ys = (c, L, S, o)) :
    Calls Try.prog 40 #[.agg #[vS, vT, .int .i64 off], vP] w fun e w' => VROk w c L S o e w' := by
  have Hr := hide hr.symm
  clear hr
  have x0 : Ext w ((w.alloc (.cells #[vS, vT, .int .i64 off] 27)).alloc (.cells #[.int .i64 0, .slice none 0 0, .slice none 0 0, .int .i64 0] 43)) := ((Ext.refl w).alloc _ _).alloc _ _
  have n2 := fun j => new_cell (w.alloc (.cells #[vS, vT, .int .i64 off] 27)) #[.int .i64 0, .slice none 0 0, .slice none 0 0, .int .i64 0] 43 (w.heap.size + 1) (by simp) j
  have q0 : ((w.alloc (.cells #[vS, vT, .int .i64 off] 27)).alloc (.cells #[.int .i64 0, .slice none 0 0, .slice none 0 0, .int .i64 0] 43)).cell? ⟨w.heap.size + 1, 0, none⟩ = some (.int .i64 0) := n2 0
  have q1 : ((w.alloc (.cells #[vS, vT, .int .i64 off] 27)).alloc (.cells #[.int .i64 0, .slice none 0 0, .slice none 0 0, .int .i64 0] 43)).cell? ⟨w.heap.size + 1, 1, none⟩ = some (.slice none 0 0) := n2 1
  have q2 : ((w.alloc (.cells #[vS, vT, .int .i64 off] 27)).alloc (.cells #[.int .i64 0, .slice none 0 0, .slice none 0 0, .int .i64 0] 43)).cell? ⟨w.heap.size + 1, 2, none⟩ = some (.slice none 0 0) := n2 2
  have q3 : ((w.alloc (.cells #[vS, vT, .int .i64 off] 27)).alloc (.cells #[.int .i64 0, .slice none 0 0, .slice none 0 0, .int .i64 0] 43)).cell? ⟨w.heap.size + 1, 3, none⟩ = some (.int .i64 0) := n2 3
  have X0 := hide x0
  have HS := hide (hS.ext x0)
  have HT := hide (hT.ext x0)
  have HP := hide (hP.ext x0)
  have sz0 : Hid (w.heap.size + 2 ≤ ((w.alloc (.cells #[vS, vT, .int .i64 off] 27)).alloc (.cells #[.int .i64 0, .slice none 0 0, .slice none 0 0, .int .i64 0] 43)).heap.size) := by show w.heap.size + 2 ≤ ((w.alloc (.cells #[vS, vT, .int .i64 off] 27)).alloc (.cells #[.int .i64 0, .slice none 0 0, .slice none 0 0, .int .i64 0] 43)).heap.size; simp
  obtain ⟨sa, ca, rfl, _⟩ := hS
  obtain ⟨sb, cb, rfl, _⟩ := hT
  obtain ⟨sp, cp, rfl, _⟩ := hP
  clear x0 n2
  go_enter Try.func40, Try.ntmps40
  go_wp2_with fail
  refine (fixView_any HS.out HT.out off lx ls).mono ?_
  rintro e w1 ⟨A, rfl, hA, ⟨a0, a1, a2, a3, a4, a5, a6, a7, a8, a9, rfl⟩, x1⟩
  have y1 : Ext w1 (w1.alloc (.cells #[.int .i64 a0, .int .i64 a1, .int .i64 a2, .int .i64 a3, .int .i64 a4, .int .i64 a5, .int .i64 a6, .int .i64 a7, .int .i64 a8, .int .i64 a9] 64)) := (Ext.refl w1).alloc _ _
  have n1 := fun j => new_cell w1 #[.int .i64 a0, .int .i64 a1, .int .i64 a2, .int .i64 a3, .int .i64 a4, .int .i64 a5, .int .i64 a6, .int .i64 a7, .int .i64 a8, .int .i64 a9] 64 w1.heap.size rfl j
  have f0 : (w1.alloc (.cells #[.int .i64 a0, .int .i64 a1, .int .i64 a2, .int .i64 a3, .int .i64 a4, .int .i64 a5, .int .i64 a6, .int .i64 a7, .int .i64 a8, .int .i64 a9] 64)).cell? ⟨w1.heap.size, 0, none⟩ = some (.int .i64 a0) := n1 0
  have f1 : (w1.alloc (.cells #[.int .i64 a0, .int .i64 a1, .int .i64 a2, .int .i64 a3, .int .i64 a4, .int .i64 a5, .int .i64 a6, .int .i64 a7, .int .i64 a8, .int .i64 a9] 64)).cell? ⟨w1.heap.size, 1, none⟩ = some (.int .i64 a1) := n1 1
  have f2 : (w1.alloc (.cells #[.int .i64 a0, .int .i64 a1, .int .i64 a2, .int .i64 a3, .int .i64 a4, .int .i64 a5, .int .i64 a6, .int .i64 a7, .int .i64 a8, .int .i64 a9] 64)).cell? ⟨w1.heap.size, 2, none⟩ = some (.int .i64 a2) := n1 2
  have f3 : (w1.alloc (.cells #[.int .i64 a0, .int .i64 a1, .int .i64 a2, .int .i64 a3, .int .i64 a4, .int .i64 a5, .int .i64 a6, .int .i64 a7, .int .i64 a8, .int .i64 a9] 64)).cell? ⟨w1.heap.size, 3, none⟩ = some (.int .i64 a3) := n1 3
  have f4 : (w1.alloc (.cells #[.int .i64 a0, .int .i64 a1, .int .i64 a2, .int .i64 a3, .int .i64 a4, .int .i64 a5, .int .i64 a6, .int .i64 a7, .int .i64 a8, .int .i64 a9] 64)).cell? ⟨w1.heap.size, 4, none⟩ = some (.int .i64 a4) := n1 4
  have f5 : (w1.alloc (.cells #[.int .i64 a0, .int .i64 a1, .int .i64 a2, .int .i64 a3, .int .i64 a4, .int .i64 a5, .int .i64 a6, .int .i64 a7, .int .i64 a8, .int .i64 a9] 64)).cell? ⟨w1.heap.size, 5, none⟩ = some (.int .i64 a5) := n1 5
  have f6 : (w1.alloc (.cells #[.int .i64 a0, .int .i64 a1, .int .i64 a2, .int .i64 a3, .int .i64 a4, .int .i64 a5, .int .i64 a6, .int .i64 a7, .int .i64 a8, .int .i64 a9] 64)).cell? ⟨w1.heap.size, 6, none⟩ = some (.int .i64 a6) := n1 6
  have f7 : (w1.alloc (.cells #[.int .i64 a0, .int .i64 a1, .int .i64 a2, .int .i64 a3, .int .i64 a4, .int .i64 a5, .int .i64 a6, .int .i64 a7, .int .i64 a8, .int .i64 a9] 64)).cell? ⟨w1.heap.size, 7, none⟩ = some (.int .i64 a7) := n1 7
  have f8 : (w1.alloc (.cells #[.int .i64 a0, .int .i64 a1, .int .i64 a2, .int .i64 a3, .int .i64 a4, .int .i64 a5, .int .i64 a6, .int .i64 a7, .int .i64 a8, .int .i64 a9] 64)).cell? ⟨w1.heap.size, 8, none⟩ = some (.int .i64 a8) := n1 8
  have f9 : (w1.alloc (.cells #[.int .i64 a0, .int .i64 a1, .int .i64 a2, .int .i64 a3, .int .i64 a4, .int .i64 a5, .int .i64 a6, .int .i64 a7, .int .i64 a8, .int .i64 a9] 64)).cell? ⟨w1.heap.size, 9, none⟩ = some (.int .i64 a9) := n1 9
  have r0 := y1.box (x1.box q0)
  have r1 := y1.box (x1.box q1)
  have r2 := y1.box (x1.box q2)
  have r3 := y1.box (x1.box q3)
  have Y1 := hide ((X0.out.trans x1).trans y1)
  have HP1 := hide ((HP.out.ext x1).ext y1)
  have sz1 : Hid (w.heap.size + 2 ≤ (w1.alloc (.cells #[.int .i64 a0, .int .i64 a1, .int .i64 a2, .int .i64 a3, .int .i64 a4, .int .i64 a5, .int .i64 a6, .int .i64 a7, .int .i64 a8, .int .i64 a9] 64)).heap.size) := Nat.le_trans sz0.out (Below.size (x1.trans y1).bl)
  have rf := fun o => Y1.out.unfrozen (b := w.heap.size + 1) (by omega) o
  have HA := hide hA
  clear hA n1 y1 x1 HS HT q0 q1 q2 q3
  cases hv : (dcValidV xs ss off)
  · have hn := hide (Hr.out.trans (show brL xs ss off ys = (12, [], [], 0) from if_neg (of_decide_eq_false hv)))
    clear hv
    go_wp2
    exact bodyPost_ret (v := .agg #[.int .i64 12, .slice none 0 0, .slice none 0 0, .int .i64 0]) (by simp [results, Try.results40, go_sem, set4_0 r0, set4_1 r1, set4_2 r2, set4_3 r3]) rfl (vr_bad hn.out Y1.out.bl sz1.out)
  have gv : ValidV xs ss off := of_decide_eq_true hv
  have hA := HA.out gv
  have hStr : Hid (∀ W, Calls Try.prog 66 #[.agg #[.int .i64 a0, .int .i64 a1, .int .i64 a2, .int .i64 a3, .int .i64 a4, .int .i64 a5, .int .i64 a6, .int .i64 a7, .int .i64 a8, .int .i64 a9], .agg (shp ys)] W fun e w' => StrOk W xs ss ys off e w') ∨ ¬ Good ys := by
    by_cases hg : Good ys
    · exact Or.inl (fun W => by rw [hA]; exact stretched_any W xs ss ys off gv.1.1 hg.1 gv.2.1)
    · exact Or.inr hg
  have HStr := hide hStr
  have hbr : Hid (brL xs ss off ys = (if Good ys ∧ Strs xs ys then (0, ys, bstr xs ss ys, off) else (6, [], [], 0))) := if_pos gv
  clear hA HA hStr gv
  generalize hvb : (dcValidV xs ss off) = vb at hv
  subst hv
  clear hvb
  go_wp2_with fail
  refine (fixShape_any HP1.out (by omega)).mono ?_
  rintro e w2 ⟨m, b0, b1, b2, b3, rfl, hX, x2⟩
  have y2 : Ext w2 (w2.alloc (.cells #[.int .i64 m, .int .i64 b0, .int .i64 b1, .int .i64 b2, .int .i64 b3] 62)) := (Ext.refl w2).alloc _ _
  have n2 := fun j => new_cell w2 #[.int .i64 m, .int .i64 b0, .int .i64 b1, .int .i64 b2, .int .i64 b3] 62 w2.heap.size rfl j
  have s0 : (w2.alloc (.cells #[.int .i64 m, .int .i64 b0, .int .i64 b1, .int .i64 b2, .int .i64 b3] 62)).cell? ⟨w2.heap.size, 0, none⟩ = some (.int .i64 m) := n2 0
  have s1 : (w2.alloc (.cells #[.int .i64 m, .int .i64 b0, .int .i64 b1, .int .i64 b2, .int .i64 b3] 62)).cell? ⟨w2.heap.size, 1, none⟩ = some (.int .i64 b0) := n2 1
  have s2 : (w2.alloc (.cells #[.int .i64 m, .int .i64 b0, .int .i64 b1, .int .i64 b2, .int .i64 b3] 62)).cell? ⟨w2.heap.size, 2, none⟩ = some (.int .i64 b1) := n2 2
  have s3 : (w2.alloc (.cells #[.int .i64 m, .int .i64 b0, .int .i64 b1, .int .i64 b2, .int .i64 b3] 62)).cell? ⟨w2.heap.size, 3, none⟩ = some (.int .i64 b2) := n2 3
  have s4 : (w2.alloc (.cells #[.int .i64 m, .int .i64 b0, .int .i64 b1, .int .i64 b2, .int .i64 b3] 62)).cell? ⟨w2.heap.size, 4, none⟩ = some (.int .i64 b3) := n2 4
  have g0 := y2.box (x2.box f0)
  have g1 := y2.box (x2.box f1)
  have g2 := y2.box (x2.box f2)
  have g3 := y2.box (x2.box f3)
  have g4 := y2.box (x2.box f4)
  have g5 := y2.box (x2.box f5)
  have g6 := y2.box (x2.box f6)
  have g7 := y2.box (x2.box f7)
  have g8 := y2.box (x2.box f8)
  have g9 := y2.box (x2.box f9)
  have u0 := y2.box (x2.box r0)
  have u1 := y2.box (x2.box r1)
  have u2 := y2.box (x2.box r2)
  have u3 := y2.box (x2.box r3)
  have Y2 := hide ((Y1.out.trans x2).trans y2)
  have sz2 : Hid (w.heap.size + 2 ≤ (w2.alloc (.cells #[.int .i64 m, .int .i64 b0, .int .i64 b1, .int .i64 b2, .int .i64 b3] 62)).heap.size) := Nat.le_trans sz1.out (Below.size (x2.trans y2).bl)
  have uf := fun o => Y2.out.unfrozen (b := w.heap.size + 1) (by omega) o
  have HX := hide hX
  clear hX n2 y2 x2 HP1 f0 f1 f2 f3 f4 f5 f6 f7 f8 f9 r0 r1 r2 r3 rf
  cases hgy : goodB ys
  · have hn := hide (Hr.out.trans (hbr.out.trans (if_neg (fun q => absurd q.1 (of_decide_eq_false hgy)))))
    clear hgy
    go_wp2
    exact bodyPost_ret (v := .agg #[.int .i64 6, .slice none 0 0, .slice none 0 0, .int .i64 0]) (by simp [results, Try.results40, go_sem, set4_0 u0, set4_1 u1, set4_2 u2, set4_3 u3]) rfl (vr_bad hn.out Y2.out.bl sz2.out)
  have gy : Good ys := of_decide_eq_true hgy
  have hS1 : Hid (∀ W, Calls Try.prog 66 #[.agg #[.int .i64 a0, .int .i64 a1, .int .i64 a2, .int .i64 a3, .int .i64 a4, .int .i64 a5, .int .i64 a6, .int .i64 a7, .int .i64 a8, .int .i64 a9], .agg #[.int .i64 m, .int .i64 b0, .int .i64 b1, .int .i64 b2, .int .i64 b3]] W fun e w' => StrOk W xs ss ys off e w') := fun W => by
    have := (HStr.out.resolve_right (fun q => q gy)).out W
    obtain ⟨e0, e1, e2, e3, e4⟩ := HX.out gy
    rw [e0, e1, e2, e3, e4]
    exact this
  have hgy4 := gy.1
  have Hgy := hide gy
  clear HStr HX gy
  go_wp2_with fail
  refine (hS1.out _).mono ?_
  rintro e w3 ⟨B, rfl, hB, ⟨d0, d1, d2, d3, d4, d5, d6, d7, d8, d9, rfl⟩, x3⟩
  have y3 : Ext w3 (w3.alloc (.cells #[.int .i64 d0, .int .i64 d1, .int .i64 d2, .int .i64 d3, .int .i64 d4, .int .i64 d5, .int .i64 d6, .int .i64 d7, .int .i64 d8, .int .i64 d9] 64)) := (Ext.refl w3).alloc _ _
  have n3 := fun j => new_cell w3 #[.int .i64 d0, .int .i64 d1, .int .i64 d2, .int .i64 d3, .int .i64 d4, .int .i64 d5, .int .i64 d6, .int .i64 d7, .int .i64 d8, .int .i64 d9] 64 w3.heap.size rfl j
  have h0 : (w3.alloc (.cells #[.int .i64 d0, .int .i64 d1, .int .i64 d2, .int .i64 d3, .int .i64 d4, .int .i64 d5, .int .i64 d6, .int .i64 d7, .int .i64 d8, .int .i64 d9] 64)).cell? ⟨w3.heap.size, 0, none⟩ = some (.int .i64 d0) := n3 0
  have h1 : (w3.alloc (.cells #[.int .i64 d0, .int .i64 d1, .int .i64 d2, .int .i64 d3, .int .i64 d4, .int .i64 d5, .int .i64 d6, .int .i64 d7, .int .i64 d8, .int .i64 d9] 64)).cell? ⟨w3.heap.size, 1, none⟩ = some (.int .i64 d1) := n3 1
  have h2 : (w3.alloc (.cells #[.int .i64 d0, .int .i64 d1, .int .i64 d2, .int .i64 d3, .int .i64 d4, .int .i64 d5, .int .i64 d6, .int .i64 d7, .int .i64 d8, .int .i64 d9] 64)).cell? ⟨w3.heap.size, 2, none⟩ = some (.int .i64 d2) := n3 2
  have h3 : (w3.alloc (.cells #[.int .i64 d0, .int .i64 d1, .int .i64 d2, .int .i64 d3, .int .i64 d4, .int .i64 d5, .int .i64 d6, .int .i64 d7, .int .i64 d8, .int .i64 d9] 64)).cell? ⟨w3.heap.size, 3, none⟩ = some (.int .i64 d3) := n3 3
  have h4 : (w3.alloc (.cells #[.int .i64 d0, .int .i64 d1, .int .i64 d2, .int .i64 d3, .int .i64 d4, .int .i64 d5, .int .i64 d6, .int .i64 d7, .int .i64 d8, .int .i64 d9] 64)).cell? ⟨w3.heap.size, 4, none⟩ = some (.int .i64 d4) := n3 4
  have h5 : (w3.alloc (.cells #[.int .i64 d0, .int .i64 d1, .int .i64 d2, .int .i64 d3, .int .i64 d4, .int .i64 d5, .int .i64 d6, .int .i64 d7, .int .i64 d8, .int .i64 d9] 64)).cell? ⟨w3.heap.size, 5, none⟩ = some (.int .i64 d5) := n3 5
  have h6 : (w3.alloc (.cells #[.int .i64 d0, .int .i64 d1, .int .i64 d2, .int .i64 d3, .int .i64 d4, .int .i64 d5, .int .i64 d6, .int .i64 d7, .int .i64 d8, .int .i64 d9] 64)).cell? ⟨w3.heap.size, 6, none⟩ = some (.int .i64 d6) := n3 6
  have h7 : (w3.alloc (.cells #[.int .i64 d0, .int .i64 d1, .int .i64 d2, .int .i64 d3, .int .i64 d4, .int .i64 d5, .int .i64 d6, .int .i64 d7, .int .i64 d8, .int .i64 d9] 64)).cell? ⟨w3.heap.size, 7, none⟩ = some (.int .i64 d7) := n3 7
  have h8 : (w3.alloc (.cells #[.int .i64 d0, .int .i64 d1, .int .i64 d2, .int .i64 d3, .int .i64 d4, .int .i64 d5, .int .i64 d6, .int .i64 d7, .int .i64 d8, .int .i64 d9] 64)).cell? ⟨w3.heap.size, 8, none⟩ = some (.int .i64 d8) := n3 8
  have h9 : (w3.alloc (.cells #[.int .i64 d0, .int .i64 d1, .int .i64 d2, .int .i64 d3, .int .i64 d4, .int .i64 d5, .int .i64 d6, .int .i64 d7, .int .i64 d8, .int .i64 d9] 64)).cell? ⟨w3.heap.size, 9, none⟩ = some (.int .i64 d9) := n3 9
  have v0 := y3.box (x3.box u0)
  have v1 := y3.box (x3.box u1)
  have v2 := y3.box (x3.box u2)
  have v3 := y3.box (x3.box u3)
  have Y3 := hide ((Y2.out.trans x3).trans y3)
  have sz3 : Hid (w.heap.size + 2 ≤ (w3.alloc (.cells #[.int .i64 d0, .int .i64 d1, .int .i64 d2, .int .i64 d3, .int .i64 d4, .int .i64 d5, .int .i64 d6, .int .i64 d7, .int .i64 d8, .int .i64 d9] 64)).heap.size) := Nat.le_trans sz2.out (Below.size (x3.trans y3).bl)
  have vf := fun o => Y3.out.unfrozen (b := w.heap.size + 1) (by omega) o
  have HB := hide hB
  clear hB n3 y3 x3 hS1 g0 g1 g2 g3 g4 g5 g6 g7 g8 g9 u0 u1 u2 u3 uf s0 s1 s2 s3 s4
  cases hst : (dcStrs xs ys)
  · have hn := hide (Hr.out.trans (hbr.out.trans (if_neg (fun q => absurd q.2 (of_decide_eq_false hst)))))
    clear hst
    go_wp2
    exact bodyPost_ret (v := .agg #[.int .i64 6, .slice none 0 0, .slice none 0 0, .int .i64 0]) (by simp [results, Try.results40, go_sem, set4_0 v0, set4_1 v1, set4_2 v2, set4_3 v3]) rfl (vr_bad hn.out Y3.out.bl sz3.out)
  have gs : Strs xs ys := of_decide_eq_true hst
  have hV : Hid (∀ W, Calls Try.prog 64 #[.agg #[.int .i64 d0, .int .i64 d1, .int .i64 d2, .int .i64 d3, .int .i64 d4, .int .i64 d5, .int .i64 d6, .int .i64 d7, .int .i64 d8, .int .i64 d9]] W fun e w' => VOk W ys (bstr xs ss ys) off e w') := fun W => by
    rw [HB.out gs]; exact view_any W ys (bstr xs ss ys) off hgy4 (bstr_len _ _ _)
  have hn := hide (Hr.out.trans (hbr.out.trans (if_pos ⟨Hgy.out, gs⟩)))
  clear HB gs
  go_wp2_with fail
  refine (hV.out _).mono ?_
  rintro e w4 ⟨sa4, sb4, ca4, cb4, rfl, hT4, x4⟩
  have z0 := Bel.box x4 v0
  have z1 := Bel.box x4 v1
  have z2 := Bel.box x4 v2
  have z3 := Bel.box x4 v3
  have HT4 := hide hT4
  have HB4 := hide (Bel.tr Y3.out.bl x4)
  have zf : ∀ o, w4.frozen? ⟨w.heap.size + 1, o, none⟩ = false := fun o => (Below.frozen x4 (p := ⟨w.heap.size + 1, o, none⟩) (cell_lt v0)).trans (vf o)
  clear hT4 x4 v0 v1 v2 v3 vf
  generalize hl1 : ys.length = l1
  generalize hl2 : (bstr xs ss ys).length = l2
  have Hl1 := hide hl1
  have Hl2 := hide hl2
  clear hl1 hl2
  go_wp2
  rw [← Hl1.out, ← Hl2.out]
  exact bodyPost_ret (v := .agg #[.int .i64 0, .slice sa4 ys.length ca4, .slice sb4 (bstr xs ss ys).length cb4, .int .i64 off]) (by simp [results, Try.results40, go_sem, set4_0 z0, set4_1 z1, set4_2 z2, set4_3 z3]) rfl (vr_good hn.out HB4.out sz3.out HT4.out)
end Go.Proofs.Ytiekkninnjffpaa
