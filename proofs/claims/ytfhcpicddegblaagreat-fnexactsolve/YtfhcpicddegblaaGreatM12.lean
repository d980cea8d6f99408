import Derived.Test.YtfhcpicddegblaaGreatM11
import Derived.Test.YtfhcpicddegblaaGreatM1
import Derived.RegionTactic
import Derived.Test.YtfhcpicddegblaaGreatM5
import Derived.Deep.AppendLies
import Derived.Deep.RegionHeld3
namespace Go.Proofs.YtfhcpicddegblaaGreat
open Go.ChangeShapes Go.RowKit
set_option linter.unusedSimpArgs false
set_option linter.unusedVariables false

def ToVOk (w : World) (xs ss : List Int) (off : Int) (e : Ending) (w' : World) : Prop :=
  ∃ b c : Nat, e = .returned (.agg #[.slice (some ⟨b, 0, none⟩) xs.length xs.length, .slice (some ⟨c, 0, none⟩) ss.length ss.length, .int .i64 off]) ∧ w.heap.size ≤ b ∧ b < c ∧ c < w'.heap.size ∧ Row w' b 0 xs ∧ Row w' c 0 ss ∧ Ext w w'

set_option maxRecDepth 100000 in
set_option maxHeartbeats 2000000 in
theorem toView_any {w : World} {v u : Value} {xs ss : List Int} (h : Ints w v xs) (g : Ints w u ss) (off : Int) (lx : xs.length ≤ 1048576) (ls : ss.length ≤ 1048576) :
    Calls Tryz.prog 33 #[.agg #[v, u, .int .i64 off]] w fun e w' => ToVOk w xs ss off e w' := by
  obtain ⟨sa, ca, rfl, rS⟩ := h
  obtain ⟨sb, cb, rfl, rT⟩ := g
  have x0 : Ext w (((w.alloc (.cells #[.slice sa xs.length ca, .slice sb ss.length cb, .int .i64 off] 27)).alloc (.cells #[.slice none 0 0, .slice none 0 0, .int .i64 0] 39)).alloc (.cells #[.slice none 0 0, .slice none 0 0, .int .i64 0] 39)) := (((Ext.refl w).alloc _ _).alloc _ _).alloc _ _
  have y1 : Ext (w.alloc (.cells #[.slice sa xs.length ca, .slice sb ss.length cb, .int .i64 off] 27)) (((w.alloc (.cells #[.slice sa xs.length ca, .slice sb ss.length cb, .int .i64 off] 27)).alloc (.cells #[.slice none 0 0, .slice none 0 0, .int .i64 0] 39)).alloc (.cells #[.slice none 0 0, .slice none 0 0, .int .i64 0] 39)) := ((Ext.refl _).alloc _ _).alloc _ _
  have y2 : Ext ((w.alloc (.cells #[.slice sa xs.length ca, .slice sb ss.length cb, .int .i64 off] 27)).alloc (.cells #[.slice none 0 0, .slice none 0 0, .int .i64 0] 39)) (((w.alloc (.cells #[.slice sa xs.length ca, .slice sb ss.length cb, .int .i64 off] 27)).alloc (.cells #[.slice none 0 0, .slice none 0 0, .int .i64 0] 39)).alloc (.cells #[.slice none 0 0, .slice none 0 0, .int .i64 0] 39)) := (Ext.refl _).alloc _ _
  have n1 := fun j => new_cell w #[.slice sa xs.length ca, .slice sb ss.length cb, .int .i64 off] 27 w.heap.size rfl j
  have n2 := fun j => new_cell (w.alloc (.cells #[.slice sa xs.length ca, .slice sb ss.length cb, .int .i64 off] 27)) #[.slice none 0 0, .slice none 0 0, .int .i64 0] 39 (w.heap.size + 1) (by simp) j
  have n3 := fun j => new_cell ((w.alloc (.cells #[.slice sa xs.length ca, .slice sb ss.length cb, .int .i64 off] 27)).alloc (.cells #[.slice none 0 0, .slice none 0 0, .int .i64 0] 39)) #[.slice none 0 0, .slice none 0 0, .int .i64 0] 39 (w.heap.size + 1 + 1) (by simp) j
  have a1 := y1.box (n1 1)
  have a2 := y1.box (n1 2)
  have r0 := y2.box (n2 0)
  have r1 := y2.box (n2 1)
  have r2 := y2.box (n2 2)
  have o0 : (((w.alloc (.cells #[.slice sa xs.length ca, .slice sb ss.length cb, .int .i64 off] 27)).alloc (.cells #[.slice none 0 0, .slice none 0 0, .int .i64 0] 39)).alloc (.cells #[.slice none 0 0, .slice none 0 0, .int .i64 0] 39)).cell? ⟨w.heap.size + 1 + 1, 0, none⟩ = some (.slice none 0 0) := n3 0
  have o1 : (((w.alloc (.cells #[.slice sa xs.length ca, .slice sb ss.length cb, .int .i64 off] 27)).alloc (.cells #[.slice none 0 0, .slice none 0 0, .int .i64 0] 39)).alloc (.cells #[.slice none 0 0, .slice none 0 0, .int .i64 0] 39)).cell? ⟨w.heap.size + 1 + 1, 1, none⟩ = some (.slice none 0 0) := n3 1
  have o2 : (((w.alloc (.cells #[.slice sa xs.length ca, .slice sb ss.length cb, .int .i64 off] 27)).alloc (.cells #[.slice none 0 0, .slice none 0 0, .int .i64 0] 39)).alloc (.cells #[.slice none 0 0, .slice none 0 0, .int .i64 0] 39)).cell? ⟨w.heap.size + 1 + 1, 2, none⟩ = some (.int .i64 0) := n3 2
  have HS : Hid (Ints (((w.alloc (.cells #[.slice sa xs.length ca, .slice sb ss.length cb, .int .i64 off] 27)).alloc (.cells #[.slice none 0 0, .slice none 0 0, .int .i64 0] 39)).alloc (.cells #[.slice none 0 0, .slice none 0 0, .int .i64 0] 39)) (.slice sa xs.length ca) xs) := Ints.ext ⟨sa, ca, rfl, rS⟩ x0
  have HT : Hid (Ints (((w.alloc (.cells #[.slice sa xs.length ca, .slice sb ss.length cb, .int .i64 off] 27)).alloc (.cells #[.slice none 0 0, .slice none 0 0, .int .i64 0] 39)).alloc (.cells #[.slice none 0 0, .slice none 0 0, .int .i64 0] 39)) (.slice sb ss.length cb) ss) := Ints.ext ⟨sb, cb, rfl, rT⟩ x0
  have X0 := hide x0
  have hsz : Hid ((((w.alloc (.cells #[.slice sa xs.length ca, .slice sb ss.length cb, .int .i64 off] 27)).alloc (.cells #[.slice none 0 0, .slice none 0 0, .int .i64 0] 39)).alloc (.cells #[.slice none 0 0, .slice none 0 0, .int .i64 0] 39)).heap.size = w.heap.size + 1 + 1 + 1) := by show (((w.alloc (.cells #[.slice sa xs.length ca, .slice sb ss.length cb, .int .i64 off] 27)).alloc (.cells #[.slice none 0 0, .slice none 0 0, .int .i64 0] 39)).alloc (.cells #[.slice none 0 0, .slice none 0 0, .int .i64 0] 39)).heap.size = _; simp
  have HT0 : Hid (Ints w (.slice sb ss.length cb) ss) := ⟨sb, cb, rfl, rT⟩
  clear n1 n2 n3 y1 y2 x0 rS rT
  go_enter Tryz.func33, Tryz.ntmps33
  go_wp2_with fail
  generalize hW : (((w.alloc (.cells #[.slice sa xs.length ca, .slice sb ss.length cb, .int .i64 off] 27)).alloc (.cells #[.slice none 0 0, .slice none 0 0, .int .i64 0] 39)).alloc (.cells #[.slice none 0 0, .slice none 0 0, .int .i64 0] 39)) = W0 at a1 a2 r0 r1 r2 o0 o1 o2 HS HT X0 hsz ⊢
  clear hW
  refine (toInts_any HS.out lx).mono ?_
  rintro e w1 ⟨rfl, row1, x1, s1⟩
  have T1 := hide (HT.out.ext x1)
  have b1 := x1.box a1
  have b2 := x1.box a2
  have p0 := x1.box o0
  have p1 := x1.box o1
  have p2 := x1.box o2
  have q0 := x1.box r0
  have q1 := x1.box r1
  have q2 := x1.box r2
  have X1 := hide (X0.out.trans x1)
  have pf := fun o => X1.out.unfrozen (b := w.heap.size + 1 + 1) (by omega) o
  have Row1 := hide row1
  have S1 := hide s1
  clear a1 a2 r0 r1 r2 o0 o1 o2 x1 row1 s1 HS HT X0
  have m1 : Mut (w.heap.size + 1 + 1) w1 (w1.setCell ⟨w.heap.size + 1 + 1, 0, none⟩ (.slice (some ⟨W0.heap.size, 0, none⟩) xs.length xs.length)) := (Mut.refl _ _).setCell _ _
  have c2 := m1.box (by omega) b2
  have d0 : (w1.setCell ⟨w.heap.size + 1 + 1, 0, none⟩ (.slice (some ⟨W0.heap.size, 0, none⟩) xs.length xs.length)).cell? ⟨w.heap.size + 1 + 1, 0, none⟩ = some (.slice (some ⟨W0.heap.size, 0, none⟩) xs.length xs.length) := World.cell?_setCell_same _ _ _ p0
  have d1 : (w1.setCell ⟨w.heap.size + 1 + 1, 0, none⟩ (.slice (some ⟨W0.heap.size, 0, none⟩) xs.length xs.length)).cell? ⟨w.heap.size + 1 + 1, 1, none⟩ = some (.slice none 0 0) := (World.cell?_setCell_other _ _ _ _ (by intro h; simp only [Addr.mk.injEq] at h; omega)).trans p1
  have d2 : (w1.setCell ⟨w.heap.size + 1 + 1, 0, none⟩ (.slice (some ⟨W0.heap.size, 0, none⟩) xs.length xs.length)).cell? ⟨w.heap.size + 1 + 1, 2, none⟩ = some (.int .i64 0) := (World.cell?_setCell_other _ _ _ _ (by intro h; simp only [Addr.mk.injEq] at h; omega)).trans p2
  have f0 := m1.box (by omega) q0
  have f1 := m1.box (by omega) q1
  have f2 := m1.box (by omega) q2
  have XX := hide (X1.out.setCell (p := ⟨w.heap.size + 1 + 1, 0, none⟩) (by show w.heap.size ≤ w.heap.size + 1 + 1; omega) (.slice (some ⟨W0.heap.size, 0, none⟩) xs.length xs.length))
  have RowA := hide (Row1.out.mut m1 (by have := hsz.out; omega))
  have HTT := hide (HT0.out.ext XX.out)
  have SZ : Hid ((w1.setCell ⟨w.heap.size + 1 + 1, 0, none⟩ (.slice (some ⟨W0.heap.size, 0, none⟩) xs.length xs.length)).heap.size = w1.heap.size) := by show (w1.setCell ⟨w.heap.size + 1 + 1, 0, none⟩ (.slice (some ⟨W0.heap.size, 0, none⟩) xs.length xs.length)).heap.size = _; simp [World.setCell]
  clear m1
  go_wp2_with fail
  generalize hW2 : (w1.setCell ⟨w.heap.size + 1 + 1, 0, none⟩ (.slice (some ⟨W0.heap.size, 0, none⟩) xs.length xs.length)) = W2 at c2 d0 d1 d2 f0 f1 f2 XX RowA HTT SZ ⊢
  clear hW2 b1 b2 p0 p1 p2 q0 q1 q2 pf T1 Row1 X1
  refine (toInts_any HTT.out ls).mono ?_
  rintro e w2 ⟨rfl, row2, x2, s2⟩
  have g2 := x2.box c2
  have e0 := x2.box d0
  have e1 := x2.box d1
  have e2 := x2.box d2
  have h0 := x2.box f0
  have h1 := x2.box f1
  have h2 := x2.box f2
  have RB := hide (RowA.out.ext x2)
  have RC := hide row2
  have XZ := hide (XX.out.trans x2)
  have pf := fun o => XZ.out.unfrozen (b := w.heap.size + 1 + 1) (by omega) o
  have qf := fun o => XZ.out.unfrozen (b := w.heap.size + 1) (by omega) o
  have HSZ : Hid (W0.heap.size = w.heap.size + 1 + 1 + 1 ∧ W0.heap.size < W2.heap.size ∧ W2.heap.size < w2.heap.size) := ⟨hsz.out, by have := S1.out; have := SZ.out; omega, s2⟩
  clear c2 d0 d1 d2 f0 f1 f2 RowA row2 x2 XX HTT SZ S1 hsz s2
  go_wp2
  refine bodyPost_ret (v := .agg #[.slice (some ⟨W0.heap.size, 0, none⟩) xs.length xs.length, .slice (some ⟨W2.heap.size, 0, none⟩) ss.length ss.length, .int .i64 off]) (by simp [results, Tryz.results33, go_sem, h0, h1, h2]) rfl ⟨W0.heap.size, W2.heap.size, rfl, ?_, ?_, ?_, ?_, ?_, ?_⟩
  · have := HSZ.out; omega
  · exact HSZ.out.2.1
  · have := HSZ.out.2.2; simpa [World.setCell] using this
  · intro j hj
    have := HSZ.out
    iterate 5 rw [World.cell?_setCell_other _ _ _ _ (by intro h; simp only [Addr.mk.injEq] at h; omega)]
    exact RB.out j hj
  · intro j hj
    have := HSZ.out
    iterate 5 rw [World.cell?_setCell_other _ _ _ _ (by intro h; simp only [Addr.mk.injEq] at h; omega)]
    exact RC.out j hj
  · exact ((((XZ.out.setCell (by show w.heap.size ≤ w.heap.size + 1 + 1; omega) _).setCell (by show w.heap.size ≤ w.heap.size + 1 + 1; omega) _).setCell (by show w.heap.size ≤ w.heap.size + 1; omega) _).setCell (by show w.heap.size ≤ w.heap.size + 1; omega) _).setCell (by show w.heap.size ≤ w.heap.size + 1; omega) _
set_option maxRecDepth 100000 in
set_option maxHeartbeats 2000000 in
theorem eqArray_true {w : World} {v u v' u' : Value} {xs ss : List Int} (st off : Int) (h : Ints w v xs) (g : Ints w u ss) (h' : Ints w v' xs) (g' : Ints w u' ss) (lx : xs.length ≤ 1048576) (ls : ss.length ≤ 1048576) :
    Calls Tryz.prog 14 #[.agg #[.int .i64 st, v, u, .int .i64 off], .agg #[.int .i64 st, v', u', .int .i64 off]] w fun e w' => e = .returned (.bool true) ∧ Ext w w' := by
  have x0 : Ext w ((w.alloc (.cells #[.int .i64 st, v, u, .int .i64 off] 41)).alloc (.cells #[.int .i64 st, v', u', .int .i64 off] 41)) := ((Ext.refl w).alloc _ _).alloc _ _
  have HE := hide (eqView_true off (h.ext x0) (g.ext x0) (h'.ext x0) (g'.ext x0) lx ls)
  have X0 := hide x0
  clear x0
  obtain ⟨sa, ca, rfl, _⟩ := h
  obtain ⟨sb, cb, rfl, _⟩ := g
  obtain ⟨sc, cc, rfl, _⟩ := h'
  obtain ⟨sd, cd, rfl, _⟩ := g'
  go_enter Tryz.func14, Tryz.ntmps14
  go_wp2_with fail
  refine HE.out.mono ?_
  rintro e w1 ⟨rfl, x1⟩
  have X1 := hide (X0.out.trans x1)
  clear x1
  go_wp2
  go_ret
  exact ⟨rfl, X1.out⟩

set_option maxRecDepth 100000 in
set_option maxHeartbeats 2000000 in
theorem toArray_any {w : World} {v u : Value} {xs ss : List Int} (st : Int) (h : Ints w v xs) (g : Ints w u ss) (off : Int) (lx : xs.length ≤ 1048576) (ls : ss.length ≤ 1048576) :
    Calls Tryz.prog 10 #[.agg #[.int .i64 st, v, u, .int .i64 off]] w fun e w' => ∃ b c : Nat, e = .returned (.agg #[.int .i64 st, .slice (some ⟨b, 0, none⟩) xs.length xs.length, .slice (some ⟨c, 0, none⟩) ss.length ss.length, .int .i64 off]) ∧ w.heap.size ≤ b ∧ b < c ∧ c < w'.heap.size ∧ Row w' b 0 xs ∧ Row w' c 0 ss ∧ Ext w w' := by
  obtain ⟨sa, ca, rfl, rS⟩ := h
  obtain ⟨sb, cb, rfl, rT⟩ := g
  have h : Ints w (.slice sa xs.length ca) xs := ⟨sa, ca, rfl, rS⟩
  have g : Ints w (.slice sb ss.length cb) ss := ⟨sb, cb, rfl, rT⟩
  generalize hW1 : (w.alloc (.cells #[.int .i64 st, .slice sa xs.length ca, .slice sb ss.length cb, .int .i64 off] 29)) = W1
  have x1 : Ext w W1 := by rw [← hW1]; exact (Ext.refl w).alloc _ _
  have hs1 : W1.heap.size = w.heap.size + 1 := by rw [← hW1]; simp
  have x2 : Ext W1 (W1.alloc (.cells #[.int .i64 0, .slice none 0 0, .slice none 0 0, .int .i64 0] 41)) := (Ext.refl W1).alloc _ _
  have x3 : Ext (W1.alloc (.cells #[.int .i64 0, .slice none 0 0, .slice none 0 0, .int .i64 0] 41)) ((W1.alloc (.cells #[.int .i64 0, .slice none 0 0, .slice none 0 0, .int .i64 0] 41)).alloc (.cells #[.int .i64 st, .slice none 0 0, .slice none 0 0, .int .i64 0] 41)) := (Ext.refl _).alloc _ _
  have r0 := fun j => new_cell W1 #[.int .i64 0, .slice none 0 0, .slice none 0 0, .int .i64 0] 41 (w.heap.size + 1) hs1.symm j
  have o0 := fun j => new_cell (W1.alloc (.cells #[.int .i64 0, .slice none 0 0, .slice none 0 0, .int .i64 0] 41)) #[.int .i64 st, .slice none 0 0, .slice none 0 0, .int .i64 0] 41 (w.heap.size + 1 + 1) (by simp [hs1]) j
  have HX := hide ((x1.trans x2).trans x3)
  have R0 := hide (x3.box (r0 0))
  have R1 := hide (x3.box (r0 1))
  have R2 := hide (x3.box (r0 2))
  have R3 := hide (x3.box (r0 3))
  have O0 := hide (o0 0)
  have O1 := hide (o0 1)
  have O2 := hide (o0 2)
  have O3 := hide (o0 3)
  have hs3 : Hid (((W1.alloc (.cells #[.int .i64 0, .slice none 0 0, .slice none 0 0, .int .i64 0] 41)).alloc (.cells #[.int .i64 st, .slice none 0 0, .slice none 0 0, .int .i64 0] 41)).heap.size = w.heap.size + 3) := by show ((W1.alloc _).alloc _).heap.size = _; simp [hs1]
  have HC := hide (toView_any (h.ext HX.out) (g.ext HX.out) off lx ls)
  clear rS rT h g x1 x2 x3 r0 o0 hs1
  subst hW1
  go_enter Tryz.func10, Tryz.ntmps10
  go_wp2_with fail
  generalize hW3 : (((w.alloc (.cells #[.int .i64 st, .slice sa xs.length ca, .slice sb ss.length cb, .int .i64 off] 29)).alloc (.cells #[.int .i64 0, .slice none 0 0, .slice none 0 0, .int .i64 0] 41)).alloc (.cells #[.int .i64 st, .slice none 0 0, .slice none 0 0, .int .i64 0] 41)) = W3 at *
  clear hW3
  refine HC.out.mono ?_
  rintro e w2 ⟨b, c, rfl, hb, hbc, hc, rb, rc, hx⟩
  rw [hs3.out] at hb
  have rc0 := hx.box R0.out
  have rc1 := hx.box R1.out
  have rc2 := hx.box R2.out
  have rc3 := hx.box R3.out
  have oc0 := hx.box O0.out
  have oc1 := hx.box O1.out
  have oc2 := hx.box O2.out
  have oc3 := hx.box O3.out
  have HE := hide (HX.out.trans hx)
  have fz := fun b o (hb : w.heap.size ≤ b) => HE.out.unfrozen (b := b) hb o
  have f1 := fun o => fz (w.heap.size + 1) o (by omega)
  have f3 := fun o => fz (w.heap.size + 1 + 1) o (by omega)
  have RB := hide rb
  have RC := hide rc
  clear hx HX HC R0 R1 R2 R3 O0 O1 O2 O3 hs3 fz rb rc
  go_wp2_with fail
  generalize hV1 : (.slice (some ⟨b, 0, none⟩) xs.length xs.length : Value) = V1
  generalize hV2 : (.slice (some ⟨c, 0, none⟩) ss.length ss.length : Value) = V2
  have M1 : Mut (w.heap.size + 1 + 1) w2 (((w2.setCell ⟨w.heap.size + 1 + 1, 1, none⟩ V1).setCell ⟨w.heap.size + 1 + 1, 2, none⟩ V2).setCell ⟨w.heap.size + 1 + 1, 3, none⟩ (.int .i64 off)) := (((Mut.refl _ _).setCell _ _).setCell _ _).setCell _ _
  generalize hW5 : (((w2.setCell ⟨w.heap.size + 1 + 1, 1, none⟩ V1).setCell ⟨w.heap.size + 1 + 1, 2, none⟩ V2).setCell ⟨w.heap.size + 1 + 1, 3, none⟩ (.int .i64 off)) = W5 at M1 ⊢
  clear hW5
  have d0 := M1.box (show w.heap.size + 1 ≠ w.heap.size + 1 + 1 by omega) rc0
  have d1 := M1.box (show w.heap.size + 1 ≠ w.heap.size + 1 + 1 by omega) rc1
  have d2 := M1.box (show w.heap.size + 1 ≠ w.heap.size + 1 + 1 by omega) rc2
  have d3 := M1.box (show w.heap.size + 1 ≠ w.heap.size + 1 + 1 by omega) rc3
  have M2 : Mut (w.heap.size + 1) W5 ((((W5.setCell ⟨w.heap.size + 1, 0, none⟩ (.int .i64 st)).setCell ⟨w.heap.size + 1, 1, none⟩ V1).setCell ⟨w.heap.size + 1, 2, none⟩ V2).setCell ⟨w.heap.size + 1, 3, none⟩ (.int .i64 off)) := ((((Mut.refl _ _).setCell _ _).setCell _ _).setCell _ _).setCell _ _
  have e0 : ((((W5.setCell ⟨w.heap.size + 1, 0, none⟩ (.int .i64 st)).setCell ⟨w.heap.size + 1, 1, none⟩ V1).setCell ⟨w.heap.size + 1, 2, none⟩ V2).setCell ⟨w.heap.size + 1, 3, none⟩ (.int .i64 off)).cell? ⟨w.heap.size + 1, 0, none⟩ = some (.int .i64 st) := near (by omega) (near (by omega) (near (by omega) (World.cell?_setCell_same _ _ _ d0)))
  have e1 : ((((W5.setCell ⟨w.heap.size + 1, 0, none⟩ (.int .i64 st)).setCell ⟨w.heap.size + 1, 1, none⟩ V1).setCell ⟨w.heap.size + 1, 2, none⟩ V2).setCell ⟨w.heap.size + 1, 3, none⟩ (.int .i64 off)).cell? ⟨w.heap.size + 1, 1, none⟩ = some V1 := near (by omega) (near (by omega) (World.cell?_setCell_same _ _ _ (near (by omega) d1)))
  have e2 : ((((W5.setCell ⟨w.heap.size + 1, 0, none⟩ (.int .i64 st)).setCell ⟨w.heap.size + 1, 1, none⟩ V1).setCell ⟨w.heap.size + 1, 2, none⟩ V2).setCell ⟨w.heap.size + 1, 3, none⟩ (.int .i64 off)).cell? ⟨w.heap.size + 1, 2, none⟩ = some V2 := near (by omega) (World.cell?_setCell_same _ _ _ (near (by omega) (near (by omega) d2)))
  have e3 : ((((W5.setCell ⟨w.heap.size + 1, 0, none⟩ (.int .i64 st)).setCell ⟨w.heap.size + 1, 1, none⟩ V1).setCell ⟨w.heap.size + 1, 2, none⟩ V2).setCell ⟨w.heap.size + 1, 3, none⟩ (.int .i64 off)).cell? ⟨w.heap.size + 1, 3, none⟩ = some (.int .i64 off) := World.cell?_setCell_same _ _ _ (near (by omega) (near (by omega) (near (by omega) d3)))
  generalize hW9 : ((((W5.setCell ⟨w.heap.size + 1, 0, none⟩ (.int .i64 st)).setCell ⟨w.heap.size + 1, 1, none⟩ V1).setCell ⟨w.heap.size + 1, 2, none⟩ V2).setCell ⟨w.heap.size + 1, 3, none⟩ (.int .i64 off)) = W9 at M2 e0 e1 e2 e3 ⊢
  refine bodyPost_ret (v := .agg #[.int .i64 st, V1, V2, .int .i64 off]) (by simp [results, Tryz.results10, go_sem, e0, e1, e2, e3]) rfl ⟨b, c, by rw [← hV1, ← hV2], by omega, hbc, Nat.lt_of_lt_of_le hc (Nat.le_trans M1.size M2.size), (RB.out.mut M1 (by omega)).mut M2 (by omega), (RC.out.mut M1 (by omega)).mut M2 (by omega), M2.ext (M1.ext HE.out (by omega)) (by omega)⟩

def SzAOk (left : Int) (n m : Nat) (e : Ending) : Prop := ∃ r : Int, e = .returned (.int .i64 r) ∧ (r < 0 ∨ (0 ≤ r ∧ n ≤ 1048576 ∧ m ≤ 1048576))
set_option maxRecDepth 100000 in
set_option maxHeartbeats 2000000 in
theorem szView_rel (sa sb : Option Addr) (n ca m cb : Nat) (off left : Int) (hl : 0 ≤ left ∧ left ≤ 1048576) (hn : n ≤ 9223372036854775807) (hm : m ≤ 9223372036854775807) (w : World) :
    Calls Tryz.prog 24 #[.agg #[.slice sa n ca, .slice sb m cb, .int .i64 off], .int .i64 left] w fun e w' => SzAOk left n m e ∧ Ext w w' := by
  have x0 : Ext w (w.alloc (.cells #[.slice sa n ca, .slice sb m cb, .int .i64 off] 27)) := (Ext.refl w).alloc _ _
  have X0 := hide x0
  clear x0
  by_cases h : left - (n : Int) < 0
  · go_enter Tryz.func24, Tryz.ntmps24
    go_wp2_with fail
    refine (szInts_any sa n ca left hn hl _).mono ?_
    rintro e w1 ⟨rfl, rfl⟩
    rw [if_pos (by omega)]
    go_wp2
    go_ret
    exact ⟨⟨_, rfl, Or.inl (by omega)⟩, X0.out⟩
  · have hb : 0 ≤ left - n ∧ left - n ≤ 1048576 := by omega
    by_cases h2 : left - (n : Int) - (m : Int) < 0
    · go_enter Tryz.func24, Tryz.ntmps24
      go_wp2_with fail
      refine (szInts_any sa n ca left hn hl _).mono ?_
      rintro e w1 ⟨rfl, rfl⟩
      rw [if_neg (by omega)]
      go_wp2_with fail
      refine (szInts_any sb m cb _ hm hb _).mono ?_
      rintro e w2 ⟨rfl, rfl⟩
      rw [if_pos (by omega)]
      go_wp2
      go_ret
      exact ⟨⟨_, rfl, Or.inl (by omega)⟩, X0.out⟩
    · go_enter Tryz.func24, Tryz.ntmps24
      go_wp2_with fail
      refine (szInts_any sa n ca left hn hl _).mono ?_
      rintro e w1 ⟨rfl, rfl⟩
      rw [if_neg (by omega)]
      go_wp2_with fail
      refine (szInts_any sb m cb _ hm hb _).mono ?_
      rintro e w2 ⟨rfl, rfl⟩
      rw [if_neg (by omega)]
      go_wp2
      go_ret
      exact ⟨⟨_, rfl, Or.inr ⟨by omega, by omega, by omega⟩⟩, X0.out⟩

set_option maxRecDepth 100000 in
set_option maxHeartbeats 2000000 in
theorem szArray_any (st : Int) (sa sb : Option Addr) (n ca m cb : Nat) (off left : Int) (hl : 0 ≤ left ∧ left ≤ 1048576) (hn : n ≤ 9223372036854775807) (hm : m ≤ 9223372036854775807) (w : World) :
    Calls Tryz.prog 7 #[.agg #[.int .i64 st, .slice sa n ca, .slice sb m cb, .int .i64 off], .int .i64 left] w fun e w' => SzAOk left n m e ∧ Ext w w' := by
  have x0 : Ext w (w.alloc (.cells #[.int .i64 st, .slice sa n ca, .slice sb m cb, .int .i64 off] 29)) := (Ext.refl w).alloc _ _
  have X0 := hide x0
  clear x0
  go_enter Tryz.func7, Tryz.ntmps7
  go_wp2_with fail
  refine (szView_rel sa sb n ca m cb off left hl hn hm _).mono ?_
  rintro e w1 ⟨⟨r, rfl, hr⟩, x1⟩
  have X1 := hide (X0.out.trans x1)
  clear x1
  rcases hr with hr | ⟨h1, h2, h3⟩
  · go_wp2
    go_ret
    exact ⟨⟨_, rfl, Or.inl (by omega)⟩, X1.out⟩
  · have hr : ¬ r < 0 := by omega
    go_wp2
    go_ret
    exact ⟨⟨_, rfl, Or.inr ⟨by omega, h2, h3⟩⟩, X1.out⟩
end Go.Proofs.YtfhcpicddegblaaGreat
namespace Go.Proofs.YtfhcpicddegblaaGreat
open Go.ChangeShapes Go.RowKit FL
set_option linter.unusedSimpArgs false
set_option linter.unusedVariables false
def SzA2 (left : Int) (n m : Nat) (e : Ending) : Prop := ∃ r : Int, e = .returned (.int .i64 r) ∧ (r < 0 ∨ (0 ≤ r ∧ r ≤ left ∧ n ≤ 1048576 ∧ m ≤ 1048576))
set_option maxRecDepth 100000 in
set_option maxHeartbeats 2000000 in
theorem szView_2 (sa sb : Option Addr) (n ca m cb : Nat) (off left : Int) (hl : 0 ≤ left ∧ left ≤ 1048576) (hn : n ≤ 9223372036854775807) (hm : m ≤ 9223372036854775807) (w : World) :
    Calls Tryz.prog 24 #[.agg #[.slice sa n ca, .slice sb m cb, .int .i64 off], .int .i64 left] w fun e w' => SzA2 left n m e ∧ Ext w w' := by
  have x0 : Ext w (w.alloc (.cells #[.slice sa n ca, .slice sb m cb, .int .i64 off] 27)) := (Ext.refl w).alloc _ _
  have X0 := hide x0
  clear x0
  by_cases h : left - (n : Int) < 0
  · go_enter Tryz.func24, Tryz.ntmps24
    go_wp2_with fail
    refine (szInts_any sa n ca left hn hl _).mono ?_
    rintro e w1 ⟨rfl, rfl⟩
    rw [if_pos (by omega)]
    go_wp2
    go_ret
    exact ⟨⟨_, rfl, Or.inl (by omega)⟩, X0.out⟩
  · have hb : 0 ≤ left - n ∧ left - n ≤ 1048576 := by omega
    by_cases h2 : left - (n : Int) - (m : Int) < 0
    · go_enter Tryz.func24, Tryz.ntmps24
      go_wp2_with fail
      refine (szInts_any sa n ca left hn hl _).mono ?_
      rintro e w1 ⟨rfl, rfl⟩
      rw [if_neg (by omega)]
      go_wp2_with fail
      refine (szInts_any sb m cb _ hm hb _).mono ?_
      rintro e w2 ⟨rfl, rfl⟩
      rw [if_pos (by omega)]
      go_wp2
      go_ret
      exact ⟨⟨_, rfl, Or.inl (by omega)⟩, X0.out⟩
    · go_enter Tryz.func24, Tryz.ntmps24
      go_wp2_with fail
      refine (szInts_any sa n ca left hn hl _).mono ?_
      rintro e w1 ⟨rfl, rfl⟩
      rw [if_neg (by omega)]
      go_wp2_with fail
      refine (szInts_any sb m cb _ hm hb _).mono ?_
      rintro e w2 ⟨rfl, rfl⟩
      rw [if_neg (by omega)]
      go_wp2
      go_ret
      exact ⟨⟨_, rfl, Or.inr ⟨by omega, by omega, by omega, by omega⟩⟩, X0.out⟩

set_option maxRecDepth 100000 in
set_option maxHeartbeats 2000000 in
theorem szArray2 (st : Int) (sa sb : Option Addr) (n ca m cb : Nat) (off left : Int) (hl : 0 ≤ left ∧ left ≤ 1048576) (hn : n ≤ 9223372036854775807) (hm : m ≤ 9223372036854775807) (w : World) :
    Calls Tryz.prog 7 #[.agg #[.int .i64 st, .slice sa n ca, .slice sb m cb, .int .i64 off], .int .i64 left] w fun e w' => SzA2 left n m e ∧ Ext w w' := by
  have x0 : Ext w (w.alloc (.cells #[.int .i64 st, .slice sa n ca, .slice sb m cb, .int .i64 off] 29)) := (Ext.refl w).alloc _ _
  have X0 := hide x0
  clear x0
  go_enter Tryz.func7, Tryz.ntmps7
  go_wp2_with fail
  refine (szView_2 sa sb n ca m cb off left hl hn hm _).mono ?_
  rintro e w1 ⟨⟨r, rfl, hr⟩, x1⟩
  have X1 := hide (X0.out.trans x1)
  clear x1
  rcases hr with hr | ⟨h1, h4, h2, h3⟩
  · go_wp2
    go_ret
    exact ⟨⟨_, rfl, Or.inl (by omega)⟩, X1.out⟩
  · have hr : ¬ r < 0 := by omega
    go_wp2
    go_ret
    exact ⟨⟨_, rfl, Or.inr ⟨by omega, by omega, h2, h3⟩⟩, X1.out⟩
set_option maxRecDepth 100000 in
set_option maxHeartbeats 1000000 in
theorem markView2 {w : World} {b c : Nat} {xs sv : List Int} (off : Int) (hx : Row w b 0 xs) (hs : Row w c 0 sv) (hbc : b < c) (hcs : c < w.heap.size) (hf : ∀ d o, b ≤ d → d ≤ c → w.frozen? ⟨d, o, none⟩ = false) (lx : xs.length ≤ 1048576) (ls : sv.length ≤ 1048576) (k : Int) (hk : 0 ≤ k ∧ k ≤ 20000000000000) :
    Calls Tryz.prog 50 #[.agg #[.slice (some ⟨b, 0, none⟩) xs.length xs.length, .slice (some ⟨c, 0, none⟩) sv.length sv.length, .int .i64 off], .int .i64 k] w fun e w' => (∃ r : Int, e = .returned (.int .i64 r) ∧ 0 ≤ r ∧ r ≤ k + 4194304) ∧ MIn b (c + 1) w w' := by
  have x0 : Ext w (w.alloc (.cells #[.slice (some ⟨b, 0, none⟩) xs.length xs.length, .slice (some ⟨c, 0, none⟩) sv.length sv.length, .int .i64 off] 39)) := (Ext.refl w).alloc _ _
  have n1 := fun j => new_cell w #[.slice (some ⟨b, 0, none⟩) xs.length xs.length, .slice (some ⟨c, 0, none⟩) sv.length sv.length, .int .i64 off] 39 w.heap.size rfl j
  have C1 := hide (n1 1)
  have HX := hide (hx.ext x0)
  have HS := hide (hs.ext x0)
  have HF : Hid (∀ d o, b ≤ d → d ≤ c → (w.alloc (.cells #[.slice (some ⟨b, 0, none⟩) xs.length xs.length, .slice (some ⟨c, 0, none⟩) sv.length sv.length, .int .i64 off] 39)).frozen? ⟨d, o, none⟩ = false) := fun d o hd hd2 => (x0.fz _).trans (hf d o hd hd2)
  have X0 := hide (x0.mIn (lo := b) (hi := c + 1) (by omega))
  have hsz := Below.size x0.bl
  have hm := hide (markI_any (cap := xs.length) HX.out (fun o => HF.out b o (Nat.le_refl _) (by omega)) k ⟨hk.1, by omega⟩ (by omega))
  clear x0 n1 hx hs hf
  go_enter Tryz.func50, Tryz.ntmps50
  go_wp2_with fail
  generalize w.alloc (.cells #[.slice (some ⟨b, 0, none⟩) xs.length xs.length, .slice (some ⟨c, 0, none⟩) sv.length sv.length, .int .i64 off] 39) = W0 at *
  refine hm.out.mono ?_
  rintro e w1 ⟨rfl, _, hmu⟩
  have c1 := hmu.box (by omega) C1.out
  have HS1 := hide (HS.out.mut hmu (by omega))
  have X1 := hide (X0.out.tr (hmu.mIn (lo := b) (hi := c + 1) (Nat.le_refl _) (by omega) (by omega)))
  have F1 : Hid (∀ o, w1.frozen? ⟨c, o, none⟩ = false) := fun o => (hmu.fz _).trans (HF.out c o (by omega) (Nat.le_refl _))
  have hs1 := hmu.size
  clear hmu hm HX HS HF X0 C1
  go_wp2_with (go_at_call 93; refine (markI_any (cap := sv.length) HS1.out F1.out (k + xs.length) ⟨by omega, by omega⟩ (by omega)).mono ?_; rintro e w2 ⟨rfl, _, hmu2⟩)
  go_ret
  exact ⟨⟨_, rfl, by omega, by omega⟩, X1.out.tr (hmu2.mIn (lo := b) (hi := c + 1) (by omega) (by omega) (by omega))⟩

set_option maxRecDepth 100000 in
set_option maxHeartbeats 1000000 in
theorem markArray2 {w : World} {b c : Nat} {xs sv : List Int} (st off : Int) (hx : Row w b 0 xs) (hs : Row w c 0 sv) (hbc : b < c) (hcs : c < w.heap.size) (hf : ∀ d o, b ≤ d → d ≤ c → w.frozen? ⟨d, o, none⟩ = false) (lx : xs.length ≤ 1048576) (ls : sv.length ≤ 1048576) (k : Int) (hk : 0 ≤ k ∧ k ≤ 20000000000000) :
    Calls Tryz.prog 16 #[.agg #[.int .i64 st, .slice (some ⟨b, 0, none⟩) xs.length xs.length, .slice (some ⟨c, 0, none⟩) sv.length sv.length, .int .i64 off], .int .i64 k] w fun e w' => (∃ r : Int, e = .returned (.int .i64 r) ∧ 0 ≤ r ∧ r ≤ k + 4194304) ∧ MIn b (c + 1) w w' := by
  have x0 : Ext w (w.alloc (.cells #[.int .i64 st, .slice (some ⟨b, 0, none⟩) xs.length xs.length, .slice (some ⟨c, 0, none⟩) sv.length sv.length, .int .i64 off] 41)) := (Ext.refl w).alloc _ _
  have hm := hide (markView2 off (hx.ext x0) (hs.ext x0) hbc (Nat.lt_of_lt_of_le hcs (Below.size x0.bl)) (fun d o hd hd2 => (x0.fz _).trans (hf d o hd hd2)) lx ls k hk)
  have X0 := hide (x0.mIn (lo := b) (hi := c + 1) (by omega))
  clear x0 hx hs hf
  go_enter Tryz.func16, Tryz.ntmps16
  go_wp2_with (go_at_call 50; refine hm.out.mono ?_; rintro e w2 ⟨⟨r, rfl, h0, h1⟩, hx⟩)
  go_ret
  exact ⟨⟨r, rfl, h0, h1⟩, X0.out.tr hx⟩
/-- Blocks of lo to hi alone may have turned. -/
structure MK (lo hi : Nat) (w w' : World) : Prop where
  bl : Below lo w w'
  up : ∀ c, hi ≤ c → c < w.heap.size → w'.heap[c]? = w.heap[c]?
theorem MK.refl (lo hi : Nat) (w : World) : MK lo hi w w := ⟨Below.refl _ _, fun _ _ _ => rfl⟩
theorem MK.tr {lo hi : Nat} {a b c : World} (x : MK lo hi a b) (y : MK lo hi b c) : MK lo hi a c := ⟨x.bl.trans y.bl, fun k h1 h2 => (y.up k h1 (Nat.lt_of_lt_of_le h2 x.bl.size)).trans (x.up k h1 h2)⟩
theorem Ext.kept {lo hi : Nat} {w w' : World} (x : Ext w w') (h : lo ≤ w.heap.size) : MK lo hi w w' := ⟨Below.mono x.bl h, fun c _ hc => x.bl.block c hc⟩
theorem MK.set {lo hi b o : Nat} {w W : World} (h : MK lo hi w W) (h1 : lo ≤ b) (h2 : b < hi) (v : Value) : MK lo hi w (W.setCell ⟨b, o, none⟩ v) := ⟨h.bl.setCell (p := ⟨b, o, none⟩) h1 _, fun c h3 h4 => (Below.heap_setCell _ _ _ _ (by show c ≠ b; omega)).trans (h.up c h3 h4)⟩
theorem MK.mut {lo hi b : Nat} {w W W' : World} (h : MK lo hi w W) (m : Mut b W W') (h1 : lo ≤ b) (h2 : b < hi) (hs : lo ≤ W.heap.size) : MK lo hi w W' :=
  ⟨h.bl.trans ⟨m.os, m.tape, m.output, m.size, fun c hc => m.block c (by omega) (by omega)⟩, fun c h3 h4 => (m.block c (Nat.lt_of_lt_of_le h4 h.bl.size) (by omega)).trans (h.up c h3 h4)⟩
theorem MK.box {lo hi b o : Nat} {w w' : World} {x : Value} (h : MK lo hi w w') (hb : hi ≤ b) (hx : w.cell? ⟨b, o, none⟩ = some x) : w'.cell? ⟨b, o, none⟩ = some x := (World.cell?_of_block (w := w) (a := ⟨b, o, none⟩) (h.up b hb (cell_lt hx))).trans hx
/-- A heap of the program's own, its blocks between lo and hi. -/
def MOwnH (w : World) (lo hi : Nat) (v : Value) (ss : List St) : Prop := (ss = [] ∧ v = .slice none 0 0) ∨ ∃ g cap cb, v = .slice (some ⟨g, 0, none⟩) ss.length cap ∧ HOwn w lo g cb ss ∧ g < hi ∧ ∀ j, j < ss.length → (ss.getD j s0).2 ≠ [] → cb j < hi
theorem MOwn.high {w : World} {lo : Nat} {v : Value} {ss : List St} (h : MOwn w lo v ss) : MOwnH w lo w.heap.size v ss :=
  h.imp id fun ⟨g, cap, cb, e, k⟩ => ⟨g, cap, cb, e, k, k.g_lt, fun j hj hne => cell_lt (k.row j hj hne 0 (List.length_pos_iff.2 hne)).1⟩
theorem MOwnH.own {w : World} {lo hi : Nat} {v : Value} {ss : List St} (h : MOwnH w lo hi v ss) : MOwn w lo v ss := h.imp id fun ⟨g, cap, cb, e, k, _⟩ => ⟨g, cap, cb, e, k⟩
theorem MOwnH.bel {w w' : World} {lo hi : Nat} {v : Value} {ss : List St} (h : MOwnH w lo hi v ss) (x : Bel w w') : MOwnH w' lo hi v ss :=
  h.imp id fun ⟨g, cap, cb, e, k, q⟩ => ⟨g, cap, cb, e, k.keep (fun b _ hb => x.block b hb) x.size, q⟩
set_option maxRecDepth 100000 in
set_option maxHeartbeats 2000000 in
theorem markS_own2 {w : World} {lo hi g cap : Nat} {cb : Nat → Nat} {ss : List St} (h : HOwn w lo g cb ss) (hl : SL ss 1048576) (k : Int) (hk : 0 ≤ k ∧ k ≤ 1000) (hgh : g < hi) (hch : ∀ j, j < ss.length → (ss.getD j s0).2 ≠ [] → cb j < hi) :
    Calls Tryz.prog 49 #[.slice (some ⟨g, 0, none⟩) ss.length cap, .int .i64 k] w fun e w' => e = .returned (.int .i64 (kAt ss k ss.length)) ∧ HOwn w' lo g cb (mkdN ss k ss.length) ∧ MK lo hi w w' := by
  have H := hide h
  have HL := hide hl
  have hl1 := hl.1
  have HCH := hide hch
  clear h hl hch
  go_enter Tryz.func49, Tryz.ntmps49
  go_wp2
  go_loopw [1, 5] (fun m i wr => ∃ j : Nat, i = .int .i64 j ∧ m = .int .i64 (kAt ss k j) ∧ j ≤ ss.length ∧ HOwn wr lo g cb (mkdN ss k j) ∧ MK lo hi w wr) (fun m i _ => ss.length - (intOf i).toNat)
  case atStart => exact ⟨0, rfl, rfl, by omega, by rw [mkdN_zero]; exact H.out, MK.refl _ _ _⟩
  case round =>
    obtain ⟨j, rfl, rfl, hj, hO, hB⟩ := hrel
    have HO := hide hO
    have HB := hide hB
    clear hO hB
    by_cases hlt : j < ss.length
    · have hjm : j < (mkdN ss k j).length := by rw [mkdN_len]; exact hlt
      have q0 := HO.out.dt j hjm
      obtain ⟨sa, cp, q1, q2⟩ := HO.out.sl j hjm
      rw [mkdN_clen _ _ _ _ hlt] at q1
      have qf := HO.out.fz (j * 2)
      have hj0 : (0 : Int) ≤ (j : Int) := Int.natCast_nonneg _
      have hj1 : (j : Int) < (ss.length : Int) := by omega
      have hcl := HL.out.at j hlt
      have hkb := kAt_bd ss HL.out k hk j hj
      have hkn : Hid (kAt ss k (j + 1) = kAt ss k j + 1 + 3 * (ss.getD j s0).2.length) := rfl
      have hlg := HO.out.lo_g
      have hgl := HO.out.g_lt
      have ne : ∀ {a b : Nat} {W : World} {u : Value}, a ≠ b → (W.setCell ⟨g, a, none⟩ u).cell? ⟨g, b, none⟩ = W.cell? ⟨g, b, none⟩ := fun {a b W u} h => World.cell?_setCell_other _ _ _ _ (by intro e; simp only [Addr.mk.injEq] at e; omega)
      have p1 : (wr.setCell ⟨g, j * 2, none⟩ (.int .i64 (kAt ss k j))).cell? ⟨g, j * 2 + 1, none⟩ = some (.slice sa (ss.getD j s0).2.length cp) := (ne (by omega)).trans q1
      generalize hkk : kAt ss k j = kj at *
      by_cases hne : (ss.getD j s0).2 = []
      · have hlen0 : (ss.getD j s0).2.length = 0 := by rw [hne]; rfl
        rw [hlen0] at p1 q1 hkn
        have HN : Hid (HOwn (wr.setCell ⟨g, j * 2, none⟩ (.int .i64 kj)) lo g cb (mkdN ss k (j + 1))) := HO.out.mark hlt (fun c _ hc _ => Below.heap_setCell _ _ _ _ hc) (fun o x ho hx => (ne (Ne.symm ho)).trans hx) (by rw [hkk]; exact World.cell?_setCell_same _ _ _ q0) (fun q => absurd hne q) (fun a => World.frozen?_setCell _ _ _ _) (by simp [World.setCell])
        have HBN : Hid (MK lo hi w (wr.setCell ⟨g, j * 2, none⟩ (.int .i64 kj))) := HB.out.set hlg hgh _
        clear ne
        go_wp2_with (go_at_call 92; refine (markC_nil (kj + 1)).mono ?_; rintro e w2 ⟨rfl, rfl⟩)
        refine ⟨⟨j + 1, by go_num, by rw [hkn.out]; simp, by omega, HN.out, HBN.out⟩, ?_⟩
        simp [intOf]; omega
      · have hnem : ((mkdN ss k j).getD j s0).2 ≠ [] := fun e => hne (by rw [nil_len, mkdN_clen _ _ _ _ hlt] at e; rw [nil_len]; exact e)
        obtain rfl := q2.resolve_left hnem
        have hrow := HO.out.row j hjm hnem
        have hgc := HO.out.g_cb j hjm hnem
        have hfr := HO.out.fzr j hjm hnem
        have hex : Ex (wr.setCell ⟨g, j * 2, none⟩ (.int .i64 kj)) (cb j) 0 (ss.getD j s0).2.length := by
          have q := hrow.ex.ke ((KE.refl wr).set ⟨g, j * 2, none⟩ (.int .i64 kj))
          rw [mkdN_clen _ _ _ _ hlt] at q
          exact q
        have HMC := hide (markC_any (cap := cp) hex (fun o => by rw [World.frozen?_setCell]; exact hfr o) (kj + 1) ⟨by omega, by omega⟩ hcl)
        have hcs : Hid (∀ (n : Nat), n = (ss.getD j s0).2.length → True) := fun _ _ => trivial
        generalize hW1 : wr.setCell ⟨g, j * 2, none⟩ (.int .i64 kj) = W1 at *
        have HST : Hid (∀ w2, CRow w2 (cb j) 0 (ccount (ss.getD j s0).2.length (kj + 1)) → Mut (cb j) W1 w2 → HOwn w2 lo g cb (mkdN ss k (j + 1)) ∧ MK lo hi w w2) := fun w2 hr hm => by
          have hbk : ∀ c, c ≠ g → W1.heap[c]? = wr.heap[c]? := fun c hc => by rw [← hW1]; exact Below.heap_setCell _ _ _ _ hc
          have hs1 : W1.heap.size = wr.heap.size := by rw [← hW1]; simp [World.setCell]
          have hg2 : w2.heap[g]? = W1.heap[g]? := hm.block g (by omega) (by omega)
          have hc2 : ∀ o, w2.cell? ⟨g, o, none⟩ = W1.cell? ⟨g, o, none⟩ := fun o => World.cell?_of_block (w := W1) (a := ⟨g, o, none⟩) hg2
          refine ⟨HO.out.mark hlt (fun c hcl2 hc hc2 => ?_) (fun o x ho hx => ?_) ?_ (fun _ => by rw [hkk]; exact hr) (fun a => (hm.fz a).trans (by rw [← hW1, World.frozen?_setCell])) (by have := hm.size; omega), ?_⟩
          · exact (hm.block c (by omega) (hc2 hne)).trans (hbk c hc)
          · rw [hc2 o, ← hW1, ne (Ne.symm ho)]; exact hx
          · rw [hc2, hkk, ← hW1, World.cell?_setCell_same _ _ _ q0]
          · have hB1 : MK lo hi w W1 := by rw [← hW1]; exact HB.out.set hlg hgh _
            exact hB1.mut hm (by omega) (HCH.out j hlt hne) (by omega)
        clear ne hex hcs
        generalize (ss.getD j s0).2 = cs at p1 q1 HMC HST hkn hcl hne
        go_wp2_with (go_at_call 92; (try rw [hW1]); refine HMC.out.mono ?_; rintro e w2 ⟨rfl, hr2, hm2, _⟩; have H2 := hide (HST.out w2 hr2 hm2); clear hr2 hm2)
        refine ⟨⟨j + 1, by go_num, by rw [hkn.out], by omega, H2.out.1, H2.out.2⟩, ?_⟩
        simp [intOf]; omega
    · have hjj : j = ss.length := by omega
      subst hjj
      go_wp2
      go_ret
      exact ⟨rfl, HO.out, HB.out⟩
set_option maxRecDepth 100000 in
set_option maxHeartbeats 2000000 in
theorem markHeap_own2 {w : World} {lo hi g cap : Nat} {cb : Nat → Nat} {ss : List St} (h : HOwn w lo g cb ss) (hl : SL ss 1048576) (hlo : lo ≤ w.heap.size) (hgh : g < hi) (hch : ∀ j, j < ss.length → (ss.getD j s0).2 ≠ [] → cb j < hi) :
    Calls Tryz.prog 15 #[.agg #[.slice (some ⟨g, 0, none⟩) ss.length cap], .int .i64 1] w fun e w' => e = .returned (.int .i64 (kAt ss 1 ss.length)) ∧ HOwn w' lo g cb (mkdN ss 1 ss.length) ∧ MK lo hi w w' := by
  have x1 : Ext w (w.alloc (.cells #[.slice (some ⟨g, 0, none⟩) ss.length cap] 34)) := (Ext.refl w).alloc _ _
  have HM := hide (markS_own2 (cap := cap) (h.keep (fun b _ hb => x1.bl.block b hb) x1.bl.size) hl 1 (by omega) hgh hch)
  have X1 : Hid (MK lo hi w (w.alloc (.cells #[.slice (some ⟨g, 0, none⟩) ss.length cap] 34))) := ((Ext.refl _).alloc _ _).kept hlo
  clear h x1 hch
  go_enter Tryz.func15, Tryz.ntmps15
  go_wp2_with (go_at_call 49; refine HM.out.mono ?_; rintro e w2 ⟨rfl, h2, b2⟩; have H2 := hide h2; have B2 := hide (X1.out.tr b2); clear h2 b2)
  go_ret
  exact ⟨rfl, H2.out, B2.out⟩

set_option maxRecDepth 100000 in
set_option maxHeartbeats 2000000 in
theorem markHR2 {w : World} {lo hi : Nat} {v : Value} {ss : List St} (c : Int) (h : MOwnH w lo hi v ss) (hl : SL ss 1048576) (hlo : lo ≤ w.heap.size) :
    Calls Tryz.prog 17 #[.agg #[.int .i64 c, v], .int .i64 1] w fun e w' => e = .returned (.int .i64 (kAt ss 1 ss.length)) ∧ SV w' v (mkdN ss 1 ss.length) ∧ MK lo hi w w' := by
  rcases h with ⟨rfl, rfl⟩ | ⟨g, cap, cb, rfl, h, hgh, hch⟩
  · have X1 : Hid (MK lo hi w (w.alloc (.cells #[.int .i64 c, .slice none 0 0] 36))) := ((Ext.refl _).alloc _ _).kept hlo
    go_enter Tryz.func17, Tryz.ntmps17
    go_wp2_with (go_at_call 15; refine (markHeap_none _ _).mono ?_; rintro e w2 ⟨rfl, x2⟩; have B2 := hide (X1.out.tr (x2.kept (Nat.le_trans hlo X1.out.bl.size))); clear x2)
    go_ret
    exact ⟨rfl, ⟨none, 0, rfl, Or.inl rfl⟩, B2.out⟩
  · have x1 : Ext w (w.alloc (.cells #[.int .i64 c, .slice (some ⟨g, 0, none⟩) ss.length cap] 36)) := (Ext.refl w).alloc _ _
    have X1 : Hid (MK lo hi w (w.alloc (.cells #[.int .i64 c, .slice (some ⟨g, 0, none⟩) ss.length cap] 36))) := ((Ext.refl _).alloc _ _).kept hlo
    have HM := hide (markHeap_own2 (cap := cap) (h.keep (fun b _ hb => x1.bl.block b hb) x1.bl.size) hl (Nat.le_trans hlo x1.bl.size) hgh hch)
    clear h x1 hch
    go_enter Tryz.func17, Tryz.ntmps17
    go_wp2_with (go_at_call 15; refine HM.out.mono ?_; rintro e w2 ⟨rfl, h2, b2⟩; have H2 := hide h2; have B2 := hide (X1.out.tr b2); clear h2 b2)
    go_ret
    have q := H2.out.sv (cap := cap)
    rw [mkdN_len] at q
    exact ⟨rfl, q, B2.out⟩

theorem AV.keep {w w' : World} {v : Value} {a : Ar} (h : AV w v a) (x : Bel w w') : AV w' v a := by
  obtain ⟨p, c, q, d, e, h1, h2, h3⟩ := h
  exact ⟨p, c, q, d, e, ints_bel h1 x, ints_bel h2 x, h3⟩
/-- The boxes of the law's arguments. -/
structure LX (w : World) (hv : Value) (A1 A2 A3 : List Value) (W : World) : Prop where
  h : W.cell? ⟨w.heap.size, 0, none⟩ = some hv
  a : AtB W (w.heap.size + 1) A1
  b : AtB W (w.heap.size + 1 + 1) A2
  o : AtB W (w.heap.size + 1 + 1 + 1) A3
  bl : Bel w W
theorem LX.keep {w : World} {hv : Value} {A1 A2 A3 : List Value} {W W' : World} (h : LX w hv A1 A2 A3 W) (x : Bel W W') : LX w hv A1 A2 A3 W' :=
  ⟨Bel.box x h.h, h.a.keep x, h.b.keep x, h.o.keep x, Bel.tr h.bl x⟩
theorem LX.start (w : World) (hv : Value) (A1 A2 A3 : List Value) : LX w hv A1 A2 A3 ((((w.alloc (.cells #[hv] 24)).alloc (.cells A1.toArray 29)).alloc (.cells A2.toArray 29)).alloc (.cells A3.toArray 29)) := by
  have e0 := ((((Ext.refl w).alloc #[hv] 24).alloc A1.toArray 29).alloc A2.toArray 29).alloc A3.toArray 29
  have e1 := ((((Ext.refl (w.alloc (.cells #[hv] 24)))).alloc A1.toArray 29).alloc A2.toArray 29).alloc A3.toArray 29
  have e2 := (((Ext.refl ((w.alloc (.cells #[hv] 24)).alloc (.cells A1.toArray 29)))).alloc A2.toArray 29).alloc A3.toArray 29
  have e3 := ((Ext.refl (((w.alloc (.cells #[hv] 24)).alloc (.cells A1.toArray 29)).alloc (.cells A2.toArray 29)))).alloc A3.toArray 29
  exact ⟨e1.box (new_cell w #[hv] 24 _ rfl 0), fun j x hx => e2.box ((new_cell _ A1.toArray 29 (w.heap.size + 1) (by simp) j).trans (by simpa using hx)), fun j x hx => e3.box ((new_cell _ A2.toArray 29 (w.heap.size + 1 + 1) (by simp) j).trans (by simpa using hx)), fun j x hx => (new_cell _ A3.toArray 29 (w.heap.size + 1 + 1 + 1) (by simp) j).trans (by simpa using hx), e0.bl⟩
/-- A heap that was copied, in its box. -/
structure CpH (W : World) (lo B g : Nat) (ss : List St) : Prop where
  box : W.cell? ⟨B, 0, none⟩ = some (.slice (some ⟨g, 0, none⟩) ss.length ss.length)
  sv : SV W (.slice (some ⟨g, 0, none⟩) ss.length ss.length) ss
  row : WRow W (g + 1) B g 0 ss
  fz : ∀ c o, g ≤ c → c < B → W.frozen? ⟨c, o, none⟩ = false
  lo_g : lo ≤ g
  gB : ss = [] ∨ g < B
  lo_B : lo ≤ B
  Bs : B < W.heap.size
theorem CpH.keep {W W' : World} {lo B g : Nat} {ss : List St} (h : CpH W lo B g ss) (x : Bel W W') : CpH W' lo B g ss :=
  ⟨Bel.box x h.box, h.sv.keep x, h.row.step (fun b o v q => ⟨v, Bel.box x q⟩) (fun o v _ hc => Bel.box x hc), fun c o h1 h2 => (Below.frozen x (p := ⟨c, o, none⟩) (by show c < _; have := h.Bs; omega)).trans (h.fz c o h1 h2), h.lo_g, h.gB, h.lo_B, Nat.lt_of_lt_of_le h.Bs x.size⟩
theorem CpH.new {w w' : World} {g : Nat} {ss : List St} (hg : w.heap.size ≤ g) (r : SRowL w' (g + 1) g 0 ss) (x : Ext w w') : CpH (w'.alloc (.cells #[.slice (some ⟨g, 0, none⟩) ss.length ss.length] 34)) w.heap.size w'.heap.size g ss := by
  have e := (Ext.refl w').alloc #[.slice (some ⟨g, 0, none⟩) ss.length ss.length] 34
  refine ⟨new_cell w' _ 34 _ rfl 0, (r.sv rfl).keep e.bl, r.wrow.step (fun b o v q => ⟨v, Bel.box e.bl q⟩) (fun o v _ hc => Bel.box e.bl hc), fun c o h1 h2 => (x.trans e).unfrozen (by omega) o, hg, ?_, x.bl.size, by simp⟩
  by_cases q : ss = []
  · exact Or.inl q
  · exact Or.inr (cell_lt (r 0 (List.length_pos_iff.2 q)).1)
/-- An array as values. -/
def arL (a : Ar) (b c : Nat) : List Value := [.int .i64 a.st, .slice (some ⟨b, 0, none⟩) a.xs.length a.xs.length, .slice (some ⟨c, 0, none⟩) a.sv.length a.sv.length, .int .i64 a.off]
/-- An array that was copied, in its box. -/
structure CpA (W : World) (lo B b c : Nat) (a : Ar) : Prop where
  box : AtB W B (arL a b c)
  x : Row W b 0 a.xs
  s : Row W c 0 a.sv
  fz : ∀ d o, b ≤ d → d ≤ c → W.frozen? ⟨d, o, none⟩ = false
  lo_b : lo ≤ b
  bc : b < c
  cB : c < B
  Bs : B < W.heap.size
theorem CpA.keep {W W' : World} {lo B b c : Nat} {a : Ar} (h : CpA W lo B b c a) (x : Bel W W') : CpA W' lo B b c a :=
  ⟨h.box.keep x, fun j hj => Bel.box x (h.x j hj), fun j hj => Bel.box x (h.s j hj), fun d o h1 h2 => (Below.frozen x (p := ⟨d, o, none⟩) (by show d < _; have := h.Bs; have := h.cB; omega)).trans (h.fz d o h1 h2), h.lo_b, h.bc, h.cB, Nat.lt_of_lt_of_le h.Bs x.size⟩
theorem CpA.mIn {W W' : World} {lo B b c p q : Nat} {a : Ar} (h : CpA W lo B b c a) (x : MIn p q W W') (hq : q ≤ lo) : CpA W' lo B b c a :=
  ⟨fun j y hy => x.box _ _ _ (Or.inr (by have := h.lo_b; have := h.bc; have := h.cB; omega)) (h.box j y hy), fun j hj => x.box _ _ _ (Or.inr (by have := h.lo_b; omega)) (h.x j hj), fun j hj => x.box _ _ _ (Or.inr (by have := h.lo_b; have := h.bc; omega)) (h.s j hj), fun d o h1 h2 => (x.fz _).trans (h.fz d o h1 h2), h.lo_b, h.bc, h.cB, Nat.lt_of_lt_of_le h.Bs x.bl.size⟩
theorem CpA.new {w w' : World} {b c : Nat} {a : Ar} (hb : w.heap.size ≤ b) (hbc : b < c) (hc : c < w'.heap.size) (hx : Row w' b 0 a.xs) (hs : Row w' c 0 a.sv) (x : Ext w w') : CpA (w'.alloc (.cells #[.int .i64 a.st, .slice (some ⟨b, 0, none⟩) a.xs.length a.xs.length, .slice (some ⟨c, 0, none⟩) a.sv.length a.sv.length, .int .i64 a.off] 41)) w.heap.size w'.heap.size b c a := by
  have e := (Ext.refl w').alloc #[.int .i64 a.st, .slice (some ⟨b, 0, none⟩) a.xs.length a.xs.length, .slice (some ⟨c, 0, none⟩) a.sv.length a.sv.length, .int .i64 a.off] 41
  exact ⟨fun j y hy => (new_cell w' _ 41 _ rfl j).trans (by simpa [arL] using hy), fun j hj => e.box (hx j hj), fun j hj => e.box (hs j hj), fun d o h1 h2 => (x.trans e).unfrozen (by omega) o, hb, hbc, hc, by simp⟩
theorem CpA.av {W : World} {lo B b c : Nat} {a : Ar} (h : CpA W lo B b c a) (hl : a.Len) : AV W (.agg #[.int .i64 a.st, .slice (some ⟨b, 0, none⟩) a.xs.length a.xs.length, .slice (some ⟨c, 0, none⟩) a.sv.length a.sv.length, .int .i64 a.off]) a :=
  ⟨_, _, _, _, rfl, h.x.ints rfl, h.s.ints rfl, hl⟩
theorem HOwn.mIn {w w' : World} {lo g p q : Nat} {cb : Nat → Nat} {ss : List St} (h : HOwn w lo g cb ss) (x : MIn p q w w') (hq : q ≤ lo) : HOwn w' lo g cb ss := by
  have hlg := h.lo_g
  refine ⟨fun j hj => x.box _ _ _ (Or.inr (by omega)) (h.dt j hj), fun j hj => ?_, fun j hj hne => ?_, fun o => (x.fz _).trans (h.fz o), fun j hj hne o => (x.fz _).trans (h.fzr j hj hne o), h.lo_g, Nat.lt_of_lt_of_le h.g_lt x.bl.size, h.g_cb, h.inc⟩
  · obtain ⟨sa, cap, h1, h2⟩ := h.sl j hj
    exact ⟨sa, cap, x.box _ _ _ (Or.inr (by omega)) h1, h2⟩
  · have hr := h.row j hj hne
    have hc := h.g_cb j hj hne
    exact fun i hi => ⟨x.box _ _ _ (Or.inr (by omega)) (hr i hi).1, x.box _ _ _ (Or.inr (by omega)) (hr i hi).2.1, x.box _ _ _ (Or.inr (by omega)) (hr i hi).2.2⟩
theorem MOwn.mIn {w w' : World} {lo p q : Nat} {v : Value} {ss : List St} (h : MOwn w lo v ss) (x : MIn p q w w') (hq : q ≤ lo) : MOwn w' lo v ss :=
  h.imp id fun ⟨g, cap, cb, e, k⟩ => ⟨g, cap, cb, e, k.mIn x hq⟩
theorem MOwn.bel {w w' : World} {lo : Nat} {v : Value} {ss : List St} (h : MOwn w lo v ss) (x : Bel w w') : MOwn w' lo v ss := h.keep (fun b _ hb => x.block b hb) x.size
theorem MOwn.far {w : World} {lo : Nat} {v : Value} {ss : List St} (h : MOwn w lo v ss) {b o : Nat} (hb : b < lo) (u : Value) : MOwn (w.setCell ⟨b, o, none⟩ u) lo v ss :=
  h.keep (fun c hc _ => Below.heap_setCell _ _ _ _ (by show c ≠ b; omega)) (by simp [World.setCell])
theorem MOwnH.mIn {w w' : World} {lo hi p q : Nat} {v : Value} {ss : List St} (h : MOwnH w lo hi v ss) (x : MIn p q w w') (hq : q ≤ lo) : MOwnH w' lo hi v ss :=
  h.imp id fun ⟨g, cap, cb, e, k, z⟩ => ⟨g, cap, cb, e, k.mIn x hq, z⟩
theorem AtB.mIn {W W' : World} {B p q : Nat} {C : List Value} (h : AtB W B C) (x : MIn p q W W') (hq : q ≤ B) : AtB W' B C := fun j y hy => x.box _ _ _ (Or.inr hq) (h j y hy)
theorem AtB.two {W : World} {B : Nat} {x0 x1 : Value} (h : AtB W B [x0, x1]) (u0 u1 : Value) : AtB ((W.setCell ⟨B, 0, none⟩ u0).setCell ⟨B, 1, none⟩ u1) B [u0, u1] := by
  have q0 := h 0 _ rfl
  have q1 := h 1 _ rfl
  intro j y hy
  match j, hy with
  | 0, hy =>
    simp at hy
    subst hy
    exact near (by decide) (World.cell?_setCell_same _ _ _ q0)
  | 1, hy =>
    simp at hy
    subst hy
    exact World.cell?_setCell_same _ _ _ (near (by decide) q1)
  | j + 2, hy => simp at hy
theorem MSp.form {w : World} {lo : Nat} {u : Value} {ts : List St} (h : MSp w lo u ts) : ∃ su cu, u = .slice su ts.length cu := by
  rcases h with ⟨rfl, rfl⟩ | ⟨g, cap, cb, rfl, h⟩
  · exact ⟨none, 0, rfl⟩
  · exact ⟨_, _, rfl⟩
theorem MOwn.form {w : World} {lo : Nat} {u : Value} {ts : List St} (h : MOwn w lo u ts) : ∃ su cu, u = .slice su ts.length cu := by
  rcases h with ⟨rfl, rfl⟩ | ⟨g, cap, cb, rfl, h⟩
  · exact ⟨none, 0, rfl⟩
  · exact ⟨_, _, rfl⟩
end Go.Proofs.YtfhcpicddegblaaGreat
namespace Go.Proofs.YtfhcpicddegblaaGreat
open Go.RowKit Go.ChangeShapes
set_option linter.unusedSimpArgs false
set_option linter.unusedVariables false

theorem list_same (xs ys : List Int) (hl : xs.length = ys.length) (h : ∀ j, j < xs.length → xs.getD j 0 = ys.getD j 0) : xs = ys := by
  refine List.ext_getElem hl fun i h1 h2 => ?_
  have := h i h1
  simpa [List.getD_eq_getElem?_getD, h1, h2] using this
set_option maxHeartbeats 1000000 in
theorem sameList_any {w : World} {v u : Value} {xs ys : List Int} (h : Ints w v xs) (k : Ints w u ys) (hl : xs.length ≤ 1048576) (hm : ys.length ≤ 1048576) :
    Calls Tryz.prog 27 #[v, u] w fun e w' => e = .returned (.bool (decide (xs = ys))) ∧ Ext w w' := by
  obtain ⟨sa, cap, rfl, hx⟩ := h
  obtain ⟨sb, dap, rfl, hy⟩ := k
  have HX := hide hx
  have HY := hide hy
  clear hx hy
  by_cases hlen : xs.length = ys.length
  · go_enter Tryz.func27, Tryz.ntmps27
    go_wp2_with fail
    go_loopw [5] (fun i wr => ∃ k : Nat, i = .int .i64 k ∧ k ≤ xs.length ∧ (∀ j, j < k → xs.getD j 0 = ys.getD j 0) ∧ Ext w wr) (fun i _ => xs.length - (intOf i).toNat)
    case atStart => exact ⟨0, rfl, by omega, fun j hj => by omega, Ext.refl _⟩
    case round =>
      obtain ⟨k, rfl, hk, hsame, he⟩ := hrel
      have HS := hide hsame
      have HE := hide he
      clear hsame he
      by_cases hkn : k < xs.length
      · rcases HX.out with h0 | ⟨bx, ox, rfl, rx⟩
        · rw [h0] at hkn; simp at hkn
        rcases HY.out with h0 | ⟨by_, oy, rfl, ry⟩
        · rw [hlen, h0] at hkn; simp at hkn
        have q0 := HE.out.box (rx k hkn)
        have q1 := HE.out.box (ry k (by omega))
        have k0' : (0 : Int) ≤ (k : Int) := Int.natCast_nonneg _
        have k1 : (k : Int) < (xs.length : Int) := by omega
        have k2 : (k : Int) < (ys.length : Int) := by omega
        clear rx ry
        have hne : Hid (xs.getD k 0 ≠ ys.getD k 0 → decide (xs = ys) = false) := fun q => decide_eq_false (fun e => q (by rw [e]))
        have heq : Hid (xs.getD k 0 = ys.getD k 0 → ∀ j, j < k + 1 → xs.getD j 0 = ys.getD j 0) := fun q j hj => by
          by_cases e : j = k
          · rw [e]; exact q
          · exact HS.out j (by omega)
        generalize xs.getD k 0 = a at q0 hne heq
        generalize ys.getD k 0 = b at q1 hne heq
        by_cases hab : a = b
        · have hb : (a != b) = false := by simp [hab]
          go_wp2_with fail
          go_region
          go_wp2_with fail
          go_roundw
          · exact ⟨k + 1, by go_num, by omega, heq.out hab, HE.out.drew⟩
          · simp [intOf]; omega
        · have hb : (a != b) = true := by simp [hab]
          go_wp2_with fail
          go_region
          go_wp2
          go_ret
          exact ⟨by rw [hne.out hab]; rfl, HE.out.drew⟩
      · have hkk : k = xs.length := by omega
        subst hkk
        have hd : Hid (decide (xs = ys) = true) := decide_eq_true (list_same xs ys hlen HS.out)
        go_wp2
        go_ret
        exact ⟨by rw [hd.out]; rfl, HE.out⟩
  · have hd : Hid (decide (xs = ys) = false) := decide_eq_false (fun e => hlen (by rw [e]))
    have hb : ((xs.length : Int) != (ys.length : Int)) = true := by simp; omega
    go_enter Tryz.func27, Tryz.ntmps27
    go_wp2
    go_ret
    exact ⟨by rw [hd.out]; rfl, Ext.refl _⟩
end Go.Proofs.YtfhcpicddegblaaGreat
namespace Go.Proofs.YtfhcpicddegblaaGreat
open Go.ChangeShapes Go.RowKit FL
set_option linter.unusedSimpArgs false
set_option linter.unusedVariables false

def RdRel (w2 : World) (g0 : Nat) (f : Int → C3) (L : List Int) (o i : Value) (wr : World) : Prop := ∃ m : Nat, i = .int .i64 m ∧ m ≤ L.length ∧ wr.ownsRow g0 66 3 o m (flat ((L.take m).map f)) ∧ (o.ownBlock = some g0 ∨ ∃ k, o.ownBlock = some k ∧ w2.heap.size ≤ k) ∧ w2.grownBy wr (some g0)
theorem take_more (f : Int → C3) (L : List Int) (m : Nat) (hm : m < L.length) : (L.take (m + 1)).map f = (L.take m).map f ++ [f (L.getD m 0)] := by
  rw [List.take_add_one, List.map_append, List.getD_eq_getElem?_getD, List.getElem?_eq_getElem hm]
  rfl

set_option maxRecDepth 100000 in
set_option maxHeartbeats 4000000 in
theorem l4Read_any {w : World} {v vS vT : Value} {ss : List St} {xs sv : List Int} (h : SV w v ss) (hl : SL ss 1048576) (st : Int) (hS : Ints w vS xs) (hT : Ints w vT sv) (off : Int) (hG : GoodA ss st xs sv off) :
    Calls Tryz.prog 29 #[.agg #[v], .int .i64 st, .agg #[vS, vT, .int .i64 off]] w fun e w' => CellsOk w (readL ss st xs sv off) e w' := by
  obtain ⟨i59, hi59, hy0, hy1, hy2⟩ := info_parts info66
  obtain ⟨sa, cap, rfl, hx⟩ := h
  have h : SV w (.slice sa ss.length cap) ss := ⟨sa, cap, rfl, hx⟩
  have n1 := fun j => new_cell w #[.slice sa ss.length cap] 34 w.heap.size rfl j
  generalize hW1 : (w.alloc (.cells #[.slice sa ss.length cap] 34)).alloc (.cells #[vS, vT, .int .i64 off] 39) = W1
  have x1 : Ext w W1 := by rw [← hW1]; exact ((Ext.refl w).alloc _ _).alloc _ _
  have hs1 : W1.heap.size = w.heap.size + 1 + 1 := by rw [← hW1]; simp
  have c1 : W1.cell? ⟨w.heap.size, 0, none⟩ = some (.slice sa ss.length cap) := by rw [← hW1]; exact ((Ext.refl _).alloc _ _).box (n1 0)
  have y0 : Ext W1 (W1.alloc (.cells #[] 66)) := (Ext.refl _).alloc _ _
  have x0 : Ext w (W1.alloc (.cells #[] 66)) := x1.trans y0
  have C0 : Hid ((W1.alloc (.cells #[] 66)).cell? ⟨w.heap.size, 0, none⟩ = some (.slice sa ss.length cap)) := y0.box c1
  have O0 : Hid ((W1.alloc (.cells #[] 66)).ownsRow (w.heap.size + 1 + 1) 66 3 (.slice (some ⟨w.heap.size + 1 + 1, 0, none⟩) 0 0) 0 []) := by
    have := World.ownsRow_made (base := w.heap.size + 1 + 1) (e := 66) (size := 3) W1 #[] 0 (by omega) (by unfold maxLen; omega) (by simp)
    rw [hs1] at this
    exact this
  have X0 := hide x0
  have HH := hide h
  have HS := hide (hS.ext x0)
  have HT := hide (hT.ext x0)
  have hl1 := hl.1
  have hsW : (W1.alloc (.cells #[] 66)).heap.size = w.heap.size + 3 := by simp; omega
  clear hx h x0 y0 n1 c1 x1 hs1
  obtain ⟨s1, d1, rfl, _⟩ := hS
  obtain ⟨s2, d2, rfl, _⟩ := hT
  obtain ⟨⟨hk0, hk1⟩, hv, hin⟩ := hG
  obtain ⟨k, rfl⟩ : ∃ k : Nat, st = (k : Int) := ⟨st.toNat, by omega⟩
  have hk : k < ss.length := by omega
  have hL : Hid (readL ss k xs sv off = (offsL xs sv off).map fun p => (ss.getD k s0).2.getD p.toNat k0) := by show readL ss k xs sv off = _; unfold readL; rw [Int.toNat_natCast]
  rw [Int.toNat_natCast] at hin
  have hoff := hide (l2Offsets_any HS.out HT.out off hv)
  have hOl := offs_len hv
  have hon : Hid (∀ p ∈ offsL xs sv off, 0 ≤ p ∧ p < ((ss.getD k s0).2.length : Int)) := fun p hp => ⟨(offs_in hv p hp).1, hin p hp⟩
  clear hin hv
  generalize hW0 : W1.alloc (.cells #[] 66) = W0 at C0 O0 X0 HS HT hoff hsW
  subst hW1
  have HW0 := hide hW0
  clear hW0
  go_enter Tryz.func29, Tryz.ntmps29
  go_wp2_with fail
  rw [HW0.out]
  refine hoff.out.mono ?_
  rintro e w2 ⟨so, co, rfl, hO, x2⟩
  have HO := hide hO
  have HX2 := hide x2
  have c2' := Bel.box x2 C0.out
  have O2 : Hid (w2.ownsRow (w.heap.size + 1 + 1) 66 3 (.slice (some ⟨w.heap.size + 1 + 1, 0, none⟩) 0 0) 0 []) := O0.out.kept (row := none) ⟨x2.os, x2.tape, x2.output, x2.size, fun k hk _ => x2.block k hk⟩ (Or.inr (by intro e; cases e))
  have hs2 : w.heap.size + 3 ≤ w2.heap.size := by have := Below.size x2; omega
  have X2 := hide (Bel.tr X0.out.bl x2)
  clear x2 hO C0 O0 X0 HS HT hoff HW0
  obtain ⟨sb0, cb0, eb0, hrow0⟩ := HH.out
  injection eb0 with eb1 _ eb2
  subst eb1 eb2
  rcases hrow0 with h0 | ⟨bs, os, rfl, hrow⟩
  · rw [h0] at hk; simp at hk
  obtain ⟨q0, u, q1, q2⟩ := hrow k hk
  have hcl := hl.at k hk
  have Q2 := hide q2
  clear hrow q2
  obtain ⟨su, cu, rfl, _⟩ := Q2.out
  generalize (ss.getD k s0).1 = DT at q0
  generalize (ss.getD k s0).2 = cs at q1 Q2 hcl hL hon
  generalize offsL xs sv off = L at HO hOl hon hL ⊢
  have hb0 : bs < w.heap.size := cell_lt q1
  have q1 := Bel.box X2.out q1
  have hM8 : (4096 + 1) * 24 ≤ 140737488355328 := by omega
  go_wp2_with fail
  go_loopw [7, 9] (fun o i wr => RdRel w2 (w.heap.size + 1 + 1) (fun p => cs.getD p.toNat k0) L o i wr) (fun o i _ => L.length - (intOf i).toNat)
  case atStart => exact ⟨0, rfl, by omega, O2.out, Or.inl rfl, ⟨rfl, rfl, rfl, Nat.le_refl _, fun _ _ _ => rfl⟩⟩
  case round =>
    obtain ⟨m, rfl, hm, hown, hob, hgr⟩ := hrel
    have HOW := hide hown
    have HOB := hide hob
    have HGR := hide hgr
    clear hown hob hgr
    by_cases hml : m < L.length
    · rcases HO.out with h0 | ⟨g, rfl, hg1, hrowL, _⟩
      · rw [h0] at hml; simp at hml
      have hmem := hon.out (L.getD m 0) (by rw [List.getD_eq_getElem?_getD, List.getElem?_eq_getElem hml]; exact List.getElem_mem hml)
      have l0 := hrowL m hml
      rw [Nat.zero_add] at l0
      have hgl := cell_lt l0
      have HT2 := hide (take_more (fun p => cs.getD p.toNat k0) L m hml)
      obtain ⟨x, hxx⟩ : ∃ x : Nat, L.getD m 0 = (x : Int) := ⟨(L.getD m 0).toNat, by omega⟩
      rw [hxx] at l0 hmem HT2
      rw [Int.toNat_natCast] at HT2
      have hxl : x < cs.length := by omega
      rcases Q2.out with ⟨su2, cu2, e2, h0 | ⟨bc, oc, e3, hrowC⟩⟩
      · rw [h0] at hxl; simp at hxl
      injection e2 with e4 _ _
      subst e4
      subst e3
      have t0 := hrowC x hxl
      have t1 := t0.2.1
      have t2 := t0.2.2
      have t0 := t0.1
      have hbc := cell_lt t0
      have t0 := Bel.box X2.out t0
      have t1 := Bel.box X2.out t1
      have t2 := Bel.box X2.out t2
      generalize cs.getD x k0 = cx at t0 t1 t2 HT2
      obtain ⟨A, B, C⟩ := cx
      clear hrowC hrowL hxx
      have hsr := HGR.out.size
      have s0' := grown_box HGR.out (by omega) c2'
      have s1' := grown_box HGR.out (by omega) q1
      have s2' := grown_box HGR.out (by omega) l0
      have s3' := grown_box HGR.out (by omega) t0
      have s4' := grown_box HGR.out (by omega) t1
      have s5' := grown_box HGR.out (by omega) t2
      have hm0 : (0 : Int) ≤ (m : Int) := Int.natCast_nonneg _
      have hm1 : (m : Int) < (L.length : Int) := by omega
      have hx0 : (0 : Int) ≤ (x : Int) := Int.natCast_nonneg _
      have hx1 : (x : Int) < (cs.length : Int) := by omega
      have SA : Hid ((fun w' => w'.cell? ⟨w.heap.size, 0, none⟩ = some (.slice (some ⟨bs, os, none⟩) ss.length cap) ∧ w'.cell? ⟨bs, os + k * 2 + 1, none⟩ = some (.slice (some ⟨bc, oc, none⟩) cs.length cu) ∧ w'.cell? ⟨g, m, none⟩ = some (.int .i64 (x : Int)) ∧ w'.cell? ⟨bc, oc + x * 3, none⟩ = some (.int .i64 A) ∧ w'.cell? ⟨bc, oc + x * 3 + 1, none⟩ = some (.float .f64 B) ∧ w'.cell? ⟨bc, oc + x * 3 + 2, none⟩ = some (.float .f64 C)) wr.drew) := ⟨s0', s1', s2', s3', s4', s5'⟩
      have hS : Hid (∀ W : World, w2.grownBy W (some (w.heap.size + 1 + 1)) → (fun w' => w'.cell? ⟨w.heap.size, 0, none⟩ = some (.slice (some ⟨bs, os, none⟩) ss.length cap) ∧ w'.cell? ⟨bs, os + k * 2 + 1, none⟩ = some (.slice (some ⟨bc, oc, none⟩) cs.length cu) ∧ w'.cell? ⟨g, m, none⟩ = some (.int .i64 (x : Int)) ∧ w'.cell? ⟨bc, oc + x * 3, none⟩ = some (.int .i64 A) ∧ w'.cell? ⟨bc, oc + x * 3 + 1, none⟩ = some (.float .f64 B) ∧ w'.cell? ⟨bc, oc + x * 3 + 2, none⟩ = some (.float .f64 C)) W) := fun W hW => ⟨grown_box hW (by omega) c2', grown_box hW (by omega) q1, grown_box hW (by omega) l0, grown_box hW (by omega) t0, grown_box hW (by omega) t1, grown_box hW (by omega) t2⟩
      have HGA := hide (grown_drew (grown_alloc HGR.out (.cells #[.int .i64 A, .float .f64 B, .float .f64 C] 66)))
      have SB := hide (hS.out _ HGA.out)
      have hnews := World.news_of_block (w := (wr.alloc (.cells #[.int .i64 A, .float .f64 B, .float .f64 C] 66)).drew) (cs := #[.int .i64 A, .float .f64 B, .float .f64 C]) (t := 66) (fr := (0, 0)) (heap_alloc_new wr _)
      have HN := hide hnews
      clear hnews
      have hbase : w.heap.size + 1 + 1 ≤ ((wr.alloc (.cells #[.int .i64 A, .float .f64 B, .float .f64 C] 66)).drew).heap.size := by show _ ≤ (wr.alloc _).heap.size; simp; omega
      have hH : ((wr.alloc (.cells #[.int .i64 A, .float .f64 B, .float .f64 C] 66)).drew).heap.size = wr.heap.size + 1 := by show (wr.alloc _).heap.size = _; simp
      have h63 : m + 1 ≤ maxLen := by unfold maxLen; omega
      have h24 : (m + 1) * 24 ≤ 140737488355328 := by omega
      go_wp2_with fail
      go_region_held3 (fun w' => w'.cell? ⟨w.heap.size, 0, none⟩ = some (.slice (some ⟨bs, os, none⟩) ss.length cap) ∧ w'.cell? ⟨bs, os + k * 2 + 1, none⟩ = some (.slice (some ⟨bc, oc, none⟩) cs.length cu) ∧ w'.cell? ⟨g, m, none⟩ = some (.int .i64 (x : Int)) ∧ w'.cell? ⟨bc, oc + x * 3, none⟩ = some (.int .i64 A) ∧ w'.cell? ⟨bc, oc + x * 3 + 1, none⟩ = some (.float .f64 B) ∧ w'.cell? ⟨bc, oc + x * 3 + 2, none⟩ = some (.float .f64 C)) (first | with_reducible exact SA.out | with_reducible exact SB.out | with_reducible exact SC.out | exact SA.out | exact SB.out | exact SC.out | fail) ((refine step_append_lies _ (by rfl) (.tmp 19) (.tmp 32) 61 (by rfl) (w.heap.size + 1 + 1) 66 i59 (.agg #[.int .i64 0, .float .f64 0, .float .f64 0]) 3 24 Tryz.underlying61 hi59 hy0 hy1 hy2 rfl (by omega) _ m _ (by rfl) ((HOW.out.alloc _).drew) ⟨wr.heap.size, 0, none⟩ 1 1 (c3v (A, B, C)) (by rfl) (by rfl) HN.out (c3v_one _) (by omega) h63 h24 hbase (wr.heap.size + 1) hH ?_; intro g9 cap9 w9 hown9 hgrow9 hat9 hlt9; have HG9 := hide (grown_more HGA.out hgrow9 HOB.out); have SC := hide (hS.out _ HG9.out); have HO9 := hide hown9; have HA9 := hide hat9; clear hown9 hgrow9 hat9))
      go_wp2
      go_roundw
      · refine ⟨m + 1, by go_num, by omega, ?_, ?_, HG9.out⟩
        · rw [HT2.out, flat_one]
          exact HO9.out
        · rcases HA9.out with e | e
          · rcases HOB.out with q | ⟨z, q, hz⟩
            · exact Or.inl (by rw [← q, e]; rfl)
            · exact Or.inr ⟨z, by rw [← q, e]; rfl, hz⟩
          · exact Or.inr ⟨g9, rfl, by omega⟩
      · simp [intOf]; omega
    · have hmm : m = L.length := by omega
      subst hmm
      have H1 := HOW.out
      rw [List.take_length] at H1
      obtain ⟨sz, cz, rfl, ho⟩ := own_cells (lo := w.heap.size) (by omega) H1
      have HB : Bel w wr := ⟨HGR.out.os.trans X2.out.os, HGR.out.tape.trans X2.out.tape, HGR.out.output.trans X2.out.output, Nat.le_trans X2.out.size HGR.out.size, fun j hj => (HGR.out.block j (Nat.lt_of_lt_of_le hj X2.out.size) (fun e => by cases e; omega)).trans (X2.out.block j hj)⟩
      have HHo := hide ho
      have HHB := hide HB
      clear ho H1 HB
      go_wp2
      go_ret
      rw [hL.out]
      exact ⟨sz, cz, rfl, HHo.out, HHB.out⟩
end Go.Proofs.YtfhcpicddegblaaGreat
