import Derived.Test.YtfhcpicddegblaaGreatM7
import Derived.Test.YtfhcpicddegblaaGreatM1
import Derived.KernelRfl
import Derived.Test.YtfhcpicddegblaaGreatM5
import Derived.RegionTactic
set_option linter.unusedSimpArgs false
set_option linter.unusedVariables false
set_option maxRecDepth 100000
set_option maxHeartbeats 8000000
namespace Go.Proofs.YtfhcpicddegblaaGreat
open List renaming setIfInBounds_toArray → sT, set_cons_zero → sZ, set_cons_succ → sS
open Go.Value renaming int → O, slice → σ, pointer → π, agg → γ
open Go.IntKind renaming i64 → ι
open Go.Obj renaming cells → χ
open Go.Act renaming put → aP
section
open Go.ChangeShapes Go.RowKit
def ToVOk (w : World) (xs ss : List Int) (off : Int) (e : Ending) (w' : World) : Prop :=
 ∃ b c : Nat, e = .returned (γ #[σ (some ⟨b, 0, none⟩) xs.length xs.length, σ (some ⟨c, 0, none⟩) ss.length ss.length, O ι off]) ∧ w.heap.size ≤ b ∧ b < c ∧ c < w'.heap.size ∧ Row w' b 0 xs ∧ Row w' c 0 ss ∧ Ext w w'
theorem zc16 {w : World} {v u : Value} {xs ss : List Int} (h : Ints w v xs) (g : Ints w u ss) (off : Int) (lx : xs.length ≤ 1048576) (ls : ss.length ≤ 1048576) :
  Calls Tryz.prog 33 #[γ #[v, u, O ι off]] w fun e w' => ToVOk w xs ss off e w' := by
 obtain ⟨sa, ca, rfl, rS⟩ := h
 obtain ⟨sb, cb, rfl, rT⟩ := g
 have x0 : Ext w (((w.alloc (χ #[σ sa xs.length ca, σ sb ss.length cb, O ι off] 27)).alloc (χ #[σ none 0 0, σ none 0 0, O ι 0] 39)).alloc (χ #[σ none 0 0, σ none 0 0, O ι 0] 39)) := (((Ext.refl w).alloc _ _).alloc _ _).alloc _ _
 have y1 : Ext (w.alloc (χ #[σ sa xs.length ca, σ sb ss.length cb, O ι off] 27)) (((w.alloc (χ #[σ sa xs.length ca, σ sb ss.length cb, O ι off] 27)).alloc (χ #[σ none 0 0, σ none 0 0, O ι 0] 39)).alloc (χ #[σ none 0 0, σ none 0 0, O ι 0] 39)) := ((Ext.refl _).alloc _ _).alloc _ _
 have y2 : Ext ((w.alloc (χ #[σ sa xs.length ca, σ sb ss.length cb, O ι off] 27)).alloc (χ #[σ none 0 0, σ none 0 0, O ι 0] 39)) (((w.alloc (χ #[σ sa xs.length ca, σ sb ss.length cb, O ι off] 27)).alloc (χ #[σ none 0 0, σ none 0 0, O ι 0] 39)).alloc (χ #[σ none 0 0, σ none 0 0, O ι 0] 39)) := (Ext.refl _).alloc _ _
 have n1 := fun j => zd w #[σ sa xs.length ca, σ sb ss.length cb, O ι off] 27 w.heap.size rfl j
 have n2 := fun j => zd (w.alloc (χ #[σ sa xs.length ca, σ sb ss.length cb, O ι off] 27)) #[σ none 0 0, σ none 0 0, O ι 0] 39 (w.heap.size + 1) (by simp) j
 have n3 := fun j => zd ((w.alloc (χ #[σ sa xs.length ca, σ sb ss.length cb, O ι off] 27)).alloc (χ #[σ none 0 0, σ none 0 0, O ι 0] 39)) #[σ none 0 0, σ none 0 0, O ι 0] 39 (w.heap.size + 1 + 1) (by simp) j
 have a1 := y1.box (n1 1)
 have a2 := y1.box (n1 2)
 have r0 := y2.box (n2 0)
 have r1 := y2.box (n2 1)
 have r2 := y2.box (n2 2)
 have o0 : (((w.alloc (χ #[σ sa xs.length ca, σ sb ss.length cb, O ι off] 27)).alloc (χ #[σ none 0 0, σ none 0 0, O ι 0] 39)).alloc (χ #[σ none 0 0, σ none 0 0, O ι 0] 39)).cell? ⟨w.heap.size + 1 + 1, 0, none⟩ = some (σ none 0 0) := n3 0
 have o1 : (((w.alloc (χ #[σ sa xs.length ca, σ sb ss.length cb, O ι off] 27)).alloc (χ #[σ none 0 0, σ none 0 0, O ι 0] 39)).alloc (χ #[σ none 0 0, σ none 0 0, O ι 0] 39)).cell? ⟨w.heap.size + 1 + 1, 1, none⟩ = some (σ none 0 0) := n3 1
 have o2 : (((w.alloc (χ #[σ sa xs.length ca, σ sb ss.length cb, O ι off] 27)).alloc (χ #[σ none 0 0, σ none 0 0, O ι 0] 39)).alloc (χ #[σ none 0 0, σ none 0 0, O ι 0] 39)).cell? ⟨w.heap.size + 1 + 1, 2, none⟩ = some (O ι 0) := n3 2
 have HS : Hid (Ints (((w.alloc (χ #[σ sa xs.length ca, σ sb ss.length cb, O ι off] 27)).alloc (χ #[σ none 0 0, σ none 0 0, O ι 0] 39)).alloc (χ #[σ none 0 0, σ none 0 0, O ι 0] 39)) (σ sa xs.length ca) xs) := Ints.ext ⟨sa, ca, rfl, rS⟩ x0
 have HT : Hid (Ints (((w.alloc (χ #[σ sa xs.length ca, σ sb ss.length cb, O ι off] 27)).alloc (χ #[σ none 0 0, σ none 0 0, O ι 0] 39)).alloc (χ #[σ none 0 0, σ none 0 0, O ι 0] 39)) (σ sb ss.length cb) ss) := Ints.ext ⟨sb, cb, rfl, rT⟩ x0
 have X0 := hide x0
 have hsz : Hid ((((w.alloc (χ #[σ sa xs.length ca, σ sb ss.length cb, O ι off] 27)).alloc (χ #[σ none 0 0, σ none 0 0, O ι 0] 39)).alloc (χ #[σ none 0 0, σ none 0 0, O ι 0] 39)).heap.size = w.heap.size + 1 + 1 + 1) := by show (((w.alloc (χ #[σ sa xs.length ca, σ sb ss.length cb, O ι off] 27)).alloc (χ #[σ none 0 0, σ none 0 0, O ι 0] 39)).alloc (χ #[σ none 0 0, σ none 0 0, O ι 0] 39)).heap.size = _; simp
 have HT0 : Hid (Ints w (σ sb ss.length cb) ss) := ⟨sb, cb, rfl, rT⟩
 clear n1 n2 n3 y1 y2 x0 rS rT
 go_enter Tryz.func33, Tryz.ntmps33
 go_wp2_with fail
 generalize hW : (((w.alloc (χ #[σ sa xs.length ca, σ sb ss.length cb, O ι off] 27)).alloc (χ #[σ none 0 0, σ none 0 0, O ι 0] 39)).alloc (χ #[σ none 0 0, σ none 0 0, O ι 0] 39)) = W0 at a1 a2 r0 r1 r2 o0 o1 o2 HS HT X0 hsz ⊢
 clear hW
 refine (zg8 HS.out lx).mono ?_
 rintro e w1 ⟨rfl, row1, x1, s1⟩
 have T1 := hide (HT.out.ext x1)
 have b1 := x1.box a1
 have b2 := x1.box a2
 have p0 := x1.box o0
 have p1 := x1.box o1
 have p2 := x1.box o2
 have q0 := x1.box r0
 have q1 := x1.box r1
 have q2 := x1.box r2
 have X1 := hide (X0.out.trans x1)
 have pf := fun o => X1.out.unfrozen (b := w.heap.size + 1 + 1) (by omega) o
 have Row1 := hide row1
 have S1 := hide s1
 clear a1 a2 r0 r1 r2 o0 o1 o2 x1 row1 s1 HS HT X0
 have m1 : Mut (w.heap.size + 1 + 1) w1 (w1.setCell ⟨w.heap.size + 1 + 1, 0, none⟩ (σ (some ⟨W0.heap.size, 0, none⟩) xs.length xs.length)) := (Mut.refl _ _).setCell _ _
 have c2 := m1.box (by omega) b2
 have d0 : (w1.setCell ⟨w.heap.size + 1 + 1, 0, none⟩ (σ (some ⟨W0.heap.size, 0, none⟩) xs.length xs.length)).cell? ⟨w.heap.size + 1 + 1, 0, none⟩ = some (σ (some ⟨W0.heap.size, 0, none⟩) xs.length xs.length) := World.cell?_setCell_same _ _ _ p0
 have d1 : (w1.setCell ⟨w.heap.size + 1 + 1, 0, none⟩ (σ (some ⟨W0.heap.size, 0, none⟩) xs.length xs.length)).cell? ⟨w.heap.size + 1 + 1, 1, none⟩ = some (σ none 0 0) := (World.cell?_setCell_other _ _ _ _ (by intro h; simp only [Addr.mk.injEq] at h; omega)).trans p1
 have d2 : (w1.setCell ⟨w.heap.size + 1 + 1, 0, none⟩ (σ (some ⟨W0.heap.size, 0, none⟩) xs.length xs.length)).cell? ⟨w.heap.size + 1 + 1, 2, none⟩ = some (O ι 0) := (World.cell?_setCell_other _ _ _ _ (by intro h; simp only [Addr.mk.injEq] at h; omega)).trans p2
 have f0 := m1.box (by omega) q0
 have f1 := m1.box (by omega) q1
 have f2 := m1.box (by omega) q2
 have XX := hide (X1.out.setCell (p := ⟨w.heap.size + 1 + 1, 0, none⟩) (by show w.heap.size ≤ w.heap.size + 1 + 1; omega) (σ (some ⟨W0.heap.size, 0, none⟩) xs.length xs.length))
 have RowA := hide (Row1.out.mut m1 (by have := hsz.out; omega))
 have HTT := hide (HT0.out.ext XX.out)
 have SZ : Hid ((w1.setCell ⟨w.heap.size + 1 + 1, 0, none⟩ (σ (some ⟨W0.heap.size, 0, none⟩) xs.length xs.length)).heap.size = w1.heap.size) := by show (w1.setCell ⟨w.heap.size + 1 + 1, 0, none⟩ (σ (some ⟨W0.heap.size, 0, none⟩) xs.length xs.length)).heap.size = _; simp [World.setCell]
 clear m1
 go_wp2_with fail
 generalize hW2 : (w1.setCell ⟨w.heap.size + 1 + 1, 0, none⟩ (σ (some ⟨W0.heap.size, 0, none⟩) xs.length xs.length)) = W2 at c2 d0 d1 d2 f0 f1 f2 XX RowA HTT SZ ⊢
 clear hW2 b1 b2 p0 p1 p2 q0 q1 q2 pf T1 Row1 X1
 refine (zg8 HTT.out ls).mono ?_
 rintro e w2 ⟨rfl, row2, x2, s2⟩
 have g2 := x2.box c2
 have e0 := x2.box d0
 have e1 := x2.box d1
 have e2 := x2.box d2
 have h0 := x2.box f0
 have h1 := x2.box f1
 have h2 := x2.box f2
 have RB := hide (RowA.out.ext x2)
 have RC := hide row2
 have XZ := hide (XX.out.trans x2)
 have pf := fun o => XZ.out.unfrozen (b := w.heap.size + 1 + 1) (by omega) o
 have qf := fun o => XZ.out.unfrozen (b := w.heap.size + 1) (by omega) o
 have HSZ : Hid (W0.heap.size = w.heap.size + 1 + 1 + 1 ∧ W0.heap.size < W2.heap.size ∧ W2.heap.size < w2.heap.size) := ⟨hsz.out, by have := S1.out; have := SZ.out; omega, s2⟩
 clear c2 d0 d1 d2 f0 f1 f2 RowA row2 x2 XX HTT SZ S1 hsz s2
 go_wp2
 refine bodyPost_ret (v := γ #[σ (some ⟨W0.heap.size, 0, none⟩) xs.length xs.length, σ (some ⟨W2.heap.size, 0, none⟩) ss.length ss.length, O ι off]) (by simp [results, Tryz.results33, go_sem, h0, h1, h2]) rfl ⟨W0.heap.size, W2.heap.size, rfl, ?_, ?_, ?_, ?_, ?_, ?_⟩
 ·have := HSZ.out; omega
 ·exact HSZ.out.2.1
 ·have := HSZ.out.2.2; simpa [World.setCell] using this
 ·intro j hj
  have := HSZ.out
  iterate 5 rw [World.cell?_setCell_other _ _ _ _ (by intro h; simp only [Addr.mk.injEq] at h; omega)]
  exact RB.out j hj
 ·intro j hj
  have := HSZ.out
  iterate 5 rw [World.cell?_setCell_other _ _ _ _ (by intro h; simp only [Addr.mk.injEq] at h; omega)]
  exact RC.out j hj
 ·exact ((((XZ.out.setCell (by show w.heap.size ≤ w.heap.size + 1 + 1; omega) _).setCell (by show w.heap.size ≤ w.heap.size + 1 + 1; omega) _).setCell (by show w.heap.size ≤ w.heap.size + 1; omega) _).setCell (by show w.heap.size ≤ w.heap.size + 1; omega) _).setCell (by show w.heap.size ≤ w.heap.size + 1; omega) _
theorem zs5 {w : World} {v u v' u' : Value} {xs ss : List Int} (st off : Int) (h : Ints w v xs) (g : Ints w u ss) (h' : Ints w v' xs) (g' : Ints w u' ss) (lx : xs.length ≤ 1048576) (ls : ss.length ≤ 1048576) :
  Calls Tryz.prog 14 #[γ #[O ι st, v, u, O ι off], γ #[O ι st, v', u', O ι off]] w fun e w' => e = .returned (.bool true) ∧ Ext w w' := by
 have x0 : Ext w ((w.alloc (χ #[O ι st, v, u, O ι off] 41)).alloc (χ #[O ι st, v', u', O ι off] 41)) := ((Ext.refl w).alloc _ _).alloc _ _
 have HE := hide (zf14 off (h.ext x0) (g.ext x0) (h'.ext x0) (g'.ext x0) lx ls)
 have X0 := hide x0
 clear x0
 obtain ⟨sa, ca, rfl, _⟩ := h
 obtain ⟨sb, cb, rfl, _⟩ := g
 obtain ⟨sc, cc, rfl, _⟩ := h'
 obtain ⟨sd, cd, rfl, _⟩ := g'
 go_enter Tryz.func14, Tryz.ntmps14
 go_wp2_with fail
 refine HE.out.mono ?_
 rintro e w1 ⟨rfl, x1⟩
 have X1 := hide (X0.out.trans x1)
 clear x1
 go_wp2
 go_ret
 exact ⟨rfl, X1.out⟩
theorem zr {w : World} {v u : Value} {xs ss : List Int} (st : Int) (h : Ints w v xs) (g : Ints w u ss) (off : Int) (lx : xs.length ≤ 1048576) (ls : ss.length ≤ 1048576) :
  Calls Tryz.prog 10 #[γ #[O ι st, v, u, O ι off]] w fun e w' => ∃ b c : Nat, e = .returned (γ #[O ι st, σ (some ⟨b, 0, none⟩) xs.length xs.length, σ (some ⟨c, 0, none⟩) ss.length ss.length, O ι off]) ∧ w.heap.size ≤ b ∧ b < c ∧ c < w'.heap.size ∧ Row w' b 0 xs ∧ Row w' c 0 ss ∧ Ext w w' := by
 obtain ⟨sa, ca, rfl, rS⟩ := h
 obtain ⟨sb, cb, rfl, rT⟩ := g
 have h : Ints w (σ sa xs.length ca) xs := ⟨sa, ca, rfl, rS⟩
 have g : Ints w (σ sb ss.length cb) ss := ⟨sb, cb, rfl, rT⟩
 generalize hW1 : (w.alloc (χ #[O ι st, σ sa xs.length ca, σ sb ss.length cb, O ι off] 29)) = W1
 have x1 : Ext w W1 := by rw [← hW1]; exact (Ext.refl w).alloc _ _
 have hs1 : W1.heap.size = w.heap.size + 1 := by rw [← hW1]; simp
 have x2 : Ext W1 (W1.alloc (χ #[O ι 0, σ none 0 0, σ none 0 0, O ι 0] 41)) := (Ext.refl W1).alloc _ _
 have x3 : Ext (W1.alloc (χ #[O ι 0, σ none 0 0, σ none 0 0, O ι 0] 41)) ((W1.alloc (χ #[O ι 0, σ none 0 0, σ none 0 0, O ι 0] 41)).alloc (χ #[O ι st, σ none 0 0, σ none 0 0, O ι 0] 41)) := (Ext.refl _).alloc _ _
 have r0 := fun j => zd W1 #[O ι 0, σ none 0 0, σ none 0 0, O ι 0] 41 (w.heap.size + 1) hs1.symm j
 have o0 := fun j => zd (W1.alloc (χ #[O ι 0, σ none 0 0, σ none 0 0, O ι 0] 41)) #[O ι st, σ none 0 0, σ none 0 0, O ι 0] 41 (w.heap.size + 1 + 1) (by simp [hs1]) j
 have HX := hide ((x1.trans x2).trans x3)
 have R0 := hide (x3.box (r0 0))
 have R1 := hide (x3.box (r0 1))
 have R2 := hide (x3.box (r0 2))
 have R3 := hide (x3.box (r0 3))
 have O0 := hide (o0 0)
 have O1 := hide (o0 1)
 have O2 := hide (o0 2)
 have O3 := hide (o0 3)
 have hs3 : Hid (((W1.alloc (χ #[O ι 0, σ none 0 0, σ none 0 0, O ι 0] 41)).alloc (χ #[O ι st, σ none 0 0, σ none 0 0, O ι 0] 41)).heap.size = w.heap.size + 3) := by show ((W1.alloc _).alloc _).heap.size = _; simp [hs1]
 have HC := hide (zc16 (h.ext HX.out) (g.ext HX.out) off lx ls)
 clear rS rT h g x1 x2 x3 r0 o0 hs1
 subst hW1
 go_enter Tryz.func10, Tryz.ntmps10
 go_wp2_with fail
 generalize hW3 : (((w.alloc (χ #[O ι st, σ sa xs.length ca, σ sb ss.length cb, O ι off] 29)).alloc (χ #[O ι 0, σ none 0 0, σ none 0 0, O ι 0] 41)).alloc (χ #[O ι st, σ none 0 0, σ none 0 0, O ι 0] 41)) = W3 at *
 clear hW3
 refine HC.out.mono ?_
 rintro e w2 ⟨b, c, rfl, hb, hbc, hc, rb, rc, hx⟩
 rw [hs3.out] at hb
 have rc0 := hx.box R0.out
 have rc1 := hx.box R1.out
 have rc2 := hx.box R2.out
 have rc3 := hx.box R3.out
 have oc0 := hx.box O0.out
 have oc1 := hx.box O1.out
 have oc2 := hx.box O2.out
 have oc3 := hx.box O3.out
 have HE := hide (HX.out.trans hx)
 have fz := fun b o (hb : w.heap.size ≤ b) => HE.out.unfrozen (b := b) hb o
 have f1 := fun o => fz (w.heap.size + 1) o (by omega)
 have f3 := fun o => fz (w.heap.size + 1 + 1) o (by omega)
 have RB := hide rb
 have RC := hide rc
 clear hx HX HC R0 R1 R2 R3 O0 O1 O2 O3 hs3 fz rb rc
 go_wp2_with fail
 generalize hV1 : (σ (some ⟨b, 0, none⟩) xs.length xs.length : Value) = V1
 generalize hV2 : (σ (some ⟨c, 0, none⟩) ss.length ss.length : Value) = V2
 have M1 : Mut (w.heap.size + 1 + 1) w2 (((w2.setCell ⟨w.heap.size + 1 + 1, 1, none⟩ V1).setCell ⟨w.heap.size + 1 + 1, 2, none⟩ V2).setCell ⟨w.heap.size + 1 + 1, 3, none⟩ (O ι off)) := (((Mut.refl _ _).setCell _ _).setCell _ _).setCell _ _
 generalize hW5 : (((w2.setCell ⟨w.heap.size + 1 + 1, 1, none⟩ V1).setCell ⟨w.heap.size + 1 + 1, 2, none⟩ V2).setCell ⟨w.heap.size + 1 + 1, 3, none⟩ (O ι off)) = W5 at M1 ⊢
 clear hW5
 have d0 := M1.box (show w.heap.size + 1 ≠ w.heap.size + 1 + 1 by omega) rc0
 have d1 := M1.box (show w.heap.size + 1 ≠ w.heap.size + 1 + 1 by omega) rc1
 have d2 := M1.box (show w.heap.size + 1 ≠ w.heap.size + 1 + 1 by omega) rc2
 have d3 := M1.box (show w.heap.size + 1 ≠ w.heap.size + 1 + 1 by omega) rc3
 have M2 : Mut (w.heap.size + 1) W5 ((((W5.setCell ⟨w.heap.size + 1, 0, none⟩ (O ι st)).setCell ⟨w.heap.size + 1, 1, none⟩ V1).setCell ⟨w.heap.size + 1, 2, none⟩ V2).setCell ⟨w.heap.size + 1, 3, none⟩ (O ι off)) := ((((Mut.refl _ _).setCell _ _).setCell _ _).setCell _ _).setCell _ _
 have e0 : ((((W5.setCell ⟨w.heap.size + 1, 0, none⟩ (O ι st)).setCell ⟨w.heap.size + 1, 1, none⟩ V1).setCell ⟨w.heap.size + 1, 2, none⟩ V2).setCell ⟨w.heap.size + 1, 3, none⟩ (O ι off)).cell? ⟨w.heap.size + 1, 0, none⟩ = some (O ι st) := ze1 (by omega) (ze1 (by omega) (ze1 (by omega) (World.cell?_setCell_same _ _ _ d0)))
 have e1 : ((((W5.setCell ⟨w.heap.size + 1, 0, none⟩ (O ι st)).setCell ⟨w.heap.size + 1, 1, none⟩ V1).setCell ⟨w.heap.size + 1, 2, none⟩ V2).setCell ⟨w.heap.size + 1, 3, none⟩ (O ι off)).cell? ⟨w.heap.size + 1, 1, none⟩ = some V1 := ze1 (by omega) (ze1 (by omega) (World.cell?_setCell_same _ _ _ (ze1 (by omega) d1)))
 have e2 : ((((W5.setCell ⟨w.heap.size + 1, 0, none⟩ (O ι st)).setCell ⟨w.heap.size + 1, 1, none⟩ V1).setCell ⟨w.heap.size + 1, 2, none⟩ V2).setCell ⟨w.heap.size + 1, 3, none⟩ (O ι off)).cell? ⟨w.heap.size + 1, 2, none⟩ = some V2 := ze1 (by omega) (World.cell?_setCell_same _ _ _ (ze1 (by omega) (ze1 (by omega) d2)))
 have e3 : ((((W5.setCell ⟨w.heap.size + 1, 0, none⟩ (O ι st)).setCell ⟨w.heap.size + 1, 1, none⟩ V1).setCell ⟨w.heap.size + 1, 2, none⟩ V2).setCell ⟨w.heap.size + 1, 3, none⟩ (O ι off)).cell? ⟨w.heap.size + 1, 3, none⟩ = some (O ι off) := World.cell?_setCell_same _ _ _ (ze1 (by omega) (ze1 (by omega) (ze1 (by omega) d3)))
 generalize hW9 : ((((W5.setCell ⟨w.heap.size + 1, 0, none⟩ (O ι st)).setCell ⟨w.heap.size + 1, 1, none⟩ V1).setCell ⟨w.heap.size + 1, 2, none⟩ V2).setCell ⟨w.heap.size + 1, 3, none⟩ (O ι off)) = W9 at M2 e0 e1 e2 e3 ⊢
 refine bodyPost_ret (v := γ #[O ι st, V1, V2, O ι off]) (by simp [results, Tryz.results10, go_sem, e0, e1, e2, e3]) rfl ⟨b, c, by rw [← hV1, ← hV2], by omega, hbc, Nat.lt_of_lt_of_le hc (Nat.le_trans M1.size M2.size), (RB.out.mut M1 (by omega)).mut M2 (by omega), (RC.out.mut M1 (by omega)).mut M2 (by omega), M2.ext (M1.ext HE.out (by omega)) (by omega)⟩
def SzAOk (left : Int) (n m : Nat) (e : Ending) : Prop := ∃ r : Int, e = .returned (O ι r) ∧ (r < 0 ∨ (0 ≤ r ∧ n ≤ 1048576 ∧ m ≤ 1048576))
end
section
open Go.ChangeShapes Go.RowKit FL
def SzA2 (left : Int) (n m : Nat) (e : Ending) : Prop := ∃ r : Int, e = .returned (O ι r) ∧ (r < 0 ∨ (0 ≤ r ∧ r ≤ left ∧ n ≤ 1048576 ∧ m ≤ 1048576))
theorem zr20 (sa sb : Option Addr) (n ca m cb : Nat) (off left : Int) (hl : 0 ≤ left ∧ left ≤ 1048576) (hn : n ≤ 9223372036854775807) (hm : m ≤ 9223372036854775807) (w : World) :
  Calls Tryz.prog 24 #[γ #[σ sa n ca, σ sb m cb, O ι off], O ι left] w fun e w' => SzA2 left n m e ∧ Ext w w' := by
 have x0 : Ext w (w.alloc (χ #[σ sa n ca, σ sb m cb, O ι off] 27)) := (Ext.refl w).alloc _ _
 have X0 := hide x0
 clear x0
 by_cases h : left - (n : Int) < 0
 ·go_enter Tryz.func24, Tryz.ntmps24
  go_wp2_with fail
  refine (zy2 sa n ca left hn hl _).mono ?_
  rintro e w1 ⟨rfl, rfl⟩
  rw [if_pos (by omega)]
  go_wp2
  go_ret
  exact ⟨⟨_, rfl, Or.inl (by omega)⟩, X0.out⟩
 ·have hb : 0 ≤ left - n ∧ left - n ≤ 1048576 := by omega
  by_cases h2 : left - (n : Int) - (m : Int) < 0
  ·go_enter Tryz.func24, Tryz.ntmps24
   go_wp2_with fail
   refine (zy2 sa n ca left hn hl _).mono ?_
   rintro e w1 ⟨rfl, rfl⟩
   rw [if_neg (by omega)]
   go_wp2_with fail
   refine (zy2 sb m cb _ hm hb _).mono ?_
   rintro e w2 ⟨rfl, rfl⟩
   rw [if_pos (by omega)]
   go_wp2
   go_ret
   exact ⟨⟨_, rfl, Or.inl (by omega)⟩, X0.out⟩
  ·go_enter Tryz.func24, Tryz.ntmps24
   go_wp2_with fail
   refine (zy2 sa n ca left hn hl _).mono ?_
   rintro e w1 ⟨rfl, rfl⟩
   rw [if_neg (by omega)]
   go_wp2_with fail
   refine (zy2 sb m cb _ hm hb _).mono ?_
   rintro e w2 ⟨rfl, rfl⟩
   rw [if_neg (by omega)]
   go_wp2
   go_ret
   exact ⟨⟨_, rfl, Or.inr ⟨by omega, by omega, by omega, by omega⟩⟩, X0.out⟩
theorem za15 (st : Int) (sa sb : Option Addr) (n ca m cb : Nat) (off left : Int) (hl : 0 ≤ left ∧ left ≤ 1048576) (hn : n ≤ 9223372036854775807) (hm : m ≤ 9223372036854775807) (w : World) :
  Calls Tryz.prog 7 #[γ #[O ι st, σ sa n ca, σ sb m cb, O ι off], O ι left] w fun e w' => SzA2 left n m e ∧ Ext w w' := by
 have x0 : Ext w (w.alloc (χ #[O ι st, σ sa n ca, σ sb m cb, O ι off] 29)) := (Ext.refl w).alloc _ _
 have X0 := hide x0
 clear x0
 go_enter Tryz.func7, Tryz.ntmps7
 go_wp2_with fail
 refine (zr20 sa sb n ca m cb off left hl hn hm _).mono ?_
 rintro e w1 ⟨⟨r, rfl, hr⟩, x1⟩
 have X1 := hide (X0.out.trans x1)
 clear x1
 rcases hr with hr | ⟨h1, h4, h2, h3⟩
 ·go_wp2
  go_ret
  exact ⟨⟨_, rfl, Or.inl (by omega)⟩, X1.out⟩
 ·have hr : ¬ r < 0 := by omega
  go_wp2
  go_ret
  exact ⟨⟨_, rfl, Or.inr ⟨by omega, by omega, h2, h3⟩⟩, X1.out⟩
theorem zf19 {w : World} {b c : Nat} {xs sv : List Int} (off : Int) (hx : Row w b 0 xs) (hs : Row w c 0 sv) (hbc : b < c) (hcs : c < w.heap.size) (hf : ∀ d o, b ≤ d → d ≤ c → w.frozen? ⟨d, o, none⟩ = false) (lx : xs.length ≤ 1048576) (ls : sv.length ≤ 1048576) (k : Int) (hk : 0 ≤ k ∧ k ≤ 20000000000000) :
  Calls Tryz.prog 50 #[γ #[σ (some ⟨b, 0, none⟩) xs.length xs.length, σ (some ⟨c, 0, none⟩) sv.length sv.length, O ι off], O ι k] w fun e w' => (∃ r : Int, e = .returned (O ι r) ∧ 0 ≤ r ∧ r ≤ k + 4194304) ∧ MIn b (c + 1) w w' := by
 have x0 : Ext w (w.alloc (χ #[σ (some ⟨b, 0, none⟩) xs.length xs.length, σ (some ⟨c, 0, none⟩) sv.length sv.length, O ι off] 39)) := (Ext.refl w).alloc _ _
 have n1 := fun j => zd w #[σ (some ⟨b, 0, none⟩) xs.length xs.length, σ (some ⟨c, 0, none⟩) sv.length sv.length, O ι off] 39 w.heap.size rfl j
 have C1 := hide (n1 1)
 have HX := hide (hx.ext x0)
 have HS := hide (hs.ext x0)
 have HF : Hid (∀ d o, b ≤ d → d ≤ c → (w.alloc (χ #[σ (some ⟨b, 0, none⟩) xs.length xs.length, σ (some ⟨c, 0, none⟩) sv.length sv.length, O ι off] 39)).frozen? ⟨d, o, none⟩ = false) := fun d o hd hd2 => (x0.fz _).trans (hf d o hd hd2)
 have X0 := hide (x0.mIn (lo := b) (hi := c + 1) (by omega))
 have hsz := Below.size x0.bl
 have hm := hide (zb11 (cap := xs.length) HX.out (fun o => HF.out b o (Nat.le_refl _) (by omega)) k ⟨hk.1, by omega⟩ (by omega))
 clear x0 n1 hx hs hf
 go_enter Tryz.func50, Tryz.ntmps50
 go_wp2_with fail
 generalize w.alloc (χ #[σ (some ⟨b, 0, none⟩) xs.length xs.length, σ (some ⟨c, 0, none⟩) sv.length sv.length, O ι off] 39) = W0 at *
 refine hm.out.mono ?_
 rintro e w1 ⟨rfl, _, hmu⟩
 have c1 := hmu.box (by omega) C1.out
 have HS1 := hide (HS.out.mut hmu (by omega))
 have X1 := hide (X0.out.tr (hmu.mIn (lo := b) (hi := c + 1) (Nat.le_refl _) (by omega) (by omega)))
 have F1 : Hid (∀ o, w1.frozen? ⟨c, o, none⟩ = false) := fun o => (hmu.fz _).trans (HF.out c o (by omega) (Nat.le_refl _))
 have hs1 := hmu.size
 clear hmu hm HX HS HF X0 C1
 go_wp2_with (go_at_call 93; refine (zb11 (cap := sv.length) HS1.out F1.out (k + xs.length) ⟨by omega, by omega⟩ (by omega)).mono ?_; rintro e w2 ⟨rfl, _, hmu2⟩)
 go_ret
 exact ⟨⟨_, rfl, by omega, by omega⟩, X1.out.tr (hmu2.mIn (lo := b) (hi := c + 1) (by omega) (by omega) (by omega))⟩
theorem zs8 {w : World} {b c : Nat} {xs sv : List Int} (st off : Int) (hx : Row w b 0 xs) (hs : Row w c 0 sv) (hbc : b < c) (hcs : c < w.heap.size) (hf : ∀ d o, b ≤ d → d ≤ c → w.frozen? ⟨d, o, none⟩ = false) (lx : xs.length ≤ 1048576) (ls : sv.length ≤ 1048576) (k : Int) (hk : 0 ≤ k ∧ k ≤ 20000000000000) :
  Calls Tryz.prog 16 #[γ #[O ι st, σ (some ⟨b, 0, none⟩) xs.length xs.length, σ (some ⟨c, 0, none⟩) sv.length sv.length, O ι off], O ι k] w fun e w' => (∃ r : Int, e = .returned (O ι r) ∧ 0 ≤ r ∧ r ≤ k + 4194304) ∧ MIn b (c + 1) w w' := by
 have x0 : Ext w (w.alloc (χ #[O ι st, σ (some ⟨b, 0, none⟩) xs.length xs.length, σ (some ⟨c, 0, none⟩) sv.length sv.length, O ι off] 41)) := (Ext.refl w).alloc _ _
 have hm := hide (zf19 off (hx.ext x0) (hs.ext x0) hbc (Nat.lt_of_lt_of_le hcs (Below.size x0.bl)) (fun d o hd hd2 => (x0.fz _).trans (hf d o hd hd2)) lx ls k hk)
 have X0 := hide (x0.mIn (lo := b) (hi := c + 1) (by omega))
 clear x0 hx hs hf
 go_enter Tryz.func16, Tryz.ntmps16
 go_wp2_with (go_at_call 50; refine hm.out.mono ?_; rintro e w2 ⟨⟨r, rfl, h0, h1⟩, hx⟩)
 go_ret
 exact ⟨⟨r, rfl, h0, h1⟩, X0.out.tr hx⟩
structure MK (lo hi : Nat) (w w' : World) : Prop where
 bl : Below lo w w'
 up : ∀ c, hi ≤ c → c < w.heap.size → w'.heap[c]? = w.heap[c]?
theorem MK.refl (lo hi : Nat) (w : World) : MK lo hi w w := ⟨Below.refl _ _, fun _ _ _ => rfl⟩
theorem MK.tr {lo hi : Nat} {a b c : World} (x : MK lo hi a b) (y : MK lo hi b c) : MK lo hi a c := ⟨x.bl.trans y.bl, fun k h1 h2 => (y.up k h1 (Nat.lt_of_lt_of_le h2 x.bl.size)).trans (x.up k h1 h2)⟩
theorem Ext.kept {lo hi : Nat} {w w' : World} (x : Ext w w') (h : lo ≤ w.heap.size) : MK lo hi w w' := ⟨Below.mono x.bl h, fun c _ hc => x.bl.block c hc⟩
theorem MK.set {lo hi b o : Nat} {w W : World} (h : MK lo hi w W) (h1 : lo ≤ b) (h2 : b < hi) (v : Value) : MK lo hi w (W.setCell ⟨b, o, none⟩ v) := ⟨h.bl.setCell (p := ⟨b, o, none⟩) h1 _, fun c h3 h4 => (Below.heap_setCell _ _ _ _ (by show c ≠ b; omega)).trans (h.up c h3 h4)⟩
theorem MK.mut {lo hi b : Nat} {w W W' : World} (h : MK lo hi w W) (m : Mut b W W') (h1 : lo ≤ b) (h2 : b < hi) (hs : lo ≤ W.heap.size) : MK lo hi w W' :=
 ⟨h.bl.trans ⟨m.os, m.tape, m.output, m.size, fun c hc => m.block c (by omega) (by omega)⟩, fun c h3 h4 => (m.block c (Nat.lt_of_lt_of_le h4 h.bl.size) (by omega)).trans (h.up c h3 h4)⟩
theorem MK.box {lo hi b o : Nat} {w w' : World} {x : Value} (h : MK lo hi w w') (hb : hi ≤ b) (hx : w.cell? ⟨b, o, none⟩ = some x) : w'.cell? ⟨b, o, none⟩ = some x := (World.cell?_of_block (w := w) (a := ⟨b, o, none⟩) (h.up b hb (zj hx))).trans hx
def MOwnH (w : World) (lo hi : Nat) (v : Value) (ss : List St) : Prop := (ss = [] ∧ v = σ none 0 0) ∨ ∃ g cap cb, v = σ (some ⟨g, 0, none⟩) ss.length cap ∧ HOwn w lo g cb ss ∧ g < hi ∧ ∀ j, j < ss.length → (ss.getD j s0).2 ≠ [] → cb j < hi
theorem MOwn.high {w : World} {lo : Nat} {v : Value} {ss : List St} (h : MOwn w lo v ss) : MOwnH w lo w.heap.size v ss :=
 h.imp id fun ⟨g, cap, cb, e, k⟩ => ⟨g, cap, cb, e, k, k.g_lt, fun j hj hne => zj (k.row j hj hne 0 (List.length_pos_iff.2 hne)).1⟩
theorem MOwnH.own {w : World} {lo hi : Nat} {v : Value} {ss : List St} (h : MOwnH w lo hi v ss) : MOwn w lo v ss := h.imp id fun ⟨g, cap, cb, e, k, _⟩ => ⟨g, cap, cb, e, k⟩
theorem MOwnH.bel {w w' : World} {lo hi : Nat} {v : Value} {ss : List St} (h : MOwnH w lo hi v ss) (x : Bel w w') : MOwnH w' lo hi v ss :=
 h.imp id fun ⟨g, cap, cb, e, k, q⟩ => ⟨g, cap, cb, e, k.keep (fun b _ hb => x.block b hb) x.size, q⟩
theorem zy16 {w : World} {lo hi g cap : Nat} {cb : Nat → Nat} {ss : List St} (h : HOwn w lo g cb ss) (hl : SL ss 1048576) (k : Int) (hk : 0 ≤ k ∧ k ≤ 1000) (hgh : g < hi) (hch : ∀ j, j < ss.length → (ss.getD j s0).2 ≠ [] → cb j < hi) :
  Calls Tryz.prog 49 #[σ (some ⟨g, 0, none⟩) ss.length cap, O ι k] w fun e w' => e = .returned (O ι (kAt ss k ss.length)) ∧ HOwn w' lo g cb (mkdN ss k ss.length) ∧ MK lo hi w w' := by
 have H := hide h
 have HL := hide hl
 have hl1 := hl.1
 have HCH := hide hch
 clear h hl hch
 go_enter Tryz.func49, Tryz.ntmps49
 go_wp2
 go_loopw [1, 5] (fun m i wr => ∃ j : Nat, i = O ι j ∧ m = O ι (kAt ss k j) ∧ j ≤ ss.length ∧ HOwn wr lo g cb (mkdN ss k j) ∧ MK lo hi w wr) (fun m i _ => ss.length - (intOf i).toNat)
 case atStart => exact ⟨0, rfl, rfl, by omega, by rw [zd19]; exact H.out, MK.refl _ _ _⟩
 case round =>
  obtain ⟨j, rfl, rfl, hj, hO, hB⟩ := hrel
  have HO := hide hO
  have HB := hide hB
  clear hO hB
  by_cases hlt : j < ss.length
  ·have hjm : j < (mkdN ss k j).length := by rw [za1]; exact hlt
   have q0 := HO.out.dt j hjm
   obtain ⟨sa, cp, q1, q2⟩ := HO.out.sl j hjm
   rw [zw1 _ _ _ _ hlt] at q1
   have qf := HO.out.fz (j * 2)
   have hj0 : (0 : Int) ≤ (j : Int) := Int.natCast_nonneg _
   have hj1 : (j : Int) < (ss.length : Int) := by omega
   have hcl := HL.out.at j hlt
   have hkb := zn11 ss HL.out k hk j hj
   have hkn : Hid (kAt ss k (j + 1) = kAt ss k j + 1 + 3 * (ss.getD j s0).2.length) := rfl
   have hlg := HO.out.lo_g
   have hgl := HO.out.g_lt
   have ne : ∀ {a b : Nat} {W : World} {u : Value}, a ≠ b → (W.setCell ⟨g, a, none⟩ u).cell? ⟨g, b, none⟩ = W.cell? ⟨g, b, none⟩ := fun {a b W u} h => World.cell?_setCell_other _ _ _ _ (by intro e; simp only [Addr.mk.injEq] at e; omega)
   have p1 : (wr.setCell ⟨g, j * 2, none⟩ (O ι (kAt ss k j))).cell? ⟨g, j * 2 + 1, none⟩ = some (σ sa (ss.getD j s0).2.length cp) := (ne (by omega)).trans q1
   generalize hkk : kAt ss k j = kj at *
   by_cases hne : (ss.getD j s0).2 = []
   ·have hlen0 : (ss.getD j s0).2.length = 0 := by rw [hne]; rfl
    rw [hlen0] at p1 q1 hkn
    have HN : Hid (HOwn (wr.setCell ⟨g, j * 2, none⟩ (O ι kj)) lo g cb (mkdN ss k (j + 1))) := HO.out.mark hlt (fun c _ hc _ => Below.heap_setCell _ _ _ _ hc) (fun o x ho hx => (ne (Ne.symm ho)).trans hx) (by rw [hkk]; exact World.cell?_setCell_same _ _ _ q0) (fun q => absurd hne q) (fun a => World.frozen?_setCell _ _ _ _) (by simp [World.setCell])
    have HBN : Hid (MK lo hi w (wr.setCell ⟨g, j * 2, none⟩ (O ι kj))) := HB.out.set hlg hgh _
    clear ne
    go_wp2_with (go_at_call 92; refine (ze11 (kj + 1)).mono ?_; rintro e w2 ⟨rfl, rfl⟩)
    refine ⟨⟨j + 1, by go_num, by rw [hkn.out]; simp, by omega, HN.out, HBN.out⟩, ?_⟩
    simp [intOf]; omega
   ·have hnem : ((mkdN ss k j).getD j s0).2 ≠ [] := fun e => hne (by rw [zh1, zw1 _ _ _ _ hlt] at e; rw [zh1]; exact e)
    obtain rfl := q2.resolve_left hnem
    have hrow := HO.out.row j hjm hnem
    have hgc := HO.out.g_cb j hjm hnem
    have hfr := HO.out.fzr j hjm hnem
    have hex : Ex (wr.setCell ⟨g, j * 2, none⟩ (O ι kj)) (cb j) 0 (ss.getD j s0).2.length := by
     have q := hrow.ex.ke ((KE.refl wr).set ⟨g, j * 2, none⟩ (O ι kj))
     rw [zw1 _ _ _ _ hlt] at q
     exact q
    have HMC := hide (zf11 (cap := cp) hex (fun o => by rw [World.frozen?_setCell]; exact hfr o) (kj + 1) ⟨by omega, by omega⟩ hcl)
    have hcs : Hid (∀ (n : Nat), n = (ss.getD j s0).2.length → True) := fun _ _ => trivial
    generalize hW1 : wr.setCell ⟨g, j * 2, none⟩ (O ι kj) = W1 at *
    have HST : Hid (∀ w2, CRow w2 (cb j) 0 (ccount (ss.getD j s0).2.length (kj + 1)) → Mut (cb j) W1 w2 → HOwn w2 lo g cb (mkdN ss k (j + 1)) ∧ MK lo hi w w2) := fun w2 hr hm => by
     have hbk : ∀ c, c ≠ g → W1.heap[c]? = wr.heap[c]? := fun c hc => by rw [← hW1]; exact Below.heap_setCell _ _ _ _ hc
     have hs1 : W1.heap.size = wr.heap.size := by rw [← hW1]; simp [World.setCell]
     have hg2 : w2.heap[g]? = W1.heap[g]? := hm.block g (by omega) (by omega)
     have hc2 : ∀ o, w2.cell? ⟨g, o, none⟩ = W1.cell? ⟨g, o, none⟩ := fun o => World.cell?_of_block (w := W1) (a := ⟨g, o, none⟩) hg2
     refine ⟨HO.out.mark hlt (fun c hcl2 hc hc2 => ?_) (fun o x ho hx => ?_) ?_ (fun _ => by rw [hkk]; exact hr) (fun a => (hm.fz a).trans (by rw [← hW1, World.frozen?_setCell])) (by have := hm.size; omega), ?_⟩
     ·exact (hm.block c (by omega) (hc2 hne)).trans (hbk c hc)
     ·rw [hc2 o, ← hW1, ne (Ne.symm ho)]; exact hx
     ·rw [hc2, hkk, ← hW1, World.cell?_setCell_same _ _ _ q0]
     ·have hB1 : MK lo hi w W1 := by rw [← hW1]; exact HB.out.set hlg hgh _
      exact hB1.mut hm (by omega) (HCH.out j hlt hne) (by omega)
    clear ne hex hcs
    generalize (ss.getD j s0).2 = cs at p1 q1 HMC HST hkn hcl hne
    go_wp2_with (go_at_call 92; (try rw [hW1]); refine HMC.out.mono ?_; rintro e w2 ⟨rfl, hr2, hm2, _⟩; have H2 := hide (HST.out w2 hr2 hm2); clear hr2 hm2)
    refine ⟨⟨j + 1, by go_num, by rw [hkn.out], by omega, H2.out.1, H2.out.2⟩, ?_⟩
    simp [intOf]; omega
  ·have hjj : j = ss.length := by omega
   subst hjj
   go_wp2
   go_ret
   exact ⟨rfl, HO.out, HB.out⟩
theorem zu9 {w : World} {lo hi g cap : Nat} {cb : Nat → Nat} {ss : List St} (h : HOwn w lo g cb ss) (hl : SL ss 1048576) (hlo : lo ≤ w.heap.size) (hgh : g < hi) (hch : ∀ j, j < ss.length → (ss.getD j s0).2 ≠ [] → cb j < hi) :
  Calls Tryz.prog 15 #[γ #[σ (some ⟨g, 0, none⟩) ss.length cap], O ι 1] w fun e w' => e = .returned (O ι (kAt ss 1 ss.length)) ∧ HOwn w' lo g cb (mkdN ss 1 ss.length) ∧ MK lo hi w w' := by
 have x1 : Ext w (w.alloc (χ #[σ (some ⟨g, 0, none⟩) ss.length cap] 34)) := (Ext.refl w).alloc _ _
 have HM := hide (zy16 (cap := cap) (h.keep (fun b _ hb => x1.bl.block b hb) x1.bl.size) hl 1 (by omega) hgh hch)
 have X1 : Hid (MK lo hi w (w.alloc (χ #[σ (some ⟨g, 0, none⟩) ss.length cap] 34))) := ((Ext.refl _).alloc _ _).kept hlo
 clear h x1 hch
 go_enter Tryz.func15, Tryz.ntmps15
 go_wp2_with (go_at_call 49; refine HM.out.mono ?_; rintro e w2 ⟨rfl, h2, b2⟩; have H2 := hide h2; have B2 := hide (X1.out.tr b2); clear h2 b2)
 go_ret
 exact ⟨rfl, H2.out, B2.out⟩
theorem zy23 {w : World} {lo hi : Nat} {v : Value} {ss : List St} (c : Int) (h : MOwnH w lo hi v ss) (hl : SL ss 1048576) (hlo : lo ≤ w.heap.size) :
  Calls Tryz.prog 17 #[γ #[O ι c, v], O ι 1] w fun e w' => e = .returned (O ι (kAt ss 1 ss.length)) ∧ SV w' v (mkdN ss 1 ss.length) ∧ MK lo hi w w' := by
 rcases h with ⟨rfl, rfl⟩ | ⟨g, cap, cb, rfl, h, hgh, hch⟩
 ·have X1 : Hid (MK lo hi w (w.alloc (χ #[O ι c, σ none 0 0] 36))) := ((Ext.refl _).alloc _ _).kept hlo
  go_enter Tryz.func17, Tryz.ntmps17
  go_wp2_with (go_at_call 15; refine (zv9 _ _).mono ?_; rintro e w2 ⟨rfl, x2⟩; have B2 := hide (X1.out.tr (x2.kept (Nat.le_trans hlo X1.out.bl.size))); clear x2)
  go_ret
  exact ⟨rfl, ⟨none, 0, rfl, Or.inl rfl⟩, B2.out⟩
 ·have x1 : Ext w (w.alloc (χ #[O ι c, σ (some ⟨g, 0, none⟩) ss.length cap] 36)) := (Ext.refl w).alloc _ _
  have X1 : Hid (MK lo hi w (w.alloc (χ #[O ι c, σ (some ⟨g, 0, none⟩) ss.length cap] 36))) := ((Ext.refl _).alloc _ _).kept hlo
  have HM := hide (zu9 (cap := cap) (h.keep (fun b _ hb => x1.bl.block b hb) x1.bl.size) hl (Nat.le_trans hlo x1.bl.size) hgh hch)
  clear h x1 hch
  go_enter Tryz.func17, Tryz.ntmps17
  go_wp2_with (go_at_call 15; refine HM.out.mono ?_; rintro e w2 ⟨rfl, h2, b2⟩; have H2 := hide h2; have B2 := hide (X1.out.tr b2); clear h2 b2)
  go_ret
  have q := H2.out.sv (cap := cap)
  rw [za1] at q
  exact ⟨rfl, q, B2.out⟩
theorem AV.keep {w w' : World} {v : Value} {a : Ar} (h : AV w v a) (x : Bel w w') : AV w' v a := by
 obtain ⟨p, c, q, d, e, h1, h2, h3⟩ := h
 exact ⟨p, c, q, d, e, zk h1 x, zk h2 x, h3⟩
structure LX (w : World) (hv : Value) (A1 A2 A3 : List Value) (W : World) : Prop where
 h : W.cell? ⟨w.heap.size, 0, none⟩ = some hv
 a : AtB W (w.heap.size + 1) A1
 b : AtB W (w.heap.size + 1 + 1) A2
 o : AtB W (w.heap.size + 1 + 1 + 1) A3
 bl : Bel w W
structure CpH (W : World) (lo B g : Nat) (ss : List St) : Prop where
 box : W.cell? ⟨B, 0, none⟩ = some (σ (some ⟨g, 0, none⟩) ss.length ss.length)
 sv : SV W (σ (some ⟨g, 0, none⟩) ss.length ss.length) ss
 row : WRow W (g + 1) B g 0 ss
 fz : ∀ c o, g ≤ c → c < B → W.frozen? ⟨c, o, none⟩ = false
 lo_g : lo ≤ g
 gB : ss = [] ∨ g < B
 lo_B : lo ≤ B
 Bs : B < W.heap.size
theorem CpH.keep {W W' : World} {lo B g : Nat} {ss : List St} (h : CpH W lo B g ss) (x : Bel W W') : CpH W' lo B g ss :=
 ⟨Bel.box x h.box, h.sv.keep x, h.row.step (fun b o v q => ⟨v, Bel.box x q⟩) (fun o v _ hc => Bel.box x hc), fun c o h1 h2 => (Below.frozen x (p := ⟨c, o, none⟩) (by show c < _; have := h.Bs; omega)).trans (h.fz c o h1 h2), h.lo_g, h.gB, h.lo_B, Nat.lt_of_lt_of_le h.Bs x.size⟩
theorem CpH.new {w w' : World} {g : Nat} {ss : List St} (hg : w.heap.size ≤ g) (r : SRowL w' (g + 1) g 0 ss) (x : Ext w w') : CpH (w'.alloc (χ #[σ (some ⟨g, 0, none⟩) ss.length ss.length] 34)) w.heap.size w'.heap.size g ss := by
 have e := (Ext.refl w').alloc #[σ (some ⟨g, 0, none⟩) ss.length ss.length] 34
 refine ⟨zd w' _ 34 _ rfl 0, (r.sv rfl).keep e.bl, r.wrow.step (fun b o v q => ⟨v, Bel.box e.bl q⟩) (fun o v _ hc => Bel.box e.bl hc), fun c o h1 h2 => (x.trans e).unfrozen (by omega) o, hg, ?_, x.bl.size, by simp⟩
 by_cases q : ss = []
 ·exact Or.inl q
 ·exact Or.inr (zj (r 0 (List.length_pos_iff.2 q)).1)
def arL (a : Ar) (b c : Nat) : List Value := [O ι a.st, σ (some ⟨b, 0, none⟩) a.xs.length a.xs.length, σ (some ⟨c, 0, none⟩) a.sv.length a.sv.length, O ι a.off]
structure CpA (W : World) (lo B b c : Nat) (a : Ar) : Prop where
 box : AtB W B (arL a b c)
 x : Row W b 0 a.xs
 s : Row W c 0 a.sv
 fz : ∀ d o, b ≤ d → d ≤ c → W.frozen? ⟨d, o, none⟩ = false
 lo_b : lo ≤ b
 bc : b < c
 cB : c < B
 Bs : B < W.heap.size
theorem CpA.keep {W W' : World} {lo B b c : Nat} {a : Ar} (h : CpA W lo B b c a) (x : Bel W W') : CpA W' lo B b c a :=
 ⟨h.box.keep x, fun j hj => Bel.box x (h.x j hj), fun j hj => Bel.box x (h.s j hj), fun d o h1 h2 => (Below.frozen x (p := ⟨d, o, none⟩) (by show d < _; have := h.Bs; have := h.cB; omega)).trans (h.fz d o h1 h2), h.lo_b, h.bc, h.cB, Nat.lt_of_lt_of_le h.Bs x.size⟩
theorem CpA.mIn {W W' : World} {lo B b c p q : Nat} {a : Ar} (h : CpA W lo B b c a) (x : MIn p q W W') (hq : q ≤ lo) : CpA W' lo B b c a :=
 ⟨fun j y hy => x.box _ _ _ (Or.inr (by have := h.lo_b; have := h.bc; have := h.cB; omega)) (h.box j y hy), fun j hj => x.box _ _ _ (Or.inr (by have := h.lo_b; omega)) (h.x j hj), fun j hj => x.box _ _ _ (Or.inr (by have := h.lo_b; have := h.bc; omega)) (h.s j hj), fun d o h1 h2 => (x.fz _).trans (h.fz d o h1 h2), h.lo_b, h.bc, h.cB, Nat.lt_of_lt_of_le h.Bs x.bl.size⟩
theorem CpA.new {w w' : World} {b c : Nat} {a : Ar} (hb : w.heap.size ≤ b) (hbc : b < c) (hc : c < w'.heap.size) (hx : Row w' b 0 a.xs) (hs : Row w' c 0 a.sv) (x : Ext w w') : CpA (w'.alloc (χ #[O ι a.st, σ (some ⟨b, 0, none⟩) a.xs.length a.xs.length, σ (some ⟨c, 0, none⟩) a.sv.length a.sv.length, O ι a.off] 41)) w.heap.size w'.heap.size b c a := by
 have e := (Ext.refl w').alloc #[O ι a.st, σ (some ⟨b, 0, none⟩) a.xs.length a.xs.length, σ (some ⟨c, 0, none⟩) a.sv.length a.sv.length, O ι a.off] 41
 exact ⟨fun j y hy => (zd w' _ 41 _ rfl j).trans (by simpa [arL] using hy), fun j hj => e.box (hx j hj), fun j hj => e.box (hs j hj), fun d o h1 h2 => (x.trans e).unfrozen (by omega) o, hb, hbc, hc, by simp⟩
theorem CpA.av {W : World} {lo B b c : Nat} {a : Ar} (h : CpA W lo B b c a) (hl : a.Len) : AV W (γ #[O ι a.st, σ (some ⟨b, 0, none⟩) a.xs.length a.xs.length, σ (some ⟨c, 0, none⟩) a.sv.length a.sv.length, O ι a.off]) a :=
 ⟨_, _, _, _, rfl, h.x.ints rfl, h.s.ints rfl, hl⟩
theorem HOwn.mIn {w w' : World} {lo g p q : Nat} {cb : Nat → Nat} {ss : List St} (h : HOwn w lo g cb ss) (x : MIn p q w w') (hq : q ≤ lo) : HOwn w' lo g cb ss := by
 have hlg := h.lo_g
 refine ⟨fun j hj => x.box _ _ _ (Or.inr (by omega)) (h.dt j hj), fun j hj => ?_, fun j hj hne => ?_, fun o => (x.fz _).trans (h.fz o), fun j hj hne o => (x.fz _).trans (h.fzr j hj hne o), h.lo_g, Nat.lt_of_lt_of_le h.g_lt x.bl.size, h.g_cb, h.inc⟩
 ·obtain ⟨sa, cap, h1, h2⟩ := h.sl j hj
  exact ⟨sa, cap, x.box _ _ _ (Or.inr (by omega)) h1, h2⟩
 ·have hr := h.row j hj hne
  have hc := h.g_cb j hj hne
  exact fun i hi => ⟨x.box _ _ _ (Or.inr (by omega)) (hr i hi).1, x.box _ _ _ (Or.inr (by omega)) (hr i hi).2.1, x.box _ _ _ (Or.inr (by omega)) (hr i hi).2.2⟩
theorem MOwn.far {w : World} {lo : Nat} {v : Value} {ss : List St} (h : MOwn w lo v ss) {b o : Nat} (hb : b < lo) (u : Value) : MOwn (w.setCell ⟨b, o, none⟩ u) lo v ss :=
 h.keep (fun c hc _ => Below.heap_setCell _ _ _ _ (by show c ≠ b; omega)) (by simp [World.setCell])
theorem MOwnH.mIn {w w' : World} {lo hi p q : Nat} {v : Value} {ss : List St} (h : MOwnH w lo hi v ss) (x : MIn p q w w') (hq : q ≤ lo) : MOwnH w' lo hi v ss :=
 h.imp id fun ⟨g, cap, cb, e, k, z⟩ => ⟨g, cap, cb, e, k.mIn x hq, z⟩
theorem AtB.mIn {W W' : World} {B p q : Nat} {C : List Value} (h : AtB W B C) (x : MIn p q W W') (hq : q ≤ B) : AtB W' B C := fun j y hy => x.box _ _ _ (Or.inr hq) (h j y hy)
theorem AtB.two {W : World} {B : Nat} {x0 x1 : Value} (h : AtB W B [x0, x1]) (u0 u1 : Value) : AtB ((W.setCell ⟨B, 0, none⟩ u0).setCell ⟨B, 1, none⟩ u1) B [u0, u1] := by
 have q0 := h 0 _ rfl
 have q1 := h 1 _ rfl
 intro j y hy
 match j, hy with
 | 0, hy =>
  simp at hy
  subst hy
  exact ze1 (by decide) (World.cell?_setCell_same _ _ _ q0)
 | 1, hy =>
  simp at hy
  subst hy
  exact World.cell?_setCell_same _ _ _ (ze1 (by decide) q1)
 | j + 2, hy => simp at hy
theorem MSp.form {w : World} {lo : Nat} {u : Value} {ts : List St} (h : MSp w lo u ts) : ∃ su cu, u = σ su ts.length cu := by
 rcases h with ⟨rfl, rfl⟩ | ⟨g, cap, cb, rfl, h⟩
 ·exact ⟨none, 0, rfl⟩
 ·exact ⟨_, _, rfl⟩
theorem MOwn.form {w : World} {lo : Nat} {u : Value} {ts : List St} (h : MOwn w lo u ts) : ∃ su cu, u = σ su ts.length cu := by
 rcases h with ⟨rfl, rfl⟩ | ⟨g, cap, cb, rfl, h⟩
 ·exact ⟨none, 0, rfl⟩
 ·exact ⟨_, _, rfl⟩
end
section
open Go.RowKit FL
def fbef (a b : Nat) : Bool := !nanD a && (nanD b || (flt a b || (feq a b && (mzB a && !mzB b))))
theorem zr24 (a b : Nat) (h : flt a b = true) : feq a b = false := by
 unfold flt at h
 unfold feq
 simp only [Bool.and_eq_true, decide_eq_true_eq] at h
 have : ¬ keyD a = keyD b := by omega
 simp [this]
theorem zu26 (a b : Nat) (ha : B64 a) (hb : B64 b) (h : feq a b = true) : (hiB a && !hiB b) = (mzB a && !mzB b) := by
 unfold feq at h
 simp only [Bool.and_eq_true, decide_eq_true_eq] at h
 rcases zu13 a b ha hb h.2 with e | e | e
 ·rw [e]; cases hiB b <;> cases mzB b <;> rfl
 ·rw [e.1, e.2]; decide
 ·rw [e.1, e.2]; decide
theorem za2 (a b : Nat) (ha : B64 a) (hb : B64 b) (w : World) :
  Calls Tryz.prog 128 #[.float .f64 a, .float .f64 b] w fun e w' => e = .returned (.bool (fbef a b)) ∧ w' = w := by
 go_enter Tryz.func128, Tryz.ntmps128
 go_wp2_with (first | (go_at_call 70; refine (zh7 _ _).mono ?_; rintro e w' ⟨rfl, rfl⟩) | (go_at_call 148; refine (zg7 _ ?_ _).mono ?_; assumption; rintro e w' ⟨rfl, rfl⟩))
 all_goals go_ret
 all_goals go_light
 all_goals refine ⟨zm ?_, rfl⟩
 all_goals (unfold fbef; simp_all; done)
theorem zy1 (a b : Nat) (ha : B64 a) (hb : B64 b) (w : World) :
  Calls Tryz.prog 130 #[.float .f64 a, .float .f64 b] w fun e w' => e = .returned (.bool (fbef a b)) ∧ w' = w := by
 have Hb := hide (zu26 a b ha hb)
 have Hl := hide (zr24 a b)
 cases na : nanD a <;> cases nb : nanD b
 ·cases hf : feq a b
  ·go_enter Tryz.func130, Tryz.ntmps130
   go_wp2_with (first | (go_at_call 86; refine (zo2 _ _).mono ?_; rintro e w' ⟨rfl, rfl⟩))
   go_ret
   exact ⟨zm (by unfold fbef; rw [na, nb, hf]; simp), rfl⟩
  ·have h1 := Hb.out hf
   have h2 : flt a b = false := by
    cases e : flt a b
    ·rfl
    ·have := Hl.out e; rw [hf] at this; cases this
   have Hs := hide h1
   have H2 := hide h2
   clear h1 h2
   cases ea : hiB a
   all_goals
    go_enter Tryz.func130, Tryz.ntmps130
    go_wp2_with (first | (go_at_call 86; refine (zo2 _ _).mono ?_; rintro e w' ⟨rfl, rfl⟩) | (go_at_call 152; refine (zl6 _ ?_ _).mono ?_; assumption; rintro e w' ⟨rfl, rfl⟩))
    go_ret
    exact ⟨zm (by unfold fbef; have h1 := Hs.out; rw [ea] at h1; rw [na, nb, hf, H2.out, ← h1]; simp), rfl⟩
 all_goals
  go_enter Tryz.func130, Tryz.ntmps130
  go_wp2_with (first | (go_at_call 86; refine (zo2 _ _).mono ?_; rintro e w' ⟨rfl, rfl⟩))
  go_ret
  exact ⟨zm (by unfold fbef; rw [na, nb]; simp), rfl⟩
def cbef (fa ga fb gb : Nat) : Bool := fbef fa fb || (!fbef fb fa && fbef ga gb)
theorem zo5 (fa ga fb gb : Nat) (ha : B64 fa) (ha' : B64 ga) (hb : B64 fb) (hb' : B64 gb) (w : World) :
  Calls Tryz.prog 131 #[.complex .f64 fa ga, .complex .f64 fb gb] w fun e w' => e = .returned (.bool (cbef fa ga fb gb)) ∧ w' = w := by
 go_enter Tryz.func131, Tryz.ntmps131
 go_wp2_with (first | (go_at_call 130; refine (zy1 _ _ ?_ ?_ _).mono ?_; assumption; assumption; rintro e w' ⟨rfl, rfl⟩))
 all_goals go_ret
 all_goals go_light
 all_goals refine ⟨zm ?_, rfl⟩
 all_goals (unfold cbef; simp_all; done)
theorem ze10 (i : Int) (f g : Nat) (w : World) :
  Calls Tryz.prog 132 #[γ #[O ι i, .float .f64 f, .float .f64 g]] w fun e w' => e = .returned (.complex .f64 f g) ∧ Ext w w' := by
 go_enter Tryz.func132, Tryz.ntmps132
 go_wp2
 go_ret
 exact ⟨rfl, by repeat (first | exact Ext.refl _ | apply Ext.drewN | apply Ext.drew | apply Ext.alloc)⟩
def befB (dt ia : Int) (fa ga : Nat) (ib : Int) (fb gb : Nat) : Bool :=
 validB dt ia fa ga && (validB dt ib fb gb && (if dt ≤ 6 then decide (ia < ib) else if dt ≤ 8 then fbef fa fb else cbef fa ga fb gb))
theorem zs3 (dt i : Int) (f g : Nat) (h : validB dt i f g = true) : 1 ≤ dt ∧ dt ≤ 9 := by
 unfold validB at h
 by_cases h1 : 1 ≤ dt ∧ dt ≤ 6
 ·omega
 ·rw [if_neg h1] at h
  by_cases h7 : dt = 7
  ·omega
  ·rw [if_neg h7] at h
   by_cases h8 : dt = 8
   ·omega
   ·rw [if_neg h8] at h
    by_cases h9 : dt = 9
    ·omega
    ·rw [if_neg h9] at h; cases h
theorem zk8 (dt ia : Int) (fa ga : Nat) (ib : Int) (fb gb : Nat) (hia : I64 ia) (hfa : B64 fa) (hga : B64 ga) (hib : I64 ib) (hfb : B64 fb) (hgb : B64 gb) (h : (validB dt ia fa ga && validB dt ib fb gb) = false) (w : World) :
  Calls Tryz.prog 96 #[O ι dt, γ #[O ι ia, .float .f64 fa, .float .f64 ga], γ #[O ι ib, .float .f64 fb, .float .f64 gb]] w fun e w' => e = .returned (.bool false) ∧ Ext w w' := by
 cases va : validB dt ia fa ga
 ·go_enter Tryz.func96, Tryz.ntmps96
  go_wp2_with fail
  refine (zu _ _ _ _ ?_ ?_ _).mono ?_
  iterate 2 assumption
  rintro e w1 ⟨rfl, x1⟩
  go_wp2
  go_ret
  exact ⟨rfl, (((Ext.refl w).alloc _ _).alloc _ _).trans x1⟩
 ·rw [va] at h
  have vb : validB dt ib fb gb = false := h
  go_enter Tryz.func96, Tryz.ntmps96
  go_wp2_with fail
  refine (zu _ _ _ _ ?_ ?_ _).mono ?_
  iterate 2 assumption
  rintro e w1 ⟨rfl, x1⟩
  have k1a0 := x1.box (b := w.heap.size) (o := 0) (v := O ι ia) (by first | assumption | simp)
  have k1a1 := x1.box (b := w.heap.size) (o := 1) (v := .float .f64 fa) (by first | assumption | simp)
  have k1a2 := x1.box (b := w.heap.size) (o := 2) (v := .float .f64 ga) (by first | assumption | simp)
  have k1b0 := x1.box (b := w.heap.size + 1) (o := 0) (v := O ι ib) (by first | assumption | simp)
  have k1b1 := x1.box (b := w.heap.size + 1) (o := 1) (v := .float .f64 fb) (by first | assumption | simp)
  have k1b2 := x1.box (b := w.heap.size + 1) (o := 2) (v := .float .f64 gb) (by first | assumption | simp)
  go_wp2_with fail
  refine (zu _ _ _ _ ?_ ?_ _).mono ?_
  iterate 2 assumption
  rintro e w2 ⟨rfl, x2⟩
  go_wp2
  go_ret
  exact ⟨rfl, ((((Ext.refl w).alloc _ _).alloc _ _).trans x1).trans x2⟩
theorem zv8 (dt ia : Int) (fa ga : Nat) (ib : Int) (fb gb : Nat) (hia : I64 ia) (hfa : B64 fa) (hga : B64 ga) (hib : I64 ib) (hfb : B64 fb) (hgb : B64 gb) (h : (validB dt ia fa ga && validB dt ib fb gb) = false) (w : World) :
  Calls Tryz.prog 98 #[O ι dt, γ #[O ι ia, .float .f64 fa, .float .f64 ga], γ #[O ι ib, .float .f64 fb, .float .f64 gb]] w fun e w' => e = .returned (.bool false) ∧ Ext w w' := by
 cases va : validB dt ia fa ga
 ·go_enter Tryz.func98, Tryz.ntmps98
  go_wp2_with fail
  refine (zd1 _ _ _ _ ?_ ?_ ?_ _).mono ?_
  iterate 3 assumption
  rintro e w1 ⟨rfl, x1⟩
  go_wp2
  go_ret
  exact ⟨rfl, (((Ext.refl w).alloc _ _).alloc _ _).trans x1⟩
 ·rw [va] at h
  have vb : validB dt ib fb gb = false := h
  go_enter Tryz.func98, Tryz.ntmps98
  go_wp2_with fail
  refine (zd1 _ _ _ _ ?_ ?_ ?_ _).mono ?_
  iterate 3 assumption
  rintro e w1 ⟨rfl, x1⟩
  have k1a0 := x1.box (b := w.heap.size) (o := 0) (v := O ι ia) (by first | assumption | simp)
  have k1a1 := x1.box (b := w.heap.size) (o := 1) (v := .float .f64 fa) (by first | assumption | simp)
  have k1a2 := x1.box (b := w.heap.size) (o := 2) (v := .float .f64 ga) (by first | assumption | simp)
  have k1b0 := x1.box (b := w.heap.size + 1) (o := 0) (v := O ι ib) (by first | assumption | simp)
  have k1b1 := x1.box (b := w.heap.size + 1) (o := 1) (v := .float .f64 fb) (by first | assumption | simp)
  have k1b2 := x1.box (b := w.heap.size + 1) (o := 2) (v := .float .f64 gb) (by first | assumption | simp)
  go_wp2_with fail
  refine (zd1 _ _ _ _ ?_ ?_ ?_ _).mono ?_
  iterate 3 assumption
  rintro e w2 ⟨rfl, x2⟩
  go_wp2
  go_ret
  exact ⟨rfl, ((((Ext.refl w).alloc _ _).alloc _ _).trans x1).trans x2⟩
theorem za13 (dt ia : Int) (fa ga : Nat) (ib : Int) (fb gb : Nat) (hia : I64 ia) (hfa : B64 fa) (hga : B64 ga) (hib : I64 ib) (hfb : B64 fb) (hgb : B64 gb) (va : validB dt ia fa ga = true) (vb : validB dt ib fb gb = true) (hd : dt ≤ 6) (w : World) :
  Calls Tryz.prog 96 #[O ι dt, γ #[O ι ia, .float .f64 fa, .float .f64 ga], γ #[O ι ib, .float .f64 fb, .float .f64 gb]] w fun e w' => e = .returned (.bool (decide (ia < ib))) ∧ Ext w w' := by
 have hdt := zs3 _ _ _ _ va
 have hk : skindL dt = 0 ∨ skindL dt = 1 := by unfold skindL; omega
 have hk2 : decide (skindL dt < 2) = true := by simp; omega
 clear hk hd
 clear hdt
 go_enter Tryz.func96, Tryz.ntmps96
 go_wp2_with fail
 refine (zu _ _ _ _ ?_ ?_ _).mono ?_
 iterate 2 assumption
 rintro e w1 ⟨rfl, x1⟩
 have k1a0 := x1.box (b := w.heap.size) (o := 0) (v := O ι ia) (by first | assumption | simp)
 have k1a1 := x1.box (b := w.heap.size) (o := 1) (v := .float .f64 fa) (by first | assumption | simp)
 have k1a2 := x1.box (b := w.heap.size) (o := 2) (v := .float .f64 ga) (by first | assumption | simp)
 have k1b0 := x1.box (b := w.heap.size + 1) (o := 0) (v := O ι ib) (by first | assumption | simp)
 have k1b1 := x1.box (b := w.heap.size + 1) (o := 1) (v := .float .f64 fb) (by first | assumption | simp)
 have k1b2 := x1.box (b := w.heap.size + 1) (o := 2) (v := .float .f64 gb) (by first | assumption | simp)
 go_wp2_with fail
 refine (zu _ _ _ _ ?_ ?_ _).mono ?_
 iterate 2 assumption
 rintro e w2 ⟨rfl, x2⟩
 have k2a0 := x2.box (b := w.heap.size) (o := 0) (v := O ι ia) (by first | assumption | simp)
 have k2a1 := x2.box (b := w.heap.size) (o := 1) (v := .float .f64 fa) (by first | assumption | simp)
 have k2a2 := x2.box (b := w.heap.size) (o := 2) (v := .float .f64 ga) (by first | assumption | simp)
 have k2b0 := x2.box (b := w.heap.size + 1) (o := 0) (v := O ι ib) (by first | assumption | simp)
 have k2b1 := x2.box (b := w.heap.size + 1) (o := 1) (v := .float .f64 fb) (by first | assumption | simp)
 have k2b2 := x2.box (b := w.heap.size + 1) (o := 2) (v := .float .f64 gb) (by first | assumption | simp)
 go_wp2_with (first | (go_at_call 109; refine (zv _ _).mono ?_; rintro e w' ⟨rfl, rfl⟩) | (go_at_call 128; refine (za2 _ _ ?_ ?_ _).mono ?_; assumption; assumption; rintro e w' ⟨rfl, rfl⟩))
 go_ret
 exact ⟨rfl, ((((Ext.refl w).alloc _ _).alloc _ _).trans x1).trans x2⟩
theorem zb13 (dt ia : Int) (fa ga : Nat) (ib : Int) (fb gb : Nat) (hia : I64 ia) (hfa : B64 fa) (hga : B64 ga) (hib : I64 ib) (hfb : B64 fb) (hgb : B64 gb) (va : validB dt ia fa ga = true) (vb : validB dt ib fb gb = true) (hd : 6 < dt ∧ dt ≤ 8) (w : World) :
  Calls Tryz.prog 96 #[O ι dt, γ #[O ι ia, .float .f64 fa, .float .f64 ga], γ #[O ι ib, .float .f64 fb, .float .f64 gb]] w fun e w' => e = .returned (.bool (fbef fa fb)) ∧ Ext w w' := by
 have hdt := zs3 _ _ _ _ va
 have hk : skindL dt = 2 := by unfold skindL; omega
 clear hd
 clear hdt
 go_enter Tryz.func96, Tryz.ntmps96
 go_wp2_with fail
 refine (zu _ _ _ _ ?_ ?_ _).mono ?_
 iterate 2 assumption
 rintro e w1 ⟨rfl, x1⟩
 have k1a0 := x1.box (b := w.heap.size) (o := 0) (v := O ι ia) (by first | assumption | simp)
 have k1a1 := x1.box (b := w.heap.size) (o := 1) (v := .float .f64 fa) (by first | assumption | simp)
 have k1a2 := x1.box (b := w.heap.size) (o := 2) (v := .float .f64 ga) (by first | assumption | simp)
 have k1b0 := x1.box (b := w.heap.size + 1) (o := 0) (v := O ι ib) (by first | assumption | simp)
 have k1b1 := x1.box (b := w.heap.size + 1) (o := 1) (v := .float .f64 fb) (by first | assumption | simp)
 have k1b2 := x1.box (b := w.heap.size + 1) (o := 2) (v := .float .f64 gb) (by first | assumption | simp)
 go_wp2_with fail
 refine (zu _ _ _ _ ?_ ?_ _).mono ?_
 iterate 2 assumption
 rintro e w2 ⟨rfl, x2⟩
 have k2a0 := x2.box (b := w.heap.size) (o := 0) (v := O ι ia) (by first | assumption | simp)
 have k2a1 := x2.box (b := w.heap.size) (o := 1) (v := .float .f64 fa) (by first | assumption | simp)
 have k2a2 := x2.box (b := w.heap.size) (o := 2) (v := .float .f64 ga) (by first | assumption | simp)
 have k2b0 := x2.box (b := w.heap.size + 1) (o := 0) (v := O ι ib) (by first | assumption | simp)
 have k2b1 := x2.box (b := w.heap.size + 1) (o := 1) (v := .float .f64 fb) (by first | assumption | simp)
 have k2b2 := x2.box (b := w.heap.size + 1) (o := 2) (v := .float .f64 gb) (by first | assumption | simp)
 go_wp2_with (first | (go_at_call 109; refine (zv _ _).mono ?_; rintro e w' ⟨rfl, rfl⟩) | (go_at_call 128; refine (za2 _ _ ?_ ?_ _).mono ?_; assumption; assumption; rintro e w' ⟨rfl, rfl⟩))
 all_goals go_ret
 all_goals go_light
 all_goals exact ⟨zm (by simp_all [cbef]), ((((Ext.refl w).alloc _ _).alloc _ _).trans x1).trans x2⟩
theorem zc13 (dt ia : Int) (fa ga : Nat) (ib : Int) (fb gb : Nat) (hia : I64 ia) (hfa : B64 fa) (hga : B64 ga) (hib : I64 ib) (hfb : B64 fb) (hgb : B64 gb) (va : validB dt ia fa ga = true) (vb : validB dt ib fb gb = true) (hd : 8 < dt) (w : World) :
  Calls Tryz.prog 96 #[O ι dt, γ #[O ι ia, .float .f64 fa, .float .f64 ga], γ #[O ι ib, .float .f64 fb, .float .f64 gb]] w fun e w' => e = .returned (.bool (cbef fa ga fb gb)) ∧ Ext w w' := by
 have hdt := zs3 _ _ _ _ va
 have hk : skindL dt = 3 := by unfold skindL; omega
 clear hd
 clear hdt
 go_enter Tryz.func96, Tryz.ntmps96
 go_wp2_with fail
 refine (zu _ _ _ _ ?_ ?_ _).mono ?_
 iterate 2 assumption
 rintro e w1 ⟨rfl, x1⟩
 have k1a0 := x1.box (b := w.heap.size) (o := 0) (v := O ι ia) (by first | assumption | simp)
 have k1a1 := x1.box (b := w.heap.size) (o := 1) (v := .float .f64 fa) (by first | assumption | simp)
 have k1a2 := x1.box (b := w.heap.size) (o := 2) (v := .float .f64 ga) (by first | assumption | simp)
 have k1b0 := x1.box (b := w.heap.size + 1) (o := 0) (v := O ι ib) (by first | assumption | simp)
 have k1b1 := x1.box (b := w.heap.size + 1) (o := 1) (v := .float .f64 fb) (by first | assumption | simp)
 have k1b2 := x1.box (b := w.heap.size + 1) (o := 2) (v := .float .f64 gb) (by first | assumption | simp)
 go_wp2_with fail
 refine (zu _ _ _ _ ?_ ?_ _).mono ?_
 iterate 2 assumption
 rintro e w2 ⟨rfl, x2⟩
 have k2a0 := x2.box (b := w.heap.size) (o := 0) (v := O ι ia) (by first | assumption | simp)
 have k2a1 := x2.box (b := w.heap.size) (o := 1) (v := .float .f64 fa) (by first | assumption | simp)
 have k2a2 := x2.box (b := w.heap.size) (o := 2) (v := .float .f64 ga) (by first | assumption | simp)
 have k2b0 := x2.box (b := w.heap.size + 1) (o := 0) (v := O ι ib) (by first | assumption | simp)
 have k2b1 := x2.box (b := w.heap.size + 1) (o := 1) (v := .float .f64 fb) (by first | assumption | simp)
 have k2b2 := x2.box (b := w.heap.size + 1) (o := 2) (v := .float .f64 gb) (by first | assumption | simp)
 go_wp2_with (first | (go_at_call 109; refine (zv _ _).mono ?_; rintro e w' ⟨rfl, rfl⟩) | (go_at_call 128; refine (za2 _ _ ?_ ?_ _).mono ?_; assumption; assumption; rintro e w' ⟨rfl, rfl⟩))
 all_goals go_ret
 all_goals go_light
 all_goals exact ⟨zm (by simp_all [cbef]), ((((Ext.refl w).alloc _ _).alloc _ _).trans x1).trans x2⟩
theorem zz13 (dt ia : Int) (fa ga : Nat) (ib : Int) (fb gb : Nat) (hia : I64 ia) (hfa : B64 fa) (hga : B64 ga) (hib : I64 ib) (hfb : B64 fb) (hgb : B64 gb) (va : validB dt ia fa ga = true) (vb : validB dt ib fb gb = true) (hd : dt ≤ 6) (w : World) :
  Calls Tryz.prog 98 #[O ι dt, γ #[O ι ia, .float .f64 fa, .float .f64 ga], γ #[O ι ib, .float .f64 fb, .float .f64 gb]] w fun e w' => e = .returned (.bool (decide (ia < ib))) ∧ Ext w w' := by
 have hdt := zs3 _ _ _ _ va
 have hk : kindL dt = 0 ∨ kindL dt = 1 := by unfold kindL; omega
 have hk2 : (kindL dt == 2) = false := by simp; omega
 have hk3 : (kindL dt == 3) = false := by simp; omega
 clear hk hd
 clear hdt
 go_enter Tryz.func98, Tryz.ntmps98
 go_wp2_with fail
 refine (zd1 _ _ _ _ ?_ ?_ ?_ _).mono ?_
 iterate 3 assumption
 rintro e w1 ⟨rfl, x1⟩
 have k1a0 := x1.box (b := w.heap.size) (o := 0) (v := O ι ia) (by first | assumption | simp)
 have k1a1 := x1.box (b := w.heap.size) (o := 1) (v := .float .f64 fa) (by first | assumption | simp)
 have k1a2 := x1.box (b := w.heap.size) (o := 2) (v := .float .f64 ga) (by first | assumption | simp)
 have k1b0 := x1.box (b := w.heap.size + 1) (o := 0) (v := O ι ib) (by first | assumption | simp)
 have k1b1 := x1.box (b := w.heap.size + 1) (o := 1) (v := .float .f64 fb) (by first | assumption | simp)
 have k1b2 := x1.box (b := w.heap.size + 1) (o := 2) (v := .float .f64 gb) (by first | assumption | simp)
 go_wp2_with fail
 refine (zd1 _ _ _ _ ?_ ?_ ?_ _).mono ?_
 iterate 3 assumption
 rintro e w2 ⟨rfl, x2⟩
 have k2a0 := x2.box (b := w.heap.size) (o := 0) (v := O ι ia) (by first | assumption | simp)
 have k2a1 := x2.box (b := w.heap.size) (o := 1) (v := .float .f64 fa) (by first | assumption | simp)
 have k2a2 := x2.box (b := w.heap.size) (o := 2) (v := .float .f64 ga) (by first | assumption | simp)
 have k2b0 := x2.box (b := w.heap.size + 1) (o := 0) (v := O ι ib) (by first | assumption | simp)
 have k2b1 := x2.box (b := w.heap.size + 1) (o := 1) (v := .float .f64 fb) (by first | assumption | simp)
 have k2b2 := x2.box (b := w.heap.size + 1) (o := 2) (v := .float .f64 gb) (by first | assumption | simp)
 go_wp2_with (first | (go_at_call 118; refine (zf1 _ _).mono ?_; rintro e w' ⟨rfl, rfl⟩) | (go_at_call 130; refine (zy1 _ _ ?_ ?_ _).mono ?_; assumption; assumption; rintro e w' ⟨rfl, rfl⟩))
 go_ret
 exact ⟨rfl, ((((Ext.refl w).alloc _ _).alloc _ _).trans x1).trans x2⟩
theorem za14 (dt ia : Int) (fa ga : Nat) (ib : Int) (fb gb : Nat) (hia : I64 ia) (hfa : B64 fa) (hga : B64 ga) (hib : I64 ib) (hfb : B64 fb) (hgb : B64 gb) (va : validB dt ia fa ga = true) (vb : validB dt ib fb gb = true) (hd : 6 < dt ∧ dt ≤ 8) (w : World) :
  Calls Tryz.prog 98 #[O ι dt, γ #[O ι ia, .float .f64 fa, .float .f64 ga], γ #[O ι ib, .float .f64 fb, .float .f64 gb]] w fun e w' => e = .returned (.bool (fbef fa fb)) ∧ Ext w w' := by
 have hdt := zs3 _ _ _ _ va
 have hk : kindL dt = 2 := by unfold kindL; omega
 clear hd
 clear hdt
 go_enter Tryz.func98, Tryz.ntmps98
 go_wp2_with fail
 refine (zd1 _ _ _ _ ?_ ?_ ?_ _).mono ?_
 iterate 3 assumption
 rintro e w1 ⟨rfl, x1⟩
 have k1a0 := x1.box (b := w.heap.size) (o := 0) (v := O ι ia) (by first | assumption | simp)
 have k1a1 := x1.box (b := w.heap.size) (o := 1) (v := .float .f64 fa) (by first | assumption | simp)
 have k1a2 := x1.box (b := w.heap.size) (o := 2) (v := .float .f64 ga) (by first | assumption | simp)
 have k1b0 := x1.box (b := w.heap.size + 1) (o := 0) (v := O ι ib) (by first | assumption | simp)
 have k1b1 := x1.box (b := w.heap.size + 1) (o := 1) (v := .float .f64 fb) (by first | assumption | simp)
 have k1b2 := x1.box (b := w.heap.size + 1) (o := 2) (v := .float .f64 gb) (by first | assumption | simp)
 go_wp2_with fail
 refine (zd1 _ _ _ _ ?_ ?_ ?_ _).mono ?_
 iterate 3 assumption
 rintro e w2 ⟨rfl, x2⟩
 have k2a0 := x2.box (b := w.heap.size) (o := 0) (v := O ι ia) (by first | assumption | simp)
 have k2a1 := x2.box (b := w.heap.size) (o := 1) (v := .float .f64 fa) (by first | assumption | simp)
 have k2a2 := x2.box (b := w.heap.size) (o := 2) (v := .float .f64 ga) (by first | assumption | simp)
 have k2b0 := x2.box (b := w.heap.size + 1) (o := 0) (v := O ι ib) (by first | assumption | simp)
 have k2b1 := x2.box (b := w.heap.size + 1) (o := 1) (v := .float .f64 fb) (by first | assumption | simp)
 have k2b2 := x2.box (b := w.heap.size + 1) (o := 2) (v := .float .f64 gb) (by first | assumption | simp)
 go_wp2_with (first | (go_at_call 118; refine (zf1 _ _).mono ?_; rintro e w' ⟨rfl, rfl⟩) | (go_at_call 130; refine (zy1 _ _ ?_ ?_ _).mono ?_; assumption; assumption; rintro e w' ⟨rfl, rfl⟩))
 go_ret
 exact ⟨rfl, ((((Ext.refl w).alloc _ _).alloc _ _).trans x1).trans x2⟩
theorem zb14 (dt ia : Int) (fa ga : Nat) (ib : Int) (fb gb : Nat) (hia : I64 ia) (hfa : B64 fa) (hga : B64 ga) (hib : I64 ib) (hfb : B64 fb) (hgb : B64 gb) (va : validB dt ia fa ga = true) (vb : validB dt ib fb gb = true) (hd : 8 < dt) (w : World) :
  Calls Tryz.prog 98 #[O ι dt, γ #[O ι ia, .float .f64 fa, .float .f64 ga], γ #[O ι ib, .float .f64 fb, .float .f64 gb]] w fun e w' => e = .returned (.bool (cbef fa ga fb gb)) ∧ Ext w w' := by
 have hdt := zs3 _ _ _ _ va
 have hk : kindL dt = 3 := by unfold kindL; omega
 clear hd
 clear hdt
 go_enter Tryz.func98, Tryz.ntmps98
 go_wp2_with fail
 refine (zd1 _ _ _ _ ?_ ?_ ?_ _).mono ?_
 iterate 3 assumption
 rintro e w1 ⟨rfl, x1⟩
 have k1a0 := x1.box (b := w.heap.size) (o := 0) (v := O ι ia) (by first | assumption | simp)
 have k1a1 := x1.box (b := w.heap.size) (o := 1) (v := .float .f64 fa) (by first | assumption | simp)
 have k1a2 := x1.box (b := w.heap.size) (o := 2) (v := .float .f64 ga) (by first | assumption | simp)
 have k1b0 := x1.box (b := w.heap.size + 1) (o := 0) (v := O ι ib) (by first | assumption | simp)
 have k1b1 := x1.box (b := w.heap.size + 1) (o := 1) (v := .float .f64 fb) (by first | assumption | simp)
 have k1b2 := x1.box (b := w.heap.size + 1) (o := 2) (v := .float .f64 gb) (by first | assumption | simp)
 go_wp2_with fail
 refine (zd1 _ _ _ _ ?_ ?_ ?_ _).mono ?_
 iterate 3 assumption
 rintro e w2 ⟨rfl, x2⟩
 have k2a0 := x2.box (b := w.heap.size) (o := 0) (v := O ι ia) (by first | assumption | simp)
 have k2a1 := x2.box (b := w.heap.size) (o := 1) (v := .float .f64 fa) (by first | assumption | simp)
 have k2a2 := x2.box (b := w.heap.size) (o := 2) (v := .float .f64 ga) (by first | assumption | simp)
 have k2b0 := x2.box (b := w.heap.size + 1) (o := 0) (v := O ι ib) (by first | assumption | simp)
 have k2b1 := x2.box (b := w.heap.size + 1) (o := 1) (v := .float .f64 fb) (by first | assumption | simp)
 have k2b2 := x2.box (b := w.heap.size + 1) (o := 2) (v := .float .f64 gb) (by first | assumption | simp)
 go_wp2_with (first | (go_at_call 118; refine (zf1 _ _).mono ?_; rintro e w' ⟨rfl, rfl⟩) | (go_at_call 130; refine (zy1 _ _ ?_ ?_ _).mono ?_; assumption; assumption; rintro e w' ⟨rfl, rfl⟩))
 go_region_with (first | (go_at_call 132; refine (ze10 _ _ _ _).mono ?_; rintro e w3 ⟨rfl, x3⟩;  have k3a0 := x3.box (b := w.heap.size) (o := 0) (v := O ι ia) (by first | assumption | simp);  have k3a1 := x3.box (b := w.heap.size) (o := 1) (v := .float .f64 fa) (by first | assumption | simp);  have k3a2 := x3.box (b := w.heap.size) (o := 2) (v := .float .f64 ga) (by first | assumption | simp);  have k3b0 := x3.box (b := w.heap.size + 1) (o := 0) (v := O ι ib) (by first | assumption | simp);  have k3b1 := x3.box (b := w.heap.size + 1) (o := 1) (v := .float .f64 fb) (by first | assumption | simp);  have k3b2 := x3.box (b := w.heap.size + 1) (o := 2) (v := .float .f64 gb) (by first | assumption | simp)) | (go_at_call 131; refine (zo5 _ _ _ _ ?_ ?_ ?_ ?_ _).mono ?_; assumption; assumption; assumption; assumption; rintro e w' ⟨rfl, rfl⟩))
 all_goals go_wp2
 all_goals go_ret
 all_goals exact ⟨rfl, by repeat (first | exact Ext.refl _ | apply Ext.drewN | apply Ext.drew | apply Ext.alloc | refine Ext.trans ?_ (by assumption))⟩
theorem zn6 (dt ia : Int) (fa ga : Nat) (ib : Int) (fb gb : Nat) (hia : I64 ia) (hfa : B64 fa) (hga : B64 ga) (hib : I64 ib) (hfb : B64 fb) (hgb : B64 gb) (w : World) :
  Calls Tryz.prog 96 #[O ι dt, γ #[O ι ia, .float .f64 fa, .float .f64 ga], γ #[O ι ib, .float .f64 fb, .float .f64 gb]] w fun e w' => e = .returned (.bool (befB dt ia fa ga ib fb gb)) ∧ Ext w w' := by
 unfold befB
 cases va : validB dt ia fa ga
 ·rw [Bool.false_and]; exact zk8 dt ia fa ga ib fb gb hia hfa hga hib hfb hgb (by rw [va]; rfl) w
 cases vb : validB dt ib fb gb
 ·rw [Bool.false_and, Bool.and_false]; exact zk8 dt ia fa ga ib fb gb hia hfa hga hib hfb hgb (by rw [va, vb]; rfl) w
 rw [Bool.true_and, Bool.true_and]
 by_cases h6 : dt ≤ 6
 ·rw [if_pos h6]; exact za13 dt ia fa ga ib fb gb hia hfa hga hib hfb hgb va vb h6 w
 rw [if_neg h6]
 by_cases h8 : dt ≤ 8
 ·rw [if_pos h8]; exact zb13 dt ia fa ga ib fb gb hia hfa hga hib hfb hgb va vb (by omega) w
 rw [if_neg h8]; exact zc13 dt ia fa ga ib fb gb hia hfa hga hib hfb hgb va vb (by omega) w
theorem zl7 (dt ia : Int) (fa ga : Nat) (ib : Int) (fb gb : Nat) (hia : I64 ia) (hfa : B64 fa) (hga : B64 ga) (hib : I64 ib) (hfb : B64 fb) (hgb : B64 gb) (w : World) :
  Calls Tryz.prog 98 #[O ι dt, γ #[O ι ia, .float .f64 fa, .float .f64 ga], γ #[O ι ib, .float .f64 fb, .float .f64 gb]] w fun e w' => e = .returned (.bool (befB dt ia fa ga ib fb gb)) ∧ Ext w w' := by
 unfold befB
 cases va : validB dt ia fa ga
 ·rw [Bool.false_and]; exact zv8 dt ia fa ga ib fb gb hia hfa hga hib hfb hgb (by rw [va]; rfl) w
 cases vb : validB dt ib fb gb
 ·rw [Bool.false_and, Bool.and_false]; exact zv8 dt ia fa ga ib fb gb hia hfa hga hib hfb hgb (by rw [va, vb]; rfl) w
 rw [Bool.true_and, Bool.true_and]
 by_cases h6 : dt ≤ 6
 ·rw [if_pos h6]; exact zz13 dt ia fa ga ib fb gb hia hfa hga hib hfb hgb va vb h6 w
 rw [if_neg h6]
 by_cases h8 : dt ≤ 8
 ·rw [if_pos h8]; exact za14 dt ia fa ga ib fb gb hia hfa hga hib hfb hgb va vb (by omega) w
 rw [if_neg h8]; exact zb14 dt ia fa ga ib fb gb hia hfa hga hib hfb hgb va vb (by omega) w
end
section
structure Prm (a b : Nat) (r : Nat → Nat) : Prop where
 inn : ∀ i, a ≤ i → i < b → a ≤ r i ∧ r i < b
 out : ∀ i, (i < a ∨ b ≤ i) → r i = i
 inj : ∀ i j, r i = r j → i = j
 sur : ∀ j, ∃ i, r i = j
theorem Prm.refl (a b : Nat) : Prm a b (fun i => i) := ⟨fun _ h1 h2 => ⟨h1, h2⟩, fun _ _ => rfl, fun _ _ h => h, fun j => ⟨j, rfl⟩⟩
theorem Prm.comp {a b : Nat} {r s : Nat → Nat} (h : Prm a b r) (k : Prm a b s) : Prm a b (fun i => r (s i)) :=
 ⟨fun i h1 h2 => h.inn _ (k.inn i h1 h2).1 (k.inn i h1 h2).2, fun i hi => by show r (s i) = i; rw [k.out i hi, h.out i hi], fun i j e => k.inj i j (h.inj _ _ e), fun j => by
  obtain ⟨x, hx⟩ := h.sur j
  obtain ⟨y, hy⟩ := k.sur x
  exact ⟨y, by show r (s y) = j; rw [hy, hx]⟩⟩
theorem Prm.wide {a b a' b' : Nat} {r : Nat → Nat} (h : Prm a b r) (ha : a' ≤ a) (hb : b ≤ b') : Prm a' b' r := by
 refine ⟨fun i h1 h2 => ?_, fun i hi => h.out i (by omega), h.inj, h.sur⟩
 by_cases q : a ≤ i ∧ i < b
 ·have := h.inn i q.1 q.2; omega
 ·rw [h.out i (by omega)]; exact ⟨h1, h2⟩
def swR (a b n i : Nat) : Nat := if a ≤ i ∧ i < a + n then i - a + b else if b ≤ i ∧ i < b + n then i - b + a else i
def sw1 (p q i : Nat) : Nat := if i = p then q else if i = q then p else i
def rot (a m b i : Nat) : Nat := if a ≤ i ∧ i < b then (if i < a + (b - m) then i - a + m else i - (b - m)) else i
theorem zp6 {a m b : Nat} (h1 : a ≤ m) (h2 : m ≤ b) : Prm a b (rot a m b) := by
 refine ⟨fun i k1 k2 => ?_, fun i hi => ?_, fun i j e => ?_, fun j => ⟨rot a (a + (b - m)) b j, ?_⟩⟩
 ·unfold rot; rw [if_pos ⟨k1, k2⟩]; split <;> omega
 ·unfold rot; rw [if_neg (by omega)]
 ·unfold rot at e
  by_cases p1 : a ≤ i ∧ i < b <;> by_cases q1 : a ≤ j ∧ j < b <;> by_cases p2 : i < a + (b - m) <;> by_cases q2 : j < a + (b - m) <;> simp only [p1, p2, q1, q2, if_true, if_false, and_self, ite_true, ite_false] at e <;> omega
 ·unfold rot
  by_cases q1 : a ≤ j ∧ j < b
  ·rw [if_pos q1]
   by_cases q2 : j < a + (b - (a + (b - m)))
   ·rw [if_pos q2, if_pos (by omega), if_neg (by omega)]; omega
   ·rw [if_neg q2, if_pos (by omega), if_pos (by omega)]; omega
  ·rw [if_neg q1, if_neg q1]
theorem zk4 (s t i : Nat) : rot s s t i = i := by
 unfold rot
 by_cases q : s ≤ i ∧ i < t
 ·rw [if_pos q, if_pos (by omega)]; omega
 ·rw [if_neg q]
theorem zl9 (s t i : Nat) (h : s ≤ t) : rot s t t i = i := by
 unfold rot
 by_cases q : s ≤ i ∧ i < t
 ·rw [if_pos q, if_neg (by omega)]; omega
 ·rw [if_neg q]
theorem zg2 {s m t i : Nat} (h : i < s) : rot s m t i = i := by unfold rot; rw [if_neg (by omega)]
theorem zk2 {s m t i : Nat} (h : t ≤ i) : rot s m t i = i := by unfold rot; rw [if_neg (by omega)]
theorem zb3 {s m t i : Nat} (h1 : s ≤ i) (h2 : i < s + (t - m)) (h3 : i < t) : rot s m t i = i - s + m := by unfold rot; rw [if_pos ⟨h1, h3⟩, if_pos h2]
theorem zj3 {s m t i : Nat} (h1 : s + (t - m) ≤ i) (h3 : i < t) : rot s m t i = i - (t - m) := by unfold rot; rw [if_pos ⟨by omega, h3⟩, if_neg (by omega)]
theorem zl18 {m i j p : Nat} (h : j ≤ i) (hi : i ≤ m) : swR (m - i) m j (rot (m - (i - j)) m (m + j) p) = rot (m - i) m (m + j) p := by
 by_cases q1 : m - i ≤ p ∧ p < m + j
 ·by_cases q2 : p < m - i + j
  ·rw [zg2 (by omega), zb3 (by omega) (by omega) (by omega)]
   unfold swR
   rw [if_pos (by omega)]
  ·by_cases q3 : p < m - (i - j) + j
   ·rw [zb3 (by omega) (by omega) (by omega), zj3 (by omega) (by omega)]
    unfold swR
    rw [if_neg (by omega), if_pos (by omega)]; omega
   ·rw [zj3 (by omega) (by omega), zj3 (by omega) (by omega)]
    unfold swR
    rw [if_neg (by omega), if_neg (by omega)]
 ·rcases (by omega : p < m - i ∨ m + j ≤ p) with q | q
  ·rw [zg2 (by omega), zg2 (by omega)]
   unfold swR
   rw [if_neg (by omega), if_neg (by omega)]
  ·rw [zk2 (by omega), zk2 (by omega)]
   unfold swR
   rw [if_neg (by omega), if_neg (by omega)]
theorem zk18 {m i j p : Nat} (h : i ≤ j) (hi : i ≤ m) : swR (m - i) (m + j - i) i (rot (m - i) m (m + (j - i)) p) = rot (m - i) m (m + j) p := by
 by_cases q1 : m - i ≤ p ∧ p < m + j
 ·by_cases q2 : p < m - i + (j - i)
  ·rw [zb3 (by omega) (by omega) (by omega), zb3 (by omega) (by omega) (by omega)]
   unfold swR
   rw [if_neg (by omega), if_neg (by omega)]
  ·by_cases q3 : p < m + (j - i)
   ·rw [zj3 (by omega) (by omega), zb3 (by omega) (by omega) (by omega)]
    unfold swR
    rw [if_pos (by omega)]; omega
   ·rw [zk2 (by omega), zj3 (by omega) (by omega)]
    unfold swR
    rw [if_neg (by omega), if_pos (by omega)]; omega
 ·rcases (by omega : p < m - i ∨ m + j ≤ p) with q | q
  ·rw [zg2 (by omega), zg2 (by omega)]
   unfold swR
   rw [if_neg (by omega), if_neg (by omega)]
  ·rw [zk2 (by omega), zk2 (by omega)]
   unfold swR
   rw [if_neg (by omega), if_neg (by omega)]
theorem zc21 {m i p : Nat} (hi : i ≤ m) : swR (m - i) m i p = rot (m - i) m (m + i) p := by
 have := zl18 (m := m) (i := i) (j := i) (p := p) (Nat.le_refl _) hi
 rw [Nat.sub_self, Nat.sub_zero, zk4] at this
 exact this
theorem za26 {a k p : Nat} (h : a ≤ k) : rot a (a + 1) (k + 1) (sw1 k (k + 1) p) = rot a (a + 1) (k + 2) p := by
 unfold sw1
 by_cases q1 : p = k
 ·rw [if_pos q1, zk2 (by omega), zb3 (by omega) (by omega) (by omega)]; omega
 ·rw [if_neg q1]
  by_cases q2 : p = k + 1
  ·rw [if_pos q2, zj3 (by omega) (by omega), zj3 (by omega) (by omega)]; omega
  ·rw [if_neg q2]
   rcases (by omega : p < a ∨ (a ≤ p ∧ p < k) ∨ k + 2 ≤ p) with q | q | q
   ·rw [zg2 q, zg2 q]
   ·rw [zb3 (by omega) (by omega) (by omega), zb3 (by omega) (by omega) (by omega)]
   ·rw [zk2 (by omega), zk2 (by omega)]
theorem zg15 {m k p : Nat} (h : k ≤ m) (h0 : 0 < k) : rot k m (m + 1) (sw1 k (k - 1) p) = rot (k - 1) m (m + 1) p := by
 unfold sw1
 by_cases q1 : p = k
 ·rw [if_pos q1, zg2 (by omega), zj3 (by omega) (by omega)]; omega
 ·rw [if_neg q1]
  by_cases q2 : p = k - 1
  ·rw [if_pos q2, zb3 (by omega) (by omega) (by omega), zb3 (by omega) (by omega) (by omega)]; omega
  ·rw [if_neg q2]
   rcases (by omega : p < k - 1 ∨ (k < p ∧ p < m + 1) ∨ m + 1 ≤ p) with q | q | q
   ·rw [zg2 (by omega), zg2 (by omega)]
   ·rw [zj3 (by omega) (by omega), zj3 (by omega) (by omega)]
   ·rw [zk2 (by omega), zk2 (by omega)]
section
variable {α : Type}
structure Wk (S : α → Prop) (lt : α → α → Bool) : Prop where
 asym : ∀ x y, S x → S y → lt x y = true → lt y x = false
 neg : ∀ x y z, S x → S y → S z → lt x y = false → lt y z = false → lt x z = false
def lts (lt : α → α → Bool) (x y : α × Nat) : Prop := lt x.1 y.1 = true ∨ (lt y.1 x.1 = false ∧ x.2 < y.2)
variable {S : α → Prop} {lt : α → α → Bool}
theorem Wk.le (h : Wk S lt) {x y : α × Nat} (hx : S x.1) (hy : S y.1) (k : lts lt x y) : lt y.1 x.1 = false := k.elim (fun q => h.asym _ _ hx hy q) (fun q => q.1)
theorem Wk.trans (h : Wk S lt) {x y z : α × Nat} (hx : S x.1) (hy : S y.1) (hz : S z.1) (k : lts lt x y) (l : lts lt y z) : lts lt x z := by
 have h1 := h.le hx hy k
 have h2 := h.le hy hz l
 have h3 : lt z.1 x.1 = false := h.neg _ _ _ hz hy hx h2 h1
 cases e : lt x.1 z.1 with
 | true => exact Or.inl e
 | false =>
  refine Or.inr ⟨h3, ?_⟩
  rcases k with k | k
  ·have := h.neg _ _ _ hx hz hy e h2
   rw [k] at this; cases this
  ·rcases l with l | l
   ·have := h.neg _ _ _ hy hx hz h1 e
    rw [l] at this; cases this
   ·exact Nat.lt_trans k.2 l.2
theorem Wk.asymm (h : Wk S lt) {x y : α × Nat} (hx : S x.1) (hy : S y.1) (k : lts lt x y) : ¬ lts lt y x := fun l => by
 have h1 := h.le hx hy k
 have h2 := h.le hy hx l
 rcases k with k | k
 ·rw [k] at h2; cases h2
 ·rcases l with l | l
  ·rw [l] at h1; cases h1
  ·omega
def Srt (lt : α → α → Bool) (a b : Nat) (e : Nat → α × Nat) : Prop := ∀ i j, a ≤ i → i < j → j < b → lts lt (e i) (e j)
theorem Srt.shift {a b c d : Nat} {e f : Nat → α × Nat} (h : Srt lt a b e) (s : Nat → Nat) (hs : ∀ i, c ≤ i → i < d → f i = e (s i)) (h1 : ∀ i, c ≤ i → i < d → a ≤ s i ∧ s i < b) (h2 : ∀ i j, c ≤ i → i < j → j < d → s i < s j) : Srt lt c d f := fun i j k1 k2 k3 => by
 rw [hs i k1 (by omega), hs j (by omega) k3]
 exact h _ _ (h1 i k1 (by omega)).1 (h2 i j k1 k2 k3) (h1 j (by omega) k3).2
theorem Srt.same {a b : Nat} {e f : Nat → α × Nat} (h : Srt lt a b e) (hs : ∀ i, a ≤ i → i < b → f i = e i) : Srt lt a b f := h.shift (fun i => i) hs (fun _ h1 h2 => ⟨h1, h2⟩) (fun _ _ _ h _ => h)
theorem Srt.join {a m b : Nat} {e : Nat → α × Nat} (h : Srt lt a m e) (k : Srt lt m b e) (hc : ∀ i j, a ≤ i → i < m → m ≤ j → j < b → lts lt (e i) (e j)) : Srt lt a b e := fun i j k1 k2 k3 => by
 by_cases q : j < m
 ·exact h i j k1 k2 q
 ·by_cases p : i < m
  ·exact hc i j k1 p (by omega) k3
  ·exact k i j (by omega) k2 k3
structure Mg (S : α → Prop) (lt : α → α → Bool) (a m b : Nat) (e : Nat → α × Nat) : Prop where
 l : Srt lt a m e
 r : Srt lt m b e
 num : ∀ i j, a ≤ i → i < m → m ≤ j → j < b → (e i).2 < (e j).2
 am : a ≤ m
 mb : m ≤ b
 s : ∀ i, a ≤ i → i < b → S (e i).1
def Mgd (lt : α → α → Bool) (a b : Nat) (e : Nat → α × Nat) (r : Nat → Nat) : Prop := Prm a b r ∧ Srt lt a b (fun i => e (r i))
theorem Mg.done_l {a b : Nat} {e : Nat → α × Nat} (h : Mg S lt a b b e) : Mgd lt a b e (fun i => i) := ⟨Prm.refl _ _, h.l⟩
theorem Mg.done_r {a b : Nat} {e : Nat → α × Nat} (h : Mg S lt a a b e) : Mgd lt a b e (fun i => i) := ⟨Prm.refl _ _, h.r⟩
structure Sp (lt : α → α → Bool) (e : Nat → α × Nat) (s0 r0 p s r : Nat) : Prop where
 lo : s0 ≤ s
 sr : s ≤ r
 hi : r ≤ r0
 bl : ∀ c, s0 ≤ c → c < s → lts lt (e c) (e (p - c))
 ab : ∀ c, r ≤ c → c < r0 → lts lt (e (p - c)) (e c)
theorem Sp.start (lt : α → α → Bool) (e : Nat → α × Nat) {s0 r0 p : Nat} (h : s0 ≤ r0) : Sp lt e s0 r0 p s0 r0 := ⟨Nat.le_refl _, h, Nat.le_refl _, fun _ h1 h2 => absurd h2 (by omega), fun _ h1 h2 => absurd h2 (by omega)⟩
theorem Sp.up {e : Nat → α × Nat} {a m b s0 r0 p s r c : Nat} (hw : Wk S lt) (g : Mg S lt a m b e) (h : Sp lt e s0 r0 p s r) (h0 : a ≤ s0) (h1 : r0 ≤ m) (hp : ∀ c, s0 ≤ c → c < r0 → m ≤ p - c ∧ p - c < b ∧ c ≤ p) (hc : s ≤ c) (hc2 : c < r) (k : lts lt (e c) (e (p - c))) : Sp lt e s0 r0 p (c + 1) r := by
 have l1 := h.lo; have l2 := h.sr; have l3 := h.hi
 refine ⟨by omega, by omega, h.hi, fun c' q1 q2 => ?_, h.ab⟩
 by_cases q : c' = c
 ·subst q; exact k
 ·have p1 := hp c (by omega) (by omega)
  have p2 := hp c' q1 (by omega)
  have k1 : lts lt (e c') (e c) := g.l c' c (by omega) (by omega) (by omega)
  have k2 : lts lt (e (p - c)) (e (p - c')) := g.r (p - c) (p - c') (by omega) (by omega) (by omega)
  have s1 := g.s c' (by omega) (by omega); have s2 := g.s c (by omega) (by omega); have s3 := g.s (p - c) (by omega) (by omega); have s4 := g.s (p - c') (by omega) (by omega)
  exact hw.trans s1 s2 s4 k1 (hw.trans s2 s3 s4 k k2)
theorem Sp.dn {e : Nat → α × Nat} {a m b s0 r0 p s r c : Nat} (hw : Wk S lt) (g : Mg S lt a m b e) (h : Sp lt e s0 r0 p s r) (h0 : a ≤ s0) (h1 : r0 ≤ m) (hp : ∀ c, s0 ≤ c → c < r0 → m ≤ p - c ∧ p - c < b ∧ c ≤ p) (hc : s ≤ c) (hc2 : c < r) (k : lts lt (e (p - c)) (e c)) : Sp lt e s0 r0 p s c := by
 have l1 := h.lo; have l2 := h.sr; have l3 := h.hi
 refine ⟨h.lo, hc, by omega, h.bl, fun c' q1 q2 => ?_⟩
 by_cases q : c' = c
 ·subst q; exact k
 ·have p1 := hp c (by omega) (by omega)
  have p2 := hp c' (by omega) (by omega)
  have k1 : lts lt (e c) (e c') := g.l c c' (by omega) (by omega) (by omega)
  have k2 : lts lt (e (p - c')) (e (p - c)) := g.r (p - c') (p - c) (by omega) (by omega) (by omega)
  have s1 := g.s c' (by omega) (by omega); have s2 := g.s c (by omega) (by omega); have s3 := g.s (p - c) (by omega) (by omega); have s4 := g.s (p - c') (by omega) (by omega)
  exact hw.trans s4 s3 s1 k2 (hw.trans s3 s2 s1 k k1)
structure Pt (lt : α → α → Bool) (a m b s t mid : Nat) (e : Nat → α × Nat) : Prop where
 aS : a ≤ s
 sm : s ≤ m
 mt : m ≤ t
 tb : t ≤ b
 md : s + (t - m) = mid
 xy : ∀ i j, a ≤ i → i < s → t ≤ j → j < b → lts lt (e i) (e j)
 yx : ∀ i j, m ≤ i → i < t → s ≤ j → j < m → lts lt (e i) (e j)
theorem Sp.part {e : Nat → α × Nat} {a m b s0 r0 s mid : Nat} (hw : Wk S lt) (g : Mg S lt a m b e) (h : Sp lt e s0 r0 (mid + m - 1) s s) (hm : a ≤ mid ∧ mid ≤ b ∧ 1 ≤ m)
  (hc : (mid < m ∧ s0 = mid + m - b ∧ r0 = mid ∧ b ≤ mid + m ∧ a + b ≤ mid + m + a ∧ a ≤ mid + m - b) ∨ (m ≤ mid ∧ s0 = a ∧ r0 = m ∧ mid + m ≤ a + b)) : Pt lt a m b s (mid + m - s) mid e := by
 have l1 := h.lo; have l3 := h.hi
 have am := g.am; have mb := g.mb
 refine ⟨by omega, by omega, by omega, by omega, by omega, fun i j q1 q2 q3 q4 => ?_, fun i j q1 q2 q3 q4 => ?_⟩
 ·have k := h.bl (s - 1) (by omega) (by omega)
  rw [show mid + m - 1 - (s - 1) = mid + m - s by omega] at k
  have s1 := g.s i (by omega) (by omega); have s2 := g.s (s - 1) (by omega) (by omega); have s3 := g.s (mid + m - s) (by omega) (by omega); have s4 := g.s j (by omega) (by omega)
  have k1 : i = s - 1 ∨ lts lt (e i) (e (s - 1)) := by
   by_cases q : i = s - 1
   ·exact Or.inl q
   ·exact Or.inr (g.l _ _ (by omega) (by omega) (by omega))
  have k2 : j = mid + m - s ∨ lts lt (e (mid + m - s)) (e j) := by
   by_cases q : j = mid + m - s
   ·exact Or.inl q
   ·exact Or.inr (g.r _ _ (by omega) (by omega) (by omega))
  rcases k1 with rfl | k1 <;> rcases k2 with rfl | k2
  ·exact k
  ·exact hw.trans s2 s3 s4 k k2
  ·exact hw.trans s1 s2 s3 k1 k
  ·exact hw.trans s1 s2 s4 k1 (hw.trans s2 s3 s4 k k2)
 ·have k := h.ab s (Nat.le_refl _) (by omega)
  rw [show mid + m - 1 - s = mid + m - s - 1 by omega] at k
  have s1 := g.s i (by omega) (by omega); have s2 := g.s (mid + m - s - 1) (by omega) (by omega); have s3 := g.s s (by omega) (by omega); have s4 := g.s j (by omega) (by omega)
  have k1 : i = mid + m - s - 1 ∨ lts lt (e i) (e (mid + m - s - 1)) := by
   by_cases q : i = mid + m - s - 1
   ·exact Or.inl q
   ·exact Or.inr (g.r _ _ (by omega) (by omega) (by omega))
  have k2 : j = s ∨ lts lt (e s) (e j) := by
   by_cases q : j = s
   ·exact Or.inl q
   ·exact Or.inr (g.l _ _ (by omega) (by omega) (by omega))
  rcases k1 with rfl | k1 <;> rcases k2 with rfl | k2
  ·exact k
  ·exact hw.trans s2 s3 s4 k k2
  ·exact hw.trans s1 s2 s3 k1 k
  ·exact hw.trans s1 s2 s4 k1 (hw.trans s2 s3 s4 k k2)
theorem Pt.left {e : Nat → α × Nat} {a m b s t mid : Nat} (g : Mg S lt a m b e) (h : Pt lt a m b s t mid e) : Mg S lt a s mid (fun i => e (rot s m t i)) := by
 have h1 := h.aS; have h2 := h.sm; have h3 := h.mt; have h4 := h.tb; have h5 := h.md
 have hx : ∀ i, a ≤ i → i < s → rot s m t i = i := fun i _ q => zg2 q
 have hy : ∀ i, s ≤ i → i < mid → rot s m t i = i - s + m := fun i q1 q2 => zb3 q1 (by omega) (by omega)
 refine ⟨g.l.shift (fun i => i) (fun i q1 q2 => by rw [hx i q1 q2]) (fun i q1 q2 => ⟨q1, by omega⟩) (fun _ _ _ q _ => q), g.r.shift (fun i => i - s + m) (fun i q1 q2 => by rw [hy i q1 q2]) (fun i q1 q2 => ⟨by omega, by omega⟩) (fun i j q1 q2 q3 => by omega), fun i j q1 q2 q3 q4 => ?_, h1, by omega, fun i q1 q2 => ?_⟩
 ·rw [hx i q1 q2, hy j q3 q4]
  exact g.num _ _ q1 (by omega) (by omega) (by omega)
 ·by_cases q : i < s
  ·rw [hx i q1 q]; exact g.s i q1 (by omega)
  ·rw [hy i (by omega) q2]; exact g.s _ (by omega) (by omega)
theorem Pt.right {e : Nat → α × Nat} {a m b s t mid : Nat} (g : Mg S lt a m b e) (h : Pt lt a m b s t mid e) : Mg S lt mid t b (fun i => e (rot s m t i)) := by
 have h1 := h.aS; have h2 := h.sm; have h3 := h.mt; have h4 := h.tb; have h5 := h.md
 have hx : ∀ i, mid ≤ i → i < t → rot s m t i = i - (t - m) := fun i q1 q2 => zj3 (by omega) q2
 have hy : ∀ i, t ≤ i → i < b → rot s m t i = i := fun i q1 q2 => zk2 q1
 refine ⟨g.l.shift (fun i => i - (t - m)) (fun i q1 q2 => by rw [hx i q1 q2]) (fun i q1 q2 => ⟨by omega, by omega⟩) (fun i j q1 q2 q3 => by omega), g.r.shift (fun i => i) (fun i q1 q2 => by rw [hy i q1 q2]) (fun i q1 q2 => ⟨by omega, q2⟩) (fun _ _ _ q _ => q), fun i j q1 q2 q3 q4 => ?_, by omega, h4, fun i q1 q2 => ?_⟩
 ·rw [hx i q1 q2, hy j q3 q4]
  exact g.num _ _ (by omega) (by omega) (by omega) (by omega)
 ·by_cases q : i < t
  ·rw [hx i q1 q]; exact g.s _ (by omega) (by omega)
  ·rw [hy i (by omega) q2]; exact g.s i (by omega) (by omega)
theorem Pt.cross {e : Nat → α × Nat} {a m b s t mid : Nat} (g : Mg S lt a m b e) (h : Pt lt a m b s t mid e) {i j : Nat} (h1 : a ≤ i) (h2 : i < mid) (h3 : mid ≤ j) (h4 : j < b) : lts lt (e (rot s m t i)) (e (rot s m t j)) := by
 have k1 := h.aS; have k2 := h.sm; have k3 := h.mt; have k4 := h.tb; have k5 := h.md
 by_cases q1 : i < s <;> by_cases q2 : j < t
 ·rw [zg2 q1, zj3 (by omega) q2]; exact g.l _ _ h1 (by omega) (by omega)
 ·rw [zg2 q1, zk2 (by omega)]; exact h.xy _ _ h1 q1 (by omega) h4
 ·rw [zb3 (by omega) (by omega) (by omega), zj3 (by omega) q2]; exact h.yx _ _ (by omega) (by omega) (by omega) (by omega)
 ·rw [zb3 (by omega) (by omega) (by omega), zk2 (by omega)]; exact g.r _ _ (by omega) (by omega) h4
theorem Pt.join {e : Nat → α × Nat} {a m b s t mid : Nat} (g : Mg S lt a m b e) (h : Pt lt a m b s t mid e) {r2 r3 : Nat → Nat} (k2 : Mgd lt a mid (fun i => e (rot s m t i)) r2) (k3 : Mgd lt mid b (fun i => e (rot s m t (r2 i))) r3) : Mgd lt a b e (fun i => rot s m t (r2 (r3 i))) := by
 have q1 := h.aS; have q2 := h.sm; have q3 := h.mt; have q4 := h.tb; have q5 := h.md
 obtain ⟨p2, s2⟩ := k2
 obtain ⟨p3, s3⟩ := k3
 refine ⟨((zp6 q2 q3).wide q1 q4).comp ((p2.wide (Nat.le_refl _) (by omega)).comp (p3.wide (by omega) (Nat.le_refl _))), Srt.join (m := mid) ?_ s3 fun i j w1 w2 w3 w4 => ?_⟩
 ·exact s2.same fun i w1 w2 => by show e (rot s m t (r2 (r3 i))) = _; rw [p3.out i (Or.inl w2)]
 ·show lts lt (e (rot s m t (r2 (r3 i)))) (e (rot s m t (r2 (r3 j))))
  rw [p3.out i (Or.inl w2)]
  have u := p3.inn j w3 w4
  rw [p2.out (r3 j) (Or.inr u.1)]
  have v := p2.inn i w1 w2
  exact h.cross g v.1 v.2 u.1 u.2
theorem ze27 {e : Nat → α × Nat} {a b i : Nat} (g : Mg S lt a (a + 1) b e) (h1 : a + 1 ≤ i) (h2 : i ≤ b) (k1 : ∀ h, a + 1 ≤ h → h < i → lts lt (e h) (e a)) (k2 : ∀ h, i ≤ h → h < b → lts lt (e a) (e h)) : Mgd lt a b e (rot a (a + 1) i) := by
 refine ⟨(zp6 (by omega) h1).wide (Nat.le_refl _) h2, fun p q w1 w2 w3 => ?_⟩
 show lts lt (e (rot a (a + 1) i p)) (e (rot a (a + 1) i q))
 rcases (by omega : q < i - 1 ∨ q = i - 1 ∨ i ≤ q) with y | y | y
 ·rw [zb3 (by omega) (by omega) (by omega), zb3 (by omega) (by omega) (by omega)]; exact g.r _ _ (by omega) (by omega) (by omega)
 ·rw [zb3 (by omega) (by omega) (by omega), zj3 (by omega) (by omega), show q - (i - (a + 1)) = a by omega]; exact k1 _ (by omega) (by omega)
 ·rw [zk2 y]
  rcases (by omega : p < i - 1 ∨ p = i - 1 ∨ i ≤ p) with x | x | x
  ·rw [zb3 (by omega) (by omega) (by omega)]; exact g.r _ _ (by omega) (by omega) (by omega)
  ·rw [zj3 (by omega) (by omega), show p - (i - (a + 1)) = a by omega]; exact k2 _ y w3
  ·rw [zk2 x]; exact g.r _ _ (by omega) w2 w3
theorem zt23 {e : Nat → α × Nat} {a m i : Nat} (g : Mg S lt a m (m + 1) e) (h1 : a ≤ i) (h2 : i ≤ m) (k1 : ∀ h, a ≤ h → h < i → lts lt (e h) (e m)) (k2 : ∀ h, i ≤ h → h < m → lts lt (e m) (e h)) : Mgd lt a (m + 1) e (rot i m (m + 1)) := by
 refine ⟨(zp6 h2 (by omega)).wide h1 (Nat.le_refl _), fun p q w1 w2 w3 => ?_⟩
 show lts lt (e (rot i m (m + 1) p)) (e (rot i m (m + 1) q))
 rcases (by omega : p < i ∨ p = i ∨ i < p) with x | x | x
 ·rw [zg2 x]
  rcases (by omega : q < i ∨ q = i ∨ i < q) with y | y | y
  ·rw [zg2 y]; exact g.l _ _ w1 w2 (by omega)
  ·rw [zb3 (by omega) (by omega) (by omega), show q - i + m = m by omega]; exact k1 _ w1 x
  ·rw [zj3 (by omega) w3]; exact g.l _ _ w1 (by omega) (by omega)
 ·rw [zb3 (by omega) (by omega) (by omega), zj3 (by omega) w3, show p - i + m = m by omega]; exact k2 _ (by omega) (by omega)
 ·rw [zj3 (by omega) (by omega), zj3 (by omega) w3]; exact g.l _ _ (by omega) (by omega) (by omega)
end
end
section
open Go.RowKit
section
variable {P : Program} {ops : Array Oper} {Q : Exit → Act → World → Prop} {md : Region.Mode} {S T : World → Prop} {late : List Nat}
theorem zf {i d : Nat} {oi : Oper} {v : Value} (hi : ops[i]? = some oi) (hd : oi.dst = some d) (hs : Region.noSelect ops = true) (hil : late.contains i = false)
  (hQ : ∀ c a w, Q (.panic c) (a.put oi.dst v) w → Q (.panic c) a w) (f : Nat) {l : Array Bool} {a : Act} {w : World}
  (hf : Region.free md ops l i = true) (hr : (Region.ready md ops l).contains i = true) (hy : YieldsIf P ops T oi v a) (hT : T w) (hS : early late l = true → S w)
  (h : wpAnyV P md ops Q S T late f (l.setIfInBounds i true) (a.put (some d) v) w) : wpAnyV P md ops Q S T late (f + 1) l a w :=
 zr12 hi hs hil hQ f hf hr hy hT hS (by rw [hd]; exact h)
theorem zj1 {i d : Nat} {oi : Oper} {v : Value} (hi : ops[i]? = some oi) (hd : oi.dst = some d) (hs : Region.noSelect ops = true) (hil : late.contains i = false) (hl : (late.all (waitsFor md ops i)) = true)
  (hQ : ∀ c a w, Q (.panic c) (a.put oi.dst v) w → Q (.panic c) a w) (f : Nat) {l : Array Bool} {a : Act} {w : World} (he : early late l = true)
  (hf : Region.free md ops l i = true) (hr : (Region.ready md ops l).contains i = true) (hy : YieldsIf P ops S oi v a) (hT : T w) (hS : S w)
  (h : wpAnyV P md ops Q S T late f (l.setIfInBounds i true) (a.put (some d) v) w) : wpAnyV P md ops Q S T late (f + 1) l a w :=
 zq12 hi hs hil hl hQ f he hf hr hy hT hS (by rw [hd]; exact h)
theorem zl4 {id : Nat} {a : Act} {w : World} (R : Act → Act → World → Prop) (hm : P.follows .mixedOrders = true) (h2 : ∀ a' w', R a a' w' → Q .normal a' w')
  (h : wpAnyV P .any ops (fun e a' w' => e = .normal ∧ R a a' w') S T late ops.size (Array.replicate ops.size false) a w.drew) : (Code.region id ops true).wp P Q a w :=
 Code.wp_mono (fun e a' w' h => by obtain ⟨rfl, h⟩ := h; exact h2 _ _ h) (wp_region_any hm (zc8 _ _ _ _ h))
end
end
section
open Go.ChangeShapes Go.RowKit FL
def CF (W : World) (b off n : Nat) (f : Nat → C3) : Prop := ∀ j, j < n → W.cell? ⟨b, off + j * 3, none⟩ = some (O ι (f j).1) ∧ W.cell? ⟨b, off + j * 3 + 1, none⟩ = some (.float .f64 (f j).2.1) ∧ W.cell? ⟨b, off + j * 3 + 2, none⟩ = some (.float .f64 (f j).2.2)
theorem CF.congr {W : World} {b off n : Nat} {f g : Nat → C3} (h : CF W b off n f) (e : ∀ j, j < n → g j = f j) : CF W b off n g := fun j hj => by rw [e j hj]; exact h j hj
theorem CF.ext {W W' : World} {b off n : Nat} {f : Nat → C3} (h : CF W b off n f) (x : Ext W W') : CF W' b off n f := fun j hj => ⟨x.box (h j hj).1, x.box (h j hj).2.1, x.box (h j hj).2.2⟩
structure MRg (b off n : Nat) (w w' : World) : Prop where
 m : Mut b w w'
 c : ∀ o x, (o < off ∨ off + n * 3 ≤ o) → w.cell? ⟨b, o, none⟩ = some x → w'.cell? ⟨b, o, none⟩ = some x
theorem MRg.refl (b off n : Nat) (w : World) : MRg b off n w w := ⟨Mut.refl _ _, fun _ _ _ h => h⟩
theorem MRg.tr {b off n : Nat} {u v w : World} (h : MRg b off n u v) (k : MRg b off n v w) : MRg b off n u w := ⟨h.m.trans k.m, fun o x ho hx => k.c o x ho (h.c o x ho hx)⟩
theorem MRg.ext {b off n : Nat} {u v w : World} (h : MRg b off n u v) (x : Ext v w) : MRg b off n u w := h.tr ⟨x.mut b, fun o y _ hy => x.box hy⟩
theorem MRg.set {b off n : Nat} {u v : World} (h : MRg b off n u v) {o : Nat} (h1 : off ≤ o) (h2 : o < off + n * 3) (x : Value) : MRg b off n u (v.setCell ⟨b, o, none⟩ x) :=
 ⟨h.m.setCell o x, fun q y hq hy => ze1 (by omega) (h.c q y hq hy)⟩
def st3 (W : World) (b o : Nat) (c : C3) : World := ((W.setCell ⟨b, o, none⟩ (O ι c.1)).setCell ⟨b, o + 1, none⟩ (.float .f64 c.2.1)).setCell ⟨b, o + 2, none⟩ (.float .f64 c.2.2)
theorem MRg.st3 {b off n : Nat} {u v : World} (h : MRg b off n u v) {j : Nat} (hj : j < n) (c : C3) : MRg b off n u (st3 v b (off + j * 3) c) :=
 ((h.set (by omega) (by omega) _).set (by omega) (by omega) _).set (by omega) (by omega) _
theorem zt1 {W : World} {b o q : Nat} {c : C3} {x : Value} (h : q < o ∨ o + 3 ≤ q) (hx : W.cell? ⟨b, q, none⟩ = some x) : (st3 W b o c).cell? ⟨b, q, none⟩ = some x :=
 ze1 (by omega) (ze1 (by omega) (ze1 (by omega) hx))
theorem CF.st3 {W : World} {b off n i : Nat} {f : Nat → C3} (h : CF W b off n f) (hi : i < n) (c : C3) : CF (st3 W b (off + i * 3) c) b off n (fun p => if p = i then c else f p) := fun j hj => by
 by_cases e : j = i
 ·subst e
  simp only [if_true, ite_true]
  have h0 := h j hj
  exact ⟨ze1 (by omega) (ze1 (by omega) (World.cell?_setCell_same _ _ _ h0.1)), ze1 (by omega) (World.cell?_setCell_same _ _ _ (ze1 (by omega) h0.2.1)), World.cell?_setCell_same _ _ _ (ze1 (by omega) (ze1 (by omega) h0.2.2))⟩
 ·simp only [e, if_false, ite_false]
  have h0 := h j hj
  exact ⟨zt1 (by omega) h0.1, zt1 (by omega) h0.2.1, zt1 (by omega) h0.2.2⟩
theorem CF.swap {W : World} {b off n i j : Nat} {f : Nat → C3} (h : CF W b off n f) (hi : i < n) (hj : j < n) : CF (Proofs.YtfhcpicddegblaaGreat.st3 (Proofs.YtfhcpicddegblaaGreat.st3 W b (off + i * 3) (f j)) b (off + j * 3) (f i)) b off n (fun p => f (sw1 i j p)) :=
 ((h.st3 hi (f j)).st3 hj (f i)).congr fun p hp => by
  show f (sw1 i j p) = if p = j then f i else if p = i then f j else f p
  unfold sw1
  by_cases e2 : p = i
  ·rw [if_pos e2, if_pos e2]
   by_cases e1 : p = j
   ·rw [if_pos e1, ← e1, e2]
   ·rw [if_neg e1]
  ·rw [if_neg e2, if_neg e2]
   by_cases e1 : p = j
   ·rw [if_pos e1, if_pos e1]
   ·rw [if_neg e1, if_neg e1]
theorem zi3 {w : World} {b off n cap x y k : Nat} {f : Nat → C3} {cv : Value} (h : CF w b off n f) (hf : ∀ o, w.frozen? ⟨b, o, none⟩ = false) (hxy : x + k ≤ y) (hy : y + k ≤ n) (hn : n ≤ 1048576) :
  Calls Tryz.prog 158 #[σ (some ⟨b, off, none⟩) n cap, O ι x, O ι y, O ι k, cv] w fun e w' => e = .returned (.tuple #[]) ∧ CF w' b off n (fun p => f (swR x y k p)) ∧ MRg b off n w w' := by
 have HC := hide h
 have HF : Hid (∀ W', MRg b off n w W' → ∀ o, W'.frozen? ⟨b, o, none⟩ = false) := fun W' x o => (x.m.fz _).trans (hf o)
 clear h hf
 go_enter Tryz.func158, Tryz.ntmps158
 go_wp2
 go_loopw [10] (fun i wr => ∃ j : Nat, i = O ι j ∧ j ≤ k ∧ CF wr b off n (fun p => f (swR x y j p)) ∧ MRg b off n w wr) (fun i _ => k - (intOf i).toNat)
 case atStart => exact ⟨0, rfl, by omega, HC.out.congr fun p _ => by unfold swR; rw [if_neg (by omega), if_neg (by omega)], MRg.refl _ _ _ _⟩
 case round =>
  obtain ⟨j, rfl, hj, hc, hm⟩ := hrel
  have HM := hide hm
  have HC2 := hide hc
  clear hc hm HC
  by_cases hlt : j < k
  ·have hd : decide ((j : Int) < (k : Int)) = true := decide_eq_true (by omega)
   have HE : Hid (∀ p, swR x y j (sw1 (x + j) (y + j) p) = swR x y (j + 1) p) := fun p => by
    unfold swR sw1
    (repeat' split) <;> omega
   obtain ⟨p, Hp⟩ : ∃ p, Hid (x + j = p) := ⟨_, rfl⟩
   obtain ⟨q, Hq⟩ : ∃ q, Hid (y + j = q) := ⟨_, rfl⟩
   have hpn : p < n := by have := Hp.out; omega
   have hqn : q < n := by have := Hq.out; omega
   have hpq : p ≠ q := by have := Hp.out; have := Hq.out; omega
   have ep : (x : Int) + (j : Int) = (p : Int) := by have := Hp.out; omega
   have eq' : (y : Int) + (j : Int) = (q : Int) := by have := Hq.out; omega
   have wp' : IntKind.i64.wrap (p : Int) = (p : Int) := wrap_small _ (by omega) (by omega)
   have wq' : IntKind.i64.wrap (q : Int) = (q : Int) := wrap_small _ (by omega) (by omega)
   have bp0 : (0 : Int) ≤ (p : Int) := Int.natCast_nonneg _
   have bq0 : (0 : Int) ≤ (q : Int) := Int.natCast_nonneg _
   have bp1 : (p : Int) < (n : Int) := by omega
   have bq1 : (q : Int) < (n : Int) := by omega
   rw [Hp.out, Hq.out] at HE
   obtain ⟨g, Hg⟩ : ∃ g, Hid ((fun p => f (swR x y j p)) = g) := ⟨_, rfl⟩
   rw [Hg.out] at HC2
   go_wp2_with fail
   obtain ⟨u0, u1, u2, Hu⟩ : ∃ u0 u1 u2, Hid (g p = (u0, u1, u2)) := ⟨_, _, _, rfl⟩
   obtain ⟨v0, v1, v2, Hv⟩ : ∃ u0 u1 u2, Hid (g q = (u0, u1, u2)) := ⟨_, _, _, rfl⟩
   refine zl4 (fun ac a' w' => a' = ((((((((((((((((((((((ac.put (some 16) (σ (some ⟨b, off, none⟩) n cap)).put (some 17) (O ι x)).put (some 18) (O ι j)).put (some 19) (O ι p)).put (some 20) (σ (some ⟨b, off, none⟩) n cap)).put (some 21) (O ι y)).put (some 22) (O ι j)).put (some 23) (O ι q)).put (some 24) (σ (some ⟨b, off, none⟩) n cap)).put (some 25) (O ι y)).put (some 26) (O ι j)).put (some 27) (O ι q)).put (some 28) (π (some ⟨b, off + q * 3, none⟩))).put (some 30) (σ (some ⟨b, off, none⟩) n cap)).put (some 31) (O ι x)).put (some 32) (O ι j)).put (some 33) (O ι p)).put (some 34) (π (some ⟨b, off + p * 3, none⟩))).put (some 29) (γ #[O ι v0, .float .f64 v1, .float .f64 v2])).put (some 35) (γ #[O ι u0, .float .f64 u1, .float .f64 u2])).put (some 36) (π (some ⟨b, off + p * 3, none⟩))).put (some 37) (π (some ⟨b, off + q * 3, none⟩))) ∧ CF w' b off n (fun z => g (sw1 p q z)) ∧ MRg b off n w w') (S := (fun w' : World => w'.cell? ⟨b, off + p * 3, none⟩ = some (O ι u0) ∧ w'.cell? ⟨b, off + p * 3 + 1, none⟩ = some (.float .f64 u1) ∧ w'.cell? ⟨b, off + p * 3 + 2, none⟩ = some (.float .f64 u2) ∧ w'.cell? ⟨b, off + q * 3, none⟩ = some (O ι v0) ∧ w'.cell? ⟨b, off + q * 3 + 1, none⟩ = some (.float .f64 v1) ∧ w'.cell? ⟨b, off + q * 3 + 2, none⟩ = some (.float .f64 v2))) (T := (fun _ : World => True)) (late := [21, 23]) (by kernel_rfl) ?_ ?_
   rotate_left
   ·have X0 : Ext wr wr.drew := (Ext.refl wr).drew
    replace HC2 := hide (HC2.out.ext X0)
    replace HM := hide (HM.out.ext X0)
    clear X0
    generalize wr.drew = t0 at HC2 HM ⊢
    have fz := HF.out t0 HM.out
    have HSW := hide (HC2.out.swap hpn hqn)
    have HMM := hide ((HM.out.st3 hpn (g q)).st3 hqn (g p))
    obtain ⟨c10, c11, c12⟩ := HC2.out p hpn
    obtain ⟨c20, c21, c22⟩ := HC2.out q hqn
    rw [Hu.out] at c10 c11 c12 HSW HMM
    rw [Hv.out] at c20 c21 c22 HSW HMM
    have k0 := zt1 (c := (v0, v1, v2)) (o := off + p * 3) (by omega) c20
    have k1 := zt1 (c := (v0, v1, v2)) (o := off + p * 3) (by omega) c21
    have k2 := zt1 (c := (v0, v1, v2)) (o := off + p * 3) (by omega) c22
    simp only [st3] at k0 k1 k2 c10 c11 c12 c20 c21 c22 HSW HMM
    have SA : Hid ((fun w' : World => w'.cell? ⟨b, off + p * 3, none⟩ = some (O ι u0) ∧ w'.cell? ⟨b, off + p * 3 + 1, none⟩ = some (.float .f64 u1) ∧ w'.cell? ⟨b, off + p * 3 + 2, none⟩ = some (.float .f64 u2) ∧ w'.cell? ⟨b, off + q * 3, none⟩ = some (O ι v0) ∧ w'.cell? ⟨b, off + q * 3 + 1, none⟩ = some (.float .f64 v1) ∧ w'.cell? ⟨b, off + q * 3 + 2, none⟩ = some (.float .f64 v2)) t0) := ⟨c10, c11, c12, c20, c21, c22⟩
    refine zf (i := 0) (d := 16) (v := σ (some ⟨b, off, none⟩) n cap) rfl (by rfl) (by kernel_rfl) (by kernel_rfl) (fun _ _ _ h => by cases h.1) _ (by kernel_rfl) (by kernel_rfl) (Or.inl ⟨by kernel_rfl, ?_⟩) trivial (fun _ => SA.out) ?_
    ·intro w' h
     go_simp
    simp only [aP, sT, sZ, sS]
    refine zf (i := 1) (d := 17) (v := O ι x) rfl (by rfl) (by kernel_rfl) (by kernel_rfl) (fun _ _ _ h => by cases h.1) _ (by kernel_rfl) (by kernel_rfl) (Or.inl ⟨by kernel_rfl, ?_⟩) trivial (fun _ => SA.out) ?_
    ·intro w' h
     go_simp
    simp only [aP, sT, sZ, sS]
    refine zf (i := 2) (d := 18) (v := O ι j) rfl (by rfl) (by kernel_rfl) (by kernel_rfl) (fun _ _ _ h => by cases h.1) _ (by kernel_rfl) (by kernel_rfl) (Or.inl ⟨by kernel_rfl, ?_⟩) trivial (fun _ => SA.out) ?_
    ·intro w' h
     go_simp
    simp only [aP, sT, sZ, sS]
    refine zf (i := 3) (d := 19) (v := O ι p) rfl (by rfl) (by kernel_rfl) (by kernel_rfl) (fun _ _ _ h => by cases h.1) _ (by kernel_rfl) (by kernel_rfl) (Or.inl ⟨by kernel_rfl, ?_⟩) trivial (fun _ => SA.out) ?_
    ·intro w' h
     go_simp
    simp only [aP, sT, sZ, sS]
    refine zf (i := 4) (d := 20) (v := σ (some ⟨b, off, none⟩) n cap) rfl (by rfl) (by kernel_rfl) (by kernel_rfl) (fun _ _ _ h => by cases h.1) _ (by kernel_rfl) (by kernel_rfl) (Or.inl ⟨by kernel_rfl, ?_⟩) trivial (fun _ => SA.out) ?_
    ·intro w' h
     go_simp
    simp only [aP, sT, sZ, sS]
    refine zf (i := 5) (d := 21) (v := O ι y) rfl (by rfl) (by kernel_rfl) (by kernel_rfl) (fun _ _ _ h => by cases h.1) _ (by kernel_rfl) (by kernel_rfl) (Or.inl ⟨by kernel_rfl, ?_⟩) trivial (fun _ => SA.out) ?_
    ·intro w' h
     go_simp
    simp only [aP, sT, sZ, sS]
    refine zf (i := 6) (d := 22) (v := O ι j) rfl (by rfl) (by kernel_rfl) (by kernel_rfl) (fun _ _ _ h => by cases h.1) _ (by kernel_rfl) (by kernel_rfl) (Or.inl ⟨by kernel_rfl, ?_⟩) trivial (fun _ => SA.out) ?_
    ·intro w' h
     go_simp
    simp only [aP, sT, sZ, sS]
    refine zf (i := 7) (d := 23) (v := O ι q) rfl (by rfl) (by kernel_rfl) (by kernel_rfl) (fun _ _ _ h => by cases h.1) _ (by kernel_rfl) (by kernel_rfl) (Or.inl ⟨by kernel_rfl, ?_⟩) trivial (fun _ => SA.out) ?_
    ·intro w' h
     go_simp
    simp only [aP, sT, sZ, sS]
    refine zf (i := 8) (d := 24) (v := σ (some ⟨b, off, none⟩) n cap) rfl (by rfl) (by kernel_rfl) (by kernel_rfl) (fun _ _ _ h => by cases h.1) _ (by kernel_rfl) (by kernel_rfl) (Or.inl ⟨by kernel_rfl, ?_⟩) trivial (fun _ => SA.out) ?_
    ·intro w' h
     go_simp
    simp only [aP, sT, sZ, sS]
    refine zf (i := 9) (d := 25) (v := O ι y) rfl (by rfl) (by kernel_rfl) (by kernel_rfl) (fun _ _ _ h => by cases h.1) _ (by kernel_rfl) (by kernel_rfl) (Or.inl ⟨by kernel_rfl, ?_⟩) trivial (fun _ => SA.out) ?_
    ·intro w' h
     go_simp
    simp only [aP, sT, sZ, sS]
    refine zf (i := 10) (d := 26) (v := O ι j) rfl (by rfl) (by kernel_rfl) (by kernel_rfl) (fun _ _ _ h => by cases h.1) _ (by kernel_rfl) (by kernel_rfl) (Or.inl ⟨by kernel_rfl, ?_⟩) trivial (fun _ => SA.out) ?_
    ·intro w' h
     go_simp
    simp only [aP, sT, sZ, sS]
    refine zf (i := 11) (d := 27) (v := O ι q) rfl (by rfl) (by kernel_rfl) (by kernel_rfl) (fun _ _ _ h => by cases h.1) _ (by kernel_rfl) (by kernel_rfl) (Or.inl ⟨by kernel_rfl, ?_⟩) trivial (fun _ => SA.out) ?_
    ·intro w' h
     go_simp
    simp only [aP, sT, sZ, sS]
    refine zf (i := 12) (d := 28) (v := π (some ⟨b, off + q * 3, none⟩)) rfl (by rfl) (by kernel_rfl) (by kernel_rfl) (fun _ _ _ h => by cases h.1) _ (by kernel_rfl) (by kernel_rfl) (Or.inl ⟨by kernel_rfl, ?_⟩) trivial (fun _ => SA.out) ?_
    ·intro w' h
     go_simp
    simp only [aP, sT, sZ, sS]
    refine zf (i := 14) (d := 30) (v := σ (some ⟨b, off, none⟩) n cap) rfl (by rfl) (by kernel_rfl) (by kernel_rfl) (fun _ _ _ h => by cases h.1) _ (by kernel_rfl) (by kernel_rfl) (Or.inl ⟨by kernel_rfl, ?_⟩) trivial (fun _ => SA.out) ?_
    ·intro w' h
     go_simp
    simp only [aP, sT, sZ, sS]
    refine zf (i := 15) (d := 31) (v := O ι x) rfl (by rfl) (by kernel_rfl) (by kernel_rfl) (fun _ _ _ h => by cases h.1) _ (by kernel_rfl) (by kernel_rfl) (Or.inl ⟨by kernel_rfl, ?_⟩) trivial (fun _ => SA.out) ?_
    ·intro w' h
     go_simp
    simp only [aP, sT, sZ, sS]
    refine zf (i := 16) (d := 32) (v := O ι j) rfl (by rfl) (by kernel_rfl) (by kernel_rfl) (fun _ _ _ h => by cases h.1) _ (by kernel_rfl) (by kernel_rfl) (Or.inl ⟨by kernel_rfl, ?_⟩) trivial (fun _ => SA.out) ?_
    ·intro w' h
     go_simp
    simp only [aP, sT, sZ, sS]
    refine zf (i := 17) (d := 33) (v := O ι p) rfl (by rfl) (by kernel_rfl) (by kernel_rfl) (fun _ _ _ h => by cases h.1) _ (by kernel_rfl) (by kernel_rfl) (Or.inl ⟨by kernel_rfl, ?_⟩) trivial (fun _ => SA.out) ?_
    ·intro w' h
     go_simp
    simp only [aP, sT, sZ, sS]
    refine zf (i := 18) (d := 34) (v := π (some ⟨b, off + p * 3, none⟩)) rfl (by rfl) (by kernel_rfl) (by kernel_rfl) (fun _ _ _ h => by cases h.1) _ (by kernel_rfl) (by kernel_rfl) (Or.inl ⟨by kernel_rfl, ?_⟩) trivial (fun _ => SA.out) ?_
    ·intro w' h
     go_simp
    simp only [aP, sT, sZ, sS]
    refine zj1 (i := 13) (d := 29) (v := γ #[O ι v0, .float .f64 v1, .float .f64 v2]) rfl (by rfl) (by kernel_rfl) (by kernel_rfl) (by kernel_rfl) (fun _ _ _ h => by cases h.1) _ (by kernel_rfl) (by kernel_rfl) (by kernel_rfl) (Or.inl ⟨by kernel_rfl, ?_⟩) trivial SA.out ?_
    ·rintro w' ⟨z0, z1, z2, z3, z4, z5⟩
     go_simp
    simp only [aP, sT, sZ, sS]
    refine zj1 (i := 19) (d := 35) (v := γ #[O ι u0, .float .f64 u1, .float .f64 u2]) rfl (by rfl) (by kernel_rfl) (by kernel_rfl) (by kernel_rfl) (fun _ _ _ h => by cases h.1) _ (by kernel_rfl) (by kernel_rfl) (by kernel_rfl) (Or.inl ⟨by kernel_rfl, ?_⟩) trivial SA.out ?_
    ·rintro w' ⟨z0, z1, z2, z3, z4, z5⟩
     go_simp
    simp only [aP, sT, sZ, sS]
    refine zf (i := 20) (d := 36) (v := π (some ⟨b, off + p * 3, none⟩)) rfl (by rfl) (by kernel_rfl) (by kernel_rfl) (fun _ _ _ h => by cases h.1) _ (by kernel_rfl) (by kernel_rfl) (Or.inl ⟨by kernel_rfl, ?_⟩) trivial (fun _ => SA.out) ?_
    ·intro w' h
     go_simp
    simp only [aP, sT, sZ, sS]
    refine zu1 (i := 21) (by kernel_rfl) rfl (fun K hK => ?_)
    go_simp
    refine hK.out _ _ trivial (fun h => absurd (show true = false from h.symm.trans (by kernel_rfl)) Bool.noConfusion) ?_
    clear hK K
    try simp only [aP, sT, sZ, sS]
    refine zf (i := 22) (d := 37) (v := π (some ⟨b, off + q * 3, none⟩)) rfl (by rfl) (by kernel_rfl) (by kernel_rfl) (fun _ _ _ h => by cases h.1) _ (by kernel_rfl) (by kernel_rfl) (Or.inl ⟨by kernel_rfl, ?_⟩) trivial (fun h => absurd (show true = false from h.symm.trans (by kernel_rfl)) Bool.noConfusion) ?_
    ·intro w' h
     go_simp
    simp only [aP, sT, sZ, sS]
    refine zu1 (i := 23) (by kernel_rfl) rfl (fun K hK => ?_)
    go_simp
    refine hK.out _ _ trivial (fun h => absurd (show true = false from h.symm.trans (by kernel_rfl)) Bool.noConfusion) ?_
    clear hK K
    try simp only [aP, sT, sZ, sS]
    refine zh3 (by kernel_rfl) ?_ _
    exact ⟨rfl, by kernel_rfl, HSW.out, HMM.out⟩
   rintro a' W1 ⟨rfl, hc, hm⟩
   have HC3 := hide hc
   have HM3 := hide hm
   clear hc hm HC2 HM
   simp only [aP, sT, sZ, sS]
   go_wp2
   go_roundw
   ·exact ⟨j + 1, by go_num, by omega, HC3.out.congr fun z _ => by rw [← Hg.out, ← HE.out z], HM3.out⟩
   ·simp [intOf]; omega
  ·obtain rfl : j = k := by omega
   have hd : decide ((j : Int) < (j : Int)) = false := decide_eq_false (by omega)
   go_wp2
   refine bodyPost_end (results_none rfl _ _ _) rfl ⟨rfl, ?_⟩
   exact ⟨HC2.out, HM.out⟩
end
section
open Go.ChangeShapes Go.RowKit FL
theorem zm8 {w : World} {b off n cap a m e : Nat} {f : Nat → C3} {cv : Value} (h : CF w b off n f) (hf : ∀ o, w.frozen? ⟨b, o, none⟩ = false) (h1 : a < m) (h2 : m < e) (h3 : e ≤ n) (hn : n ≤ 1048576) :
  Calls Tryz.prog 153 #[σ (some ⟨b, off, none⟩) n cap, O ι a, O ι m, O ι e, cv] w fun r w' => r = .returned (.tuple #[]) ∧ CF w' b off n (fun p => f (rot a m e p)) ∧ MRg b off n w w' := by
 have HC := hide h
 have HF : Hid (∀ W', MRg b off n w W' → ∀ o, W'.frozen? ⟨b, o, none⟩ = false) := fun W' x o => (x.m.fz _).trans (hf o)
 clear h hf
 go_enter Tryz.func153, Tryz.ntmps153
 go_wp2
 go_loopw [10, 11] (fun u v wr => ∃ (i j : Nat) (r : Nat → Nat), u = O ι i ∧ v = O ι j ∧ 0 < i ∧ 0 < j ∧ a + i ≤ m ∧ m + j ≤ e ∧ CF wr b off n (fun p => f (r p)) ∧ (∀ p, r (rot (m - i) m (m + j) p) = rot a m e p) ∧ MRg b off n w wr) (fun u v _ => (intOf u).toNat + (intOf v).toNat)
 case atStart => exact ⟨m - a, e - m, fun p => p, by go_num, by go_num, by omega, by omega, by omega, by omega, HC.out, fun p => by rw [show m - (m - a) = a by omega, show m + (e - m) = e by omega], MRg.refl _ _ _ _⟩
 case round =>
  obtain ⟨i, j, r, rfl, rfl, hi, hj, hi2, hj2, hc, hr, hm⟩ := hrel
  have HM := hide hm
  have HC2 := hide hc
  have HR := hide hr
  have fz := HF.out wr hm
  clear hc hm HC hr
  obtain ⟨p, Hp⟩ : ∃ p, Hid (m - i = p) := ⟨_, rfl⟩
  have ep : (m : Int) - (i : Int) = (p : Int) := by have := Hp.out; omega
  have wp' : IntKind.i64.wrap (p : Int) = (p : Int) := wrap_small _ (by omega) (by omega)
  by_cases hij : i = j
  ·subst hij
   have HS := hide (zi3 (cap := cap) (x := p) (y := m) (k := i) (cv := cv) HC2.out fz (by have := Hp.out; omega) (by omega) hn)
   go_wp2_with fail
   refine HS.out.mono ?_
   rintro r2 W1 ⟨rfl, hc, hm⟩
   have HC3 := hide hc
   have HM3 := hide (HM.out.tr hm)
   clear hc hm
   go_wp2
   refine bodyPost_end (results_none rfl _ _ _) rfl ⟨rfl, ?_⟩
   exact ⟨HC3.out.congr fun z _ => by rw [← HR.out z, ← Hp.out, zc21 (by omega)], HM3.out⟩
  ·have hne : ¬ (i : Int) = (j : Int) := by omega
   by_cases hgt : j < i
   ·have hd : decide ((j : Int) < (i : Int)) = true := decide_eq_true (by omega)
    have HS := hide (zi3 (cap := cap) (x := p) (y := m) (k := j) (cv := cv) HC2.out fz (by have := Hp.out; omega) (by omega) hn)
    go_wp2_with fail
    refine HS.out.mono ?_
    rintro r2 W1 ⟨rfl, hc, hm⟩
    have HC3 := hide hc
    have HM3 := hide (HM.out.tr hm)
    clear hc hm
    go_wp2
    go_roundw
    ·exact ⟨i - j, j, fun z => r (swR p m j z), by go_num, rfl, by omega, hj, by omega, hj2, HC3.out, fun z => by
      have := zl18 (m := m) (i := i) (j := j) (p := z) (by omega) (by omega)
      rw [Hp.out] at this
      show r (swR p m j (rot (m - (i - j)) m (m + j) z)) = rot a m e z
      rw [this, ← Hp.out]; exact HR.out z, HM3.out⟩
    ·simp [intOf]; omega
   ·have hd : decide ((j : Int) < (i : Int)) = false := decide_eq_false (by omega)
    obtain ⟨q, Hq⟩ : ∃ q, Hid (m + j - i = q) := ⟨_, rfl⟩
    have eq' : (m : Int) + (j : Int) - (i : Int) = (q : Int) := by have := Hq.out; omega
    have ws : IntKind.i64.wrap ((m : Int) + (j : Int)) = (m : Int) + (j : Int) := wrap_small _ (by omega) (by omega)
    have wq' : IntKind.i64.wrap (q : Int) = (q : Int) := wrap_small _ (by omega) (by omega)
    have HS := hide (zi3 (cap := cap) (x := p) (y := q) (k := i) (cv := cv) HC2.out fz (by have := Hp.out; have := Hq.out; omega) (by have := Hq.out; omega) hn)
    go_wp2_with fail
    refine HS.out.mono ?_
    rintro r2 W1 ⟨rfl, hc, hm⟩
    have HC3 := hide hc
    have HM3 := hide (HM.out.tr hm)
    clear hc hm
    go_wp2
    go_roundw
    ·exact ⟨i, j - i, fun z => r (swR p q i z), rfl, by go_num, hi, by omega, hi2, by omega, HC3.out, fun z => by
      have := zk18 (m := m) (i := i) (j := j) (p := z) (by omega) (by omega)
      rw [Hp.out, Hq.out] at this
      show r (swR p q i (rot (m - i) m (m + (j - i)) z)) = rot a m e z
      rw [Hp.out, this, ← Hp.out]; exact HR.out z, HM3.out⟩
    ·simp [intOf]; omega
end
end Go.Proofs.YtfhcpicddegblaaGreat
