import Derived.Test.YtbkdfhlbjaiahaaViewsL
namespace Go.Proofs.Ytbkdfhlbjaiahaa
open Go.ChangeShapes Go.RowKit
set_option linter.unusedSimpArgs false
set_option linter.unusedVariables false

def ToVOk (w : World) (xs ss : List Int) (off : Int) (e : Ending) (w' : World) : Prop :=
  ∃ b c : Nat, e = .returned (.agg #[.slice (some ⟨b, 0, none⟩) xs.length xs.length, .slice (some ⟨c, 0, none⟩) ss.length ss.length, .int .i64 off]) ∧ w.heap.size ≤ b ∧ b < c ∧ c < w'.heap.size ∧ Row w' b 0 xs ∧ Row w' c 0 ss ∧ Ext w w'

set_option maxRecDepth 100000 in
set_option maxHeartbeats 2000000 in
theorem toView_any {w : World} {v u : Value} {xs ss : List Int} (h : Ints w v xs) (g : Ints w u ss) (off : Int) (lx : xs.length ≤ 1048576) (ls : ss.length ≤ 1048576) :
    Calls Try.prog 31 #[.agg #[v, u, .int .i64 off]] w fun e w' => ToVOk w xs ss off e w' := by
  obtain ⟨sa, ca, rfl, rS⟩ := h
  obtain ⟨sb, cb, rfl, rT⟩ := g
  have x0 : Ext w (((w.alloc (.cells #[.slice sa xs.length ca, .slice sb ss.length cb, .int .i64 off] 35)).alloc (.cells #[.slice none 0 0, .slice none 0 0, .int .i64 0] 40)).alloc (.cells #[.slice none 0 0, .slice none 0 0, .int .i64 0] 40)) := (((Ext.refl w).alloc _ _).alloc _ _).alloc _ _
  have y1 : Ext (w.alloc (.cells #[.slice sa xs.length ca, .slice sb ss.length cb, .int .i64 off] 35)) (((w.alloc (.cells #[.slice sa xs.length ca, .slice sb ss.length cb, .int .i64 off] 35)).alloc (.cells #[.slice none 0 0, .slice none 0 0, .int .i64 0] 40)).alloc (.cells #[.slice none 0 0, .slice none 0 0, .int .i64 0] 40)) := ((Ext.refl _).alloc _ _).alloc _ _
  have y2 : Ext ((w.alloc (.cells #[.slice sa xs.length ca, .slice sb ss.length cb, .int .i64 off] 35)).alloc (.cells #[.slice none 0 0, .slice none 0 0, .int .i64 0] 40)) (((w.alloc (.cells #[.slice sa xs.length ca, .slice sb ss.length cb, .int .i64 off] 35)).alloc (.cells #[.slice none 0 0, .slice none 0 0, .int .i64 0] 40)).alloc (.cells #[.slice none 0 0, .slice none 0 0, .int .i64 0] 40)) := (Ext.refl _).alloc _ _
  have n1 := fun j => new_cell w #[.slice sa xs.length ca, .slice sb ss.length cb, .int .i64 off] 35 w.heap.size rfl j
  have n2 := fun j => new_cell (w.alloc (.cells #[.slice sa xs.length ca, .slice sb ss.length cb, .int .i64 off] 35)) #[.slice none 0 0, .slice none 0 0, .int .i64 0] 40 (w.heap.size + 1) (by simp) j
  have n3 := fun j => new_cell ((w.alloc (.cells #[.slice sa xs.length ca, .slice sb ss.length cb, .int .i64 off] 35)).alloc (.cells #[.slice none 0 0, .slice none 0 0, .int .i64 0] 40)) #[.slice none 0 0, .slice none 0 0, .int .i64 0] 40 (w.heap.size + 1 + 1) (by simp) j
  have a1 := y1.box (n1 1)
  have a2 := y1.box (n1 2)
  have r0 := y2.box (n2 0)
  have r1 := y2.box (n2 1)
  have r2 := y2.box (n2 2)
  have o0 : (((w.alloc (.cells #[.slice sa xs.length ca, .slice sb ss.length cb, .int .i64 off] 35)).alloc (.cells #[.slice none 0 0, .slice none 0 0, .int .i64 0] 40)).alloc (.cells #[.slice none 0 0, .slice none 0 0, .int .i64 0] 40)).cell? ⟨w.heap.size + 1 + 1, 0, none⟩ = some (.slice none 0 0) := n3 0
  have o1 : (((w.alloc (.cells #[.slice sa xs.length ca, .slice sb ss.length cb, .int .i64 off] 35)).alloc (.cells #[.slice none 0 0, .slice none 0 0, .int .i64 0] 40)).alloc (.cells #[.slice none 0 0, .slice none 0 0, .int .i64 0] 40)).cell? ⟨w.heap.size + 1 + 1, 1, none⟩ = some (.slice none 0 0) := n3 1
  have o2 : (((w.alloc (.cells #[.slice sa xs.length ca, .slice sb ss.length cb, .int .i64 off] 35)).alloc (.cells #[.slice none 0 0, .slice none 0 0, .int .i64 0] 40)).alloc (.cells #[.slice none 0 0, .slice none 0 0, .int .i64 0] 40)).cell? ⟨w.heap.size + 1 + 1, 2, none⟩ = some (.int .i64 0) := n3 2
  have HS : Hid (Ints (((w.alloc (.cells #[.slice sa xs.length ca, .slice sb ss.length cb, .int .i64 off] 35)).alloc (.cells #[.slice none 0 0, .slice none 0 0, .int .i64 0] 40)).alloc (.cells #[.slice none 0 0, .slice none 0 0, .int .i64 0] 40)) (.slice sa xs.length ca) xs) := Ints.ext ⟨sa, ca, rfl, rS⟩ x0
  have HT : Hid (Ints (((w.alloc (.cells #[.slice sa xs.length ca, .slice sb ss.length cb, .int .i64 off] 35)).alloc (.cells #[.slice none 0 0, .slice none 0 0, .int .i64 0] 40)).alloc (.cells #[.slice none 0 0, .slice none 0 0, .int .i64 0] 40)) (.slice sb ss.length cb) ss) := Ints.ext ⟨sb, cb, rfl, rT⟩ x0
  have X0 := hide x0
  have hsz : Hid ((((w.alloc (.cells #[.slice sa xs.length ca, .slice sb ss.length cb, .int .i64 off] 35)).alloc (.cells #[.slice none 0 0, .slice none 0 0, .int .i64 0] 40)).alloc (.cells #[.slice none 0 0, .slice none 0 0, .int .i64 0] 40)).heap.size = w.heap.size + 1 + 1 + 1) := by show (((w.alloc (.cells #[.slice sa xs.length ca, .slice sb ss.length cb, .int .i64 off] 35)).alloc (.cells #[.slice none 0 0, .slice none 0 0, .int .i64 0] 40)).alloc (.cells #[.slice none 0 0, .slice none 0 0, .int .i64 0] 40)).heap.size = _; simp
  have HT0 : Hid (Ints w (.slice sb ss.length cb) ss) := ⟨sb, cb, rfl, rT⟩
  clear n1 n2 n3 y1 y2 x0 rS rT
  go_enter Try.func31, Try.ntmps31
  go_wp2_with fail
  generalize hW : (((w.alloc (.cells #[.slice sa xs.length ca, .slice sb ss.length cb, .int .i64 off] 35)).alloc (.cells #[.slice none 0 0, .slice none 0 0, .int .i64 0] 40)).alloc (.cells #[.slice none 0 0, .slice none 0 0, .int .i64 0] 40)) = W0 at a1 a2 r0 r1 r2 o0 o1 o2 HS HT X0 hsz ⊢
  clear hW
  refine (toInts_any HS.out lx).mono ?_
  rintro e w1 ⟨rfl, row1, x1, s1⟩
  have T1 := hide (HT.out.ext x1)
  have b1 := x1.box a1
  have b2 := x1.box a2
  have p0 := x1.box o0
  have p1 := x1.box o1
  have p2 := x1.box o2
  have q0 := x1.box r0
  have q1 := x1.box r1
  have q2 := x1.box r2
  have X1 := hide (X0.out.trans x1)
  have pf := fun o => X1.out.unfrozen (b := w.heap.size + 1 + 1) (by omega) o
  have Row1 := hide row1
  have S1 := hide s1
  clear a1 a2 r0 r1 r2 o0 o1 o2 x1 row1 s1 HS HT X0
  have m1 : Mut (w.heap.size + 1 + 1) w1 (w1.setCell ⟨w.heap.size + 1 + 1, 0, none⟩ (.slice (some ⟨W0.heap.size, 0, none⟩) xs.length xs.length)) := (Mut.refl _ _).setCell _ _
  have c2 := m1.box (by omega) b2
  have d0 : (w1.setCell ⟨w.heap.size + 1 + 1, 0, none⟩ (.slice (some ⟨W0.heap.size, 0, none⟩) xs.length xs.length)).cell? ⟨w.heap.size + 1 + 1, 0, none⟩ = some (.slice (some ⟨W0.heap.size, 0, none⟩) xs.length xs.length) := World.cell?_setCell_same _ _ _ p0
  have d1 : (w1.setCell ⟨w.heap.size + 1 + 1, 0, none⟩ (.slice (some ⟨W0.heap.size, 0, none⟩) xs.length xs.length)).cell? ⟨w.heap.size + 1 + 1, 1, none⟩ = some (.slice none 0 0) := (World.cell?_setCell_other _ _ _ _ (by intro h; simp only [Addr.mk.injEq] at h; omega)).trans p1
  have d2 : (w1.setCell ⟨w.heap.size + 1 + 1, 0, none⟩ (.slice (some ⟨W0.heap.size, 0, none⟩) xs.length xs.length)).cell? ⟨w.heap.size + 1 + 1, 2, none⟩ = some (.int .i64 0) := (World.cell?_setCell_other _ _ _ _ (by intro h; simp only [Addr.mk.injEq] at h; omega)).trans p2
  have f0 := m1.box (by omega) q0
  have f1 := m1.box (by omega) q1
  have f2 := m1.box (by omega) q2
  have XX := hide (X1.out.setCell (p := ⟨w.heap.size + 1 + 1, 0, none⟩) (by show w.heap.size ≤ w.heap.size + 1 + 1; omega) (.slice (some ⟨W0.heap.size, 0, none⟩) xs.length xs.length))
  have RowA := hide (Row1.out.mut m1 (by have := hsz.out; omega))
  have HTT := hide (HT0.out.ext XX.out)
  have SZ : Hid ((w1.setCell ⟨w.heap.size + 1 + 1, 0, none⟩ (.slice (some ⟨W0.heap.size, 0, none⟩) xs.length xs.length)).heap.size = w1.heap.size) := by show (w1.setCell ⟨w.heap.size + 1 + 1, 0, none⟩ (.slice (some ⟨W0.heap.size, 0, none⟩) xs.length xs.length)).heap.size = _; simp [World.setCell]
  clear m1
  go_wp2_with fail
  generalize hW2 : (w1.setCell ⟨w.heap.size + 1 + 1, 0, none⟩ (.slice (some ⟨W0.heap.size, 0, none⟩) xs.length xs.length)) = W2 at c2 d0 d1 d2 f0 f1 f2 XX RowA HTT SZ ⊢
  clear hW2 b1 b2 p0 p1 p2 q0 q1 q2 pf T1 Row1 X1
  refine (toInts_any HTT.out ls).mono ?_
  rintro e w2 ⟨rfl, row2, x2, s2⟩
  have g2 := x2.box c2
  have e0 := x2.box d0
  have e1 := x2.box d1
  have e2 := x2.box d2
  have h0 := x2.box f0
  have h1 := x2.box f1
  have h2 := x2.box f2
  have RB := hide (RowA.out.ext x2)
  have RC := hide row2
  have XZ := hide (XX.out.trans x2)
  have pf := fun o => XZ.out.unfrozen (b := w.heap.size + 1 + 1) (by omega) o
  have qf := fun o => XZ.out.unfrozen (b := w.heap.size + 1) (by omega) o
  have HSZ : Hid (W0.heap.size = w.heap.size + 1 + 1 + 1 ∧ W0.heap.size < W2.heap.size ∧ W2.heap.size < w2.heap.size) := ⟨hsz.out, by have := S1.out; have := SZ.out; omega, s2⟩
  clear c2 d0 d1 d2 f0 f1 f2 RowA row2 x2 XX HTT SZ S1 hsz s2
  go_wp2
  refine bodyPost_ret (v := .agg #[.slice (some ⟨W0.heap.size, 0, none⟩) xs.length xs.length, .slice (some ⟨W2.heap.size, 0, none⟩) ss.length ss.length, .int .i64 off]) (by simp [results, Try.results31, go_sem, h0, h1, h2]) rfl ⟨W0.heap.size, W2.heap.size, rfl, ?_, ?_, ?_, ?_, ?_, ?_⟩
  · have := HSZ.out; omega
  · exact HSZ.out.2.1
  · have := HSZ.out.2.2; simpa [World.setCell] using this
  · intro j hj
    have := HSZ.out
    iterate 5 rw [World.cell?_setCell_other _ _ _ _ (by intro h; simp only [Addr.mk.injEq] at h; omega)]
    exact RB.out j hj
  · intro j hj
    have := HSZ.out
    iterate 5 rw [World.cell?_setCell_other _ _ _ _ (by intro h; simp only [Addr.mk.injEq] at h; omega)]
    exact RC.out j hj
  · exact ((((XZ.out.setCell (by show w.heap.size ≤ w.heap.size + 1 + 1; omega) _).setCell (by show w.heap.size ≤ w.heap.size + 1 + 1; omega) _).setCell (by show w.heap.size ≤ w.heap.size + 1; omega) _).setCell (by show w.heap.size ≤ w.heap.size + 1; omega) _).setCell (by show w.heap.size ≤ w.heap.size + 1; omega) _
end Go.Proofs.Ytbkdfhlbjaiahaa
