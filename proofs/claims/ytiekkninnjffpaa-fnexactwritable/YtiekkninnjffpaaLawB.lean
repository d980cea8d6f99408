import Derived.Test.YtiekkninnjffpaaOutV
namespace Go.Proofs.Ytiekkninnjffpaa
open Go.ChangeShapes Go.RowKit
set_option linter.unusedSimpArgs false
set_option linter.unusedVariables false

/-- What the law was handed: the view at block w.heap.size, and a list. -/
structure LB (w W : World) (vS vT vP : Value) (off : Int) (xs ss ys : List Int) : Prop where
  a0 : W.cell? ⟨w.heap.size, 0, none⟩ = some vS
  a1 : W.cell? ⟨w.heap.size, 1, none⟩ = some vT
  a2 : W.cell? ⟨w.heap.size, 2, none⟩ = some (.int .i64 off)
  hS : IntsB W 0 w.heap.size vS xs
  hT : IntsB W 0 w.heap.size vT ss
  hP : IntsB W 0 w.heap.size vP ys
  z : Below w.heap.size w W
theorem LB.keep {w W W' : World} {vS vT vP : Value} {off : Int} {xs ss ys : List Int} (h : LB w W vS vT vP off xs ss ys) (x : Bel W W') : LB w W' vS vT vP off xs ss ys :=
  ⟨x.box h.a0, x.box h.a1, x.box h.a2, h.hS.keep x, h.hT.keep x, h.hP.keep x, Below.trans h.z (Below.mono x (Below.size h.z))⟩
theorem LB.mIn {w W W' : World} {lo hi : Nat} {vS vT vP : Value} {off : Int} {xs ss ys : List Int} (h : LB w W vS vT vP off xs ss ys) (m : MIn lo hi W W') (hl : w.heap.size < lo) : LB w W' vS vT vP off xs ss ys :=
  ⟨m.box _ _ _ (by omega) h.a0, m.box _ _ _ (by omega) h.a1, m.box _ _ _ (by omega) h.a2, h.hS.mIn m (by omega), h.hT.mIn m (by omega), h.hP.mIn m (by omega), Below.trans h.z (Below.mono m.bl (by omega))⟩
theorem LB.start {w : World} {vS vT vP : Value} {off : Int} {xs ss ys : List Int} (hS : Ints w vS xs) (hT : Ints w vT ss) (hP : Ints w vP ys) : LB w (w.alloc (.cells #[vS, vT, .int .i64 off] 24)) vS vT vP off xs ss ys := by
  have x : Ext w (w.alloc (.cells #[vS, vT, .int .i64 off] 24)) := (Ext.refl w).alloc _ _
  have n := fun j => new_cell w #[vS, vT, .int .i64 off] 24 w.heap.size rfl j
  exact ⟨n 0, n 1, n 2, hS.bound.keep x.bl, hT.bound.keep x.bl, hP.bound.keep x.bl, x.bl⟩

/-- The answer of the specification, at block b. -/
structure LW (W : World) (lo b : Nat) (c : Int) (v u : Value) (o : Int) (L S : List Int) : Prop where
  c0 : W.cell? ⟨b, 0, none⟩ = some (.int .i64 c)
  c1 : W.cell? ⟨b, 1, none⟩ = some v
  c2 : W.cell? ⟨b, 2, none⟩ = some u
  c3 : W.cell? ⟨b, 3, none⟩ = some (.int .i64 o)
  hL : IntsB W lo b v L
  hS : IntsB W lo b u S
theorem LW.keep {W W' : World} {lo b : Nat} {c : Int} {v u : Value} {o : Int} {L S : List Int} (h : LW W lo b c v u o L S) (x : Bel W W') : LW W' lo b c v u o L S :=
  ⟨x.box h.c0, x.box h.c1, x.box h.c2, x.box h.c3, h.hL.keep x, h.hS.keep x⟩
theorem LW.mIn {W W' : World} {lo b l k : Nat} {c : Int} {v u : Value} {o : Int} {L S : List Int} (h : LW W lo b c v u o L S) (m : MIn l k W W') (hl : b < l) : LW W' lo b c v u o L S :=
  ⟨m.box _ _ _ (by omega) h.c0, m.box _ _ _ (by omega) h.c1, m.box _ _ _ (by omega) h.c2, m.box _ _ _ (by omega) h.c3, h.hL.mIn m (by omega), h.hS.mIn m (by omega)⟩
theorem LW.start {W : World} {lo : Nat} {c : Int} {v u : Value} {o : Int} {L S : List Int} (hL : IntsB W lo W.heap.size v L) (hS : IntsB W lo W.heap.size u S) : LW (W.alloc (.cells #[.int .i64 c, v, u, .int .i64 o] 43)) lo W.heap.size c v u o L S := by
  have x : Ext W (W.alloc (.cells #[.int .i64 c, v, u, .int .i64 o] 43)) := (Ext.refl W).alloc _ _
  have n := fun j => new_cell W #[.int .i64 c, v, u, .int .i64 o] 43 W.heap.size rfl j
  exact ⟨n 0, n 1, n 2, n 3, hL.keep x.bl, hS.keep x.bl⟩

/-- The answer of the program, at block bg, its lists at g and h. -/
structure LG (W : World) (bg g h : Nat) (c : Int) (v u : Value) (o : Int) (L S : List Int) : Prop where
  c0 : W.cell? ⟨bg, 0, none⟩ = some (.int .i64 c)
  c1 : W.cell? ⟨bg, 1, none⟩ = some v
  c2 : W.cell? ⟨bg, 2, none⟩ = some u
  c3 : W.cell? ⟨bg, 3, none⟩ = some (.int .i64 o)
  hL : IntsB W g (g + 1) v L
  hS : IntsB W h (h + 1) u S
  fL : FZ W v L
  fS : FZ W u S
theorem LG.keep {W W' : World} {bg g k : Nat} {c : Int} {v u : Value} {o : Int} {L S : List Int} (h : LG W bg g k c v u o L S) (x : Bel W W') : LG W' bg g k c v u o L S :=
  ⟨x.box h.c0, x.box h.c1, x.box h.c2, x.box h.c3, h.hL.keep x, h.hS.keep x, h.fL.keep x, h.fS.keep x⟩
theorem LG.mIn {W W' : World} {bg g k l hi : Nat} {c : Int} {v u : Value} {o : Int} {L S : List Int} (h : LG W bg g k c v u o L S) (m : MIn l hi W W') (h1 : hi ≤ g) (h2 : hi ≤ k) (h3 : hi ≤ bg) : LG W' bg g k c v u o L S :=
  ⟨m.box _ _ _ (by omega) h.c0, m.box _ _ _ (by omega) h.c1, m.box _ _ _ (by omega) h.c2, m.box _ _ _ (by omega) h.c3, h.hL.mIn m (by omega), h.hS.mIn m (by omega), h.fL.mIn m, h.fS.mIn m⟩
theorem LG.start {W : World} {g k : Nat} {c : Int} {v u : Value} {o : Int} {L S : List Int} (hL : IntsB W g (g + 1) v L) (hS : IntsB W k (k + 1) u S) (fL : FZ W v L) (fS : FZ W u S) : LG (W.alloc (.cells #[.int .i64 c, v, u, .int .i64 o] 43)) W.heap.size g k c v u o L S := by
  have x : Ext W (W.alloc (.cells #[.int .i64 c, v, u, .int .i64 o] 43)) := (Ext.refl W).alloc _ _
  have n := fun j => new_cell W #[.int .i64 c, v, u, .int .i64 o] 43 W.heap.size rfl j
  exact ⟨n 0, n 1, n 2, n 3, hL.keep x.bl, hS.keep x.bl, fL.keep x.bl, fS.keep x.bl⟩

/-- A view that is handed on, at block bx, its lists at b and k. -/
structure LX (W : World) (bx b k : Nat) (off : Int) (xs ss : List Int) : Prop where
  c0 : W.cell? ⟨bx, 0, none⟩ = some (.slice (some ⟨b, 0, none⟩) xs.length xs.length)
  c1 : W.cell? ⟨bx, 1, none⟩ = some (.slice (some ⟨k, 0, none⟩) ss.length ss.length)
  c2 : W.cell? ⟨bx, 2, none⟩ = some (.int .i64 off)
  hL : IntsB W b (b + 1) (.slice (some ⟨b, 0, none⟩) xs.length xs.length) xs
  hS : IntsB W k (k + 1) (.slice (some ⟨k, 0, none⟩) ss.length ss.length) ss
  fL : FZ W (.slice (some ⟨b, 0, none⟩) xs.length xs.length) xs
  fS : FZ W (.slice (some ⟨k, 0, none⟩) ss.length ss.length) ss
theorem LX.keep {W W' : World} {bx b k : Nat} {off : Int} {xs ss : List Int} (h : LX W bx b k off xs ss) (x : Bel W W') : LX W' bx b k off xs ss :=
  ⟨x.box h.c0, x.box h.c1, x.box h.c2, h.hL.keep x, h.hS.keep x, h.fL.keep x, h.fS.keep x⟩
theorem LX.start {A W : World} {b k : Nat} {off : Int} {xs ss : List Int} (x : Ext A W) (hb : A.heap.size ≤ b) (hk : b < k) (hs : k < W.heap.size) (rb : Row W b 0 xs) (rk : Row W k 0 ss) :
    LX (W.alloc (.cells #[.slice (some ⟨b, 0, none⟩) xs.length xs.length, .slice (some ⟨k, 0, none⟩) ss.length ss.length, .int .i64 off] 27)) W.heap.size b k off xs ss := by
  have y : Ext W (W.alloc (.cells #[.slice (some ⟨b, 0, none⟩) xs.length xs.length, .slice (some ⟨k, 0, none⟩) ss.length ss.length, .int .i64 off] 27)) := (Ext.refl W).alloc _ _
  have n := fun j => new_cell W #[.slice (some ⟨b, 0, none⟩) xs.length xs.length, .slice (some ⟨k, 0, none⟩) ss.length ss.length, .int .i64 off] 27 W.heap.size rfl j
  exact ⟨n 0, n 1, n 2, (rowB rb rfl).keep y.bl, (rowB rk rfl).keep y.bl, FZ.keep (Or.inr ⟨b, 0, _, _, rfl, by omega, fun o => x.unfrozen hb o⟩) y.bl, FZ.keep (Or.inr ⟨k, 0, _, _, rfl, hs, fun o => x.unfrozen (by omega) o⟩) y.bl⟩

/-- A list that is handed on, at block d. -/
structure LP (W : World) (d : Nat) (ys : List Int) : Prop where
  hP : IntsB W d (d + 1) (.slice (some ⟨d, 0, none⟩) ys.length ys.length) ys
  fP : FZ W (.slice (some ⟨d, 0, none⟩) ys.length ys.length) ys
theorem LP.keep {W W' : World} {d : Nat} {ys : List Int} (h : LP W d ys) (x : Bel W W') : LP W' d ys := ⟨h.hP.keep x, h.fP.keep x⟩
theorem LP.mIn {W W' : World} {d lo hi : Nat} {ys : List Int} (h : LP W d ys) (m : MIn lo hi W W') (hd : hi ≤ d) : LP W' d ys := ⟨h.hP.mIn m (by omega), h.fP.mIn m⟩
theorem LP.start {A W : World} {ys : List Int} (x : Ext A W) (hs : A.heap.size < W.heap.size) (r : Row W A.heap.size 0 ys) : LP W A.heap.size ys :=
  ⟨rowB r rfl, Or.inr ⟨A.heap.size, 0, _, _, rfl, hs, fun o => x.unfrozen (Nat.le_refl _) o⟩⟩
end Go.Proofs.Ytiekkninnjffpaa
