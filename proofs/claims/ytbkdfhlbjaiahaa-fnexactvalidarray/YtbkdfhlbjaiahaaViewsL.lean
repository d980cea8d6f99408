import Derived.Test.YtbkdfhlbjaiahaaMarks2
namespace Go.Proofs.Ytbkdfhlbjaiahaa
open Go.ChangeShapes Go.RowKit
set_option linter.unusedSimpArgs false
set_option linter.unusedVariables false

set_option maxRecDepth 100000 in
set_option maxHeartbeats 1000000 in
theorem szInts_any (sa : Option Addr) (n cap : Nat) (left : Int) (hn : n ≤ 9223372036854775807) (hl : 0 ≤ left ∧ left ≤ 1048576) (w : World) :
    Calls Try.prog 49 #[.slice sa n cap, .int .i64 left] w fun e w' => e = .returned (.int .i64 (if left - n < 0 then -1 else left - n)) ∧ w' = w := by
  by_cases h : left - (n : Int) < 0
  · rw [if_pos h]
    go_enter Try.func49, Try.ntmps49
    go_wp2
    go_ret
    exact ⟨rfl, rfl⟩
  · rw [if_neg h]
    go_enter Try.func49, Try.ntmps49
    go_wp2
    go_ret
    exact ⟨rfl, rfl⟩

set_option maxRecDepth 100000 in
set_option maxHeartbeats 2000000 in
theorem eqView_true {w : World} {v u v' u' : Value} {xs ss : List Int} (off : Int) (h : Ints w v xs) (g : Ints w u ss) (h' : Ints w v' xs) (g' : Ints w u' ss) (lx : xs.length ≤ 1048576) (ls : ss.length ≤ 1048576) :
    Calls Try.prog 33 #[.agg #[v, u, .int .i64 off], .agg #[v', u', .int .i64 off]] w fun e w' => e = .returned (.bool true) ∧ Ext w w' := by
  have x0 : Ext w ((w.alloc (.cells #[v, u, .int .i64 off] 40)).alloc (.cells #[v', u', .int .i64 off] 40)) := ((Ext.refl w).alloc _ _).alloc _ _
  have y0 : Ext (w.alloc (.cells #[v, u, .int .i64 off] 40)) ((w.alloc (.cells #[v, u, .int .i64 off] 40)).alloc (.cells #[v', u', .int .i64 off] 40)) := (Ext.refl _).alloc _ _
  have n1 := fun j => new_cell w #[v, u, .int .i64 off] 40 w.heap.size rfl j
  have n2 := fun j => new_cell (w.alloc (.cells #[v, u, .int .i64 off] 40)) #[v', u', .int .i64 off] 40 (w.heap.size + 1) (by simp) j
  have a1 := y0.box (n1 1)
  have a2 := y0.box (n1 2)
  have b1 := n2 1
  have b2 := n2 2
  have H := hide (h.ext x0)
  have G := hide (g.ext x0)
  have H' := hide (h'.ext x0)
  have G' := hide (g'.ext x0)
  have X0 := hide x0
  clear n1 n2 x0 y0
  obtain ⟨sa, ca, rfl, _⟩ := h
  obtain ⟨sb, cb, rfl, _⟩ := g
  obtain ⟨sc, cc, rfl, _⟩ := h'
  obtain ⟨sd, cd, rfl, _⟩ := g'
  go_enter Try.func33, Try.ntmps33
  go_wp2_with fail
  refine (eqInts_any H.out H'.out (by omega)).mono ?_
  rintro e w1 ⟨rfl, x1⟩
  rw [show decide (xs = xs) = true from by simp]
  have a1' := x1.box a1
  have a2' := x1.box a2
  have b1' := x1.box b1
  have b2' := x1.box b2
  have G1 := hide (G.out.ext x1)
  have G1' := hide (G'.out.ext x1)
  have X1 := hide (X0.out.trans x1)
  clear a1 a2 b1 b2 x1 H H' G G' X0
  go_wp2_with fail
  refine (eqInts_any G1.out G1'.out (by omega)).mono ?_
  rintro e w2 ⟨rfl, x2⟩
  rw [show decide (ss = ss) = true from by simp]
  have a2'' := x2.box a2'
  have b2'' := x2.box b2'
  have X2 := hide (X1.out.trans x2)
  clear x2 a1' a2' b1' b2'
  go_wp2
  go_ret
  exact ⟨rfl, X2.out⟩
end Go.Proofs.Ytbkdfhlbjaiahaa
