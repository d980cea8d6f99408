import Derived.Test.YtanbgpmbccianaaFix
import Derived.Deep.QuietTactic
namespace Go.Proofs.Ytanbgpmbccianaa
open Go.ChangeShapes Go.RowKit
set_option linter.unusedSimpArgs false
set_option linter.unusedVariables false

/-- The length of axis i from the last one on; 1 where there is none. -/
def lenE (xs : List Int) (i : Nat) : Int := if i < xs.length then xs.getD (xs.length - 1 - i) 0 else 1

def joinB (a b : Int) : Bool := decide (a = 1 ∨ b = 1 ∨ a = b)
def joinV (a b : Int) : Int := if a = 1 then b else a

end Go.Proofs.Ytanbgpmbccianaa
namespace Go.Proofs.Ytanbgpmbccianaa
open Go.ChangeShapes Go.RowKit
set_option linter.unusedSimpArgs false
set_option linter.unusedVariables false

/-- The joined length at place j of d. -/
def jv (xs ys : List Int) (d j : Nat) : Int := joinV (lenE xs (d - 1 - j)) (lenE ys (d - 1 - j))

structure JS (w wr : World) (n a0 a1 a2 a3 m b0 b1 b2 b3 : Int) (xs ys : List Int) (d k : Nat) : Prop where
  a : wr.cell? ⟨w.heap.size, 0, none⟩ = some (.int .i64 n) ∧ wr.cell? ⟨w.heap.size, 1, none⟩ = some (.int .i64 a0) ∧ wr.cell? ⟨w.heap.size, 2, none⟩ = some (.int .i64 a1) ∧ wr.cell? ⟨w.heap.size, 3, none⟩ = some (.int .i64 a2) ∧ wr.cell? ⟨w.heap.size, 4, none⟩ = some (.int .i64 a3)
  b : wr.cell? ⟨w.heap.size + 1, 0, none⟩ = some (.int .i64 m) ∧ wr.cell? ⟨w.heap.size + 1, 1, none⟩ = some (.int .i64 b0) ∧ wr.cell? ⟨w.heap.size + 1, 2, none⟩ = some (.int .i64 b1) ∧ wr.cell? ⟨w.heap.size + 1, 3, none⟩ = some (.int .i64 b2) ∧ wr.cell? ⟨w.heap.size + 1, 4, none⟩ = some (.int .i64 b3)
  r : ∀ j, j < 5 → wr.cell? ⟨w.heap.size + 1 + 1, j, none⟩ = some (.int .i64 0)
  o0 : wr.cell? ⟨w.heap.size + 1 + 1 + 1, 0, none⟩ = some (.int .i64 d)
  oj : ∀ j, j < 4 → wr.cell? ⟨w.heap.size + 1 + 1 + 1, 1 + j, none⟩ = some (.int .i64 (if j < d ∧ d ≤ j + k then jv xs ys d j else 0))
  ex : Ext w wr

theorem JS.ext {w wr w2 : World} {n a0 a1 a2 a3 m b0 b1 b2 b3 : Int} {xs ys : List Int} {d k : Nat} (h : JS w wr n a0 a1 a2 a3 m b0 b1 b2 b3 xs ys d k) (x : Ext wr w2) : JS w w2 n a0 a1 a2 a3 m b0 b1 b2 b3 xs ys d k :=
  ⟨⟨x.box h.a.1, x.box h.a.2.1, x.box h.a.2.2.1, x.box h.a.2.2.2.1, x.box h.a.2.2.2.2⟩, ⟨x.box h.b.1, x.box h.b.2.1, x.box h.b.2.2.1, x.box h.b.2.2.2.1, x.box h.b.2.2.2.2⟩, fun j hj => x.box (h.r j hj), x.box h.o0, fun j hj => x.box (h.oj j hj), h.ex.trans x⟩

theorem JS.step {w wr : World} {n a0 a1 a2 a3 m b0 b1 b2 b3 : Int} {xs ys : List Int} {d k : Nat} (h : JS w wr n a0 a1 a2 a3 m b0 b1 b2 b3 xs ys d k) (hk : k < d) (hd : d ≤ 4) :
    JS w (wr.setCell ⟨w.heap.size + 1 + 1 + 1, 1 + (d - (k + 1)), none⟩ (.int .i64 (joinV (lenE xs k) (lenE ys k)))) n a0 a1 a2 a3 m b0 b1 b2 b3 xs ys d (k + 1) := by
  have x : Mut (w.heap.size + 1 + 1 + 1) wr (wr.setCell ⟨w.heap.size + 1 + 1 + 1, 1 + (d - (k + 1)), none⟩ (.int .i64 (joinV (lenE xs k) (lenE ys k)))) := (Mut.refl _ _).setCell _ _
  refine ⟨⟨x.box (by omega) h.a.1, x.box (by omega) h.a.2.1, x.box (by omega) h.a.2.2.1, x.box (by omega) h.a.2.2.2.1, x.box (by omega) h.a.2.2.2.2⟩, ⟨x.box (by omega) h.b.1, x.box (by omega) h.b.2.1, x.box (by omega) h.b.2.2.1, x.box (by omega) h.b.2.2.2.1, x.box (by omega) h.b.2.2.2.2⟩, fun j hj => x.box (by omega) (h.r j hj), ?_, fun j hj => ?_, h.ex.setCell (by show w.heap.size ≤ w.heap.size + 1 + 1 + 1; omega) _⟩
  · rw [World.cell?_setCell_other _ _ _ _ (by intro h; simp only [Addr.mk.injEq] at h; omega)]; exact h.o0
  · by_cases e : j = d - (k + 1)
    · subst e
      rw [if_pos (by omega)]
      have hj2 : jv xs ys d (d - (k + 1)) = joinV (lenE xs k) (lenE ys k) := by
        unfold jv
        have : d - 1 - (d - (k + 1)) = k := by omega
        rw [this]
      rw [hj2]
      exact World.cell?_setCell_same _ _ _ (h.oj _ hj)
    · rw [World.cell?_setCell_other _ _ _ _ (by intro h; simp only [Addr.mk.injEq] at h; omega), h.oj j hj]
      by_cases h1 : j < d ∧ d ≤ j + k
      · rw [if_pos h1, if_pos (by omega)]
      · rw [if_neg h1, if_neg (by omega)]

def jn (xs ys : List Int) (d : Nat) : List Int := (List.range d).map (jv xs ys d)
theorem jn_len (xs ys : List Int) (d : Nat) : (jn xs ys d).length = d := by simp [jn]
theorem jn_getD (xs ys : List Int) (d j : Nat) : (jn xs ys d).getD j 0 = if j < d then jv xs ys d j else 0 := by
  by_cases h : j < d
  · simp [jn, List.getD_eq_getElem?_getD, h]
  · simp [jn, List.getD_eq_getElem?_getD, h]

/-- All pairs of lengths fit. -/
abbrev Fits (xs ys : List Int) (k : Nat) : Prop := ∀ i, i < k → joinB (lenE xs i) (lenE ys i) = true
theorem Fits.step {xs ys : List Int} {k : Nat} (h : Fits xs ys k) (hx : joinB (lenE xs k) (lenE ys k) = true) : Fits xs ys (k + 1) := fun j hj => by
  by_cases e : j = k
  · rw [e]; exact hx
  · exact h j (by omega)
theorem lenE_in {xs : List Int} (h : InR xs xs.length) (k : Nat) : 0 ≤ lenE xs k ∧ lenE xs k ≤ 4096 := by
  unfold lenE
  by_cases e : k < xs.length
  · rw [if_pos e]; exact h _ (by omega)
  · rw [if_neg e]; omega
theorem jn_in {xs ys : List Int} (hx : InR xs xs.length) (hy : InR ys ys.length) (d : Nat) : InR (jn xs ys d) (jn xs ys d).length := by
  intro j hj
  rw [jn_len] at hj
  rw [jn_getD, if_pos hj]
  unfold jv joinV
  by_cases e : lenE xs (d - 1 - j) = 1
  · rw [if_pos e]; exact lenE_in hy _
  · rw [if_neg e]; exact lenE_in hx _

/-- The shapes join. -/
abbrev Joins (xs ys : List Int) (d : Nat) : Prop := Fits xs ys d ∧ prod (jn xs ys d) ≤ 4096
def dcJoins (xs ys : List Int) (d : Nat) : Bool := decide (Joins xs ys d)
theorem dcJoins_t {xs ys : List Int} {d : Nat} (h : Joins xs ys d) : dcJoins xs ys d = true := decide_eq_true h
theorem dcJoins_f {xs ys : List Int} {d : Nat} (h : ¬ Joins xs ys d) : dcJoins xs ys d = false := decide_eq_false h

def JoinOk (w : World) (xs ys : List Int) (d : Nat) (e : Ending) (w' : World) : Prop :=
  ∃ z a b c f : Int, e = .returned (.tuple #[.agg #[.int .i64 z, .int .i64 a, .int .i64 b, .int .i64 c, .int .i64 f], .bool (dcJoins xs ys d)]) ∧
    (Joins xs ys d → z = (jn xs ys d).length ∧ a = (jn xs ys d).getD 0 0 ∧ b = (jn xs ys d).getD 1 0 ∧ c = (jn xs ys d).getD 2 0 ∧ f = (jn xs ys d).getD 3 0) ∧ Ext w w'

theorem new_cell (W : World) (cs : Array Value) (t b : Nat) (hb : b = W.heap.size) (j : Nat) : (W.alloc (.cells cs t)).cell? ⟨b, j, none⟩ = cs[j]? := by
  subst hb
  rw [cell_of_row _ W.heap.size j _ t (0, 0) (heap_alloc_new W _)]
theorem JS.start (w : World) (n a0 a1 a2 a3 m b0 b1 b2 b3 : Int) (xs ys : List Int) (d : Nat) : JS w ((((w.alloc (.cells #[.int .i64 n, .int .i64 a0, .int .i64 a1, .int .i64 a2, .int .i64 a3] 56)).alloc (.cells #[.int .i64 m, .int .i64 b0, .int .i64 b1, .int .i64 b2, .int .i64 b3] 56)).alloc (.cells #[.int .i64 0, .int .i64 0, .int .i64 0, .int .i64 0, .int .i64 0] 56)).alloc (.cells #[.int .i64 d, .int .i64 0, .int .i64 0, .int .i64 0, .int .i64 0] 56)) n a0 a1 a2 a3 m b0 b1 b2 b3 xs ys d 0 := by
  have e1 : Ext (w.alloc (.cells #[.int .i64 n, .int .i64 a0, .int .i64 a1, .int .i64 a2, .int .i64 a3] 56)) ((((w.alloc (.cells #[.int .i64 n, .int .i64 a0, .int .i64 a1, .int .i64 a2, .int .i64 a3] 56)).alloc (.cells #[.int .i64 m, .int .i64 b0, .int .i64 b1, .int .i64 b2, .int .i64 b3] 56)).alloc (.cells #[.int .i64 0, .int .i64 0, .int .i64 0, .int .i64 0, .int .i64 0] 56)).alloc (.cells #[.int .i64 d, .int .i64 0, .int .i64 0, .int .i64 0, .int .i64 0] 56)) := (((Ext.refl _).alloc _ _).alloc _ _).alloc _ _
  have e2 : Ext ((w.alloc (.cells #[.int .i64 n, .int .i64 a0, .int .i64 a1, .int .i64 a2, .int .i64 a3] 56)).alloc (.cells #[.int .i64 m, .int .i64 b0, .int .i64 b1, .int .i64 b2, .int .i64 b3] 56)) ((((w.alloc (.cells #[.int .i64 n, .int .i64 a0, .int .i64 a1, .int .i64 a2, .int .i64 a3] 56)).alloc (.cells #[.int .i64 m, .int .i64 b0, .int .i64 b1, .int .i64 b2, .int .i64 b3] 56)).alloc (.cells #[.int .i64 0, .int .i64 0, .int .i64 0, .int .i64 0, .int .i64 0] 56)).alloc (.cells #[.int .i64 d, .int .i64 0, .int .i64 0, .int .i64 0, .int .i64 0] 56)) := ((Ext.refl _).alloc _ _).alloc _ _
  have e3 : Ext (((w.alloc (.cells #[.int .i64 n, .int .i64 a0, .int .i64 a1, .int .i64 a2, .int .i64 a3] 56)).alloc (.cells #[.int .i64 m, .int .i64 b0, .int .i64 b1, .int .i64 b2, .int .i64 b3] 56)).alloc (.cells #[.int .i64 0, .int .i64 0, .int .i64 0, .int .i64 0, .int .i64 0] 56)) ((((w.alloc (.cells #[.int .i64 n, .int .i64 a0, .int .i64 a1, .int .i64 a2, .int .i64 a3] 56)).alloc (.cells #[.int .i64 m, .int .i64 b0, .int .i64 b1, .int .i64 b2, .int .i64 b3] 56)).alloc (.cells #[.int .i64 0, .int .i64 0, .int .i64 0, .int .i64 0, .int .i64 0] 56)).alloc (.cells #[.int .i64 d, .int .i64 0, .int .i64 0, .int .i64 0, .int .i64 0] 56)) := (Ext.refl _).alloc _ _
  have n1 := fun j => new_cell w #[.int .i64 n, .int .i64 a0, .int .i64 a1, .int .i64 a2, .int .i64 a3] 56 w.heap.size rfl j
  have n2 := fun j => new_cell (w.alloc (.cells #[.int .i64 n, .int .i64 a0, .int .i64 a1, .int .i64 a2, .int .i64 a3] 56)) #[.int .i64 m, .int .i64 b0, .int .i64 b1, .int .i64 b2, .int .i64 b3] 56 (w.heap.size + 1) (by simp) j
  have n3 := fun j => new_cell ((w.alloc (.cells #[.int .i64 n, .int .i64 a0, .int .i64 a1, .int .i64 a2, .int .i64 a3] 56)).alloc (.cells #[.int .i64 m, .int .i64 b0, .int .i64 b1, .int .i64 b2, .int .i64 b3] 56)) #[.int .i64 0, .int .i64 0, .int .i64 0, .int .i64 0, .int .i64 0] 56 (w.heap.size + 1 + 1) (by simp) j
  have n4 := fun j => new_cell (((w.alloc (.cells #[.int .i64 n, .int .i64 a0, .int .i64 a1, .int .i64 a2, .int .i64 a3] 56)).alloc (.cells #[.int .i64 m, .int .i64 b0, .int .i64 b1, .int .i64 b2, .int .i64 b3] 56)).alloc (.cells #[.int .i64 0, .int .i64 0, .int .i64 0, .int .i64 0, .int .i64 0] 56)) #[.int .i64 d, .int .i64 0, .int .i64 0, .int .i64 0, .int .i64 0] 56 (w.heap.size + 1 + 1 + 1) (by simp) j
  refine ⟨⟨e1.box (n1 0), e1.box (n1 1), e1.box (n1 2), e1.box (n1 3), e1.box (n1 4)⟩, ⟨e2.box (n2 0), e2.box (n2 1), e2.box (n2 2), e2.box (n2 3), e2.box (n2 4)⟩, fun j hj => ?_, n4 0, fun j hj => ?_, ((((Ext.refl w).alloc _ _).alloc _ _).alloc _ _).alloc _ _⟩
  · obtain rfl | rfl | rfl | rfl | rfl : j = 0 ∨ j = 1 ∨ j = 2 ∨ j = 3 ∨ j = 4 := by omega
    exact e3.box (n3 0)
    exact e3.box (n3 1)
    exact e3.box (n3 2)
    exact e3.box (n3 3)
    exact e3.box (n3 4)
  · rw [if_neg (by omega)]
    obtain rfl | rfl | rfl | rfl : j = 0 ∨ j = 1 ∨ j = 2 ∨ j = 3 := by omega
    exact n4 1
    exact n4 2
    exact n4 3
    exact n4 4

end Go.Proofs.Ytanbgpmbccianaa
