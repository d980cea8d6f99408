import Derived.Test.YtbkdfhlbjaiahaaCells2
import Derived.OwnWalk
import Derived.Carry
import Derived.ChangeSlices
import Derived.ChangeAlike
import Derived.RegionTactic
import Derived.Deep.RegionHeld3
import Derived.Deep.QuietTactic
namespace Go.Proofs.Ytbkdfhlbjaiahaa
open Go.ChangeShapes Go.RowKit FL
set_option linter.unusedSimpArgs false
set_option linter.unusedVariables false

theorem cell_lt {W : World} {b o : Nat} {v : Value} (hc : W.cell? ⟨b, o, none⟩ = some v) : b < W.heap.size := by
  by_cases e : b < W.heap.size
  · exact e
  · have e2 : W.heap[b]? = none := by simp; omega
    simp [World.cell?, e2] at hc
theorem frozen_new (w : World) (b o : Nat) (h : w.heap.size ≤ b) : w.frozen? ⟨b, o, none⟩ = false := by
  have e : w.heap[b]? = none := by simp; omega
  simp [World.frozen?, e]
theorem Ext.unfrozen {w w1 : World} (h : Ext w w1) {b : Nat} (hb : w.heap.size ≤ b) (o : Nat) : w1.frozen? ⟨b, o, none⟩ = false := by
  rw [h.fz, frozen_new w b o hb]
theorem near {W : World} {b o q : Nat} {v x : Value} (hne : o ≠ q) (h : W.cell? ⟨b, q, none⟩ = some x) : (W.setCell ⟨b, o, none⟩ v).cell? ⟨b, q, none⟩ = some x := by
  rw [World.cell?_setCell_other _ _ _ _ (by intro e; simp only [Addr.mk.injEq] at e; omega)]; exact h
theorem new_cell (W : World) (cs : Array Value) (t b : Nat) (hb : b = W.heap.size) (j : Nat) : (W.alloc (.cells cs t)).cell? ⟨b, j, none⟩ = cs[j]? := by
  subst hb
  rw [cell_of_row _ W.heap.size j cs t (0, 0) (heap_alloc_new W _)]
abbrev Bel (w w' : World) : Prop := Below w.heap.size w w'
theorem Bel.box {w w' : World} (x : Bel w w') {b o : Nat} {v : Value} (h : w.cell? ⟨b, o, none⟩ = some v) : w'.cell? ⟨b, o, none⟩ = some v := (Below.cell x (p := ⟨b, o, none⟩) (cell_lt h)).trans h
theorem Bel.tr {a b c : World} (x : Bel a b) (y : Bel b c) : Bel a c := Below.trans x (Below.mono y (Below.size x))
def LawOk (w : World) (e : Ending) (w' : World) : Prop := e = .returned (.bool true) ∧ Below w.heap.size w w'

/-- A cell of an array: an integer and two floats. -/
abbrev C3 := Int × Nat × Nat
def k0 : C3 := (0, 0, 0)
/-- Cells in block b from place off on. -/
def CRow (w : World) (b off : Nat) (cs : List C3) : Prop := ∀ j, j < cs.length → w.cell? ⟨b, off + j * 3, none⟩ = some (.int .i64 (cs.getD j k0).1) ∧ w.cell? ⟨b, off + j * 3 + 1, none⟩ = some (.float .f64 (cs.getD j k0).2.1) ∧ w.cell? ⟨b, off + j * 3 + 2, none⟩ = some (.float .f64 (cs.getD j k0).2.2)
/-- v is a slice of these cells, not in block x. -/
def CV (w : World) (v : Value) (cs : List C3) : Prop := ∃ sa cap, v = .slice sa cs.length cap ∧ (cs = [] ∨ ∃ b off, sa = some ⟨b, off, none⟩ ∧ CRow w b off cs)
/-- .. whose block is at or behind lo. -/
def CVL (w : World) (lo : Nat) (v : Value) (cs : List C3) : Prop := ∃ sa cap, v = .slice sa cs.length cap ∧ (cs = [] ∨ ∃ b off, sa = some ⟨b, off, none⟩ ∧ lo ≤ b ∧ CRow w b off cs)
theorem CVL.cv {w : World} {lo : Nat} {v : Value} {cs : List C3} (h : CVL w lo v cs) : CV w v cs := by
  obtain ⟨sa, cap, h1, h2⟩ := h
  exact ⟨sa, cap, h1, h2.imp id fun ⟨b, off, h3, _, h4⟩ => ⟨b, off, h3, h4⟩⟩
theorem CRow.keep {w w' : World} {b off : Nat} {cs : List C3} (h : CRow w b off cs) (x : Bel w w') : CRow w' b off cs := fun j hj => ⟨x.box (h j hj).1, x.box (h j hj).2.1, x.box (h j hj).2.2⟩
theorem CV.keep {w w' : World} {v : Value} {cs : List C3} (h : CV w v cs) (x : Bel w w') : CV w' v cs := by
  obtain ⟨sa, cap, h1, h2⟩ := h
  exact ⟨sa, cap, h1, h2.imp id fun ⟨b, off, h3, h4⟩ => ⟨b, off, h3, h4.keep x⟩⟩
theorem CVL.keep {w w' : World} {lo : Nat} {v : Value} {cs : List C3} (h : CVL w lo v cs) (x : Bel w w') : CVL w' lo v cs := by
  obtain ⟨sa, cap, h1, h2⟩ := h
  exact ⟨sa, cap, h1, h2.imp id fun ⟨b, off, h3, h5, h4⟩ => ⟨b, off, h3, h5, h4.keep x⟩⟩
theorem CVL.le {w : World} {lo lo' : Nat} {v : Value} {cs : List C3} (h : CVL w lo v cs) (hl : lo' ≤ lo) : CVL w lo' v cs := by
  obtain ⟨sa, cap, h1, h2⟩ := h
  exact ⟨sa, cap, h1, h2.imp id fun ⟨b, off, h3, h5, h4⟩ => ⟨b, off, h3, Nat.le_trans hl h5, h4⟩⟩
theorem CVL.far {w : World} {lo b o : Nat} {v u : Value} {cs : List C3} (h : CVL w lo v cs) (hb : b < lo) : CVL (w.setCell ⟨b, o, none⟩ u) lo v cs := by
  obtain ⟨sa, cap, h1, h2⟩ := h
  refine ⟨sa, cap, h1, h2.imp id fun ⟨c, off, h3, h5, h4⟩ => ⟨c, off, h3, h5, ?_⟩⟩
  have hk : (w.setCell ⟨b, o, none⟩ u).heap[c]? = w.heap[c]? := Below.heap_setCell _ _ _ _ (by show c ≠ b; omega)
  have hc : ∀ {q x}, w.cell? ⟨c, q, none⟩ = some x → (w.setCell ⟨b, o, none⟩ u).cell? ⟨c, q, none⟩ = some x := fun {q x} hx => (World.cell?_of_block (w := w) (a := ⟨c, q, none⟩) hk).trans hx
  exact fun j hj => ⟨hc (h4 j hj).1, hc (h4 j hj).2.1, hc (h4 j hj).2.2⟩
theorem CRow.set {w : World} {g off : Nat} {cs : List C3} (h : CRow w g off cs) (i : Nat) (hi : i < cs.length) (t : C3) :
    CRow (((w.setCell ⟨g, off + i * 3, none⟩ (.int .i64 t.1)).setCell ⟨g, off + i * 3 + 1, none⟩ (.float .f64 t.2.1)).setCell ⟨g, off + i * 3 + 2, none⟩ (.float .f64 t.2.2)) g off (cs.set i t) := fun j hj => by
  rw [List.length_set] at hj
  have e0 : (cs.set i t).getD j k0 = if i = j then t else cs.getD j k0 := by
    rw [List.getD_eq_getElem?_getD, List.getElem?_set, List.getD_eq_getElem?_getD]
    by_cases e : i = j
    · subst e; simp [hi]
    · simp [e]
  rw [e0]
  obtain ⟨a, b, c⟩ := h j hj
  by_cases e : i = j
  · subst e
    rw [if_pos rfl]
    exact ⟨near (by omega) (near (by omega) (World.cell?_setCell_same _ _ _ a)), near (by omega) (World.cell?_setCell_same _ _ _ (near (by omega) b)), World.cell?_setCell_same _ _ _ (near (by omega) (near (by omega) c))⟩
  · rw [if_neg e]
    exact ⟨near (by omega) (near (by omega) (near (by omega) a)), near (by omega) (near (by omega) (near (by omega) b)), near (by omega) (near (by omega) (near (by omega) c))⟩
/-- The first k are in, the rest is zero. -/
def fillD {α : Type} (d : α) (xs : List α) (k : Nat) : List α := xs.take k ++ List.replicate (xs.length - k) d
theorem fillD_len {α : Type} (d : α) (xs : List α) (k : Nat) : (fillD d xs k).length = xs.length := by
  unfold fillD; simp; omega
theorem fillD_set {α : Type} (d : α) (xs : List α) (k : Nat) (hk : k < xs.length) : (fillD d xs k).set k (xs.getD k d) = fillD d xs (k + 1) := by
  unfold fillD
  apply List.ext_getElem?
  intro j
  simp only [List.getElem?_set, List.getElem?_append, List.length_append, List.length_take, List.length_replicate, List.getElem?_take, List.getElem?_replicate, List.getD_eq_getElem?_getD]
  by_cases e : k = j
  · subst e
    have h1 : min k xs.length = k := by omega
    have h2 : min (k + 1) xs.length = k + 1 := by omega
    simp [h1, h2, hk]
    omega
  · have h1 : min k xs.length = k := by omega
    have h2 : min (k + 1) xs.length = k + 1 := by omega
    simp only [h1, h2, e, if_false]
    by_cases h : j < k
    · have : j < k + 1 := by omega
      simp [h, this]
    · have h3 : ¬ j < k + 1 := by omega
      simp only [h, h3, if_false]
      by_cases h4 : j - k < xs.length - k
      · have : j - (k + 1) < xs.length - (k + 1) := by omega
        simp [h4, this]
      · have : ¬ j - (k + 1) < xs.length - (k + 1) := by omega
        simp [h4, this]
theorem fillD_zero {α : Type} (d : α) (xs : List α) : fillD d xs 0 = List.replicate xs.length d := by unfold fillD; simp
theorem fillD_full {α : Type} (d : α) (xs : List α) : fillD d xs xs.length = xs := by unfold fillD; simp
theorem crow_new (w : World) (n : Nat) (t : TypeId) : CRow (w.alloc (.cells (madeCells #[.int .i64 0, .float .f64 0, .float .f64 0] (n * 3)) t)) w.heap.size 0 (List.replicate n k0) := by
  intro j hj
  rw [List.length_replicate] at hj
  have e : (List.replicate n k0).getD j k0 = k0 := by simp [List.getD_eq_getElem?_getD, hj]
  rw [e]
  have hc := fun o => cell_of_row _ w.heap.size o _ t (0, 0) (heap_alloc_new w (.cells (madeCells #[.int .i64 0, .float .f64 0, .float .f64 0] (n * 3)) t))
  have l0 : 0 + j * 3 < n * 3 := by omega
  have l1 : 0 + j * 3 + 1 < n * 3 := by omega
  have l2 : 0 + j * 3 + 2 < n * 3 := by omega
  refine ⟨(hc _).trans ?_, (hc _).trans ?_, (hc _).trans ?_⟩
  · simp only [madeCells]
    rw [Array.getElem?_map, Array.getElem?_range, if_pos l0]
    simp [k0]
  · simp only [madeCells]
    rw [Array.getElem?_map, Array.getElem?_range, if_pos l1]
    simp [k0]
  · simp only [madeCells]
    rw [Array.getElem?_map, Array.getElem?_range, if_pos l2]
    simp [k0]
/-- Values as Go has them. -/
def CG (cs : List C3) : Prop := ∀ c ∈ cs, I64 c.1 ∧ B64 c.2.1 ∧ B64 c.2.2
theorem CG.at {cs : List C3} (h : CG cs) (j : Nat) (hj : j < cs.length) : I64 (cs.getD j k0).1 ∧ B64 (cs.getD j k0).2.1 ∧ B64 (cs.getD j k0).2.2 := by
  rw [List.getD_eq_getElem?_getD, List.getElem?_eq_getElem hj]
  exact h _ (List.getElem_mem hj)
/-- A store: its dtype and its cells. -/
abbrev St := Int × List C3
def s0 : St := (0, [])
def SRow (w : World) (b off : Nat) (ss : List St) : Prop := ∀ j, j < ss.length → w.cell? ⟨b, off + j * 2, none⟩ = some (.int .i64 (ss.getD j s0).1) ∧ ∃ u, w.cell? ⟨b, off + j * 2 + 1, none⟩ = some u ∧ CV w u (ss.getD j s0).2
def SRowL (w : World) (lo b off : Nat) (ss : List St) : Prop := ∀ j, j < ss.length → w.cell? ⟨b, off + j * 2, none⟩ = some (.int .i64 (ss.getD j s0).1) ∧ ∃ u, w.cell? ⟨b, off + j * 2 + 1, none⟩ = some u ∧ CVL w lo u (ss.getD j s0).2
def SV (w : World) (v : Value) (ss : List St) : Prop := ∃ sa cap, v = .slice sa ss.length cap ∧ (ss = [] ∨ ∃ b off, sa = some ⟨b, off, none⟩ ∧ SRow w b off ss)
theorem SRowL.srow {w : World} {lo b off : Nat} {ss : List St} (h : SRowL w lo b off ss) : SRow w b off ss := fun j hj => by
  obtain ⟨h1, u, h2, h3⟩ := h j hj
  exact ⟨h1, u, h2, h3.cv⟩
theorem SRow.keep {w w' : World} {b off : Nat} {ss : List St} (h : SRow w b off ss) (x : Bel w w') : SRow w' b off ss := fun j hj => by
  obtain ⟨h1, u, h2, h3⟩ := h j hj
  exact ⟨x.box h1, u, x.box h2, h3.keep x⟩
theorem SRowL.keep {w w' : World} {lo b off : Nat} {ss : List St} (h : SRowL w lo b off ss) (x : Bel w w') : SRowL w' lo b off ss := fun j hj => by
  obtain ⟨h1, u, h2, h3⟩ := h j hj
  exact ⟨x.box h1, u, x.box h2, h3.keep x⟩
theorem SV.keep {w w' : World} {v : Value} {ss : List St} (h : SV w v ss) (x : Bel w w') : SV w' v ss := by
  obtain ⟨sa, cap, h1, h2⟩ := h
  exact ⟨sa, cap, h1, h2.imp id fun ⟨b, off, h3, h4⟩ => ⟨b, off, h3, h4.keep x⟩⟩
theorem SRowL.set {w : World} {lo b off : Nat} {ss : List St} (h : SRowL w lo b off ss) (hb : b < lo) (i : Nat) (hi : i < ss.length) (dt : Int) (u : Value) (cs : List C3) (hu : CVL w lo u cs) :
    SRowL ((w.setCell ⟨b, off + i * 2, none⟩ (.int .i64 dt)).setCell ⟨b, off + i * 2 + 1, none⟩ u) lo b off (ss.set i (dt, cs)) := fun j hj => by
  rw [List.length_set] at hj
  have e0 : (ss.set i (dt, cs)).getD j s0 = if i = j then (dt, cs) else ss.getD j s0 := by
    rw [List.getD_eq_getElem?_getD, List.getElem?_set, List.getD_eq_getElem?_getD]
    by_cases e : i = j
    · subst e; simp [hi]
    · simp [e]
  rw [e0]
  obtain ⟨a, u', c, d⟩ := h j hj
  by_cases e : i = j
  · subst e
    rw [if_pos rfl]
    exact ⟨near (by omega) (World.cell?_setCell_same _ _ _ a), u, World.cell?_setCell_same _ _ _ (near (by omega) c), (hu.far hb).far hb⟩
  · rw [if_neg e]
    exact ⟨near (by omega) (near (by omega) a), u', near (by omega) (near (by omega) c), (d.far hb).far hb⟩
theorem SRowL.far {w : World} {lo b off c o : Nat} {u : Value} {ss : List St} (h : SRowL w lo b off ss) (hc : c ≠ b) (hl : c < lo) : SRowL (w.setCell ⟨c, o, none⟩ u) lo b off ss := fun j hj => by
  have hk : (w.setCell ⟨c, o, none⟩ u).heap[b]? = w.heap[b]? := Below.heap_setCell _ _ _ _ (by show b ≠ c; omega)
  have hcc : ∀ {q x}, w.cell? ⟨b, q, none⟩ = some x → (w.setCell ⟨c, o, none⟩ u).cell? ⟨b, q, none⟩ = some x := fun {q x} hx => (World.cell?_of_block (w := w) (a := ⟨b, q, none⟩) hk).trans hx
  obtain ⟨h1, v, h2, h3⟩ := h j hj
  exact ⟨hcc h1, v, hcc h2, h3.far hl⟩
theorem srow_new (w : World) (lo n : Nat) (t : TypeId) : SRowL (w.alloc (.cells (madeCells #[.int .i64 0, .slice none 0 0] (n * 2)) t)) lo w.heap.size 0 (List.replicate n s0) := by
  intro j hj
  rw [List.length_replicate] at hj
  have e : (List.replicate n s0).getD j s0 = s0 := by simp [List.getD_eq_getElem?_getD, hj]
  rw [e]
  have hc := fun o => cell_of_row _ w.heap.size o _ t (0, 0) (heap_alloc_new w (.cells (madeCells #[.int .i64 0, .slice none 0 0] (n * 2)) t))
  have l0 : 0 + j * 2 < n * 2 := by omega
  have l1 : 0 + j * 2 + 1 < n * 2 := by omega
  refine ⟨(hc _).trans ?_, .slice none 0 0, (hc _).trans ?_, ⟨none, 0, rfl, Or.inl rfl⟩⟩
  · simp only [madeCells]
    rw [Array.getElem?_map, Array.getElem?_range, if_pos l0]
    simp [s0]
  · simp only [madeCells]
    rw [Array.getElem?_map, Array.getElem?_range, if_pos l1]
    simp
theorem SRowL.sv {w : World} {lo b n cap : Nat} {ss : List St} (h : SRowL w lo b 0 ss) (hn : n = ss.length) : SV w (.slice (some ⟨b, 0, none⟩) n cap) ss := ⟨_, _, by rw [hn], Or.inr ⟨b, 0, rfl, h.srow⟩⟩
def SG (ss : List St) : Prop := ∀ s ∈ ss, CG s.2
theorem SG.at {ss : List St} (h : SG ss) (j : Nat) (hj : j < ss.length) : CG (ss.getD j s0).2 := by
  rw [List.getD_eq_getElem?_getD, List.getElem?_eq_getElem hj]
  exact h _ (List.getElem_mem hj)
/-- Few enough. -/
def SL (ss : List St) (n : Nat) : Prop := ss.length ≤ n ∧ ∀ s ∈ ss, s.2.length ≤ n
theorem SL.at {ss : List St} {n : Nat} (h : SL ss n) (j : Nat) (hj : j < ss.length) : (ss.getD j s0).2.length ≤ n := by
  rw [List.getD_eq_getElem?_getD, List.getElem?_eq_getElem hj]
  exact h.2 _ (List.getElem_mem hj)
def vStore (s : St) : Bool := isDtB s.1 && decide (s.2.length ≤ 4096) && s.2.all fun c => validB s.1 c.1 c.2.1 c.2.2
def vHeap (ss : List St) : Bool := decide (ss.length ≤ 64) && ss.all vStore
theorem all_no {α : Type} (d : α) {p : α → Bool} {xs : List α} {k : Nat} (hk : k < xs.length) (h : p (xs.getD k d) = false) : xs.all p = false := by
  rw [List.all_eq_false]
  refine ⟨xs.getD k d, ?_, by rw [h]; simp⟩
  rw [List.getD_eq_getElem?_getD, List.getElem?_eq_getElem hk]
  exact List.getElem_mem hk
theorem all_yes {α : Type} (d : α) {p : α → Bool} {xs : List α} (h : ∀ j, j < xs.length → p (xs.getD j d) = true) : xs.all p = true := by
  rw [List.all_eq_true]
  intro x hx
  obtain ⟨j, hj, rfl⟩ := List.getElem_of_mem hx
  have := h j hj
  rw [List.getD_eq_getElem?_getD, List.getElem?_eq_getElem hj] at this
  exact this
end Go.Proofs.Ytbkdfhlbjaiahaa
