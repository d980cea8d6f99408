import Derived.Test.YtanbgpmbccianaaDDr
import Derived.Test.YtanbgpmbccianaaM11
import Derived.Test.YtanbgpmbccianaaRCells2
import Derived.OwnWalk
import Derived.Carry
import Derived.ChangeSlices
import Derived.ChangeAlike
import Derived.RegionTactic
import Derived.Deep.RegionHeld3
import Derived.Deep.QuietTactic
namespace Go.Proofs.Ytanbgpmbccianaa
open Go.ChangeShapes Go.RowKit FL
set_option linter.unusedSimpArgs false
set_option linter.unusedVariables false

/-- A cell of an array: an integer and two floats. -/
abbrev C3 := Int × Nat × Nat
def k0 : C3 := (0, 0, 0)
/-- Cells in block b from place off on. -/
def CRow (w : World) (b off : Nat) (cs : List C3) : Prop := ∀ j, j < cs.length → w.cell? ⟨b, off + j * 3, none⟩ = some (.int .i64 (cs.getD j k0).1) ∧ w.cell? ⟨b, off + j * 3 + 1, none⟩ = some (.float .f64 (cs.getD j k0).2.1) ∧ w.cell? ⟨b, off + j * 3 + 2, none⟩ = some (.float .f64 (cs.getD j k0).2.2)
/-- v is a slice of these cells, not in block x. -/
def CV (w : World) (v : Value) (cs : List C3) : Prop := ∃ sa cap, v = .slice sa cs.length cap ∧ (cs = [] ∨ ∃ b off, sa = some ⟨b, off, none⟩ ∧ CRow w b off cs)
/-- .. whose block is at or behind lo. -/
def CVL (w : World) (lo : Nat) (v : Value) (cs : List C3) : Prop := ∃ sa cap, v = .slice sa cs.length cap ∧ (cs = [] ∨ ∃ b off, sa = some ⟨b, off, none⟩ ∧ lo ≤ b ∧ CRow w b off cs)
theorem CVL.cv {w : World} {lo : Nat} {v : Value} {cs : List C3} (h : CVL w lo v cs) : CV w v cs := by
  obtain ⟨sa, cap, h1, h2⟩ := h
  exact ⟨sa, cap, h1, h2.imp id fun ⟨b, off, h3, _, h4⟩ => ⟨b, off, h3, h4⟩⟩
theorem CRow.keep {w w' : World} {b off : Nat} {cs : List C3} (h : CRow w b off cs) (x : Bel w w') : CRow w' b off cs := fun j hj => ⟨x.box (h j hj).1, x.box (h j hj).2.1, x.box (h j hj).2.2⟩
theorem CV.keep {w w' : World} {v : Value} {cs : List C3} (h : CV w v cs) (x : Bel w w') : CV w' v cs := by
  obtain ⟨sa, cap, h1, h2⟩ := h
  exact ⟨sa, cap, h1, h2.imp id fun ⟨b, off, h3, h4⟩ => ⟨b, off, h3, h4.keep x⟩⟩
theorem CVL.keep {w w' : World} {lo : Nat} {v : Value} {cs : List C3} (h : CVL w lo v cs) (x : Bel w w') : CVL w' lo v cs := by
  obtain ⟨sa, cap, h1, h2⟩ := h
  exact ⟨sa, cap, h1, h2.imp id fun ⟨b, off, h3, h5, h4⟩ => ⟨b, off, h3, h5, h4.keep x⟩⟩
theorem CVL.le {w : World} {lo lo' : Nat} {v : Value} {cs : List C3} (h : CVL w lo v cs) (hl : lo' ≤ lo) : CVL w lo' v cs := by
  obtain ⟨sa, cap, h1, h2⟩ := h
  exact ⟨sa, cap, h1, h2.imp id fun ⟨b, off, h3, h5, h4⟩ => ⟨b, off, h3, Nat.le_trans hl h5, h4⟩⟩
theorem CVL.far {w : World} {lo b o : Nat} {v u : Value} {cs : List C3} (h : CVL w lo v cs) (hb : b < lo) : CVL (w.setCell ⟨b, o, none⟩ u) lo v cs := by
  obtain ⟨sa, cap, h1, h2⟩ := h
  refine ⟨sa, cap, h1, h2.imp id fun ⟨c, off, h3, h5, h4⟩ => ⟨c, off, h3, h5, ?_⟩⟩
  have hk : (w.setCell ⟨b, o, none⟩ u).heap[c]? = w.heap[c]? := Below.heap_setCell _ _ _ _ (by show c ≠ b; omega)
  have hc : ∀ {q x}, w.cell? ⟨c, q, none⟩ = some x → (w.setCell ⟨b, o, none⟩ u).cell? ⟨c, q, none⟩ = some x := fun {q x} hx => (World.cell?_of_block (w := w) (a := ⟨c, q, none⟩) hk).trans hx
  exact fun j hj => ⟨hc (h4 j hj).1, hc (h4 j hj).2.1, hc (h4 j hj).2.2⟩
theorem CRow.set {w : World} {g off : Nat} {cs : List C3} (h : CRow w g off cs) (i : Nat) (hi : i < cs.length) (t : C3) :
    CRow (((w.setCell ⟨g, off + i * 3, none⟩ (.int .i64 t.1)).setCell ⟨g, off + i * 3 + 1, none⟩ (.float .f64 t.2.1)).setCell ⟨g, off + i * 3 + 2, none⟩ (.float .f64 t.2.2)) g off (cs.set i t) := fun j hj => by
  rw [List.length_set] at hj
  have e0 : (cs.set i t).getD j k0 = if i = j then t else cs.getD j k0 := by
    rw [List.getD_eq_getElem?_getD, List.getElem?_set, List.getD_eq_getElem?_getD]
    by_cases e : i = j
    · subst e; simp [hi]
    · simp [e]
  rw [e0]
  obtain ⟨a, b, c⟩ := h j hj
  by_cases e : i = j
  · subst e
    rw [if_pos rfl]
    exact ⟨near (by omega) (near (by omega) (World.cell?_setCell_same _ _ _ a)), near (by omega) (World.cell?_setCell_same _ _ _ (near (by omega) b)), World.cell?_setCell_same _ _ _ (near (by omega) (near (by omega) c))⟩
  · rw [if_neg e]
    exact ⟨near (by omega) (near (by omega) (near (by omega) a)), near (by omega) (near (by omega) (near (by omega) b)), near (by omega) (near (by omega) (near (by omega) c))⟩
/-- The first k are in, the rest is zero. -/
def fillD {α : Type} (d : α) (xs : List α) (k : Nat) : List α := xs.take k ++ List.replicate (xs.length - k) d
theorem fillD_len {α : Type} (d : α) (xs : List α) (k : Nat) : (fillD d xs k).length = xs.length := by
  unfold fillD; simp; omega
theorem fillD_set {α : Type} (d : α) (xs : List α) (k : Nat) (hk : k < xs.length) : (fillD d xs k).set k (xs.getD k d) = fillD d xs (k + 1) := by
  unfold fillD
  apply List.ext_getElem?
  intro j
  simp only [List.getElem?_set, List.getElem?_append, List.length_append, List.length_take, List.length_replicate, List.getElem?_take, List.getElem?_replicate, List.getD_eq_getElem?_getD]
  by_cases e : k = j
  · subst e
    have h1 : min k xs.length = k := by omega
    have h2 : min (k + 1) xs.length = k + 1 := by omega
    simp [h1, h2, hk]
    omega
  · have h1 : min k xs.length = k := by omega
    have h2 : min (k + 1) xs.length = k + 1 := by omega
    simp only [h1, h2, e, if_false]
    by_cases h : j < k
    · have : j < k + 1 := by omega
      simp [h, this]
    · have h3 : ¬ j < k + 1 := by omega
      simp only [h, h3, if_false]
      by_cases h4 : j - k < xs.length - k
      · have : j - (k + 1) < xs.length - (k + 1) := by omega
        simp [h4, this]
      · have : ¬ j - (k + 1) < xs.length - (k + 1) := by omega
        simp [h4, this]
theorem fillD_zero {α : Type} (d : α) (xs : List α) : fillD d xs 0 = List.replicate xs.length d := by unfold fillD; simp
theorem fillD_full {α : Type} (d : α) (xs : List α) : fillD d xs xs.length = xs := by unfold fillD; simp
theorem crow_new (w : World) (n : Nat) (t : TypeId) : CRow (w.alloc (.cells (madeCells #[.int .i64 0, .float .f64 0, .float .f64 0] (n * 3)) t)) w.heap.size 0 (List.replicate n k0) := by
  intro j hj
  rw [List.length_replicate] at hj
  have e : (List.replicate n k0).getD j k0 = k0 := by simp [List.getD_eq_getElem?_getD, hj]
  rw [e]
  have hc := fun o => cell_of_row _ w.heap.size o _ t (0, 0) (heap_alloc_new w (.cells (madeCells #[.int .i64 0, .float .f64 0, .float .f64 0] (n * 3)) t))
  have l0 : 0 + j * 3 < n * 3 := by omega
  have l1 : 0 + j * 3 + 1 < n * 3 := by omega
  have l2 : 0 + j * 3 + 2 < n * 3 := by omega
  refine ⟨(hc _).trans ?_, (hc _).trans ?_, (hc _).trans ?_⟩
  · simp only [madeCells]
    rw [Array.getElem?_map, Array.getElem?_range, if_pos l0]
    simp [k0]
  · simp only [madeCells]
    rw [Array.getElem?_map, Array.getElem?_range, if_pos l1]
    simp [k0]
  · simp only [madeCells]
    rw [Array.getElem?_map, Array.getElem?_range, if_pos l2]
    simp [k0]
/-- Values as Go has them. -/
def CG (cs : List C3) : Prop := ∀ c ∈ cs, I64 c.1 ∧ B64 c.2.1 ∧ B64 c.2.2
theorem CG.at {cs : List C3} (h : CG cs) (j : Nat) (hj : j < cs.length) : I64 (cs.getD j k0).1 ∧ B64 (cs.getD j k0).2.1 ∧ B64 (cs.getD j k0).2.2 := by
  rw [List.getD_eq_getElem?_getD, List.getElem?_eq_getElem hj]
  exact h _ (List.getElem_mem hj)
/-- A store: its dtype and its cells. -/
abbrev St := Int × List C3
def s0 : St := (0, [])
def SRow (w : World) (b off : Nat) (ss : List St) : Prop := ∀ j, j < ss.length → w.cell? ⟨b, off + j * 2, none⟩ = some (.int .i64 (ss.getD j s0).1) ∧ ∃ u, w.cell? ⟨b, off + j * 2 + 1, none⟩ = some u ∧ CV w u (ss.getD j s0).2
def SRowL (w : World) (lo b off : Nat) (ss : List St) : Prop := ∀ j, j < ss.length → w.cell? ⟨b, off + j * 2, none⟩ = some (.int .i64 (ss.getD j s0).1) ∧ ∃ u, w.cell? ⟨b, off + j * 2 + 1, none⟩ = some u ∧ CVL w lo u (ss.getD j s0).2
def SV (w : World) (v : Value) (ss : List St) : Prop := ∃ sa cap, v = .slice sa ss.length cap ∧ (ss = [] ∨ ∃ b off, sa = some ⟨b, off, none⟩ ∧ SRow w b off ss)
theorem SRowL.srow {w : World} {lo b off : Nat} {ss : List St} (h : SRowL w lo b off ss) : SRow w b off ss := fun j hj => by
  obtain ⟨h1, u, h2, h3⟩ := h j hj
  exact ⟨h1, u, h2, h3.cv⟩
theorem SRow.keep {w w' : World} {b off : Nat} {ss : List St} (h : SRow w b off ss) (x : Bel w w') : SRow w' b off ss := fun j hj => by
  obtain ⟨h1, u, h2, h3⟩ := h j hj
  exact ⟨x.box h1, u, x.box h2, h3.keep x⟩
theorem SRowL.keep {w w' : World} {lo b off : Nat} {ss : List St} (h : SRowL w lo b off ss) (x : Bel w w') : SRowL w' lo b off ss := fun j hj => by
  obtain ⟨h1, u, h2, h3⟩ := h j hj
  exact ⟨x.box h1, u, x.box h2, h3.keep x⟩
theorem SV.keep {w w' : World} {v : Value} {ss : List St} (h : SV w v ss) (x : Bel w w') : SV w' v ss := by
  obtain ⟨sa, cap, h1, h2⟩ := h
  exact ⟨sa, cap, h1, h2.imp id fun ⟨b, off, h3, h4⟩ => ⟨b, off, h3, h4.keep x⟩⟩
theorem SRowL.set {w : World} {lo b off : Nat} {ss : List St} (h : SRowL w lo b off ss) (hb : b < lo) (i : Nat) (hi : i < ss.length) (dt : Int) (u : Value) (cs : List C3) (hu : CVL w lo u cs) :
    SRowL ((w.setCell ⟨b, off + i * 2, none⟩ (.int .i64 dt)).setCell ⟨b, off + i * 2 + 1, none⟩ u) lo b off (ss.set i (dt, cs)) := fun j hj => by
  rw [List.length_set] at hj
  have e0 : (ss.set i (dt, cs)).getD j s0 = if i = j then (dt, cs) else ss.getD j s0 := by
    rw [List.getD_eq_getElem?_getD, List.getElem?_set, List.getD_eq_getElem?_getD]
    by_cases e : i = j
    · subst e; simp [hi]
    · simp [e]
  rw [e0]
  obtain ⟨a, u', c, d⟩ := h j hj
  by_cases e : i = j
  · subst e
    rw [if_pos rfl]
    exact ⟨near (by omega) (World.cell?_setCell_same _ _ _ a), u, World.cell?_setCell_same _ _ _ (near (by omega) c), (hu.far hb).far hb⟩
  · rw [if_neg e]
    exact ⟨near (by omega) (near (by omega) a), u', near (by omega) (near (by omega) c), (d.far hb).far hb⟩
theorem SRowL.far {w : World} {lo b off c o : Nat} {u : Value} {ss : List St} (h : SRowL w lo b off ss) (hc : c ≠ b) (hl : c < lo) : SRowL (w.setCell ⟨c, o, none⟩ u) lo b off ss := fun j hj => by
  have hk : (w.setCell ⟨c, o, none⟩ u).heap[b]? = w.heap[b]? := Below.heap_setCell _ _ _ _ (by show b ≠ c; omega)
  have hcc : ∀ {q x}, w.cell? ⟨b, q, none⟩ = some x → (w.setCell ⟨c, o, none⟩ u).cell? ⟨b, q, none⟩ = some x := fun {q x} hx => (World.cell?_of_block (w := w) (a := ⟨b, q, none⟩) hk).trans hx
  obtain ⟨h1, v, h2, h3⟩ := h j hj
  exact ⟨hcc h1, v, hcc h2, h3.far hl⟩
theorem srow_new (w : World) (lo n : Nat) (t : TypeId) : SRowL (w.alloc (.cells (madeCells #[.int .i64 0, .slice none 0 0] (n * 2)) t)) lo w.heap.size 0 (List.replicate n s0) := by
  intro j hj
  rw [List.length_replicate] at hj
  have e : (List.replicate n s0).getD j s0 = s0 := by simp [List.getD_eq_getElem?_getD, hj]
  rw [e]
  have hc := fun o => cell_of_row _ w.heap.size o _ t (0, 0) (heap_alloc_new w (.cells (madeCells #[.int .i64 0, .slice none 0 0] (n * 2)) t))
  have l0 : 0 + j * 2 < n * 2 := by omega
  have l1 : 0 + j * 2 + 1 < n * 2 := by omega
  refine ⟨(hc _).trans ?_, .slice none 0 0, (hc _).trans ?_, ⟨none, 0, rfl, Or.inl rfl⟩⟩
  · simp only [madeCells]
    rw [Array.getElem?_map, Array.getElem?_range, if_pos l0]
    simp [s0]
  · simp only [madeCells]
    rw [Array.getElem?_map, Array.getElem?_range, if_pos l1]
    simp
theorem SRowL.sv {w : World} {lo b n cap : Nat} {ss : List St} (h : SRowL w lo b 0 ss) (hn : n = ss.length) : SV w (.slice (some ⟨b, 0, none⟩) n cap) ss := ⟨_, _, by rw [hn], Or.inr ⟨b, 0, rfl, h.srow⟩⟩
def SG (ss : List St) : Prop := ∀ s ∈ ss, CG s.2
theorem SG.at {ss : List St} (h : SG ss) (j : Nat) (hj : j < ss.length) : CG (ss.getD j s0).2 := by
  rw [List.getD_eq_getElem?_getD, List.getElem?_eq_getElem hj]
  exact h _ (List.getElem_mem hj)
/-- Few enough. -/
def SL (ss : List St) (n : Nat) : Prop := ss.length ≤ n ∧ ∀ s ∈ ss, s.2.length ≤ n
theorem SL.at {ss : List St} {n : Nat} (h : SL ss n) (j : Nat) (hj : j < ss.length) : (ss.getD j s0).2.length ≤ n := by
  rw [List.getD_eq_getElem?_getD, List.getElem?_eq_getElem hj]
  exact h.2 _ (List.getElem_mem hj)
def vStore (s : St) : Bool := isDtB s.1 && decide (s.2.length ≤ 4096) && s.2.all fun c => validB s.1 c.1 c.2.1 c.2.2
def vHeap (ss : List St) : Bool := decide (ss.length ≤ 64) && ss.all vStore
theorem all_no {α : Type} (d : α) {p : α → Bool} {xs : List α} {k : Nat} (hk : k < xs.length) (h : p (xs.getD k d) = false) : xs.all p = false := by
  rw [List.all_eq_false]
  refine ⟨xs.getD k d, ?_, by rw [h]; simp⟩
  rw [List.getD_eq_getElem?_getD, List.getElem?_eq_getElem hk]
  exact List.getElem_mem hk
theorem all_yes {α : Type} (d : α) {p : α → Bool} {xs : List α} (h : ∀ j, j < xs.length → p (xs.getD j d) = true) : xs.all p = true := by
  rw [List.all_eq_true]
  intro x hx
  obtain ⟨j, hj, rfl⟩ := List.getElem_of_mem hx
  have := h j hj
  rw [List.getD_eq_getElem?_getD, List.getElem?_eq_getElem hj] at this
  exact this
end Go.Proofs.Ytanbgpmbccianaa
namespace Go.Proofs.Ytanbgpmbccianaa
open Go.ChangeShapes Go.RowKit
set_option linter.unusedSimpArgs false
set_option linter.unusedVariables false

end Go.Proofs.Ytanbgpmbccianaa
namespace Go.Proofs.Ytanbgpmbccianaa
open Go.ChangeShapes Go.RowKit
set_option linter.unusedSimpArgs false
set_option linter.unusedVariables false

end Go.Proofs.Ytanbgpmbccianaa
namespace Go.Proofs.Ytanbgpmbccianaa
open Go.ChangeShapes Go.RowKit
set_option linter.unusedSimpArgs false
set_option linter.unusedVariables false

end Go.Proofs.Ytanbgpmbccianaa
namespace Go.Proofs.Ytanbgpmbccianaa
open Go.RowKit FL
set_option linter.unusedSimpArgs false
set_option linter.unusedVariables false

theorem same_zero (f : Nat) (h : B64 f) : sameB f 0 = pzB f := by
  unfold B64 at h
  unfold sameB pzB
  rw [nan_zero]
  cases e : nanD f
  · simp
  · have := (nanD_iff f).1 e
    have h0 : f ≠ 0 := by omega
    simp [h0]
theorem same_self (f : Nat) : sameB f f = true := by
  unfold sameB; cases nanD f <;> simp
theorem same_single (f r : Nat) (hf : B64 f) (h : SingleR f r) : sameB r f = sngB f := by
  cases hs : sngB f
  · have h1 := singR_not hf h hs
    unfold sameB
    rw [h1.1]
    cases hr : nanD r
    · have : r ≠ f := fun e => by
        have h2 := h1.2
        rw [e, feq_self, h1.1] at h2; cases h2
      simp [this]
    · simp
  · rcases singR_same h hs with ⟨h1, h2⟩ | ⟨h1, h2⟩
    · unfold sameB; rw [h1, h2]; rfl
    · rw [h2]; exact same_self f
theorem B64_single {f r : Nat} (h : SingleR f r) : B64 r := h.1
theorem B64_0 : B64 0 := by unfold B64; omega

end Go.Proofs.Ytanbgpmbccianaa
namespace Go.Proofs.Ytanbgpmbccianaa
open Go.ChangeShapes Go.RowKit FL
set_option linter.unusedSimpArgs false
set_option linter.unusedVariables false
def cellB (dt : Int) (c : C3) : Bool := validB dt c.1 c.2.1 c.2.2
theorem vStore_eq (dt : Int) (cs : List C3) : vStore (dt, cs) = (isDtB dt && decide (cs.length ≤ 4096) && cs.all (cellB dt)) := rfl

set_option maxRecDepth 100000 in
set_option maxHeartbeats 1000000 in
theorem validStore_any {w : World} {v : Value} {cs : List C3} (dt : Int) (h : CV w v cs) (hg : CG cs) (hl : cs.length ≤ 1048576) :
    Calls Try.prog 40 #[.agg #[.int .i64 dt, v]] w fun e w' => e = .returned (.bool (vStore (dt, cs))) ∧ Ext w w' := by
  rw [vStore_eq]
  obtain ⟨sa, cap, rfl, hx⟩ := h
  have x0 : Hid (Ext w (w.alloc (.cells #[.int .i64 dt, .slice sa cs.length cap] 33))) := (Ext.refl w).alloc _ _
  have HX := hide hx
  clear hx
  cases hd : isDtB dt with
  | false =>
    have Hd := hide hd
    clear hd
    go_enter Try.func40, Try.ntmps40
    go_wp2_with (go_at_call 44; refine (isDType_any _ _).mono ?_; rintro e w' ⟨rfl, rfl⟩; rw [Hd.out])
    go_ret
    exact ⟨rfl, x0.out⟩
  | true =>
    have Hd := hide hd
    clear hd
    by_cases h4 : cs.length ≤ 4096
    · have h4' : ¬ (4096 : Int) < (cs.length : Int) := by omega
      have hd4 : Hid ((true && decide (cs.length ≤ 4096) && cs.all (cellB dt)) = cs.all (cellB dt)) := by show (_ : Bool) = _; simp [h4]
      rw [hd4.out]
      go_enter Try.func40, Try.ntmps40
      go_wp2_with (go_at_call 44; refine (isDType_any _ _).mono ?_; rintro e w' ⟨rfl, rfl⟩; rw [Hd.out])
      generalize hW1 : w.alloc (.cells #[.int .i64 dt, .slice sa cs.length cap] 33) = W1 at x0 ⊢
      have D0 : Hid (W1.cell? ⟨w.heap.size, 0, none⟩ = some (.int .i64 dt)) := by show W1.cell? _ = _; rw [← hW1]; exact new_cell w _ 33 _ rfl 0
      clear hW1
      go_loopw [18] (fun i wr => ∃ k : Nat, i = .int .i64 k ∧ k ≤ cs.length ∧ Hid (∀ j, j < k → cellB dt (cs.getD j k0) = true) ∧ Ext W1 wr) (fun i _ => cs.length - (intOf i).toNat)
      case atStart => exact ⟨0, rfl, by omega, fun j hj => absurd hj (Nat.not_lt_zero _), Ext.refl W1⟩
      case round =>
        obtain ⟨k, rfl, hk, hv, hw⟩ := hrel
        have HW := hide hw
        clear hw
        by_cases hlt : k < cs.length
        · rcases HX.out with h0 | ⟨b, off, rfl, hrow⟩
          · rw [h0] at hlt; simp at hlt
          have xx := x0.out.trans HW.out
          have q0 := xx.box (hrow k hlt).1
          have q1 := xx.box (hrow k hlt).2.1
          have q2 := xx.box (hrow k hlt).2.2
          have dd := HW.out.box D0.out
          have hgk := hg.at k hlt
          have hk0 : (0 : Int) ≤ (k : Int) := Int.natCast_nonneg _
          have hk1 : (k : Int) < (cs.length : Int) := by omega
          have hcb : Hid (cellB dt (cs.getD k k0) = validB dt (cs.getD k k0).1 (cs.getD k k0).2.1 (cs.getD k k0).2.2) := rfl
          generalize hA : (cs.getD k k0).1 = A at q0 hgk hcb
          generalize hB : (cs.getD k k0).2.1 = B at q1 hgk hcb
          generalize hC : (cs.getD k k0).2.2 = C at q2 hgk hcb
          have HG := hide hgk
          clear hrow hgk hA hB hC xx
          have dd' := ((Ext.refl wr).alloc #[.int .i64 A, .float .f64 B, .float .f64 C] 39).box dd
          have hva := hide (iValid_any dt A B C HG.out.1 HG.out.2.1 HG.out.2.2 (wr.alloc (.cells #[.int .i64 A, .float .f64 B, .float .f64 C] 39)))
          cases hvb : validB dt A B C with
          | true =>
            rw [hvb] at hva hcb
            go_wp2_with (go_at_call 45; refine hva.out.mono ?_; rintro e w2 ⟨rfl, x2⟩; have HW2 := hide ((HW.out.alloc #[.int .i64 A, .float .f64 B, .float .f64 C] 39).trans x2); clear x2)
            go_roundw
            · refine ⟨k + 1, by go_num, by omega, fun j hj => ?_, HW2.out⟩
              by_cases e : j = k
              · rw [e]; exact hcb.out
              · exact hv.out j (by omega)
            · simp [intOf]; omega
          | false =>
            rw [hvb] at hva hcb
            go_wp2_with (go_at_call 45; refine hva.out.mono ?_; rintro e w2 ⟨rfl, x2⟩; have HW2 := hide ((HW.out.alloc #[.int .i64 A, .float .f64 B, .float .f64 C] 39).trans x2); clear x2)
            go_ret
            rw [all_no k0 hlt hcb.out]
            exact ⟨rfl, x0.out.trans HW2.out⟩
        · have hkk : k = cs.length := by omega
          subst hkk
          go_wp2
          go_ret
          rw [all_yes k0 hv.out]
          exact ⟨rfl, x0.out.trans HW.out⟩
    · have h4' : (4096 : Int) < (cs.length : Int) := by omega
      have hd4 : Hid ((true && decide (cs.length ≤ 4096) && cs.all (cellB dt)) = false) := by show (_ : Bool) = _; simp [h4]
      rw [hd4.out]
      go_enter Try.func40, Try.ntmps40
      go_wp2_with (go_at_call 44; refine (isDType_any _ _).mono ?_; rintro e w' ⟨rfl, rfl⟩; rw [Hd.out])
      go_ret
      exact ⟨rfl, x0.out⟩

set_option maxRecDepth 100000 in
set_option maxHeartbeats 1000000 in
theorem iVH_any {w : World} {v : Value} {ss : List St} (h : SV w v ss) (hg : SG ss) (hl : SL ss 1048576) :
    Calls Try.prog 34 #[.agg #[v]] w fun e w' => e = .returned (.bool (vHeap ss)) ∧ Ext w w' := by
  unfold vHeap
  obtain ⟨sa, cap, rfl, hx⟩ := h
  have x0 : Hid (Ext w (w.alloc (.cells #[.slice sa ss.length cap] 36))) := (Ext.refl w).alloc _ _
  have HX := hide hx
  have hl1 := hl.1
  clear hx
  by_cases h4 : ss.length ≤ 64
  · have h4' : ¬ (64 : Int) < (ss.length : Int) := by omega
    have hd4 : Hid ((decide (ss.length ≤ 64) && ss.all vStore) = ss.all vStore) := by show (_ : Bool) = _; simp [h4]
    rw [hd4.out]
    go_enter Try.func34, Try.ntmps34
    go_wp2_with fail
    generalize hW1 : w.alloc (.cells #[.slice sa ss.length cap] 36) = W1 at x0 ⊢
    clear hW1
    go_loopw [12] (fun i wr => ∃ k : Nat, i = .int .i64 k ∧ k ≤ ss.length ∧ Hid (∀ j, j < k → vStore (ss.getD j s0) = true) ∧ Ext w wr) (fun i _ => ss.length - (intOf i).toNat)
    case atStart => exact ⟨0, rfl, by omega, fun j hj => absurd hj (Nat.not_lt_zero _), x0.out⟩
    case round =>
      obtain ⟨k, rfl, hk, hv, hw⟩ := hrel
      have HW := hide hw
      clear hw
      by_cases hlt : k < ss.length
      · rcases HX.out with h0 | ⟨b, off, rfl, hrow⟩
        · rw [h0] at hlt; simp at hlt
        obtain ⟨q0, u, q1, c1⟩ := (hrow.keep HW.out.bl) k hlt
        have hgk := hg.at k hlt
        have hlk := hl.at k hlt
        have hk0 : (0 : Int) ≤ (k : Int) := Int.natCast_nonneg _
        have hk1 : (k : Int) < (ss.length : Int) := by omega
        have C1 := hide c1
        have hcb : Hid (vStore (ss.getD k s0) = vStore ((ss.getD k s0).1, (ss.getD k s0).2)) := rfl
        generalize (ss.getD k s0).1 = A at q0 hcb
        generalize (ss.getD k s0).2 = cs at C1 hgk hlk hcb
        clear hrow c1
        obtain ⟨s1, d1, rfl, _⟩ := C1.out
        have xa : Ext wr (wr.alloc (.cells #[.int .i64 A, .slice s1 cs.length d1] 33)) := (Ext.refl wr).alloc _ _
        have hva := hide (validStore_any A (C1.out.keep xa.bl) hgk hlk)
        have HWa := hide (HW.out.trans xa)
        clear xa
        cases hvb : vStore (A, cs) with
        | true =>
          rw [hvb] at hva hcb
          go_wp2_with (go_at_call 40; refine hva.out.mono ?_; rintro e w2 ⟨rfl, x2⟩; have HW2 := hide (HWa.out.trans x2); clear x2)
          go_roundw
          · refine ⟨k + 1, by go_num, by omega, fun j hj => ?_, HW2.out⟩
            by_cases e : j = k
            · rw [e]; exact hcb.out
            · exact hv.out j (by omega)
          · simp [intOf]; omega
        | false =>
          rw [hvb] at hva hcb
          go_wp2_with (go_at_call 40; refine hva.out.mono ?_; rintro e w2 ⟨rfl, x2⟩; have HW2 := hide (HWa.out.trans x2); clear x2)
          go_ret
          rw [all_no s0 hlt hcb.out]
          exact ⟨rfl, HW2.out⟩
      · have hkk : k = ss.length := by omega
        subst hkk
        go_wp2
        go_ret
        rw [all_yes s0 hv.out]
        exact ⟨rfl, HW.out⟩
  · have h4' : (64 : Int) < (ss.length : Int) := by omega
    have hd4 : Hid ((decide (ss.length ≤ 64) && ss.all vStore) = false) := by show (_ : Bool) = _; simp [h4]
    rw [hd4.out]
    go_enter Try.func34, Try.ntmps34
    go_wp2
    go_ret
    exact ⟨rfl, x0.out⟩

end Go.Proofs.Ytanbgpmbccianaa
namespace Go.Proofs.Ytanbgpmbccianaa
open Go.ChangeShapes Go.RowKit FL
set_option linter.unusedSimpArgs false
set_option linter.unusedVariables false
/-- An array that is good in a heap. -/
abbrev GoodA (ss : List St) (st : Int) (xs sv : List Int) (off : Int) : Prop := (0 ≤ st ∧ st < ss.length) ∧ ValidV xs sv off ∧ ∀ p ∈ offsL xs sv off, p < ((ss.getD st.toNat s0).2.length : Int)
def dcGoodA (ss : List St) (st : Int) (xs sv : List Int) (off : Int) : Bool := decide (GoodA ss st xs sv off)
theorem dcGoodA_t {ss : List St} {st : Int} {xs sv : List Int} {off : Int} (h : GoodA ss st xs sv off) : dcGoodA ss st xs sv off = true := decide_eq_true h
theorem dcGoodA_f {ss : List St} {st : Int} {xs sv : List Int} {off : Int} (h : ¬ GoodA ss st xs sv off) : dcGoodA ss st xs sv off = false := decide_eq_false h
end Go.Proofs.Ytanbgpmbccianaa
namespace Go.Proofs.Ytanbgpmbccianaa
open Go.ChangeShapes Go.RowKit FL
set_option linter.unusedSimpArgs false
set_option linter.unusedVariables false

end Go.Proofs.Ytanbgpmbccianaa
namespace Go.Proofs.Ytanbgpmbccianaa
open Go.ChangeShapes Go.RowKit
set_option linter.unusedSimpArgs false
set_option linter.unusedVariables false
def inN (xs ss : List Int) (off N : Int) : Bool := decide (prod xs = 0 ∨ (0 ≤ least xs ss off ∧ most xs ss off < N))

set_option maxRecDepth 100000 in
set_option maxHeartbeats 2000000 in
theorem within_n (N : Int) (hN : 0 ≤ N ∧ N ≤ 1048576) (w : World) (xs ss : List Int) (off : Int) (h4 : xs.length ≤ 4) (hr : InR xs xs.length) (hl : ss.length = xs.length) (hs : InS ss ss.length) (ho : 0 ≤ off ∧ off ≤ 4096) :
    Calls Try.prog 30 #[.agg (vw xs ss off), .int .i64 N] w fun e w' => e = .returned (.bool (inN xs ss off N)) ∧ Ext w w' := by
  have hcnt := hide (fun W => count_any W xs h4 hr)
  have x0 : Ext w ((w.alloc (.cells (vw xs ss off) 58)).alloc (.cells (shp xs) 56)) := ((Ext.refl w).alloc _ _).alloc _ _
  have y0 : Ext (w.alloc (.cells (vw xs ss off) 58)) ((w.alloc (.cells (vw xs ss off) 58)).alloc (.cells (shp xs) 56)) := (Ext.refl _).alloc _ _
  have n1 := fun j => new_cell w (vw xs ss off) 58 w.heap.size rfl j
  have f0 := y0.box (n1 0)
  have f9 := y0.box (n1 9)
  have fl : ∀ j, j < 4 → ((w.alloc (.cells (vw xs ss off) 58)).alloc (.cells (shp xs) 56)).cell? ⟨w.heap.size, 1 + j, none⟩ = some (.int .i64 (xs.getD j 0)) := fun j hj => by
    obtain rfl | rfl | rfl | rfl : j = 0 ∨ j = 1 ∨ j = 2 ∨ j = 3 := by omega
    exact y0.box (n1 1)
    exact y0.box (n1 2)
    exact y0.box (n1 3)
    exact y0.box (n1 4)
  have fs : ∀ j, j < 4 → ((w.alloc (.cells (vw xs ss off) 58)).alloc (.cells (shp xs) 56)).cell? ⟨w.heap.size, 5 + j, none⟩ = some (.int .i64 (ss.getD j 0)) := fun j hj => by
    obtain rfl | rfl | rfl | rfl : j = 0 ∨ j = 1 ∨ j = 2 ∨ j = 3 := by omega
    exact y0.box (n1 5)
    exact y0.box (n1 6)
    exact y0.box (n1 7)
    exact y0.box (n1 8)
  have X0 := hide x0
  have FL := hide fl
  have FxS' := hide fs
  clear x0 y0 n1 fl fs
  unfold shp vw at *
  generalize xs.getD 0 0 = a0 at *
  generalize xs.getD 1 0 = a1 at *
  generalize xs.getD 2 0 = a2 at *
  generalize xs.getD 3 0 = a3 at *
  generalize ss.getD 0 0 = b0 at *
  generalize ss.getD 1 0 = b1 at *
  generalize ss.getD 2 0 = b2 at *
  generalize ss.getD 3 0 = b3 at *
  have h4' : (xs.length : Int) ≤ 4 := by omega
  have Hl := hide hl
  have HR := hide hr
  have HS := hide hs
  clear hl hr hs
  go_enter Try.func30, Try.ntmps30
  go_wp2_with fail
  refine (hcnt.out _).mono ?_
  rintro e w1 ⟨rfl, rfl⟩
  by_cases hp : prod xs = 0
  · have hyes : Hid (inN xs ss off N = true) := decide_eq_true (Or.inl hp)
    rw [hp]
    go_wp2
    go_ret
    exact ⟨ret_bool hyes.out.symm, X0.out⟩
  · have hpn : (prod xs == 0) = false := by simp [hp]
    have hin : Hid (inN xs ss off N = decide (0 ≤ least xs ss off ∧ most xs ss off < N)) := decide_eq_decide.2 ⟨fun q => q.resolve_left hp, Or.inr⟩
    generalize prod xs = P at hpn ⊢
    go_wp2_with fail
    generalize hW1 : (w.alloc (.cells #[.int .i64 xs.length, .int .i64 a0, .int .i64 a1, .int .i64 a2, .int .i64 a3, .int .i64 b0, .int .i64 b1, .int .i64 b2, .int .i64 b3, .int .i64 off] 58)).alloc (.cells #[.int .i64 xs.length, .int .i64 a0, .int .i64 a1, .int .i64 a2, .int .i64 a3] 56) = W1 at X0 FL FxS' f0 f9 ⊢
    clear hW1
    have g0 : W1.cell? ⟨w.heap.size, 0, none⟩ = some (.int .i64 xs.length) := f0
    have g9 : W1.cell? ⟨w.heap.size, 9, none⟩ = some (.int .i64 off) := f9
    clear f0 f9
    go_region
    all_goals go_wp2
    go_loopw [5, 6, 24] (fun a b i wr => ∃ k : Nat, i = .int .i64 k ∧ a = .int .i64 (least (xs.take k) (ss.take k) off) ∧ b = .int .i64 (most (xs.take k) (ss.take k) off) ∧ k ≤ xs.length ∧ Ext W1 wr) (fun a b i _ => xs.length - (intOf i).toNat)
    case atStart => exact ⟨0, rfl, by simp [least], by simp [most], by omega, (Ext.refl W1).drew⟩
    case round =>
      obtain ⟨k, rfl, rfl, rfl, hk, hx⟩ := hrel
      have HX := hide hx
      clear hx
      have hb := ends_bd xs ss off Hl.out HR.out HS.out ho k hk
      have hk4 : (k : Int) * 16777216 ≤ 67108864 := by omega
      by_cases hlt : k < xs.length
      · have q0 := HX.out.box (FL.out k (by omega))
        have q1 := HX.out.box (FxS'.out k (by omega))
        have hk0 : (0 : Int) ≤ (k : Int) := Int.natCast_nonneg _
        have hk1 : (k : Int) < (xs.length : Int) := by omega
        have hk44 : (k : Int) < 4 := by omega
        have hlt1 := least_take xs ss off k hlt Hl.out
        have hmt1 := most_take xs ss off k hlt Hl.out
        have hfar := far_bd (HR.out k hlt) (HS.out k (by have := Hl.out; omega))
        have hnr := HR.out k hlt
        generalize xs.getD k 0 = n at q0 hlt1 hmt1 hfar hnr
        generalize ss.getD k 0 = s at q1 hlt1 hmt1 hfar
        generalize hA : least (xs.take (k + 1)) (ss.take (k + 1)) off = A at hlt1
        generalize hB : most (xs.take (k + 1)) (ss.take (k + 1)) off = B at hmt1
        generalize least (xs.take k) (ss.take k) off = a at hlt1 hb ⊢
        generalize most (xs.take k) (ss.take k) off = b at hmt1 hb ⊢
        have HA := hide hA
        have HB := hide hB
        clear hA hB
        subst hlt1
        subst hmt1
        go_wp2
        refine ⟨⟨k + 1, by go_num, ?_, ?_, by omega, HX.out⟩, by simp [intOf]; omega⟩
        · rw [HA.out]
          have e : (if 0 < s * (n - 1) then 0 else s * (n - 1)) = min (s * (n - 1)) 0 := by split <;> omega
          rw [e]
        · rw [HB.out]
          have e : (if s * (n - 1) < 0 then 0 else s * (n - 1)) = max (s * (n - 1)) 0 := by split <;> omega
          rw [e]
      · have hkk : k = xs.length := by omega
        subst hkk
        have e1 : xs.take xs.length = xs := List.take_length
        have e2 : ss.take xs.length = ss := List.take_of_length_le (by have := Hl.out; omega)
        rw [e1, e2]
        clear hb e1 e2
        generalize least xs ss off = a at hin ⊢
        generalize most xs ss off = b at hin ⊢
        by_cases ha : 0 ≤ a
        · by_cases hb : b < N
          · have hv : Hid (inN xs ss off N = true) := by show inN xs ss off N = true; rw [hin.out]; exact decide_eq_true ⟨ha, hb⟩
            go_wp2
            go_ret
            exact ⟨by rw [hv.out]; first | rfl | simp [ha, hb], X0.out.trans HX.out⟩
          · have hv : Hid (inN xs ss off N = false) := by show inN xs ss off N = false; rw [hin.out]; exact decide_eq_false (fun q => hb q.2)
            go_wp2
            go_ret
            exact ⟨by rw [hv.out]; first | rfl | simp [ha, hb], X0.out.trans HX.out⟩
        · have hv : Hid (inN xs ss off N = false) := by show inN xs ss off N = false; rw [hin.out]; exact decide_eq_false (fun q => ha q.1)
          go_wp2
          go_ret
          exact ⟨by rw [hv.out]; first | rfl | simp [ha], X0.out.trans HX.out⟩
end Go.Proofs.Ytanbgpmbccianaa
