import Derived.Test.YtdmbpkcjladhdaaGreatDoorFmL
import Derived.ChangeSlices
namespace Go.Proofs.YtdmbpkcjladhdaaGreatDoor
open Go.ChangeShapes Go.RowKit FL Ieee
set_option linter.unusedSimpArgs false
set_option linter.unusedVariables false

theorem add_at (g j : Nat) : (⟨g, 0, none⟩ : Addr).add j = ⟨g, j, none⟩ := by
  by_cases hj : j = 0
  · subst hj; simp [Addr.add]
  · simp [Addr.add, hj]
theorem conv_bytes (L : List UInt8) (W : World) :
    (convert 9 22 (str L)).run Tryz.prog W = .ok (.slice (some ⟨W.heap.size, 0, none⟩) L.length (grownCap W L.length 0 5)) ((W.alloc (.cells (bytesRow ⟨L.toArray⟩ (grownCap W L.length 0 5)) 5 ((bytesRow ⟨L.toArray⟩ (grownCap W L.length 0 5)).size, (bytesRow ⟨L.toArray⟩ (grownCap W L.length 0 5)).size + 1))).drew) :=
  run_bytes_of_string (P := Tryz.prog) W 9 22 5 ⟨L.toArray⟩ Tryz.underlying9 Tryz.underlying22 Tryz.underlying5

/-- The text of a cell, nothing if it is not valid. -/
def fmtT (dt i : Int) (f g : Nat) : List UInt8 := if validB dt i f g = true then cellT dt i f g else []

theorem valid_dt (dt i : Int) (f g : Nat) (h : validB dt i f g = true) : 1 ≤ dt ∧ dt ≤ 9 := by
  unfold validB at h
  by_cases a : 1 ≤ dt ∧ dt ≤ 6
  · omega
  · rw [if_neg a] at h
    by_cases b : dt = 7
    · omega
    · rw [if_neg b] at h
      by_cases c : dt = 8
      · omega
      · rw [if_neg c] at h
        by_cases d : dt = 9
        · omega
        · rw [if_neg d] at h; cases h

theorem cellT_len (dt i : Int) (f g : Nat) (hi : I64 i) (hf : B64 f) (hg : B64 g) : (cellT dt i f g).length ≤ 150 := by
  have l1 := fltT_len f hf
  have l2 := fltT_len g hg
  have l3 := Lib.itoa_length_le i hi.1 hi.2
  unfold cellT
  split
  · omega
  · split
    · simp only [List.length_append, List.length_cons, List.length_nil]; omega
    · omega
theorem fmtT_len (dt i : Int) (f g : Nat) (hi : I64 i) (hf : B64 f) (hg : B64 g) : (fmtT dt i f g).length ≤ 150 := by
  unfold fmtT
  split
  · exact cellT_len dt i f g hi hf hg
  · simp

set_option maxHeartbeats 1000000 in
theorem iFmt_no (B : Nat) (dt i : Int) (f g : Nat) (hi : I64 i) (hf : B64 f) (hg : B64 g) (h : validB dt i f g = false) (w : World) (hB : B ≤ w.heap.size) :
    Calls Tryz.prog 5 #[.int .i64 dt, .agg #[.int .i64 i, .float .f64 f, .float .f64 g]] w fun e w' => ∃ v', e = .returned v' ∧ w'.ownsRow B 5 1 v' 0 [] ∧ Below B w w' := by
  have v := iValid_any dt i f g hi hf hg
  rw [h] at v
  go_enter Tryz.func5, Tryz.ntmps5
  go_wp2_with (go_at_call 11; refine (v _).mono ?_; rintro e w1 ⟨rfl, x1⟩)
  go_ret
  have x0 := ((Ext.refl w).alloc #[.int .i64 i, .float .f64 f, .float .f64 g] 25).trans x1
  refine ⟨_, rfl, ⟨rfl, Or.inr ⟨w1.heap.size, 0, #[], rfl, Nat.le_trans hB x0.bl.size, heap_alloc_new _ _, Nat.le_refl _, Nat.zero_le _, rfl, rfl⟩⟩, (x0.bl.mono hB).alloc (Nat.le_trans hB x0.bl.size) _⟩

set_option maxHeartbeats 1000000 in
theorem iFmt_yes (B : Nat) (dt i : Int) (f g : Nat) (hi : I64 i) (hf : B64 f) (hg : B64 g) (h : validB dt i f g = true) (w : World) (hB : B ≤ w.heap.size) (hT : Tabs B w) :
    Calls Tryz.prog 5 #[.int .i64 dt, .agg #[.int .i64 i, .float .f64 f, .float .f64 g]] w fun e w' => ∃ v', e = .returned v' ∧ w'.ownsRow B 5 1 v' (cellT dt i f g).length (Lib.byteCells (cellT dt i f g)) ∧ Below B w w' := by
  have v := iValid_any dt i f g hi hf hg
  rw [h] at v
  go_enter Tryz.func5, Tryz.ntmps5
  go_wp2_with (go_at_call 11; refine (v _).mono ?_; rintro e w1 ⟨rfl, x1⟩; have b0 := x1.box (b := w.heap.size) (o := 0) (v := .int .i64 i) (by simp); have b1 := x1.box (b := w.heap.size) (o := 1) (v := .float .f64 f) (by simp); have b2 := x1.box (b := w.heap.size) (o := 2) (v := .float .f64 g) (by simp); refine Hid.out ?_)
  refine hide ?_
  have x0 := ((Ext.refl w).alloc #[.int .i64 i, .float .f64 f, .float .f64 g] 25).trans x1
  have hb := x0.bl.mono hB
  have ac := appendCell_any B dt i f g hi hf hg w1 (Nat.le_trans hB x0.bl.size) (hT.on hb)
  go_wp2_with (go_at_call 12; refine ac.mono ?_; rintro e w2 ⟨v2, rfl, hown2, hnx2⟩)
  go_ret
  exact ⟨v2, rfl, hown2, hb.trans hnx2⟩

theorem iFmt_any (B : Nat) (dt i : Int) (f g : Nat) (hi : I64 i) (hf : B64 f) (hg : B64 g) (w : World) (hB : B ≤ w.heap.size) (hT : Tabs B w) :
    Calls Tryz.prog 5 #[.int .i64 dt, .agg #[.int .i64 i, .float .f64 f, .float .f64 g]] w fun e w' => ∃ v', e = .returned v' ∧ w'.ownsRow B 5 1 v' (fmtT dt i f g).length (Lib.byteCells (fmtT dt i f g)) ∧ Below B w w' := by
  unfold fmtT
  cases h : validB dt i f g
  · rw [if_neg (by decide)]; exact iFmt_no B dt i f g hi hf hg h w hB
  · rw [if_pos rfl]; exact iFmt_yes B dt i f g hi hf hg h w hB hT
end Go.Proofs.YtdmbpkcjladhdaaGreatDoor
