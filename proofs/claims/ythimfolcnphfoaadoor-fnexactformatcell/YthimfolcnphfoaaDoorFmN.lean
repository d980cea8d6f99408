import Derived.Test.YthimfolcnphfoaaDoorFmM
import Derived.Deep.RegionHeld3
namespace Go.Proofs.YthimfolcnphfoaaDoor
open Go.ChangeShapes Go.RowKit FL Ieee
set_option linter.unusedSimpArgs false
set_option linter.unusedVariables false

/-- Bytes as integers. -/
def bi (L : List UInt8) : List Int := L.map fun b => (b.toNat : Int)
theorem bi_len (L : List UInt8) : (bi L).length = L.length := by simp [bi]
theorem bi_getD (L : List UInt8) (j : Nat) (hj : j < L.length) : (bi L).getD j 0 = ((L[j]'hj).toNat : Int) := by
  simp [bi, List.getD_eq_getElem?_getD, hj]

theorem add_at (g j : Nat) : (⟨g, 0, none⟩ : Addr).add j = ⟨g, j, none⟩ := by
  by_cases hj : j = 0
  · subst hj; simp [Addr.add]
  · simp [Addr.add, hj]
theorem own_ints {w : World} {B : Nat} {v : Value} {L : List UInt8} (h : w.ownsRow B 5 1 v L.length (Lib.byteCells L)) : Ints w v (bi L) := by
  rcases h.2 with ⟨h1, h2⟩ | ⟨g, cap, cur, rfl, -, -, -⟩
  · exact ⟨none, 0, by rw [h1, bi_len, h2], Or.inl (by rw [List.length_eq_zero_iff.1 h2]; rfl)⟩
  · refine ⟨some ⟨g, 0, none⟩, cap, by rw [bi_len], Or.inr ⟨g, 0, rfl, fun j hj => ?_⟩⟩
    rw [bi_len] at hj
    have := h.cells (g := g) rfl j (.int .u8 ((L[j]'hj).toNat : Int)) (by simp [Lib.byteCells, hj])
    rw [bi_getD L j hj]
    rw [add_at] at this
    rw [Nat.zero_add]; exact this

/-- What '[]byte(text)' leaves. -/
def SOk (w : World) (L : List UInt8) (e : Ending) (w' : World) : Prop := ∃ v, e = .returned v ∧ Ints w' v (bi L) ∧ Below w.heap.size w w'

theorem conv_bytes (L : List UInt8) (W : World) :
    (convert 9 25 (str L)).run Tryd.prog W = .ok (.slice (some ⟨W.heap.size, 0, none⟩) L.length (grownCap W L.length 0 5)) ((W.alloc (.cells (bytesRow ⟨L.toArray⟩ (grownCap W L.length 0 5)) 5 ((bytesRow ⟨L.toArray⟩ (grownCap W L.length 0 5)).size, (bytesRow ⟨L.toArray⟩ (grownCap W L.length 0 5)).size + 1))).drew) :=
  run_bytes_of_string (P := Tryd.prog) W 9 25 5 ⟨L.toArray⟩ Tryd.underlying9 Tryd.underlying25 Tryd.underlying5

theorem conv_ints (L : List UInt8) (w W : World) (cap : Nat) (fz : Nat × Nat) (h : Below w.heap.size w W) :
    Ints (W.alloc (.cells (bytesRow ⟨L.toArray⟩ cap) 5 fz)).drew (.slice (some ⟨W.heap.size, 0, none⟩) L.length cap) (bi L) ∧ Below w.heap.size w (W.alloc (.cells (bytesRow ⟨L.toArray⟩ cap) 5 fz)).drew := by
  refine ⟨⟨_, _, by rw [bi_len], Or.inr ⟨W.heap.size, 0, rfl, fun j hj => ?_⟩⟩, (h.alloc h.size _).drew⟩
  rw [bi_len] at hj
  rw [bi_getD L j hj]
  show (W.alloc _).cell? ⟨W.heap.size, 0 + j, none⟩ = _
  rw [cell_of_row _ W.heap.size (0 + j) _ 5 fz (heap_alloc_new W _)]
  rw [Nat.zero_add]
  unfold bytesRow
  rw [Array.getElem?_append_left (by simpa using hj)]
  simp [hj]

theorem ints_nil (w : World) (sa : Option Addr) (cap : Nat) : Ints w (.slice sa 0 cap) (bi []) := ⟨sa, cap, rfl, Or.inl rfl⟩

theorem sFmt_no (dt i : Int) (f g : Nat) (hf : B64 f) (hg : B64 g) (h : validB dt i f g = false) (w : World) :
    Calls Tryd.prog 4 #[.int .i64 dt, .agg #[.int .i64 i, .float .f64 f, .float .f64 g]] w fun e w' => SOk w [] e w' := by
  have v := sValid_any dt i f g hf hg
  rw [h] at v
  go_enter Tryd.func4, Tryd.ntmps4
  go_wp2_with (go_at_call 10; refine (v _).mono ?_; rintro e w1 ⟨rfl, x1⟩)
  go_ret
  have x0 := ((Ext.refl w).alloc #[.int .i64 i, .float .f64 f, .float .f64 g] 27).trans x1
  exact ⟨_, rfl, ints_nil _ _ _, x0.bl.alloc x0.bl.size _⟩

set_option maxHeartbeats 1000000 in
theorem sFmt_i (dt i : Int) (f g : Nat) (hi : I64 i) (hf : B64 f) (hg : B64 g) (h : validB dt i f g = true) (hk : skindL dt < 2) (w : World) :
    Calls Tryd.prog 4 #[.int .i64 dt, .agg #[.int .i64 i, .float .f64 f, .float .f64 g]] w fun e w' => SOk w (Lib.itoa i) e w' := by
  have v := sValid_any dt i f g hf hg
  rw [h] at v
  have kd := l1Kind_any dt
  have hkd : decide (skindL dt < 2) = true := by simp [hk]
  have dc := l6Dec_any i hi
  generalize Lib.itoa i = L at *
  have cv := conv_bytes L
  generalize skindL dt = k at *
  go_enter Tryd.func4, Tryd.ntmps4
  go_wp2_with (first | (go_at_call 10; refine (v _).mono ?_; rintro e w1 ⟨rfl, x1⟩; have b0 := x1.box (b := w.heap.size) (o := 0) (v := .int .i64 i) (by simp)) | (go_at_call 11; refine (kd _).mono ?_; rintro e w2 ⟨rfl, hw2⟩; obtain rfl := hw2.symm) | (go_at_call 12; refine (dc _).mono ?_; rintro e w3 ⟨rfl, x3⟩))
  go_ret
  have x0 := (((Ext.refl w).alloc #[.int .i64 i, .float .f64 f, .float .f64 g] 27).trans x1).trans x3
  have c := conv_ints L w w3 (grownCap w3 L.length 0 5) ((bytesRow ⟨L.toArray⟩ (grownCap w3 L.length 0 5)).size, (bytesRow ⟨L.toArray⟩ (grownCap w3 L.length 0 5)).size + 1) x0.bl
  exact ⟨_, rfl, c.1, c.2⟩

set_option maxHeartbeats 1000000 in
theorem sFmt_f (dt i : Int) (f g : Nat) (hf : B64 f) (hg : B64 g) (h : validB dt i f g = true) (hk : skindL dt = 2) (w : World) :
    Calls Tryd.prog 4 #[.int .i64 dt, .agg #[.int .i64 i, .float .f64 f, .float .f64 g]] w fun e w' => SOk w (fltT f) e w' := by
  have v := sValid_any dt i f g hf hg
  rw [h] at v
  have kd := l1Kind_any dt
  rw [hk] at kd
  have dc := l6Float_any f hf
  generalize fltT f = L at *
  have cv := conv_bytes L
  go_enter Tryd.func4, Tryd.ntmps4
  go_wp2_with (first | (go_at_call 10; refine (v _).mono ?_; rintro e w1 ⟨rfl, x1⟩; have b1 := x1.box (b := w.heap.size) (o := 1) (v := .float .f64 f) (by simp)) | (go_at_call 11; refine (kd _).mono ?_; rintro e w2 ⟨rfl, hw2⟩; obtain rfl := hw2.symm) | (go_at_call 13; refine (dc _).mono ?_; rintro e w3 ⟨rfl, x3⟩))
  go_ret
  have x0 := (((Ext.refl w).alloc #[.int .i64 i, .float .f64 f, .float .f64 g] 27).trans x1).trans x3
  have c := conv_ints L w w3 (grownCap w3 L.length 0 5) ((bytesRow ⟨L.toArray⟩ (grownCap w3 L.length 0 5)).size, (bytesRow ⟨L.toArray⟩ (grownCap w3 L.length 0 5)).size + 1) x0.bl
  exact ⟨_, rfl, c.1, c.2⟩

set_option maxHeartbeats 1000000 in
theorem sFmt_c (dt i : Int) (f g : Nat) (hf : B64 f) (hg : B64 g) (h : validB dt i f g = true) (hk : skindL dt = 3) (w : World) :
    Calls Tryd.prog 4 #[.int .i64 dt, .agg #[.int .i64 i, .float .f64 f, .float .f64 g]] w fun e w' => SOk w (fltT f ++ [44] ++ fltT g) e w' := by
  have v := sValid_any dt i f g hf hg
  rw [h] at v
  have kd := l1Kind_any dt
  rw [hk] at kd
  have lf := l6Float_any f hf
  have lg := l6Float_any g hg
  have nf := fltT_len f hf
  have ng := fltT_len g hg
  have k1 : ∀ W, (binOp .add 9 (str (fltT f)) (.string { data := #[44] })).run Tryd.prog W = .ok (str (fltT f ++ [44])) W := cat_any (fltT f) [44] (by simp; omega)
  have k2 := cat_any (fltT f ++ [44]) (fltT g) (by simp; omega)
  have cv := conv_bytes (fltT f ++ [44] ++ fltT g)
  generalize fltT f ++ [44] ++ fltT g = L at *
  generalize fltT f ++ [44] = L1 at *
  generalize fltT f = L0 at *
  generalize fltT g = L2 at *
  clear nf ng
  go_enter Tryd.func4, Tryd.ntmps4
  go_wp2_with (first | (go_at_call 10; refine (v _).mono ?_; rintro e w1 ⟨rfl, x1⟩; have b1 := x1.box (b := w.heap.size) (o := 1) (v := .float .f64 f) (by simp); have b2 := x1.box (b := w.heap.size) (o := 2) (v := .float .f64 g) (by simp)) | (go_at_call 11; refine (kd _).mono ?_; rintro e w2 ⟨rfl, hw2⟩; obtain rfl := hw2.symm))
  go_region_with (first | (go_at_call 13; have q3 := x3; refine (lg _).mono ?_; rintro e w4 ⟨rfl, x4⟩; have X4 := hide (x3.trans x4)) | (go_at_call 13; refine (lf _).mono ?_; rintro e w3 ⟨rfl, x3⟩; have b4 := x3.box (b := w.heap.size) (o := 2) (v := .float .f64 g) (by simpa using b2)))
  all_goals go_wp2
  all_goals go_ret
  all_goals
    have x0 := ((Ext.refl w).alloc #[.int .i64 i, .float .f64 f, .float .f64 g] 27).trans x1
    have y : Ext w w4 := by
      refine Ext.trans ?_ X4.out
      with_reducible repeat (first | exact x0 | apply Ext.drew)
    have c := conv_ints L w w4 (grownCap w4 L.length 0 5) ((bytesRow ⟨L.toArray⟩ (grownCap w4 L.length 0 5)).size, (bytesRow ⟨L.toArray⟩ (grownCap w4 L.length 0 5)).size + 1) y.bl
    exact ⟨_, rfl, c.1, c.2⟩

/-- The text of a cell, nothing if it is not valid. -/
def fmtT (dt i : Int) (f g : Nat) : List UInt8 := if validB dt i f g = true then cellT dt i f g else []

theorem valid_dt (dt i : Int) (f g : Nat) (h : validB dt i f g = true) : 1 ≤ dt ∧ dt ≤ 9 := by
  unfold validB at h
  by_cases a : 1 ≤ dt ∧ dt ≤ 6
  · omega
  · rw [if_neg a] at h
    by_cases b : dt = 7
    · omega
    · rw [if_neg b] at h
      by_cases c : dt = 8
      · omega
      · rw [if_neg c] at h
        by_cases d : dt = 9
        · omega
        · rw [if_neg d] at h; cases h

theorem sFmt_any (dt i : Int) (f g : Nat) (hi : I64 i) (hf : B64 f) (hg : B64 g) (w : World) :
    Calls Tryd.prog 4 #[.int .i64 dt, .agg #[.int .i64 i, .float .f64 f, .float .f64 g]] w fun e w' => SOk w (fmtT dt i f g) e w' := by
  unfold fmtT
  cases h : validB dt i f g
  · rw [if_neg (by decide)]; exact sFmt_no dt i f g hf hg h w
  · rw [if_pos rfl]
    have hd := valid_dt dt i f g h
    have hs := skind_eq dt hd
    unfold cellT
    by_cases h2 : kindL dt = 2
    · rw [if_pos h2]; exact sFmt_f dt i f g hf hg h (by omega) w
    · rw [if_neg h2]
      by_cases h3 : kindL dt = 3
      · rw [if_pos h3]; exact sFmt_c dt i f g hf hg h (by omega) w
      · rw [if_neg h3]
        refine sFmt_i dt i f g hi hf hg h ?_ w
        unfold skindL at *; unfold kindL at *; omega

theorem cellT_len (dt i : Int) (f g : Nat) (hi : I64 i) (hf : B64 f) (hg : B64 g) : (cellT dt i f g).length ≤ 150 := by
  have l1 := fltT_len f hf
  have l2 := fltT_len g hg
  have l3 := Lib.itoa_length_le i hi.1 hi.2
  unfold cellT
  split
  · omega
  · split
    · simp only [List.length_append, List.length_cons, List.length_nil]; omega
    · omega
theorem fmtT_len (dt i : Int) (f g : Nat) (hi : I64 i) (hf : B64 f) (hg : B64 g) : (fmtT dt i f g).length ≤ 150 := by
  unfold fmtT
  split
  · exact cellT_len dt i f g hi hf hg
  · simp

set_option maxHeartbeats 1000000 in
theorem iFmt_no (B : Nat) (dt i : Int) (f g : Nat) (hi : I64 i) (hf : B64 f) (hg : B64 g) (h : validB dt i f g = false) (w : World) (hB : B ≤ w.heap.size) :
    Calls Tryd.prog 6 #[.int .i64 dt, .agg #[.int .i64 i, .float .f64 f, .float .f64 g]] w fun e w' => ∃ v', e = .returned v' ∧ w'.ownsRow B 5 1 v' 0 [] ∧ Below B w w' := by
  have v := iValid_any dt i f g hi hf hg
  rw [h] at v
  go_enter Tryd.func6, Tryd.ntmps6
  go_wp2_with (go_at_call 14; refine (v _).mono ?_; rintro e w1 ⟨rfl, x1⟩)
  go_ret
  have x0 := ((Ext.refl w).alloc #[.int .i64 i, .float .f64 f, .float .f64 g] 27).trans x1
  refine ⟨_, rfl, ⟨rfl, Or.inr ⟨w1.heap.size, 0, #[], rfl, Nat.le_trans hB x0.bl.size, heap_alloc_new _ _, Nat.le_refl _, Nat.zero_le _, rfl, rfl⟩⟩, (x0.bl.mono hB).alloc (Nat.le_trans hB x0.bl.size) _⟩

set_option maxHeartbeats 1000000 in
theorem iFmt_yes (B : Nat) (dt i : Int) (f g : Nat) (hi : I64 i) (hf : B64 f) (hg : B64 g) (h : validB dt i f g = true) (w : World) (hB : B ≤ w.heap.size) (hT : Tabs B w) :
    Calls Tryd.prog 6 #[.int .i64 dt, .agg #[.int .i64 i, .float .f64 f, .float .f64 g]] w fun e w' => ∃ v', e = .returned v' ∧ w'.ownsRow B 5 1 v' (cellT dt i f g).length (Lib.byteCells (cellT dt i f g)) ∧ Below B w w' := by
  have v := iValid_any dt i f g hi hf hg
  rw [h] at v
  go_enter Tryd.func6, Tryd.ntmps6
  go_wp2_with (go_at_call 14; refine (v _).mono ?_; rintro e w1 ⟨rfl, x1⟩; have b0 := x1.box (b := w.heap.size) (o := 0) (v := .int .i64 i) (by simp); have b1 := x1.box (b := w.heap.size) (o := 1) (v := .float .f64 f) (by simp); have b2 := x1.box (b := w.heap.size) (o := 2) (v := .float .f64 g) (by simp); refine Hid.out ?_)
  refine hide ?_
  have x0 := ((Ext.refl w).alloc #[.int .i64 i, .float .f64 f, .float .f64 g] 27).trans x1
  have hb := x0.bl.mono hB
  have ac := appendCell_any B dt i f g hi hf hg w1 (Nat.le_trans hB x0.bl.size) (hT.on hb)
  go_wp2_with (go_at_call 15; refine ac.mono ?_; rintro e w2 ⟨v2, rfl, hown2, hnx2⟩)
  go_ret
  exact ⟨v2, rfl, hown2, hb.trans hnx2⟩

theorem iFmt_any (B : Nat) (dt i : Int) (f g : Nat) (hi : I64 i) (hf : B64 f) (hg : B64 g) (w : World) (hB : B ≤ w.heap.size) (hT : Tabs B w) :
    Calls Tryd.prog 6 #[.int .i64 dt, .agg #[.int .i64 i, .float .f64 f, .float .f64 g]] w fun e w' => ∃ v', e = .returned v' ∧ w'.ownsRow B 5 1 v' (fmtT dt i f g).length (Lib.byteCells (fmtT dt i f g)) ∧ Below B w w' := by
  unfold fmtT
  cases h : validB dt i f g
  · rw [if_neg (by decide)]; exact iFmt_no B dt i f g hi hf hg h w hB
  · rw [if_pos rfl]; exact iFmt_yes B dt i f g hi hf hg h w hB hT
end Go.Proofs.YthimfolcnphfoaaDoor
