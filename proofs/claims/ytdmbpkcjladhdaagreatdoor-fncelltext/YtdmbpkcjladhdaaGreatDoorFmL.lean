import Derived.Test.YtdmbpkcjladhdaaGreatDoorFmK
namespace Go.Proofs.YtdmbpkcjladhdaaGreatDoor
open Go.RowKit FL Ieee
set_option linter.unusedSimpArgs false
set_option linter.unusedVariables false

/-- The text of a cell. -/
def cellT (dt i : Int) (f g : Nat) : List UInt8 := if kindL dt = 2 then fltT f else if kindL dt = 3 then fltT f ++ [44] ++ fltT g else Lib.itoa i

theorem complexOf_any (i : Int) (f g : Nat) (w : World) :
    Calls Tryz.prog 30 #[.agg #[.int .i64 i, .float .f64 f, .float .f64 g]] w fun e w' => e = .returned (.complex .f64 f g) ∧ Ext w w' := by
  go_enter Tryz.func30, Tryz.ntmps30
  go_wp2
  go_ret
  exact ⟨rfl, (Ext.refl w).alloc _ _⟩

set_option maxHeartbeats 1000000 in
theorem appendCell_f (B : Nat) (dt i : Int) (f g : Nat) (hf : B64 f) (hk : kindL dt = 2) (w : World) (hBw : B ≤ w.heap.size) (hT : Tabs B w) :
    Calls Tryz.prog 12 #[.slice none 0 0, .int .i64 dt, .agg #[.int .i64 i, .float .f64 f, .float .f64 g]] w fun e w' => ∃ v', e = .returned v' ∧ w'.ownsRow B 5 1 v' (fltT f).length (Lib.byteCells (fltT f)) ∧ Below B w w' := by
  have kd := kindOf_any dt
  rw [hk] at kd
  have hb1 : Below B w (w.alloc (.cells #[.int .i64 i, .float .f64 f, .float .f64 g] 25)) := (Below.refl B w).alloc hBw _
  have af := appendFloat_any B 0 f hf (.slice none 0 0) [] (w.alloc (.cells #[.int .i64 i, .float .f64 f, .float .f64 g] 25)) (World.ownsRow_nil _ _ _ _) (by simp; omega) (by omega) (hT.on hb1)
  rw [Nat.zero_add, List.nil_append] at af
  go_enter Tryz.func12, Tryz.ntmps12
  go_wp2_with (first | (go_at_call 25; refine (kd _).mono ?_; rintro e w1 ⟨rfl, hw1⟩; obtain rfl := hw1.symm) | (go_at_call 29; refine af.mono ?_; rintro e w1 ⟨v1, rfl, hown1, hnx1⟩))
  go_ret
  exact ⟨v1, rfl, hown1, hb1.trans hnx1⟩

set_option maxHeartbeats 1000000 in
theorem appendCell_i (B : Nat) (dt i : Int) (f g : Nat) (hi : I64 i) (hk : kindL dt ≠ 2) (hk3 : kindL dt ≠ 3) (w : World) (hBw : B ≤ w.heap.size) (hT : Tabs B w) :
    Calls Tryz.prog 12 #[.slice none 0 0, .int .i64 dt, .agg #[.int .i64 i, .float .f64 f, .float .f64 g]] w fun e w' => ∃ v', e = .returned v' ∧ w'.ownsRow B 5 1 v' (Lib.itoa i).length (Lib.byteCells (Lib.itoa i)) ∧ Below B w w' := by
  have kd := kindOf_any dt
  generalize kindL dt = k at *
  have e2 : (k == 2) = false := by simp [hk]
  have e3 : (k == 3) = false := by simp [hk3]
  unfold I64 at hi
  have hb1 : Below B w (w.alloc (.cells #[.int .i64 i, .float .f64 f, .float .f64 g] 25)) := (Below.refl B w).alloc hBw _
  have af := Tryz.strconv_AppendInt_10 B 0 i hi.1 hi.2 (.slice none 0 0) [] (w.alloc (.cells #[.int .i64 i, .float .f64 f, .float .f64 g] 25)) (World.ownsRow_nil _ _ _ _) (by simp; omega) (by omega) (hT.on hb1).1
  rw [Nat.zero_add, List.nil_append] at af
  clear hk hk3
  go_enter Tryz.func12, Tryz.ntmps12
  go_wp2_with (first | (go_at_call 25; refine (kd _).mono ?_; rintro e w1 ⟨rfl, hw1⟩; obtain rfl := hw1.symm) | (go_at_call 31; refine af.mono ?_; rintro e w1 ⟨v1, rfl, hown1, hnx1, -⟩))
  go_ret
  exact ⟨v1, rfl, hown1, hb1.trans hnx1⟩

set_option maxHeartbeats 1000000 in
theorem appendCell_c (B : Nat) (dt i : Int) (f g : Nat) (hf : B64 f) (hg : B64 g) (hk : kindL dt = 3) (w : World) (hBw : B ≤ w.heap.size) (hT : Tabs B w) :
    Calls Tryz.prog 12 #[.slice none 0 0, .int .i64 dt, .agg #[.int .i64 i, .float .f64 f, .float .f64 g]] w fun e w' => ∃ v', e = .returned v' ∧ w'.ownsRow B 5 1 v' (fltT f ++ [44] ++ fltT g).length (Lib.byteCells (fltT f ++ [44] ++ fltT g)) ∧ Below B w w' := by
  obtain ⟨i0, hi, hz0, hz1, hz2⟩ := info_parts infoByte
  have kd := kindOf_any dt
  rw [hk] at kd
  have hb1 : Below B w (w.alloc (.cells #[.int .i64 i, .float .f64 f, .float .f64 g] 25)) := (Below.refl B w).alloc hBw _
  have lf := fltT_len f hf
  have lg := fltT_len g hg
  go_enter Tryz.func12, Tryz.ntmps12
  go_wp2_with (first | (go_at_call 25; refine (kd _).mono ?_; rintro e w1 ⟨rfl, hw1⟩; obtain rfl := hw1.symm) | (go_at_call 30; refine (complexOf_any i f g _).mono ?_; rintro e w1 ⟨rfl, x1⟩; refine Hid.out ?_))
  refine hide ?_
  have hb2 : Below B w w1 := hb1.trans (x1.bl.mono (by simp; omega))
  have af := appendFloat_any B 0 f hf (.slice none 0 0) [] w1 (World.ownsRow_nil _ _ _ _) (by have := hb2.size; omega) (by omega) (hT.on hb2)
  rw [Nat.zero_add, List.nil_append] at af
  go_wp2_with (go_at_call 29; refine af.mono ?_; rintro e w2 ⟨v2, rfl, hown2, hnx2⟩; refine Hid.out ?_)
  refine hide ?_
  have hb3 := hb2.trans hnx2
  go_wp2_with (at_builtin; refine wpList_append_own _ rfl _ _ 22 rfl B 5 i0 (.int .u8 0) 1 1 Tryz.underlying22 hi hz0 hz1 hz2 rfl (by decide) _ _ _ rfl (hown2.alloc _) ⟨w2.heap.size, 0, none⟩ 1 1 [Value.int .u8 44] rfl rfl (by intro j u' hj; match j, hj with | 0, hj => simp at hj; subst hj; simp [Addr.add]) (by intro u' hu'; simp at hu'; subst hu'; rfl) (by unfold maxLen; omega) (by omega) (by have := hb3.size; simp; omega) ?_)
  intro v3 w3 hown3 hgrow _
  have hb4 : Below B w w3 := (hb3.alloc (by have := hb3.size; omega) _).grown hgrow (by have := hb3.size; simp; omega) (fun k hk => (hown2.lt k hk).1)
  have ag := appendFloat_any B _ g hg v3 _ w3 hown3 (by have := hb4.size; omega) (by omega) (hT.on hb4)
  go_wp2_with (go_at_call 29; refine ag.mono ?_; rintro e w4 ⟨v4, rfl, hown4, hnx4⟩)
  go_ret
  refine ⟨v4, rfl, ?_, hb4.trans hnx4⟩
  have eL : Lib.byteCells (fltT f) ++ [Value.int .u8 44] ++ Lib.byteCells (fltT g) = Lib.byteCells (fltT f ++ [44] ++ fltT g) := by simp [Lib.byteCells]
  have eN : (fltT f).length + 1 + (fltT g).length = (fltT f ++ [44] ++ fltT g).length := by simp; omega
  rw [← eL, ← eN]
  exact hown4

theorem appendCell_any (B : Nat) (dt i : Int) (f g : Nat) (hi : I64 i) (hf : B64 f) (hg : B64 g) (w : World) (hBw : B ≤ w.heap.size) (hT : Tabs B w) :
    Calls Tryz.prog 12 #[.slice none 0 0, .int .i64 dt, .agg #[.int .i64 i, .float .f64 f, .float .f64 g]] w fun e w' => ∃ v', e = .returned v' ∧ w'.ownsRow B 5 1 v' (cellT dt i f g).length (Lib.byteCells (cellT dt i f g)) ∧ Below B w w' := by
  unfold cellT
  by_cases h2 : kindL dt = 2
  · rw [if_pos h2]; exact appendCell_f B dt i f g hf h2 w hBw hT
  · rw [if_neg h2]
    by_cases h3 : kindL dt = 3
    · rw [if_pos h3]; exact appendCell_c B dt i f g hf hg h3 w hBw hT
    · rw [if_neg h3]; exact appendCell_i B dt i f g hi h2 h3 w hBw hT
end Go.Proofs.YtdmbpkcjladhdaaGreatDoor
