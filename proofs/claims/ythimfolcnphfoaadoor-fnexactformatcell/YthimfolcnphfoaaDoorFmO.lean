import Derived.Test.YthimfolcnphfoaaDoorFmN
namespace Go.Proofs.YthimfolcnphfoaaDoor
open Go.ChangeShapes Go.RowKit FL Ieee
set_option linter.unusedSimpArgs false
set_option linter.unusedVariables false

theorem Below.box {B : Nat} {w w1 : World} (h : Below B w w1) {b o : Nat} {v : Value} (hb : b < B) (hc : w.cell? ⟨b, o, none⟩ = some v) : w1.cell? ⟨b, o, none⟩ = some v := by
  rw [h.cell (p := ⟨b, o, none⟩) hb, hc]
theorem Ints.bel {w w' : World} {v : Value} {xs : List Int} (h : Ints w v xs) (x : Below w.heap.size w w') : Ints w' v xs := by
  obtain ⟨sa, cap, rfl, h⟩ := h
  refine ⟨sa, cap, rfl, ?_⟩
  rcases h with h | ⟨b, off, h1, h2⟩
  · exact Or.inl h
  · exact Or.inr ⟨b, off, h1, fun j hj => Below.box x (cell_lt (h2 j hj)) (h2 j hj)⟩

theorem own_bel {w w' : World} {B : Nat} {e : TypeId} {size : Nat} {v : Value} {n : Nat} {xs : List Value} (h : w.ownsRow B e size v n xs) (x : Below w.heap.size w w') : w'.ownsRow B e size v n xs := by
  obtain ⟨hl, h0 | ⟨g, cap, cur, hv, hb, hh, r⟩⟩ := h
  · exact ⟨hl, .inl h0⟩
  · have hg : g < w.heap.size := by
      by_cases e : g < w.heap.size
      · exact e
      · rw [Array.getElem?_eq_none (by omega)] at hh; cases hh
    exact ⟨hl, .inr ⟨g, cap, cur, hv, hb, by rw [x.block g hg]; exact hh, r⟩⟩

theorem mark_nil (w : World) (sa : Option Addr) (cap : Nat) :
    Calls Tryd.prog 8 #[.slice sa 0 cap, .int .i64 1] w fun e w' => e = .returned (.int .i64 1) ∧ w' = w := by
  go_enter Tryd.func8, Tryd.ntmps8
  go_wp2
  go_loopw [1, 5] (fun m i wr => i = .int .i64 0 ∧ m = .int .i64 1 ∧ wr = w) (fun m i _ => 0)
  case atStart => exact ⟨rfl, rfl, rfl⟩
  case round =>
    obtain ⟨rfl, rfl, hw⟩ := hrel
    obtain rfl := hw.symm
    go_wp2
    go_ret
    exact ⟨rfl, rfl⟩

theorem mark_any {w : World} {B : Nat} {v : Value} {L : List UInt8} (h : w.ownsRow B 5 1 v L.length (Lib.byteCells L)) (hl : L.length ≤ 150) :
    Calls Tryd.prog 8 #[v, .int .i64 1] w fun e w' => e = .returned (.int .i64 (1 + (L.length : Int))) ∧ Ints w' v (counted L.length 1) ∧ Below B w w' := by
  rcases h.2 with ⟨h1, h2⟩ | ⟨g, cap, cur, rfl, hg, hh, hrest⟩
  · subst h1
    rw [h2]
    refine (mark_nil w none 0).mono ?_
    rintro e w' ⟨rfl, rfl⟩
    exact ⟨rfl, ⟨none, 0, rfl, Or.inl rfl⟩, Below.refl _ _⟩
  · obtain ⟨sa, cap', he, hx⟩ := own_ints h
    injection he with he1 he2 he3
    subst he1
    have hrow : Row w g 0 (bi L) := by
      rcases hx with hx | ⟨b, off, hb, hr⟩
      · rw [hx]; intro j hj; simp at hj
      · injection hb with hb1
        injection hb1 with hb2 hb3
        subst hb2 hb3
        exact hr
    have hf : ∀ o, w.frozen? ⟨g, o, none⟩ = false := fun o => by simp [World.frozen?, hh]
    have m := markInts_any (cap := cap) hrow hf 1 rfl (by rw [bi_len]; omega)
    rw [bi_len] at m
    refine m.mono ?_
    rintro e w' ⟨rfl, hr, hm⟩
    refine ⟨rfl, hr.ints (by rw [counted_len]), ⟨hm.os, hm.tape, hm.output, hm.size, fun k hk => ?_⟩⟩
    have hgl : g < w.heap.size := by
      by_cases e : g < w.heap.size
      · exact e
      · rw [Array.getElem?_eq_none (by omega)] at hh; cases hh
    by_cases hkw : k < w.heap.size
    · exact hm.block k hkw (by omega)
    · omega

set_option maxRecDepth 100000 in
set_option maxHeartbeats 1000000 in
theorem lawFC (dt i : Int) (f g : Nat) (hi : I64 i) (hf : B64 f) (hg : B64 g) (w : World) (hT : Tabs w.heap.size w) :
    Calls Tryd.prog 3 #[.int .i64 dt, .agg #[.int .i64 i, .float .f64 f, .float .f64 g]] w fun e w' => e = .returned (.bool true) ∧ Below w.heap.size w w' := by
  have hl := fmtT_len dt i f g hi hf hg
  have ns : 1 + ((fmtT dt i f g).length : Int) < 1000 := by omega
  have sf := sFmt_any dt i f g hi hf hg
  have if_ := fun B => iFmt_any B dt i f g hi hf hg
  generalize fmtT dt i f g = L at *
  have b00 : (w.alloc (.cells #[.int .i64 i, .float .f64 f, .float .f64 g] 24)).cell? ⟨w.heap.size, 0, none⟩ = some (.int .i64 i) := by simp
  have b01 : (w.alloc (.cells #[.int .i64 i, .float .f64 f, .float .f64 g] 24)).cell? ⟨w.heap.size, 1, none⟩ = some (.float .f64 f) := by simp
  have b02 : (w.alloc (.cells #[.int .i64 i, .float .f64 f, .float .f64 g] 24)).cell? ⟨w.heap.size, 2, none⟩ = some (.float .f64 g) := by simp
  have A0 : Below w.heap.size w (w.alloc (.cells #[.int .i64 i, .float .f64 f, .float .f64 g] 24)) := (Below.refl _ w).alloc (Nat.le_refl _) _
  go_enter Tryd.func3, Tryd.ntmps3
  go_wp2_with (go_at_call 5; refine (toCell_any _ _ _ _).mono ?_; rintro e w1 ⟨rfl, x1⟩; refine Hid.out ?_)
  refine hide ?_
  have A1 : Below w.heap.size w w1 := A0.trans (x1.bl.mono (by simp))
  have c10 := x1.box b00
  have c11 := x1.box b01
  have c12 := x1.box b02
  have z1 : w.heap.size < w1.heap.size := cell_lt c10
  clear x1
  go_wp2_with (go_at_call 4; refine (sf _).mono ?_; rintro e w2 ⟨v0, rfl, i2, x2⟩; refine Hid.out ?_)
  refine hide ?_
  have A2 : Below w.heap.size w w2 := A1.trans (x2.mono (by omega))
  have c20 := Below.box x2 z1 c10
  have c21 := Below.box x2 z1 c11
  have c22 := Below.box x2 z1 c12
  clear x2 c10 c11 c12
  go_wp2_with (go_at_call 5; refine (toCell_any _ _ _ _).mono ?_; rintro e w3 ⟨rfl, x3⟩; refine Hid.out ?_)
  refine hide ?_
  have A3 : Below w.heap.size w w3 := A2.trans (x3.bl.mono A2.size)
  have c30 := x3.box c20
  have c31 := x3.box c21
  have c32 := x3.box c22
  have i3 := i2.ext x3
  have z3 : w.heap.size < w3.heap.size := cell_lt c30
  clear x3 i2 c20 c21 c22
  have T3 : Tabs w3.heap.size w3 := (hT.on A3).up A3.size
  go_wp2_with (go_at_call 6; refine (if_ w3.heap.size w3 (Nat.le_refl _) T3).mono ?_; rintro e w4 ⟨v1, rfl, o4, x4⟩; refine Hid.out ?_)
  refine hide ?_
  have j4 := own_ints o4
  have i4 := i3.bel x4
  have c40 := Below.box x4 z3 c30
  have c41 := Below.box x4 z3 c31
  have c42 := Below.box x4 z3 c32
  have e1 := eqInts_any j4 i4 (by rw [bi_len]; omega)
  rw [decide_eq_true rfl] at e1
  go_wp2_with (go_at_call 7; refine e1.mono ?_; rintro e w5 ⟨rfl, x5⟩; refine Hid.out ?_)
  refine hide ?_
  have Y5 : Below w3.heap.size w3 w5 := x4.trans (x5.bl.mono x4.size)
  have o5 := own_bel o4 x5.bl
  have m := mark_any o5 hl
  clear x4 x5 o4 j4 i4 c40 c41 c42 e1
  go_wp2_with (go_at_call 8; refine m.mono ?_; rintro e w6 ⟨rfl, i6, x6⟩; refine Hid.out ?_)
  refine hide ?_
  have Y6 : Below w3.heap.size w3 w6 := Y5.trans x6
  have h6 := heldInts_any 1 i6 rfl (by omega)
  clear m x6 o5 Y5
  have q0 : decide (1 + (L.length : Int) < 0) = false := by simp; omega
  go_wp2_with (go_at_call 9; refine h6.mono ?_; rintro e w6' ⟨rfl, hw6⟩; obtain rfl := hw6.symm; refine Hid.out ?_)
  refine hide ?_
  have c60 := Below.box Y6 z3 c30
  have c61 := Below.box Y6 z3 c31
  have c62 := Below.box Y6 z3 c32
  have A6 : Below w.heap.size w w6 := A3.trans (Y6.mono A3.size)
  have k6 := i3.bel Y6
  clear h6 i6 Y6 c30 c31 c32 i3 A3
  go_wp2_with (go_at_call 5; refine (toCell_any _ _ _ _).mono ?_; rintro e w7 ⟨rfl, x7⟩; refine Hid.out ?_)
  refine hide ?_
  have A7 : Below w.heap.size w w7 := A6.trans (x7.bl.mono A6.size)
  have k7 := k6.ext x7
  have T7 : Tabs w7.heap.size w7 := (hT.on A7).up A7.size
  go_wp2_with (go_at_call 6; refine (if_ w7.heap.size w7 (Nat.le_refl _) T7).mono ?_; rintro e w8 ⟨v2, rfl, o8, x8⟩; refine Hid.out ?_)
  refine hide ?_
  have j8 := own_ints o8
  have k8 := k7.bel x8
  have e8 := eqInts_any j8 k8 (by rw [bi_len]; omega)
  rw [decide_eq_true rfl] at e8
  have A8 : Below w.heap.size w w8 := A7.trans (x8.mono A7.size)
  go_wp2_with (go_at_call 7; refine e8.mono ?_; rintro e w9 ⟨rfl, x9⟩)
  go_ret
  exact ⟨rfl, A8.trans (x9.bl.mono A8.size)⟩
end Go.Proofs.YthimfolcnphfoaaDoor
