import Derived.Test.YtbkdfhlbjaiahaaViewsM
import Derived.Test.YtbkdfhlbjaiahaaViewsN
namespace Go.Proofs.Ytbkdfhlbjaiahaa
open Go.ChangeShapes Go.RowKit
set_option linter.unusedSimpArgs false
set_option linter.unusedVariables false

set_option maxRecDepth 100000 in
set_option maxHeartbeats 2000000 in
theorem eqArray_true {w : World} {v u v' u' : Value} {xs ss : List Int} (st off : Int) (h : Ints w v xs) (g : Ints w u ss) (h' : Ints w v' xs) (g' : Ints w u' ss) (lx : xs.length ≤ 1048576) (ls : ss.length ≤ 1048576) :
    Calls Try.prog 15 #[.agg #[.int .i64 st, v, u, .int .i64 off], .agg #[.int .i64 st, v', u', .int .i64 off]] w fun e w' => e = .returned (.bool true) ∧ Ext w w' := by
  have x0 : Ext w ((w.alloc (.cells #[.int .i64 st, v, u, .int .i64 off] 42)).alloc (.cells #[.int .i64 st, v', u', .int .i64 off] 42)) := ((Ext.refl w).alloc _ _).alloc _ _
  have HE := hide (eqView_true off (h.ext x0) (g.ext x0) (h'.ext x0) (g'.ext x0) lx ls)
  have X0 := hide x0
  clear x0
  obtain ⟨sa, ca, rfl, _⟩ := h
  obtain ⟨sb, cb, rfl, _⟩ := g
  obtain ⟨sc, cc, rfl, _⟩ := h'
  obtain ⟨sd, cd, rfl, _⟩ := g'
  go_enter Try.func15, Try.ntmps15
  go_wp2_with fail
  refine HE.out.mono ?_
  rintro e w1 ⟨rfl, x1⟩
  have X1 := hide (X0.out.trans x1)
  clear x1
  go_wp2
  go_ret
  exact ⟨rfl, X1.out⟩

set_option maxRecDepth 100000 in
set_option maxHeartbeats 2000000 in
theorem toArray_any {w : World} {v u : Value} {xs ss : List Int} (st : Int) (h : Ints w v xs) (g : Ints w u ss) (off : Int) (lx : xs.length ≤ 1048576) (ls : ss.length ≤ 1048576) :
    Calls Try.prog 13 #[.agg #[.int .i64 st, v, u, .int .i64 off]] w fun e w' => ∃ b c : Nat, e = .returned (.agg #[.int .i64 st, .slice (some ⟨b, 0, none⟩) xs.length xs.length, .slice (some ⟨c, 0, none⟩) ss.length ss.length, .int .i64 off]) ∧ w.heap.size ≤ b ∧ b < c ∧ c < w'.heap.size ∧ Row w' b 0 xs ∧ Row w' c 0 ss ∧ Ext w w' := by
  obtain ⟨sa, ca, rfl, rS⟩ := h
  obtain ⟨sb, cb, rfl, rT⟩ := g
  have h : Ints w (.slice sa xs.length ca) xs := ⟨sa, ca, rfl, rS⟩
  have g : Ints w (.slice sb ss.length cb) ss := ⟨sb, cb, rfl, rT⟩
  generalize hW1 : (w.alloc (.cells #[.int .i64 st, .slice sa xs.length ca, .slice sb ss.length cb, .int .i64 off] 37)) = W1
  have x1 : Ext w W1 := by rw [← hW1]; exact (Ext.refl w).alloc _ _
  have hs1 : W1.heap.size = w.heap.size + 1 := by rw [← hW1]; simp
  have x2 : Ext W1 (W1.alloc (.cells #[.int .i64 0, .slice none 0 0, .slice none 0 0, .int .i64 0] 42)) := (Ext.refl W1).alloc _ _
  have x3 : Ext (W1.alloc (.cells #[.int .i64 0, .slice none 0 0, .slice none 0 0, .int .i64 0] 42)) ((W1.alloc (.cells #[.int .i64 0, .slice none 0 0, .slice none 0 0, .int .i64 0] 42)).alloc (.cells #[.int .i64 st, .slice none 0 0, .slice none 0 0, .int .i64 0] 42)) := (Ext.refl _).alloc _ _
  have r0 := fun j => new_cell W1 #[.int .i64 0, .slice none 0 0, .slice none 0 0, .int .i64 0] 42 (w.heap.size + 1) hs1.symm j
  have o0 := fun j => new_cell (W1.alloc (.cells #[.int .i64 0, .slice none 0 0, .slice none 0 0, .int .i64 0] 42)) #[.int .i64 st, .slice none 0 0, .slice none 0 0, .int .i64 0] 42 (w.heap.size + 1 + 1) (by simp [hs1]) j
  have HX := hide ((x1.trans x2).trans x3)
  have R0 := hide (x3.box (r0 0))
  have R1 := hide (x3.box (r0 1))
  have R2 := hide (x3.box (r0 2))
  have R3 := hide (x3.box (r0 3))
  have O0 := hide (o0 0)
  have O1 := hide (o0 1)
  have O2 := hide (o0 2)
  have O3 := hide (o0 3)
  have hs3 : Hid (((W1.alloc (.cells #[.int .i64 0, .slice none 0 0, .slice none 0 0, .int .i64 0] 42)).alloc (.cells #[.int .i64 st, .slice none 0 0, .slice none 0 0, .int .i64 0] 42)).heap.size = w.heap.size + 3) := by show ((W1.alloc _).alloc _).heap.size = _; simp [hs1]
  have HC := hide (toView_any (h.ext HX.out) (g.ext HX.out) off lx ls)
  clear rS rT h g x1 x2 x3 r0 o0 hs1
  subst hW1
  go_enter Try.func13, Try.ntmps13
  go_wp2_with fail
  generalize hW3 : (((w.alloc (.cells #[.int .i64 st, .slice sa xs.length ca, .slice sb ss.length cb, .int .i64 off] 37)).alloc (.cells #[.int .i64 0, .slice none 0 0, .slice none 0 0, .int .i64 0] 42)).alloc (.cells #[.int .i64 st, .slice none 0 0, .slice none 0 0, .int .i64 0] 42)) = W3 at *
  clear hW3
  refine HC.out.mono ?_
  rintro e w2 ⟨b, c, rfl, hb, hbc, hc, rb, rc, hx⟩
  rw [hs3.out] at hb
  have rc0 := hx.box R0.out
  have rc1 := hx.box R1.out
  have rc2 := hx.box R2.out
  have rc3 := hx.box R3.out
  have oc0 := hx.box O0.out
  have oc1 := hx.box O1.out
  have oc2 := hx.box O2.out
  have oc3 := hx.box O3.out
  have HE := hide (HX.out.trans hx)
  have fz := fun b o (hb : w.heap.size ≤ b) => HE.out.unfrozen (b := b) hb o
  have f1 := fun o => fz (w.heap.size + 1) o (by omega)
  have f3 := fun o => fz (w.heap.size + 1 + 1) o (by omega)
  have RB := hide rb
  have RC := hide rc
  clear hx HX HC R0 R1 R2 R3 O0 O1 O2 O3 hs3 fz rb rc
  go_wp2_with fail
  generalize hV1 : (.slice (some ⟨b, 0, none⟩) xs.length xs.length : Value) = V1
  generalize hV2 : (.slice (some ⟨c, 0, none⟩) ss.length ss.length : Value) = V2
  have M1 : Mut (w.heap.size + 1 + 1) w2 (((w2.setCell ⟨w.heap.size + 1 + 1, 1, none⟩ V1).setCell ⟨w.heap.size + 1 + 1, 2, none⟩ V2).setCell ⟨w.heap.size + 1 + 1, 3, none⟩ (.int .i64 off)) := (((Mut.refl _ _).setCell _ _).setCell _ _).setCell _ _
  generalize hW5 : (((w2.setCell ⟨w.heap.size + 1 + 1, 1, none⟩ V1).setCell ⟨w.heap.size + 1 + 1, 2, none⟩ V2).setCell ⟨w.heap.size + 1 + 1, 3, none⟩ (.int .i64 off)) = W5 at M1 ⊢
  clear hW5
  have d0 := M1.box (show w.heap.size + 1 ≠ w.heap.size + 1 + 1 by omega) rc0
  have d1 := M1.box (show w.heap.size + 1 ≠ w.heap.size + 1 + 1 by omega) rc1
  have d2 := M1.box (show w.heap.size + 1 ≠ w.heap.size + 1 + 1 by omega) rc2
  have d3 := M1.box (show w.heap.size + 1 ≠ w.heap.size + 1 + 1 by omega) rc3
  have M2 : Mut (w.heap.size + 1) W5 ((((W5.setCell ⟨w.heap.size + 1, 0, none⟩ (.int .i64 st)).setCell ⟨w.heap.size + 1, 1, none⟩ V1).setCell ⟨w.heap.size + 1, 2, none⟩ V2).setCell ⟨w.heap.size + 1, 3, none⟩ (.int .i64 off)) := ((((Mut.refl _ _).setCell _ _).setCell _ _).setCell _ _).setCell _ _
  have e0 : ((((W5.setCell ⟨w.heap.size + 1, 0, none⟩ (.int .i64 st)).setCell ⟨w.heap.size + 1, 1, none⟩ V1).setCell ⟨w.heap.size + 1, 2, none⟩ V2).setCell ⟨w.heap.size + 1, 3, none⟩ (.int .i64 off)).cell? ⟨w.heap.size + 1, 0, none⟩ = some (.int .i64 st) := near (by omega) (near (by omega) (near (by omega) (World.cell?_setCell_same _ _ _ d0)))
  have e1 : ((((W5.setCell ⟨w.heap.size + 1, 0, none⟩ (.int .i64 st)).setCell ⟨w.heap.size + 1, 1, none⟩ V1).setCell ⟨w.heap.size + 1, 2, none⟩ V2).setCell ⟨w.heap.size + 1, 3, none⟩ (.int .i64 off)).cell? ⟨w.heap.size + 1, 1, none⟩ = some V1 := near (by omega) (near (by omega) (World.cell?_setCell_same _ _ _ (near (by omega) d1)))
  have e2 : ((((W5.setCell ⟨w.heap.size + 1, 0, none⟩ (.int .i64 st)).setCell ⟨w.heap.size + 1, 1, none⟩ V1).setCell ⟨w.heap.size + 1, 2, none⟩ V2).setCell ⟨w.heap.size + 1, 3, none⟩ (.int .i64 off)).cell? ⟨w.heap.size + 1, 2, none⟩ = some V2 := near (by omega) (World.cell?_setCell_same _ _ _ (near (by omega) (near (by omega) d2)))
  have e3 : ((((W5.setCell ⟨w.heap.size + 1, 0, none⟩ (.int .i64 st)).setCell ⟨w.heap.size + 1, 1, none⟩ V1).setCell ⟨w.heap.size + 1, 2, none⟩ V2).setCell ⟨w.heap.size + 1, 3, none⟩ (.int .i64 off)).cell? ⟨w.heap.size + 1, 3, none⟩ = some (.int .i64 off) := World.cell?_setCell_same _ _ _ (near (by omega) (near (by omega) (near (by omega) d3)))
  generalize hW9 : ((((W5.setCell ⟨w.heap.size + 1, 0, none⟩ (.int .i64 st)).setCell ⟨w.heap.size + 1, 1, none⟩ V1).setCell ⟨w.heap.size + 1, 2, none⟩ V2).setCell ⟨w.heap.size + 1, 3, none⟩ (.int .i64 off)) = W9 at M2 e0 e1 e2 e3 ⊢
  refine bodyPost_ret (v := .agg #[.int .i64 st, V1, V2, .int .i64 off]) (by simp [results, Try.results13, go_sem, e0, e1, e2, e3]) rfl ⟨b, c, by rw [← hV1, ← hV2], by omega, hbc, Nat.lt_of_lt_of_le hc (Nat.le_trans M1.size M2.size), (RB.out.mut M1 (by omega)).mut M2 (by omega), (RC.out.mut M1 (by omega)).mut M2 (by omega), M2.ext (M1.ext HE.out (by omega)) (by omega)⟩

def SzAOk (left : Int) (n m : Nat) (e : Ending) : Prop := ∃ r : Int, e = .returned (.int .i64 r) ∧ (r < 0 ∨ (0 ≤ r ∧ n ≤ 1048576 ∧ m ≤ 1048576))
set_option maxRecDepth 100000 in
set_option maxHeartbeats 2000000 in
theorem szView_rel (sa sb : Option Addr) (n ca m cb : Nat) (off left : Int) (hl : 0 ≤ left ∧ left ≤ 1048576) (hn : n ≤ 9223372036854775807) (hm : m ≤ 9223372036854775807) (w : World) :
    Calls Try.prog 29 #[.agg #[.slice sa n ca, .slice sb m cb, .int .i64 off], .int .i64 left] w fun e w' => SzAOk left n m e ∧ Ext w w' := by
  have x0 : Ext w (w.alloc (.cells #[.slice sa n ca, .slice sb m cb, .int .i64 off] 35)) := (Ext.refl w).alloc _ _
  have X0 := hide x0
  clear x0
  by_cases h : left - (n : Int) < 0
  · go_enter Try.func29, Try.ntmps29
    go_wp2_with fail
    refine (szInts_any sa n ca left hn hl _).mono ?_
    rintro e w1 ⟨rfl, rfl⟩
    rw [if_pos (by omega)]
    go_wp2
    go_ret
    exact ⟨⟨_, rfl, Or.inl (by omega)⟩, X0.out⟩
  · have hb : 0 ≤ left - n ∧ left - n ≤ 1048576 := by omega
    by_cases h2 : left - (n : Int) - (m : Int) < 0
    · go_enter Try.func29, Try.ntmps29
      go_wp2_with fail
      refine (szInts_any sa n ca left hn hl _).mono ?_
      rintro e w1 ⟨rfl, rfl⟩
      rw [if_neg (by omega)]
      go_wp2_with fail
      refine (szInts_any sb m cb _ hm hb _).mono ?_
      rintro e w2 ⟨rfl, rfl⟩
      rw [if_pos (by omega)]
      go_wp2
      go_ret
      exact ⟨⟨_, rfl, Or.inl (by omega)⟩, X0.out⟩
    · go_enter Try.func29, Try.ntmps29
      go_wp2_with fail
      refine (szInts_any sa n ca left hn hl _).mono ?_
      rintro e w1 ⟨rfl, rfl⟩
      rw [if_neg (by omega)]
      go_wp2_with fail
      refine (szInts_any sb m cb _ hm hb _).mono ?_
      rintro e w2 ⟨rfl, rfl⟩
      rw [if_neg (by omega)]
      go_wp2
      go_ret
      exact ⟨⟨_, rfl, Or.inr ⟨by omega, by omega, by omega⟩⟩, X0.out⟩

set_option maxRecDepth 100000 in
set_option maxHeartbeats 2000000 in
theorem szArray_any (st : Int) (sa sb : Option Addr) (n ca m cb : Nat) (off left : Int) (hl : 0 ≤ left ∧ left ≤ 1048576) (hn : n ≤ 9223372036854775807) (hm : m ≤ 9223372036854775807) (w : World) :
    Calls Try.prog 11 #[.agg #[.int .i64 st, .slice sa n ca, .slice sb m cb, .int .i64 off], .int .i64 left] w fun e w' => SzAOk left n m e ∧ Ext w w' := by
  have x0 : Ext w (w.alloc (.cells #[.int .i64 st, .slice sa n ca, .slice sb m cb, .int .i64 off] 37)) := (Ext.refl w).alloc _ _
  have X0 := hide x0
  clear x0
  go_enter Try.func11, Try.ntmps11
  go_wp2_with fail
  refine (szView_rel sa sb n ca m cb off left hl hn hm _).mono ?_
  rintro e w1 ⟨⟨r, rfl, hr⟩, x1⟩
  have X1 := hide (X0.out.trans x1)
  clear x1
  rcases hr with hr | ⟨h1, h2, h3⟩
  · go_wp2
    go_ret
    exact ⟨⟨_, rfl, Or.inl (by omega)⟩, X1.out⟩
  · have hr : ¬ r < 0 := by omega
    go_wp2
    go_ret
    exact ⟨⟨_, rfl, Or.inr ⟨by omega, h2, h3⟩⟩, X1.out⟩
end Go.Proofs.Ytbkdfhlbjaiahaa
