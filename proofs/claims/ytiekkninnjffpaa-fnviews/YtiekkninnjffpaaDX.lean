import Derived.Test.YtiekkninnjffpaaDDa
namespace Go.Proofs.Ytiekkninnjffpaa
open Go.ChangeShapes Go.RowKit
set_option linter.unusedSimpArgs false
set_option linter.unusedVariables false

/-- Inside one of the outer draws: the source at b, v in its box at B, the answer's box at w.heap.size; all that is older than K. -/
structure DX (w W : World) (K b B : Nat) (vA vB : Value) (xs ss : List Int) (off : Int) : Prop where
  src : SX W K b
  a : W.ownsRow (w.heap.size + 1) 2 1 vA xs.length (xs.map (Value.int .i64))
  c : W.ownsRow (w.heap.size + 1) 2 1 vB ss.length (ss.map (Value.int .i64))
  bl : Bel w W
  hb : w.heap.size < b
  hK : K ≤ W.heap.size
  c0 : W.cell? ⟨B, 0, none⟩ = some vA
  c1 : W.cell? ⟨B, 1, none⟩ = some vB
  c2 : W.cell? ⟨B, 2, none⟩ = some (.int .i64 off)
  rb : RB3 W w.heap.size
  hB : B ≠ b
  hBK : B < K
  nA : ∀ g, vA.ownBlock = some g → g < K ∧ g ≠ b
  nB : ∀ g, vB.ownBlock = some g → g < K ∧ g ≠ b
theorem DX.gb {w W W' : World} {K b B : Nat} {vA vB : Value} {xs ss : List Int} {off : Int} (h : DX w W K b B vA vB xs ss off) (k : SX W' K b) (x : W.grownBy W' (some b)) : DX w W' K b B vA vB xs ss off := by
  have hb := h.hb
  have hz := Below.size h.bl
  exact ⟨k, h.a.kept x (Or.inr fun e => (h.nA b e).2 rfl), h.c.kept x (Or.inr fun e => (h.nB b e).2 rfl), Below.trans h.bl ⟨x.os, x.tape, x.output, x.size, fun j hj => x.block j (by omega) (fun e => by injection e with e; omega)⟩, hb, Nat.le_trans h.hK x.size, gb_cell x h.hB h.c0, gb_cell x h.hB h.c1, gb_cell x h.hB h.c2, h.rb.gb x (by omega), h.hB, h.hBK, h.nA, h.nB⟩
theorem DX.bel {w W W' : World} {K b B : Nat} {vA vB : Value} {xs ss : List Int} {off : Int} (h : DX w W K b B vA vB xs ss off) (x : Bel W W') : DX w W' K b B vA vB xs ss off := h.gb (h.src.below (Below.mono x h.hK)) (gb_bel b x)
theorem DX.next {w W : World} {K b B : Nat} {vA vB : Value} {xs ss : List Int} {off : Int} (h : DX w W K b B vA vB xs ss off) (m : Int) :
    Calls Try.prog 76 #[.pointer (some ⟨b, 0, none⟩), .int .i64 m] W fun e W' => ∃ v : Int, e = .returned (.int .i64 v) ∧ (0 ≤ v ∧ (v < m ∨ v = 0)) ∧ DX w W' K b B vA vB xs ss off :=
  (next_x h.src m).mono fun e W' hh => by
    obtain ⟨v, h1, h2, h3, h4, h5⟩ := hh
    exact ⟨v, h1, ⟨h2, h3⟩, h.gb h4 (gb_mut h5)⟩
/-- A row that is younger than K grows. -/
theorem DX.grow {w W W' : World} {K b B : Nat} {vA vB : Value} {xs ss : List Int} {off : Int} {row : Option Nat} (h : DX w W K b B vA vB xs ss off) (x : W.grownBy W' row) (hrow : ∀ j, row = some j → K ≤ j) : DX w W' K b B vA vB xs ss off := by
  have hz := Below.size h.bl
  have hbK := h.src.hb
  have hb := h.hb
  have hBK := h.hBK
  have hK := h.hK
  have hn : ∀ j, j < K → some j ≠ row := fun j hj e => by have := hrow j e.symm; omega
  have cc : ∀ {B o : Nat} {v : Value}, B < K → W.cell? ⟨B, o, none⟩ = some v → W'.cell? ⟨B, o, none⟩ = some v := fun {B o v} hB hc => x.cell hc (hn B hB)
  have ff : ∀ {B : Nat}, B < K → ∀ o, W'.frozen? ⟨B, o, none⟩ = W.frozen? ⟨B, o, none⟩ := fun {B} hB o => World.frozen?_of_block (x.block B (by omega) (hn B hB))
  have kp : ∀ {v : Value} {n : Nat} {l : List Value}, (∀ g, v.ownBlock = some g → g < K ∧ g ≠ b) → W.ownsRow (w.heap.size + 1) 2 1 v n l → W'.ownsRow (w.heap.size + 1) 2 1 v n l := fun {v n l} hv ho => ho.kept x (by
    cases q : v.ownBlock with
    | none => exact Or.inl rfl
    | some g => exact Or.inr (hn g (hv g q).1))
  exact ⟨h.src.below ⟨x.os, x.tape, x.output, x.size, fun j hj => x.block j (by omega) (hn j hj)⟩, kp h.nA h.a, kp h.nB h.c, Below.trans h.bl ⟨x.os, x.tape, x.output, x.size, fun j hj => x.block j (by omega) (hn j (by omega))⟩, hb, Nat.le_trans hK x.size, cc hBK h.c0, cc hBK h.c1, cc hBK h.c2, ⟨cc (by omega) h.rb.r0, cc (by omega) h.rb.r1, cc (by omega) h.rb.r2, fun o => (ff (by omega) o).trans (h.rb.rf o)⟩, h.hB, hBK, h.nA, h.nB⟩
/-- The view is drawn and lies in its box. -/
theorem DX.make {w V0 W1 W2 : World} {b : Nat} {sa sb : Option Addr} {ca cb : Nat} {xs ss : List Int} (off : Int) (hV : V0 = w.alloc (.cells #[.slice none 0 0, .slice none 0 0, .int .i64 0] 27)) (hb : V0.heap.size ≤ b) (x1 : Below V0.heap.size V0 W1) (hbW : b < W1.heap.size) (ha : W2.ownsRow W1.heap.size 2 1 (.slice sa xs.length ca) xs.length (xs.map (Value.int .i64))) (hc : W2.ownsRow W1.heap.size 2 1 (.slice sb ss.length cb) ss.length (ss.map (Value.int .i64))) (hs : ST W1 W2 W1.heap.size b) :
    DX w (W2.alloc (.cells #[.slice sa xs.length ca, .slice sb ss.length cb, .int .i64 off] 27)) (W2.heap.size + 1) b W2.heap.size (.slice sa xs.length ca) (.slice sb ss.length cb) xs ss off := by
  have hv0 : V0.heap.size = w.heap.size + 1 := by rw [hV]; simp
  have y0 : Ext w V0 := by rw [hV]; exact (Ext.refl _).alloc _ _
  have r0 : RB3 V0 w.heap.size := by rw [hV]; exact RB3.make w w.heap.size rfl
  have h1 := Below.size x1
  have h2 := hs.gb.size
  have x1' : Bel V0 W1 := x1
  have b1 : Bel w W1 := Bel.tr y0.bl x1'
  have hz1 := Below.size b1
  have b2 : Bel w W2 := Below.trans b1 ⟨hs.gb.os, hs.gb.tape, hs.gb.output, hs.gb.size, fun j hj => hs.gb.block j (by omega) (fun e => by injection e with e; omega)⟩
  have n1 := fun j => new_cell W2 #[.slice sa xs.length ca, .slice sb ss.length cb, .int .i64 off] 27 W2.heap.size rfl j
  have y2 : Ext W2 (W2.alloc (.cells #[.slice sa xs.length ca, .slice sb ss.length cb, .int .i64 off] 27)) := (Ext.refl _).alloc _ _
  refine ⟨(hs.src.below (Below.mono y2.bl h2)).mono (by omega), own_keep (own_low ha (by omega)) y2.bl, own_keep (own_low hc (by omega)) y2.bl, Bel.tr b2 y2.bl, by omega, by simp, n1 0, n1 1, n1 2, ((r0.bel x1').gb hs.gb (by omega)).bel y2.bl, by omega, by omega, fun g hg => ?_, fun g hg => ?_⟩
  · have := ha.lt g hg; omega
  · have := hc.lt g hg; omega
/-- The lists behind the stores into the answer's box. -/
theorem DX.ints {w W : World} {K b B : Nat} {vA vB : Value} {xs ss : List Int} {off : Int} (h : DX w W K b B vA vB xs ss off) (v0 v1 v2 : Value) : Ints (((W.setCell ⟨w.heap.size, 0, none⟩ v0).setCell ⟨w.heap.size, 1, none⟩ v1).setCell ⟨w.heap.size, 2, none⟩ v2) vA xs ∧ Ints (((W.setCell ⟨w.heap.size, 0, none⟩ v0).setCell ⟨w.heap.size, 1, none⟩ v1).setCell ⟨w.heap.size, 2, none⟩ v2) vB ss ∧ Bel w (((W.setCell ⟨w.heap.size, 0, none⟩ v0).setCell ⟨w.heap.size, 1, none⟩ v1).setCell ⟨w.heap.size, 2, none⟩ v2) :=
  have hl := Nat.lt_succ_self w.heap.size
  ⟨own_ints (ownsRow_setCell_below (ownsRow_setCell_below (ownsRow_setCell_below h.a (a := ⟨w.heap.size, 0, none⟩) hl _) (a := ⟨w.heap.size, 1, none⟩) hl _) (a := ⟨w.heap.size, 2, none⟩) hl _), own_ints (ownsRow_setCell_below (ownsRow_setCell_below (ownsRow_setCell_below h.c (a := ⟨w.heap.size, 0, none⟩) hl _) (a := ⟨w.heap.size, 1, none⟩) hl _) (a := ⟨w.heap.size, 2, none⟩) hl _), ((h.bl.setCell (Nat.le_refl _) _).setCell (Nat.le_refl _) _).setCell (Nat.le_refl _) _⟩
end Go.Proofs.Ytiekkninnjffpaa
