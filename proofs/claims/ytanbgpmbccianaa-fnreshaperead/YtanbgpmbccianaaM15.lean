import Derived.Test.YtanbgpmbccianaaRNo
import Derived.Deep.AppendLies
namespace Go.Proofs.Ytanbgpmbccianaa
open Go.ChangeShapes Go.RowKit FL
set_option linter.unusedSimpArgs false
set_option linter.unusedVariables false

/-- The cells 0, 1, .. -/
def iC (m : Nat) : List C3 := (List.range m).map fun i : Nat => ((i : Int), 0, 0)
theorem iC_len (m : Nat) : (iC m).length = m := by simp [iC]
theorem iC_succ (m : Nat) : iC (m + 1) = iC m ++ [((m : Int), 0, 0)] := by simp [iC, List.range_succ]
/-- The heap of one store that grows. -/
structure RH (wc wr : World) (A m : Nat) (o : Value) : Prop where
  h0 : wr.cell? ⟨A + 1, 0, none⟩ = some (.slice (some ⟨A, 0, none⟩) 1 1)
  h1 : wr.cell? ⟨A, 0, none⟩ = some (.int .i64 6)
  h2 : wr.cell? ⟨A, 1, none⟩ = some o
  hf : ∀ j, wr.frozen? ⟨A, j, none⟩ = false
  ow : wr.ownsRow (A + 1 + 1) 39 3 o m (flat (iC m))
  bl : Bel wc wr
  hA : A = wc.heap.size
  sz : A + 1 + 1 ≤ wr.heap.size
theorem RH.start (wc : World) : RH wc ((wc.alloc (.cells #[.int .i64 6, .slice none 0 0] 33)).alloc (.cells #[.slice (some ⟨wc.heap.size, 0, none⟩) 1 1] 36)) wc.heap.size 0 (.slice none 0 0) := by
  have n1 := fun j => new_cell wc #[.int .i64 6, .slice none 0 0] 33 wc.heap.size rfl j
  have hs : (wc.alloc (.cells #[.int .i64 6, .slice none 0 0] 33)).heap.size = wc.heap.size + 1 := by simp
  have n2 := fun j => new_cell (wc.alloc (.cells #[.int .i64 6, .slice none 0 0] 33)) #[.slice (some ⟨wc.heap.size, 0, none⟩) 1 1] 36 (wc.heap.size + 1) hs.symm j
  have y1 : Ext wc (wc.alloc (.cells #[.int .i64 6, .slice none 0 0] 33)) := (Ext.refl _).alloc _ _
  have y2 : Ext (wc.alloc (.cells #[.int .i64 6, .slice none 0 0] 33)) ((wc.alloc (.cells #[.int .i64 6, .slice none 0 0] 33)).alloc (.cells #[.slice (some ⟨wc.heap.size, 0, none⟩) 1 1] 36)) := (Ext.refl _).alloc _ _
  exact ⟨n2 0, y2.box (n1 0), y2.box (n1 1), fz_keep y2.bl (by rw [hs]; omega) (fun o => y1.unfrozen (Nat.le_refl _) o), World.ownsRow_nil _ _ _ _, Bel.tr y1.bl y2.bl, rfl, by simp⟩
theorem RH.keep {wc wr W : World} {A m : Nat} {o : Value} (h : RH wc wr A m o) (x : Bel wr W) : RH wc W A m o :=
  ⟨x.box h.h0, x.box h.h1, x.box h.h2, fz_keep x (cell_lt h.h1) h.hf, own_below h.ow x (fun g hg => (h.ow.lt g hg).2), Bel.tr h.bl x, h.hA, Nat.le_trans h.sz (Below.size x)⟩
theorem RH.form {wc wr : World} {A m : Nat} {o : Value} (h : RH wc wr A m o) : ∃ so co, o = .slice so m co := by
  rcases h.ow.2 with ⟨e, e2⟩ | ⟨g, cap, cur, e, _⟩
  · exact ⟨none, 0, by rw [e, e2]⟩
  · exact ⟨_, _, e⟩
/-- One more cell, ahead of the store. -/
theorem RH.grow {wc W W9 : World} {A m : Nat} {o : Value} (h : RH wc W A m o) (g : W.grownBy W9 o.ownBlock) : Below (A + 1 + 1) W W9 :=
  ⟨g.os, g.tape, g.output, g.size, fun k hk => g.block k (Nat.lt_of_lt_of_le hk h.sz) (fun e => by have := (h.ow.lt k e.symm).1; omega)⟩
theorem RH.held {wc W W9 : World} {A m : Nat} {o : Value} (h : RH wc W A m o) (x : Below (A + 1 + 1) W W9) : W9.cell? ⟨A + 1, 0, none⟩ = some (.slice (some ⟨A, 0, none⟩) 1 1) ∧ W9.cell? ⟨A, 1, none⟩ = some o ∧ W9.frozen? ⟨A, 1, none⟩ = false :=
  ⟨(x.cell (p := ⟨A + 1, 0, none⟩) (by simp)).trans h.h0, (x.cell (p := ⟨A, 1, none⟩) (by show A < _; omega)).trans h.h2, (x.frozen (p := ⟨A, 1, none⟩) (by show A < _; omega)).trans (h.hf 1)⟩
theorem RH.step {wc W W9 : World} {A m gg cap : Nat} {o : Value} (h : RH wc W A m o) (x : Below (A + 1 + 1) W W9) (ow : W9.ownsRow (A + 1 + 1) 39 3 (.slice (some ⟨gg, 0, none⟩) (m + 1) cap) (m + 1) (flat (iC m) ++ c3v ((m : Int), 0, 0))) :
    RH wc (W9.setCell ⟨A, 1, none⟩ (.slice (some ⟨gg, 0, none⟩) (m + 1) cap)) A (m + 1) (.slice (some ⟨gg, 0, none⟩) (m + 1) cap) := by
  obtain ⟨a0, a1, a2⟩ := h.held x
  have a3 := (x.cell (p := ⟨A, 0, none⟩) (by show A < _; omega)).trans h.h1
  have mm : Mut A W9 (W9.setCell ⟨A, 1, none⟩ (.slice (some ⟨gg, 0, none⟩) (m + 1) cap)) := (Mut.refl _ _).setCell _ _
  have hlt := ow.lt gg rfl
  have hA := h.hA
  have bl9 : Bel wc W9 := Below.trans h.bl (Below.mono x (by omega))
  refine ⟨mm.box (by omega) a0, near (by omega) a3, World.cell?_setCell_same _ _ _ a1, fun j => (mm.fz _).trans ((x.frozen (p := ⟨A, j, none⟩) (by show A < _; omega)).trans (h.hf j)), ?_, bl9.setCell (show wc.heap.size ≤ A by omega) _, hA, ?_⟩
  · rw [iC_succ, flat_one]
    refine ow.kept (row := some A) ⟨mm.os, mm.tape, mm.output, ?_, fun k hk hn => mm.block k hk (fun e => hn (by rw [e]))⟩ (Or.inr (by simp [Value.ownBlock]; omega))
    exact mm.size
  · have h1 := h.sz
    have h2 := x.size
    have h3 := mm.size
    omega
end Go.Proofs.Ytanbgpmbccianaa
namespace Go.Proofs.Ytanbgpmbccianaa
open Go.ChangeShapes Go.RowKit FL
set_option linter.unusedSimpArgs false
set_option linter.unusedVariables false

/-- The heap that the law builds. -/
def heapN (n : Nat) : List St := [((6 : Int), iC n)]
theorem iC_mem {m : Nat} {c : C3} (h : c ∈ iC m) : ∃ i : Nat, i < m ∧ c = ((i : Int), 0, 0) := by
  unfold iC at h
  rw [List.mem_map] at h
  obtain ⟨i, h1, h2⟩ := h
  exact ⟨i, List.mem_range.1 h1, h2.symm⟩
theorem iC_getD (m p : Nat) (h : p < m) : (iC m).getD p k0 = ((p : Int), 0, 0) := by
  simp [iC, List.getD_eq_getElem?_getD, h]
theorem RH.sv {wc wr : World} {A n : Nat} {o : Value} (h : RH wc wr A n o) : SV wr (.slice (some ⟨A, 0, none⟩) 1 1) (heapN n) := by
  refine ⟨_, _, rfl, Or.inr ⟨A, 0, rfl, fun j hj => ?_⟩⟩
  obtain rfl : j = 0 := by simp [heapN] at hj; omega
  obtain ⟨sa, cap, e, hO⟩ := own_cells (lo := 0) (Nat.zero_le _) h.ow
  refine ⟨h.h1, o, h.h2, ⟨sa, cap, e, ?_⟩⟩
  rcases hO with q | ⟨g, q1, _, q2, _⟩
  · exact Or.inl q
  · exact Or.inr ⟨g, 0, q1, q2⟩
theorem heapN_g {n : Nat} (hn : n ≤ 4096) : SG (heapN n) := fun s hs => by
  obtain rfl : s = ((6 : Int), iC n) := by simpa [heapN] using hs
  intro c hc
  obtain ⟨i, hi, rfl⟩ := iC_mem hc
  refine ⟨⟨?_, ?_⟩, ?_, ?_⟩
  · show -9223372036854775808 ≤ (i : Int); omega
  · show (i : Int) ≤ 9223372036854775807; omega
  · show (0 : Nat) < _; decide
  · show (0 : Nat) < _; decide
theorem heapN_l {n : Nat} (hn : n ≤ 4096) : SL (heapN n) 1048576 := ⟨by simp [heapN], fun s hs => by
  obtain rfl : s = ((6 : Int), iC n) := by simpa [heapN] using hs
  show (iC n).length ≤ _
  rw [iC_len]; omega⟩
theorem heapN_v {n : Nat} (hn : n ≤ 4096) : vHeap (heapN n) = true := by
  have h2 : (iC n).all (fun c => validB 6 c.1 c.2.1 c.2.2) = true := List.all_eq_true.2 fun c hc => by
    obtain ⟨i, hi, rfl⟩ := iC_mem hc
    have : rngB 6 (i : Int) = true := by unfold rngB lowL highL; simp; omega
    simp [validB, this, pzB]
  have h1 : vStore ((6 : Int), iC n) = true := by
    unfold vStore
    rw [h2, iC_len]
    simp [isDtB, hn]
  unfold vHeap heapN
  simp [h1]
/-- What is read of that heap: the places themselves. -/
theorem read_heapN {xs ss : List Int} {off : Int} (hv : ValidV xs ss off) : readA (heapN 4096) 0 xs ss off = (offsL xs ss off).map fun p => (p, 0, 0) := by
  have hlen : ((heapN 4096).getD (0 : Int).toNat s0).2 = iC 4096 := by simp [heapN]
  have hG : GoodA (heapN 4096) 0 xs ss off := by
    refine ⟨⟨by omega, by simp [heapN]⟩, hv, fun p hp => ?_⟩
    rw [hlen, iC_len]
    have := offs_in hv p hp
    omega
  unfold readA
  rw [if_pos ⟨heapN_v (by omega), hG⟩]
  unfold readL
  rw [hlen]
  refine List.map_congr_left fun p hp => ?_
  have := offs_in hv p hp
  rw [iC_getD 4096 p.toNat (by omega), Int.toNat_of_nonneg this.1]
theorem offs_prod {xs ss : List Int} {off : Int} (hv : ValidV xs ss off) : ((offsL xs ss off).length : Int) = prod xs := by
  unfold offsL
  split
  · next h => rw [h]; rfl
  · rw [places_len xs ss off hv.2.1.symm, prod_plen (good_nn hv.1)]
theorem mapped_zero (L : List Int) (k : Nat) (hk : k < (L.map fun p : Int => ((p, 0, 0) : C3)).length) : ((L.map fun p : Int => ((p, 0, 0) : C3)).getD k k0).2 = (0, 0) := by
  rw [List.length_map] at hk
  simp [List.getD_eq_getElem?_getD, hk]
theorem cv_of_own {w : World} {lo cap : Nat} {sa : Option Addr} {cs : List C3} (h : OwnCl w lo sa cs) : CV w (.slice sa cs.length cap) cs :=
  ⟨sa, cap, rfl, h.imp id fun ⟨g, h1, _, h2, _⟩ => ⟨g, 0, h1, h2⟩⟩
end Go.Proofs.Ytanbgpmbccianaa
