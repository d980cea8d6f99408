import Derived.Test.YtjjemnlknnnkbaaDSource
import Derived.Test.YtjjemnlknnnkbaaPoolS
namespace Go.Proofs.Ytjjemnlknnnkbaa
open Go.ChangeShapes Go.RowKit Go.MuLone
set_option linter.unusedSimpArgs false
set_option linter.unusedVariables false

/-- A source below H. -/
structure SrcH (w : World) (H b : Nat) (sv : Value) (cs : List Int) (s : SS) (size : Int) : Prop where
  src : Src w b sv cs s size
  hb : b < H
  hg : ∀ k, sv.ownBlock = some k → 0 < cs.length → k < H
theorem Src.h {w : World} {b : Nat} {sv : Value} {cs : List Int} {s : SS} {size : Int} (h : Src w b sv cs s size) : SrcH w w.heap.size b sv cs s size := ⟨h, cell_lt h.c0, fun k hk hl => by
  rcases h.code with ⟨h1, _⟩ | ⟨g, cap, h1, h2, h3⟩
  · rw [h1] at hl; simp at hl
  · rw [h1] at hk
    simp [Value.ownBlock] at hk
    subst hk
    exact cell_lt (h3 0 hl)⟩
theorem SrcH.below {w w' : World} {H b : Nat} {sv : Value} {cs : List Int} {s : SS} {size : Int} (h : SrcH w H b sv cs s size) (x : Below H w w') : SrcH w' H b sv cs s size := by
  have hc : ∀ {g o v}, g < H → w.cell? ⟨g, o, none⟩ = some v → w'.cell? ⟨g, o, none⟩ = some v := fun {g o v} hg hv => by rw [x.cell (p := ⟨g, o, none⟩) hg, hv]
  refine ⟨⟨hc h.hb h.src.c0, hc h.hb h.src.c1, hc h.hb h.src.c2, hc h.hb h.src.c3, fun o => (x.frozen (p := ⟨b, o, none⟩) h.hb).trans (h.src.fz o), h.src.atn, h.src.nle, h.src.mix0, h.src.mix1, h.src.size0, h.src.size1, h.src.byt, ?_⟩, h.hb, h.hg⟩
  rcases h.src.code with hc0 | ⟨g, cap, h1, h2, h3⟩
  · exact Or.inl hc0
  · exact Or.inr ⟨g, cap, h1, h2, fun j hj => hc (h.hg g (by rw [h1]; rfl) (by omega)) (h3 j hj)⟩
theorem SrcH.ext {w w' : World} {H b : Nat} {sv : Value} {cs : List Int} {s : SS} {size : Int} (h : SrcH w H b sv cs s size) (x : Ext w w') (hH : H ≤ w.heap.size) : SrcH w' H b sv cs s size := h.below (Below.mono x.bl hH)
theorem SrcH.next {w w' : World} {H b : Nat} {sv : Value} {cs : List Int} {s s' : SS} {size : Int} (h : SrcH w H b sv cs s size) (k : Src w' b sv cs s' size) : SrcH w' H b sv cs s' size := ⟨k, h.hb, h.hg⟩

/-- One operation that is drawn. -/
def drawOne (ds : List Int) (s : SS) : P3 × SS :=
  if (nextL ds s 20).1 < 8 then ((2, 0, (nextL ds (nextL ds (nextL ds s 20).2 130).2 7).1), (nextL ds (nextL ds (nextL ds s 20).2 130).2 7).2)
  else if (nextL ds s 20).1 = 8 then ((1, 65536 + (nextL ds (nextL ds (nextL ds s 20).2 130).2 2).1, 0), (nextL ds (nextL ds (nextL ds s 20).2 130).2 2).2)
  else if (nextL ds s 20).1 = 9 then (((nextL ds (nextL ds (nextL ds s 20).2 130).2 2).1 * 3, (nextL ds (nextL ds s 20).2 130).1, 0), (nextL ds (nextL ds (nextL ds s 20).2 130).2 2).2)
  else if (nextL ds s 20).1 = 10 then ((1, -1, 0), (nextL ds (nextL ds s 20).2 130).2)
  else ((1, (nextL ds (nextL ds s 20).2 130).1, 0), (nextL ds (nextL ds s 20).2 130).2)
def opsL (ds : List Int) (s : SS) : Nat → List P3 × SS
  | 0 => ([], s)
  | k + 1 => ((opsL ds s k).1 ++ [(drawOne ds (opsL ds s k).2).1], (drawOne ds (opsL ds s k).2).2)
theorem opsL_len (ds : List Int) (s : SS) : ∀ k, (opsL ds s k).1.length = k
  | 0 => rfl
  | k + 1 => by simp [opsL, opsL_len ds s k]
def fillN (ops : List P3) : Nat → List P3
  | 0 => ops
  | k + 1 => fillN ops k ++ [(2, 0, ((ops.length + k : Nat) : Int) % 5)]
theorem fillN_len (ops : List P3) : ∀ k, (fillN ops k).length = ops.length + k
  | 0 => rfl
  | k + 1 => by simp [fillN, fillN_len ops k]; omega
/-- The budget, and the state behind it. -/
def budL (ds : List Int) (s : SS) : Int × SS :=
  if (nextL ds (nextL ds s 60).2 16).1 = 0 then ((nextL ds (nextL ds (nextL ds s 60).2 16).2 2).1 * 9223372036854775807 - 1, (nextL ds (nextL ds (nextL ds s 60).2 16).2 2).2)
  else (100 + (nextL ds s 60).1 * 16, (nextL ds (nextL ds s 60).2 16).2)
def cntP (ds : List Int) (s : SS) (size : Int) : Nat := (2 + (nextL ds (budL ds s).2 (8 + 6 * size)).1).toNat
def midP (ds : List Int) (s : SS) (size : Int) : List P3 × SS := opsL ds (nextL ds (budL ds s).2 (8 + 6 * size)).2 (cntP ds s size)
def drawP (ds : List Int) (s : SS) (size : Int) : Int × List P3 :=
  ((budL ds s).1,
   if (nextL ds (midP ds s size).2 60).1 = 0 then fillN (midP ds s size).1 ((2000 + (nextL ds (nextL ds (midP ds s size).2 60).2 2).1).toNat - (midP ds s size).1.length) else (midP ds s size).1)
/-- The world of the drawing loop. -/
structure DW (w wr : World) (H b : Nat) (sv : Value) (ds : List Int) (s : SS) (size : Int) (ops : List P3) (vO : Value) : Prop where
  src : SrcH wr H b sv ds s size
  own : wr.ownsRow H 34 3 vO ops.length (p3cells ops)
  lo : w.heap.size ≤ b
  hw : w.heap.size ≤ H
  bl : Bel w wr
  sz : H ≤ wr.heap.size
theorem DW.next {w wr W : World} {H b : Nat} {sv : Value} {ds : List Int} {s s' : SS} {size : Int} {ops : List P3} {vO : Value} (h : DW w wr H b sv ds s size ops vO) (k : Src W b sv ds s' size) (m : Mut b wr W) : DW w W H b sv ds s' size ops vO :=
  ⟨h.src.next k, own_mut h.own m (fun e => by have := own_ge h.own b e; have := h.src.hb; omega), h.lo, h.hw, h.bl.trans ⟨m.os, m.tape, m.output, m.size, fun k hk => m.block k (Nat.lt_of_lt_of_le hk (Below.size h.bl)) (by have := h.lo; omega)⟩, Nat.le_trans h.sz m.size⟩
theorem DW.ext {w wr W : World} {H b : Nat} {sv : Value} {ds : List Int} {s : SS} {size : Int} {ops : List P3} {vO : Value} (h : DW w wr H b sv ds s size ops vO) (x : Ext wr W) : DW w W H b sv ds s size ops vO :=
  ⟨h.src.ext x h.sz, own_below h.own x.bl (fun k hk => (h.own.lt k hk).2), h.lo, h.hw, Bel.tr h.bl x.bl, Nat.le_trans h.sz (Below.size x.bl)⟩
theorem DW.push {w wr W : World} {H b : Nat} {sv : Value} {ds : List Int} {s : SS} {size : Int} {ops : List P3} {vO vO' : Value} (h : DW w wr H b sv ds s size ops vO) (t : P3) (hg : (wr.alloc (.cells #[.int .i64 t.1, .int .i64 t.2.1, .int .i64 t.2.2] 34)).grownBy W vO.ownBlock) (hO : W.ownsRow H 34 3 vO' (ops.length + 1) (p3cells ops ++ p3v t)) : DW w W H b sv ds s size (ops ++ [t]) vO' := by
  have hg' := grown_al hg
  refine ⟨h.src.below ((Below.refl H wr).grown hg' h.sz (fun j hj => own_ge h.own j hj)), ?_, h.lo, h.hw, h.bl.grown hg' (Below.size h.bl) (fun j hj => Nat.le_trans h.hw (own_ge h.own j hj)), Nat.le_trans h.sz hg'.size⟩
  rw [List.length_append, p3cells_snoc]
  exact hO
theorem DW.szP {w wr : World} {H b : Nat} {sv : Value} {ds : List Int} {s : SS} {size : Int} {ops : List P3} {vO : Value} (h : DW w wr H b sv ds s size ops vO) (A : Array Value) (t : TypeId) : H ≤ (wr.alloc (.cells A t)).heap.size := by
  have h1 : wr.heap.size ≤ (wr.alloc (.cells A t)).heap.size := Below.size ((Ext.refl wr).alloc A t).bl
  exact Nat.le_trans h.sz h1
theorem three_new34 (W : World) (t : P3) : ∀ j u, (p3v t)[j]? = some u → (W.alloc (.cells #[.int .i64 t.1, .int .i64 t.2.1, .int .i64 t.2.2] 34)).cell? ((⟨W.heap.size, 0, none⟩ : Addr).add j) = some u := fun j u hu => by
  have n1 := fun j => new_cell W #[.int .i64 t.1, .int .i64 t.2.1, .int .i64 t.2.2] 34 W.heap.size rfl j
  rw [Addr.add_lit, Nat.zero_add, n1 j]
  simpa [p3v] using hu
def DRel (w : World) (H b : Nat) (sv : Value) (ds : List Int) (s : SS) (size : Int) (n : Nat) (o i : Value) (wr : World) : Prop :=
  ∃ (k : Nat) (sa : Option Addr) (c : Nat), i = .int .i64 ((n : Int) - k) ∧ k ≤ n ∧ o = .slice sa k c ∧ DW w wr H b sv ds (opsL ds s k).2 size (opsL ds s k).1 o
def FRel (w : World) (H b : Nat) (sv : Value) (ds : List Int) (s : SS) (size : Int) (ops : List P3) (n : Nat) (o : Value) (wr : World) : Prop :=
  ∃ (k : Nat) (sa : Option Addr) (c : Nat), k ≤ n - ops.length ∧ o = .slice sa (ops.length + k) c ∧ DW w wr H b sv ds s size (fillN ops k) o
end Go.Proofs.Ytjjemnlknnnkbaa
