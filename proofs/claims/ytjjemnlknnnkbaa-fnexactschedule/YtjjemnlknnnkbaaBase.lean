import Derived.Test.YtjjemnlknnnkbaaRows
import Derived.WalkKit
import Derived.WalkSpells
import Derived.WalkLawsBesides
import Derived.Outline
import Derived.Deep.Light
import Derived.BigRegion
import Derived.RegionTactic
import Derived.ChangeAlike
import Derived.OwnWalk
import Derived.Carry
import Derived.ChangeSlices
namespace Go.Proofs.Ytjjemnlknnnkbaa
open Go.ChangeShapes Go.RowKit
set_option linter.unusedSimpArgs false
set_option linter.unusedVariables false

def Hid (p : Prop) : Prop := p
theorem hide {p : Prop} (h : p) : Hid p := h
theorem Hid.out {p : Prop} (h : Hid p) : p := h

theorem ret_int {k : IntKind} {a b : Int} (h : a = b) : Ending.returned (.int k a) = .returned (.int k b) := by rw [h]
theorem ret_bool {a b : Bool} (h : a = b) : Ending.returned (.bool a) = .returned (.bool b) := by rw [h]

/-- The world has new blocks and draws alone. -/
structure Ext (w w' : World) : Prop where
  bl : Below w.heap.size w w'
  fz : ∀ a, w'.frozen? a = w.frozen? a

theorem Ext.refl (w : World) : Ext w w := ⟨Below.refl _ _, fun _ => rfl⟩
theorem Ext.trans {a b c : World} (h : Ext a b) (k : Ext b c) : Ext a c :=
  ⟨h.bl.trans (k.bl.mono h.bl.size), fun x => (k.fz x).trans (h.fz x)⟩
theorem Ext.drew {a b : World} (h : Ext a b) : Ext a b.drew := ⟨h.bl.drew, h.fz⟩
theorem Ext.drewN {a b : World} (h : Ext a b) (n : Nat) : Ext a (b.drewN n) := ⟨below_drewN h.bl n, h.fz⟩
theorem Ext.alloc {a b : World} (h : Ext a b) (c : Array Value) (t : TypeId) : Ext a (b.alloc (.cells c t)) :=
  ⟨h.bl.alloc h.bl.size _, fun x => (frozen?_alloc_cells _ _ _ x).trans (h.fz x)⟩
theorem Ext.setCell {a b : World} (h : Ext a b) {p : Addr} (hp : a.heap.size ≤ p.block) (v : Value) : Ext a (b.setCell p v) :=
  ⟨h.bl.setCell hp v, fun x => (World.frozen?_setCell _ _ _ _).trans (h.fz x)⟩
theorem cell_lt {W : World} {b o : Nat} {v : Value} (hc : W.cell? ⟨b, o, none⟩ = some v) : b < W.heap.size := by
  by_cases e : b < W.heap.size
  · exact e
  · have e2 : W.heap[b]? = none := by simp; omega
    simp [World.cell?, e2] at hc
theorem Ext.box {W w1 : World} (h : Ext W w1) {b o : Nat} {v : Value} (hc : W.cell? ⟨b, o, none⟩ = some v) : w1.cell? ⟨b, o, none⟩ = some v := by
  rw [h.bl.cell (p := ⟨b, o, none⟩) (cell_lt hc), hc]
theorem frozen_new (w : World) (b o : Nat) (h : w.heap.size ≤ b) : w.frozen? ⟨b, o, none⟩ = false := by
  have e : w.heap[b]? = none := by simp; omega
  simp [World.frozen?, e]
theorem Ext.unfrozen {w w1 : World} (h : Ext w w1) {b : Nat} (hb : w.heap.size ≤ b) (o : Nat) : w1.frozen? ⟨b, o, none⟩ = false := by
  rw [h.fz, frozen_new w b o hb]

/-- Of what was there, block b alone may have turned; new blocks and draws. -/
structure Mut (b : Nat) (w w' : World) : Prop where
  os : w'.os = w.os
  tape : w'.tape = w.tape
  output : w'.output = w.output
  size : w.heap.size ≤ w'.heap.size
  block : ∀ k, k < w.heap.size → k ≠ b → w'.heap[k]? = w.heap[k]?
  fz : ∀ a, w'.frozen? a = w.frozen? a

theorem Mut.refl (b : Nat) (w : World) : Mut b w w := ⟨rfl, rfl, rfl, Nat.le_refl _, fun _ _ _ => rfl, fun _ => rfl⟩
theorem Mut.trans {b : Nat} {a c d : World} (h : Mut b a c) (k : Mut b c d) : Mut b a d :=
  ⟨k.os.trans h.os, k.tape.trans h.tape, k.output.trans h.output, Nat.le_trans h.size k.size, fun i hi hn => (k.block i (Nat.lt_of_lt_of_le hi h.size) hn).trans (h.block i hi hn), fun a => (k.fz a).trans (h.fz a)⟩
theorem Ext.mut {a c : World} (h : Ext a c) (b : Nat) : Mut b a c :=
  ⟨h.bl.os, h.bl.tape, h.bl.output, h.bl.size, fun i hi _ => h.bl.block i hi, h.fz⟩
theorem Mut.setCell {b : Nat} {a c : World} (h : Mut b a c) (o : Nat) (v : Value) : Mut b a (c.setCell ⟨b, o, none⟩ v) :=
  h.trans ⟨rfl, rfl, rfl, by simp [World.setCell], fun k hk hn => Below.heap_setCell _ _ _ _ hn, fun x => World.frozen?_setCell _ _ _ _⟩
theorem Mut.drewN {b : Nat} {a c : World} (h : Mut b a c) (n : Nat) : Mut b a (c.drewN n) := ⟨h.os, h.tape, h.output, h.size, h.block, h.fz⟩
theorem Mut.drew {b : Nat} {a c : World} (h : Mut b a c) : Mut b a c.drew := ⟨h.os, h.tape, h.output, h.size, h.block, h.fz⟩
theorem Mut.box {b : Nat} {W w1 : World} (h : Mut b W w1) {k o : Nat} {v : Value} (hk : k ≠ b) (hc : W.cell? ⟨k, o, none⟩ = some v) : w1.cell? ⟨k, o, none⟩ = some v := by
  rw [← hc]
  exact World.cell?_of_block (w := W) (a := ⟨k, o, none⟩) (h.block k (cell_lt hc) hk)
theorem Mut.ext {b : Nat} {a c d : World} (h : Mut b c d) (x : Ext a c) (hb : a.heap.size ≤ b) : Ext a d :=
  ⟨x.bl.trans ⟨h.os, h.tape, h.output, h.size, fun k hk => h.block k (Nat.lt_of_lt_of_le hk x.bl.size) (by omega)⟩, fun y => (h.fz y).trans (x.fz y)⟩

/-- The integers xs lie in block b from place off on. -/
def Row (w : World) (b off : Nat) (xs : List Int) : Prop := ∀ j, j < xs.length → w.cell? ⟨b, off + j, none⟩ = some (.int .i64 (xs.getD j 0))
/-- v is a slice of these integers. -/
def Ints (w : World) (v : Value) (xs : List Int) : Prop := ∃ sa cap, v = .slice sa xs.length cap ∧ (xs = [] ∨ ∃ b off, sa = some ⟨b, off, none⟩ ∧ Row w b off xs)

theorem Row.ext {w w' : World} {b off : Nat} {xs : List Int} (h : Row w b off xs) (x : Ext w w') : Row w' b off xs := fun j hj => x.box (h j hj)
theorem Row.mut {w w' : World} {b off c : Nat} {xs : List Int} (h : Row w b off xs) (x : Mut c w w') (hb : b ≠ c) : Row w' b off xs := fun j hj => x.box hb (h j hj)
theorem Ints.ext {w w' : World} {v : Value} {xs : List Int} (h : Ints w v xs) (x : Ext w w') : Ints w' v xs := by
  obtain ⟨sa, cap, rfl, h⟩ := h
  refine ⟨sa, cap, rfl, ?_⟩
  rcases h with h | ⟨b, off, h1, h2⟩
  · exact Or.inl h
  · exact Or.inr ⟨b, off, h1, h2.ext x⟩
theorem Row.ints {w : World} {b off cap n : Nat} {xs : List Int} (h : Row w b off xs) (hn : n = xs.length) : Ints w (.slice (some ⟨b, off, none⟩) n cap) xs := ⟨_, _, by rw [hn], Or.inr ⟨b, off, rfl, h⟩⟩

theorem Row.set {w : World} {b off k : Nat} {xs : List Int} (h : Row w b off xs) (hk : k < xs.length) (x : Int) : Row (w.setCell ⟨b, off + k, none⟩ (.int .i64 x)) b off (xs.set k x) :=
  ints_set h hk
theorem info2 : (Try.prog.info? 2).map (fun i => (i.zero, i.size, i.bytes)) = some (some (.int .i64 0), 1, 8) := by kernel_rfl
end Go.Proofs.Ytjjemnlknnnkbaa
