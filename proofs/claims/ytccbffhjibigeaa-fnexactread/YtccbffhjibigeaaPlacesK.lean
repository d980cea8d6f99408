import Derived.Test.YtccbffhjibigeaaIter3
namespace Go.Proofs.Ytccbffhjibigeaa
open Go.ChangeShapes Go.RowKit Go.Shelf
set_option linter.unusedSimpArgs false
set_option linter.unusedVariables false

attribute [local go_sem] Oper.semAt_some

theorem KC.setCell {b : Nat} (A : World) {p : Addr} (hp : p.block < b) (v : Value) : KC b A (A.setCell p v) :=
  ⟨(KeepsWalks.setCell A _ v).size, fun k o hk h _ => (Below.heap_setCell _ _ _ k (fun e => by omega)).trans h⟩

/-- The same over a view that has just been boxed. -/
theorem placesK (n Bf : Nat) (xs ss : List Int) (off : Int) (h4 : xs.length ≤ 4) (hl : ss.length = xs.length) (hr : InR xs xs.length) (hp : prod xs ≤ 4096) (hss : InS ss ss.length) (ho : 0 ≤ off ∧ off ≤ 4096) (hPr : ∀ x ∈ offsL xs ss off, 0 ≤ x ∧ x < 4096) (W : World) (hB : Bf = W.heap.size) :
    SeqStopsK Fence.wide n Try.prog 72 #[.pointer (some ⟨Bf, 0, none⟩)] (fun x : Pl => #[Value.int .i64 x.1]) (KC (W.alloc (.cells (vw xs ss off) 75)).heap.size) (fun ys => plv ys = offsL xs ss off) (fun pre => plv pre <+: offsL xs ss off) (offsL xs ss off).length (W.alloc (.cells (vw xs ss off) 75)) := by
  subst hB
  exact places_stops n _ _ xs ss off h4 hl hr hp hss ho hPr _ (Nat.le_refl _) (fun j _ => new_cell W _ 75 W.heap.size rfl j) (by simp)

theorem cell_al {W : World} {a : Addr} {v : Value} (o : Obj) (h : W.cell? a = some v) : (W.alloc o).cell? a = some v := cell_kept h (World.grownBy_alloc W o none) (fun r e => by cases e)
theorem frozen_al {W : World} {a : Addr} {v : Value} (o : Obj) (h : W.cell? a = some v) (hf : W.frozen? a = false) : (W.alloc o).frozen? a = false := (frozen_kept h (World.grownBy_alloc W o none) (fun r e => by cases e)).trans hf
theorem frozen_nw (W : World) (cs : Array Value) (t b j : Nat) (hb : b = W.heap.size) : (W.alloc (.cells cs t)).frozen? ⟨b, j, none⟩ = false := by
  subst hb
  have h := World.alloc_heap_new W (.cells cs t)
  unfold World.frozen?
  simp only [h]
  simp

end Go.Proofs.Ytccbffhjibigeaa
