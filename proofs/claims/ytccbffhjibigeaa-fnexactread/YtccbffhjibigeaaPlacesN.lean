import Derived.Test.YtccbffhjibigeaaOffsCap
import Derived.Test.YtccbffhjibigeaaFlatC
namespace Go.Proofs.Ytccbffhjibigeaa
open Go.ChangeShapes Go.RowKit Go.Shelf
set_option linter.unusedSimpArgs false
set_option linter.unusedVariables false

/-- A place of a store of N cells. -/
abbrev PlN (N : Int) := { x : Int // 0 ≤ x ∧ x < N }
def pnv {N : Int} (ps : List (PlN N)) : List Int := ps.map (·.1)
theorem pnv_append {N : Int} (p q : List (PlN N)) : pnv (p ++ q) = pnv p ++ pnv q := List.map_append ..
theorem pnv_len {N : Int} (p : List (PlN N)) : (pnv p).length = p.length := List.length_map ..
theorem places_stopsN (N : Int) (n Bf n₀ : Nat) (xs ss : List Int) (off : Int) (h4 : xs.length ≤ 4) (hl : ss.length = xs.length) (hr : InR xs xs.length) (hp : prod xs ≤ 4096) (hss : InS ss ss.length) (ho : 0 ≤ off ∧ off ≤ 4096) (hPr : ∀ x ∈ offsL xs ss off, 0 ≤ x ∧ x < N) (w : World) (hn : n₀ ≤ w.heap.size)
    (hc : ∀ j, j < 10 → w.cell? ⟨Bf, j, none⟩ = (vw xs ss off)[j]?) (hBf : Bf < w.heap.size) :
    SeqStopsK Fence.wide n Try.prog 72 #[.pointer (some ⟨Bf, 0, none⟩)] (fun x : PlN N => #[Value.int .i64 x.1]) (KC n₀) (fun ys => pnv ys = offsL xs ss off) (fun pre => pnv pre <+: offsL xs ss off) (offsL xs ss off).length w := fun l J Jx W hW hJ hJx hY h0 => by
  have hbW : w.heap.size ≤ W.heap.size := hW.size
  have hc2 : ∀ j, j < 10 → W.cell? ⟨Bf, j, none⟩ = (vw xs ss off)[j]? := fun j hj => (hW.cell (p := ⟨Bf, j, none⟩) hBf).trans (hc j hj)
  have key := places1_in n l Bf W.heap.size xs ss off h4 hl hr hp hss ho (fun x => 0 ≤ x ∧ x < N) hPr (fun pre W => ∃ ps, pnv ps = pre ∧ J ps W) (fun pre W => ∃ ps, pnv ps = pre ∧ Jx ps W)
    (fun pre A B row ⟨ps, e, h⟩ hg hrow => ⟨ps, e, hJ ps A B row h hg hrow⟩)
    (fun m pre x A hx ⟨ps, e, h⟩ hlen => by
      subst e
      have hy := yield_any m (hY ps ⟨x, hx⟩ A h (by rw [← pnv_len]; exact hlen))
      refine hy.mono ?_
      rintro e W' (⟨rfl, h1, h2⟩ | ⟨rfl, h1⟩)
      · exact .inl ⟨rfl, ⟨_, pnv_append _ _, h1⟩, ⟨h2.size, fun k o hb h hc => h2.keep k o (by omega) h hc⟩⟩
      · exact .inr ⟨rfl, ⟨_, pnv_append _ _, h1⟩⟩)
    W (Nat.le_refl _) hc2 ⟨[], rfl, h0⟩
  refine key.mono ?_
  rintro e W' ⟨hv, ⟨ys, rfl, ps, e1, h⟩ | ⟨pre, hpre, ps, e1, h⟩⟩
  · exact ⟨hv, .inl ⟨ps, e1, h⟩⟩
  · exact ⟨hv, .inr ⟨ps, by show pnv ps <+: _; rw [e1]; exact hpre, h⟩⟩
theorem placesKN (N : Int) (n Bf : Nat) (xs ss : List Int) (off : Int) (h4 : xs.length ≤ 4) (hl : ss.length = xs.length) (hr : InR xs xs.length) (hp : prod xs ≤ 4096) (hss : InS ss ss.length) (ho : 0 ≤ off ∧ off ≤ 4096) (hPr : ∀ x ∈ offsL xs ss off, 0 ≤ x ∧ x < N) (W : World) (hB : Bf = W.heap.size) :
    SeqStopsK Fence.wide n Try.prog 72 #[.pointer (some ⟨Bf, 0, none⟩)] (fun x : PlN N => #[Value.int .i64 x.1]) (KC (W.alloc (.cells (vw xs ss off) 75)).heap.size) (fun ys => pnv ys = offsL xs ss off) (fun pre => pnv pre <+: offsL xs ss off) (offsL xs ss off).length (W.alloc (.cells (vw xs ss off) 75)) := by
  subst hB
  exact places_stopsN N n _ _ xs ss off h4 hl hr hp hss ho hPr _ (Nat.le_refl _) (fun j _ => new_cell W _ 75 W.heap.size rfl j) (by simp)
end Go.Proofs.Ytccbffhjibigeaa
