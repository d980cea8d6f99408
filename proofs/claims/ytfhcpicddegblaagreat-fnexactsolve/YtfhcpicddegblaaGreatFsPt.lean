import Derived.Test.YtfhcpicddegblaaGreatFsDr
namespace Go.Proofs.YtfhcpicddegblaaGreat
open Go.ChangeShapes Go.RowKit FL
set_option linter.unusedSimpArgs false
set_option linter.unusedVariables false

/-- A cell is written. -/
def set3 (w : World) (b o : Nat) (x : Nat) : World := ((w.setCell ⟨b, o, none⟩ (.int .i64 0)).setCell ⟨b, o + 1, none⟩ (.float .f64 x)).setCell ⟨b, o + 2, none⟩ (.float .f64 0)
theorem set3_block (w : World) (b o x c : Nat) (h : c ≠ b) : (set3 w b o x).heap[c]? = w.heap[c]? := (Below.heap_setCell _ _ _ _ h).trans ((Below.heap_setCell _ _ _ _ h).trans (Below.heap_setCell _ _ _ _ h))
theorem set3_box {w : World} {b o x c q : Nat} {v : Value} (h : c ≠ b) (hc : w.cell? ⟨c, q, none⟩ = some v) : (set3 w b o x).cell? ⟨c, q, none⟩ = some v := (World.cell?_of_block (w := w) (a := ⟨c, q, none⟩) (set3_block w b o x c h)).trans hc

set_option maxRecDepth 100000 in
set_option maxHeartbeats 2000000 in
theorem put_any {w : World} {g n n' b L cp k x : Nat} {y0 y1 y2 : Value} (hk : k < L) (hx : B64 x) (c0 : w.cell? ⟨b, k * 3, none⟩ = some y0) (c1 : w.cell? ⟨b, k * 3 + 1, none⟩ = some y1) (c2 : w.cell? ⟨b, k * 3 + 2, none⟩ = some y2) (hf : ∀ o, w.frozen? ⟨b, o, none⟩ = false) :
    Calls Tryz.prog 89 #[.agg #[.slice (some ⟨g, 0, none⟩) n n', .slice (some ⟨b, 0, none⟩) L cp, .int .i64 8, .int .i64 8], .int .i64 k, .agg #[.int .i64 0, .float .f64 x, .float .f64 0]] w fun e w' => e = .returned (.tuple #[]) ∧ ∃ w1, Ext w w1 ∧ w' = set3 w1 b (k * 3) x := by
  have hbl := cell_lt c0
  have x0 : Ext w ((w.alloc (.cells #[.slice (some ⟨g, 0, none⟩) n n', .slice (some ⟨b, 0, none⟩) L cp, .int .i64 8, .int .i64 8] 148)).alloc (.cells #[.int .i64 0, .float .f64 x, .float .f64 0] 66)) := ((Ext.refl w).alloc _ _).alloc _ _
  have xa : Ext (w.alloc (.cells #[.slice (some ⟨g, 0, none⟩) n n', .slice (some ⟨b, 0, none⟩) L cp, .int .i64 8, .int .i64 8] 148)) ((w.alloc (.cells #[.slice (some ⟨g, 0, none⟩) n n', .slice (some ⟨b, 0, none⟩) L cp, .int .i64 8, .int .i64 8] 148)).alloc (.cells #[.int .i64 0, .float .f64 x, .float .f64 0] 66)) := (Ext.refl _).alloc _ _
  have n0 := fun j => new_cell w #[.slice (some ⟨g, 0, none⟩) n n', .slice (some ⟨b, 0, none⟩) L cp, .int .i64 8, .int .i64 8] 148 w.heap.size rfl j
  have n1 := fun j => new_cell (w.alloc (.cells #[.slice (some ⟨g, 0, none⟩) n n', .slice (some ⟨b, 0, none⟩) L cp, .int .i64 8, .int .i64 8] 148)) #[.int .i64 0, .float .f64 x, .float .f64 0] 66 (w.heap.size + 1) (by simp) j
  have k1 := xa.box (n0 1)
  have k2 := xa.box (n0 2)
  have k3 := xa.box (n0 3)
  have m0 := n1 0
  have m1 := n1 1
  have m2 := n1 2
  simp only [List.getElem?_toArray, List.getElem?_cons_zero, List.getElem?_cons_succ] at k1 k2 k3 m0 m1 m2
  have X0 := hide x0
  have c0 := x0.box c0
  have c1 := x0.box c1
  have c2 := x0.box c2
  have hk0 : (0 : Int) ≤ (k : Int) := Int.natCast_nonneg _
  have hk1 : (k : Int) < (L : Int) := by omega
  clear n0 n1 x0 xa
  go_enter Tryz.func89, Tryz.ntmps89
  go_wp2_with fail
  generalize ((w.alloc (.cells #[.slice (some ⟨g, 0, none⟩) n n', .slice (some ⟨b, 0, none⟩) L cp, .int .i64 8, .int .i64 8] 148)).alloc (.cells #[.int .i64 0, .float .f64 x, .float .f64 0] 66)) = W1 at *
  have SA : Hid ((fun w' : World => w'.cell? ⟨w.heap.size, 1, none⟩ = some (.slice (some ⟨b, 0, none⟩) L cp) ∧ w'.cell? ⟨w.heap.size, 2, none⟩ = some (.int .i64 8) ∧ w'.cell? ⟨w.heap.size, 3, none⟩ = some (.int .i64 8) ∧ w'.cell? ⟨w.heap.size + 1, 0, none⟩ = some (.int .i64 0) ∧ w'.cell? ⟨w.heap.size + 1, 1, none⟩ = some (.float .f64 x) ∧ w'.cell? ⟨w.heap.size + 1, 2, none⟩ = some (.float .f64 0)) W1.drew) := ⟨k1, k2, k3, m0, m1, m2⟩
  have HCV := hide (iConv8_any x hx W1.drew)
  go_region_held3 (fun w' : World => w'.cell? ⟨w.heap.size, 1, none⟩ = some (.slice (some ⟨b, 0, none⟩) L cp) ∧ w'.cell? ⟨w.heap.size, 2, none⟩ = some (.int .i64 8) ∧ w'.cell? ⟨w.heap.size, 3, none⟩ = some (.int .i64 8) ∧ w'.cell? ⟨w.heap.size + 1, 0, none⟩ = some (.int .i64 0) ∧ w'.cell? ⟨w.heap.size + 1, 1, none⟩ = some (.float .f64 x) ∧ w'.cell? ⟨w.heap.size + 1, 2, none⟩ = some (.float .f64 0)) (first | with_reducible exact SA.out | exact SA.out | exact SB.out | exact SC.out) (first | (go_at_call 125; refine HCV.out.mono ?_; rintro e w2 ⟨rfl, x2⟩; have SB : Hid ((fun w' : World => w'.cell? ⟨w.heap.size, 1, none⟩ = some (.slice (some ⟨b, 0, none⟩) L cp) ∧ w'.cell? ⟨w.heap.size, 2, none⟩ = some (.int .i64 8) ∧ w'.cell? ⟨w.heap.size, 3, none⟩ = some (.int .i64 8) ∧ w'.cell? ⟨w.heap.size + 1, 0, none⟩ = some (.int .i64 0) ∧ w'.cell? ⟨w.heap.size + 1, 1, none⟩ = some (.float .f64 x) ∧ w'.cell? ⟨w.heap.size + 1, 2, none⟩ = some (.float .f64 0)) w2) := ⟨x2.box k1, x2.box k2, x2.box k3, x2.box m0, x2.box m1, x2.box m2⟩; have SC : Hid ((fun w' : World => w'.cell? ⟨w.heap.size, 1, none⟩ = some (.slice (some ⟨b, 0, none⟩) L cp) ∧ w'.cell? ⟨w.heap.size, 2, none⟩ = some (.int .i64 8) ∧ w'.cell? ⟨w.heap.size, 3, none⟩ = some (.int .i64 8) ∧ w'.cell? ⟨w.heap.size + 1, 0, none⟩ = some (.int .i64 0) ∧ w'.cell? ⟨w.heap.size + 1, 1, none⟩ = some (.float .f64 x) ∧ w'.cell? ⟨w.heap.size + 1, 2, none⟩ = some (.float .f64 0)) (set3 w2 b (k * 3) x)) := ⟨set3_box (by omega) (x2.box k1), set3_box (by omega) (x2.box k2), set3_box (by omega) (x2.box k3), set3_box (by omega) (x2.box m0), set3_box (by omega) (x2.box m1), set3_box (by omega) (x2.box m2)⟩; have d0 := x2.box c0; have d1 := x2.box c1; have d2 := x2.box c2; have fz := fun q => ((x2.fz _).trans (X0.out.fz _)).trans (hf q); have f0 := fz (k * 3); have f1 := fz (k * 3 + 1); have f2 := fz (k * 3 + 2); have X2 := hide (X0.out.drew.trans x2); clear x2 fz) | fail)
  go_wp2
  refine bodyPost_end (results_none rfl _ _ _) rfl ⟨rfl, ?_⟩
  exact ⟨w2, X2.out, rfl⟩
end Go.Proofs.YtfhcpicddegblaaGreat
