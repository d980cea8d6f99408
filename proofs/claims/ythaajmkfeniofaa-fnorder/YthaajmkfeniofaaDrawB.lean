import Derived.Test.YthaajmkfeniofaaPair
namespace Go.Proofs.Ythaajmkfeniofaa
open Go.RowKit FL
set_option linter.unusedSimpArgs false
set_option linter.unusedVariables false

/-- A slice of bytes that can be read in w. -/
def Code (w : World) (v : Value) (len : Nat) : Prop :=
  (v = .slice none 0 0 ∧ len = 0) ∨ ∃ cb off cap, v = .slice (some ⟨cb, off, none⟩) len cap ∧ cb < w.heap.size ∧ len ≤ maxLen ∧ ∀ j, j < len → ∃ x : Int, w.cell? ⟨cb, off + j, none⟩ = some (.int .u8 x) ∧ 0 ≤ x ∧ x < 256

theorem Code.ext {w w' : World} {v : Value} {len : Nat} (h : Code w v len) (x : Ext w w') : Code w' v len := by
  rcases h with h | ⟨cb, off, cap, h1, h2, h3, h4⟩
  · exact Or.inl h
  · refine Or.inr ⟨cb, off, cap, h1, Nat.lt_of_lt_of_le h2 x.bl.size, h3, fun j hj => ?_⟩
    obtain ⟨y, hy, hr⟩ := h4 j hj
    exact ⟨y, x.box hy, hr⟩

theorem source_code {w : World} {v : Value} {len : Nat} (h : Code w v len) : Calls Try.prog 58 #[v] w fun e w' => SourceOk w e w' := by
  rcases h with ⟨rfl, rfl⟩ | ⟨cb, off, cap, rfl, h2, h3, h4⟩
  · exact source_nil w
  · exact source_any cb off len cap w h3 h2 h4

theorem below_mut {B b : Nat} {a c d : World} (h : Below B a c) (m : Mut b c d) (hb : B ≤ b) (hc : B ≤ c.heap.size) : Below B a d :=
  h.trans ⟨m.os, m.tape, m.output, m.size, fun k hk => m.block k (by omega) (by omega)⟩

def DrawnPair (w : World) (e : Ending) (w' : World) : Prop := ∃ (dt ia : Int) (fa ga : Nat) (ib : Int) (fb gb : Nat), e = .returned (.tuple #[.int .i64 dt, .agg #[.int .i64 ia, .float .f64 fa, .float .f64 ga], .agg #[.int .i64 ib, .float .f64 fb, .float .f64 gb]]) ∧ CellOk ia fa ga ∧ CellOk ib fb gb ∧ Below w.heap.size w w'

set_option maxHeartbeats 2000000 in
theorem drawBefore_any {w : World} {v : Value} {len : Nat} (h : Code w v len) : Calls Try.prog 27 #[v] w fun e w' => DrawnPair w e w' := by
  have x0 : Ext w ((w.alloc (.cells #[.int .i64 0, .float .f64 0, .float .f64 0] 29)).alloc (.cells #[.int .i64 0, .float .f64 0, .float .f64 0] 29)) := ((Ext.refl w).alloc _ _).alloc _ _
  have H := hide (h.ext x0)
  have X0 := hide x0
  clear h x0
  go_enter Try.func27, Try.ntmps27
  go_wp2_with fail
  refine (source_code H.out).mono ?_
  rintro e w1 ⟨b, sv, n, mix, size, rfl, hs, hb, hB⟩
  have hb2 : w.heap.size + 2 ≤ b := by simpa using hb
  have q := fun (k o : Nat) (hk : k < w.heap.size + 2) => hB.cell (p := ⟨k, o, none⟩) (by simp; omega)
  have qf := fun (k o : Nat) (hk : k < w.heap.size + 2) => hB.frozen (p := ⟨k, o, none⟩) (by simp; omega)
  have hsz : w.heap.size + 2 ≤ w1.heap.size := by simpa using hB.size
  have Hs := hide hs
  have HB := hide hB
  have HQ := hide q
  have HF := hide qf
  clear hs hB q qf hb
  go_wp2_with fail
  refine (drawPair_any Hs.out).mono ?_
  rintro e w2 ⟨dt, ia, fa, ga, ib, fb, gb, at2, mix2, rfl, ok1, ok2, s2, m2⟩
  have z0 := m2.box (by omega) ((HQ.out w.heap.size 0 (by omega)).trans (by simp : _ = some (.int .i64 0)))
  have z1 := m2.box (by omega) ((HQ.out w.heap.size 1 (by omega)).trans (by simp : _ = some (.float .f64 0)))
  have z2 := m2.box (by omega) ((HQ.out w.heap.size 2 (by omega)).trans (by simp : _ = some (.float .f64 0)))
  have y0 := m2.box (by omega) ((HQ.out (w.heap.size + 1) 0 (by omega)).trans (by simp : _ = some (.int .i64 0)))
  have y1 := m2.box (by omega) ((HQ.out (w.heap.size + 1) 1 (by omega)).trans (by simp : _ = some (.float .f64 0)))
  have y2 := m2.box (by omega) ((HQ.out (w.heap.size + 1) 2 (by omega)).trans (by simp : _ = some (.float .f64 0)))
  have zf : ∀ o, w2.frozen? ⟨w.heap.size, o, none⟩ = false := fun o => (m2.fz _).trans ((HF.out w.heap.size o (by omega)).trans (X0.out.unfrozen (Nat.le_refl _) o))
  have yf : ∀ o, w2.frozen? ⟨w.heap.size + 1, o, none⟩ = false := fun o => (m2.fz _).trans ((HF.out (w.heap.size + 1) o (by omega)).trans (X0.out.unfrozen (by omega) o))
  have hbl : Below w.heap.size w w2 := below_mut (X0.out.bl.trans (HB.out.mono (by simp; omega))) m2 (by omega) (by omega)
  have Hbl := hide hbl
  have Ok1 := hide ok1
  have Ok2 := hide ok2
  clear hbl ok1 ok2 m2 s2
  go_wp2
  exact bodyPost_ret (v := .tuple #[.int .i64 dt, .agg #[.int .i64 ia, .float .f64 fa, .float .f64 ga], .agg #[.int .i64 ib, .float .f64 fb, .float .f64 gb]]) (by simp [results, Try.results27, go_sem, z0, z1, z2, y0, y1, y2]) rfl
    ⟨dt, ia, fa, ga, ib, fb, gb, rfl, Ok1.out, Ok2.out, (((((Hbl.out.setCell (Nat.le_refl _) _).setCell (Nat.le_refl _) _).setCell (Nat.le_refl _) _).setCell (by simp) _).setCell (by simp) _).setCell (by simp) _⟩
end Go.Proofs.Ythaajmkfeniofaa
