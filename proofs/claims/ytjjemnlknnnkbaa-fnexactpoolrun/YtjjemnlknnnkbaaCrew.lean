import Derived.Test.YtjjemnlknnnkbaaTurns
import Derived.Deep.RegionHeld3
namespace Go.Proofs.Ytjjemnlknnnkbaa
open Go.ChangeShapes Go.RowKit Go.MuLone
set_option linter.unusedSimpArgs false
set_option linter.unusedVariables false

theorem Crew.ext {w w' : World} {b : Nat} {next tiles n : Int} {held : List Int} (h : Crew w b next tiles n held) (x : Ext w w') : Crew w' b next tiles n held :=
  ⟨x.box h.c0, x.box h.c2, x.box h.c3, x.box h.c4, fun j hj => x.box (h.ch j hj), fun o => (x.fz _).trans (h.fz o)⟩
theorem set3 {W : World} {R : Nat} {a0 a1 a2 : Value} (h0 : W.cell? ⟨R, 0, none⟩ = some a0) (h1 : W.cell? ⟨R, 1, none⟩ = some a1) (h2 : W.cell? ⟨R, 2, none⟩ = some a2) (v0 v1 v2 : Value) :
    (((W.setCell ⟨R, 0, none⟩ v0).setCell ⟨R, 1, none⟩ v1).setCell ⟨R, 2, none⟩ v2).cell? ⟨R, 0, none⟩ = some v0 ∧ (((W.setCell ⟨R, 0, none⟩ v0).setCell ⟨R, 1, none⟩ v1).setCell ⟨R, 2, none⟩ v2).cell? ⟨R, 1, none⟩ = some v1 ∧ (((W.setCell ⟨R, 0, none⟩ v0).setCell ⟨R, 1, none⟩ v1).setCell ⟨R, 2, none⟩ v2).cell? ⟨R, 2, none⟩ = some v2 :=
  ⟨near (by omega) (near (by omega) (World.cell?_setCell_same _ _ _ h0)), near (by omega) (World.cell?_setCell_same _ _ _ (near (by omega) h1)), World.cell?_setCell_same _ _ _ (near (by omega) (near (by omega) h2))⟩
theorem Crew.lt {w : World} {b : Nat} {next tiles n : Int} {held : List Int} (h : Crew w b next tiles n held) : b < w.heap.size := cell_lt h.c0
theorem Crew.far {w : World} {b R : Nat} {next tiles n : Int} {held : List Int} (h : Crew w b next tiles n held) (hR : b ≠ R) (v0 v1 v2 : Value) : Crew (((w.setCell ⟨R, 0, none⟩ v0).setCell ⟨R, 1, none⟩ v1).setCell ⟨R, 2, none⟩ v2) b next tiles n held :=
  h.mut ((((Mut.refl R w).setCell _ _).setCell _ _).setCell _ _) hR
theorem Mut.far {w W : World} {b : Nat} (h : Mut b w W) (R : Nat) (hR : w.heap.size ≤ R) (v0 v1 v2 : Value) : Mut b w (((W.setCell ⟨R, 0, none⟩ v0).setCell ⟨R, 1, none⟩ v1).setCell ⟨R, 2, none⟩ v2) := by
  have m : Mut R W (((W.setCell ⟨R, 0, none⟩ v0).setCell ⟨R, 1, none⟩ v1).setCell ⟨R, 2, none⟩ v2) := (((Mut.refl R W).setCell _ _).setCell _ _).setCell _ _
  exact ⟨m.os.trans h.os, m.tape.trans h.tape, m.output.trans h.output, Nat.le_trans h.size m.size, fun k hk hn => (m.block k (Nat.lt_of_lt_of_le hk h.size) (by omega)).trans (h.block k hk hn), fun a => (m.fz a).trans (h.fz a)⟩

set_option maxRecDepth 100000 in
set_option maxHeartbeats 1000000 in
theorem turn_done {b : Nat} {next tiles n : Int} {held : List Int} (w : World) (h : Crew w b next tiles n held) (x : Nat) (hx : x < held.length) (hl : held.length ≤ 64) (H : Int) (hH : held.getD x 0 = H) (hm : 0 ≤ H) :
    Calls Try.prog 35 #[.pointer (some ⟨b, 0, none⟩), .int .i64 x] w fun e w' => e = .returned (.agg #[.int .i64 x, .int .i64 H, .bool true]) ∧ Crew w' b next tiles n (held.set x (-1)) ∧ Mut b w w' := by
  have x0 : Ext w (w.alloc (.cells #[.int .i64 0, .int .i64 0, .bool false] 68)) := (Ext.refl w).alloc _ _
  have hlt := h.lt
  have h1 := h.ext x0
  have q0 := h1.ch x hx
  rw [hH] at q0
  have f0 := h1.fz (5 + x)
  have hx0 : (0 : Int) ≤ (x : Int) := Int.natCast_nonneg _
  have hx1 : (x : Int) < 64 := by omega
  have S2 := hide (h.hold x hx (-1))
  have hmb : (H != -1) = true := by simp; omega
  clear x0 h h1 hH hx hl
  go_enter Try.func35, Try.ntmps35
  go_wp2_with fail
  have n1 := fun j => new_cell (w.setCell ⟨b, 5 + x, none⟩ (.int .i64 (-1))) #[.int .i64 x, .int .i64 H, .bool true] 68 w.heap.size (by simp [World.setCell]) j
  have r0 := n1 0
  have r1 := n1 1
  have r2 := n1 2
  exact bodyPost_ret (v := .agg #[.int .i64 x, .int .i64 H, .bool true]) (by simp [results, Try.results35, go_sem, r0, r1, r2]) rfl ⟨rfl, S2.out.ext ((Ext.refl _).alloc _ _), ((Mut.refl b w).setCell _ _).trans (((Ext.refl _).alloc _ _).mut b)⟩

set_option maxRecDepth 100000 in
set_option maxHeartbeats 1000000 in
theorem turn_take {b : Nat} {next tiles n : Int} {held : List Int} (w : World) (h : Crew w b next tiles n held) (x : Nat) (hx : x < held.length) (hl : held.length ≤ 64) (hH : held.getD x 0 = -1) (hnx : 0 ≤ next ∧ next ≤ 4096) :
    Calls Try.prog 35 #[.pointer (some ⟨b, 0, none⟩), .int .i64 x] w fun e w' => e = .returned (.agg #[.int .i64 x, .int .i64 next, .bool false]) ∧ Crew w' b (next + 1) tiles n (held.set x next) ∧ Mut b w w' := by
  have x0 : Ext w (w.alloc (.cells #[.int .i64 0, .int .i64 0, .bool false] 68)) := (Ext.refl w).alloc _ _
  have hlt := h.lt
  have h1 := h.ext x0
  have q0 := h1.ch x hx
  rw [hH] at q0
  have f0 := h1.fz (5 + x)
  have hx0 : (0 : Int) ≤ (x : Int) := Int.natCast_nonneg _
  have hx1 : (x : Int) < 64 := by omega
  have H1 := hide h1
  have X0 := hide x0
  have n1 := fun j => new_cell w #[.int .i64 0, .int .i64 0, .bool false] 68 w.heap.size rfl j
  have r0 : (w.alloc (.cells #[.int .i64 0, .int .i64 0, .bool false] 68)).cell? ⟨w.heap.size, 0, none⟩ = some (.int .i64 0) := n1 0
  have r1 : (w.alloc (.cells #[.int .i64 0, .int .i64 0, .bool false] 68)).cell? ⟨w.heap.size, 1, none⟩ = some (.int .i64 0) := n1 1
  have r2 : (w.alloc (.cells #[.int .i64 0, .int .i64 0, .bool false] 68)).cell? ⟨w.heap.size, 2, none⟩ = some (.bool false) := n1 2
  clear x0 h h1 hH n1
  go_enter Try.func35, Try.ntmps35
  go_wp2_with fail
  generalize hW : w.alloc (.cells #[.int .i64 0, .int .i64 0, .bool false] 68) = W at H1 X0 q0 f0 r0 r1 r2 ⊢
  clear hW
  have H1d := hide H1.out.drew
  have rd0 : W.drew.cell? ⟨w.heap.size, 0, none⟩ = some (.int .i64 0) := r0
  have rd1 : W.drew.cell? ⟨w.heap.size, 1, none⟩ = some (.int .i64 0) := r1
  have rd2 : W.drew.cell? ⟨w.heap.size, 2, none⟩ = some (.bool false) := r2
  have SA : Hid ((fun w' => w'.cell? ⟨b, 4, none⟩ = some (.int .i64 n)) W.drew) := H1.out.c4
  go_region_held3 (fun w' => w'.cell? ⟨b, 4, none⟩ = some (.int .i64 n)) (first | with_reducible exact SA.out | with_reducible exact SB'.out | with_reducible exact SC'.out | exact SA.out | exact SB'.out | exact SC'.out | fail) (first | (go_at_call 44; refine (take_any _ H1d.out (by omega)).mono ?_; rintro e w2 ⟨rfl, hC, hM⟩; have q2 := hC.ch x hx; have f2 := hC.fz (5 + x); have s0 := hM.box (by omega) rd0; have s1 := hM.box (by omega) rd1; have s2 := hM.box (by omega) rd2; have sf : ∀ o, w2.frozen? ⟨w.heap.size, o, none⟩ = false := fun o => (hM.fz _).trans (X0.out.unfrozen (Nat.le_refl _) o); have S2 := hide (hC.hold x hx next); have M2 := hide ((X0.out.drew.mut b).trans hM); have q3 : (w2.setCell ⟨b, 5 + x, none⟩ (.int .i64 next)).cell? ⟨b, 5 + x, none⟩ = some (.int .i64 next) := World.cell?_setCell_same _ _ _ q2; have m5 : Mut b w2 (w2.setCell ⟨b, 5 + x, none⟩ (.int .i64 next)) := (Mut.refl b w2).setCell _ _; have u0 := m5.box (by omega) s0; have u1 := m5.box (by omega) s1; have u2 := m5.box (by omega) s2; have M3 := hide (M2.out.trans m5); have SB' : Hid ((fun w' => w'.cell? ⟨b, 4, none⟩ = some (.int .i64 n)) w2) := hC.c4; have SC' : Hid ((fun w' => w'.cell? ⟨b, 4, none⟩ = some (.int .i64 n)) (w2.setCell ⟨b, 5 + x, none⟩ (.int .i64 next))) := S2.out.c4; clear hC hM m5) | fail)
  go_wp2_with fail
  obtain ⟨p0, p1, p2⟩ := set3 u0 u1 u2 (.int .i64 x) (.int .i64 next) (.bool false)
  exact bodyPost_ret (v := .agg #[.int .i64 x, .int .i64 next, .bool false]) (by simp [results, Try.results35, go_sem, p0, p1, p2]) rfl ⟨rfl, S2.out.far (by omega) _ _ _, M3.out.far w.heap.size (Nat.le_refl _) _ _ _⟩
end Go.Proofs.Ytjjemnlknnnkbaa
