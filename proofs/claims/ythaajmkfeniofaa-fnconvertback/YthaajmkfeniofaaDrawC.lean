import Derived.Test.YthaajmkfeniofaaOpenCode
import Derived.RegionTactic
import Derived.ChangeAlike
namespace Go.Proofs.Ythaajmkfeniofaa
open Go.RowKit FL
set_option linter.unusedSimpArgs false
set_option linter.unusedVariables false

def DrawnCell (w : World) (e : Ending) (w' : World) : Prop := ∃ (dt to i : Int) (f g : Nat), e = .returned (.tuple #[.int .i64 dt, .int .i64 to, .agg #[.int .i64 i, .float .f64 f, .float .f64 g]]) ∧ CellOk i f g ∧ Below w.heap.size w w'

set_option maxRecDepth 100000 in
set_option maxHeartbeats 2000000 in
theorem drawConvert_any {w : World} {v : Value} {len : Nat} (h : Code w v len) : Calls Try.prog 30 #[v] w fun e w' => DrawnCell w e w' := by
  have x0 : Ext w (w.alloc (.cells #[.int .i64 0, .float .f64 0, .float .f64 0] 29)) := (Ext.refl w).alloc _ _
  have H := hide (h.ext x0)
  have X0 := hide x0
  clear h x0
  go_enter Try.func30, Try.ntmps30
  go_wp2_with fail
  refine (source_code H.out).mono ?_
  rintro e w1 ⟨b, sv, n, mix, size, rfl, hs, hb, hB⟩
  have hb2 : w.heap.size + 1 ≤ b := by simpa using hb
  have q := fun (o : Nat) => hB.cell (p := ⟨w.heap.size, o, none⟩) (by simp)
  have qf := fun (o : Nat) => hB.frozen (p := ⟨w.heap.size, o, none⟩) (by simp)
  have hsz : w.heap.size + 1 ≤ w1.heap.size := by simpa using hB.size
  have Hs := hide hs
  have HB := hide hB
  have HQ := hide q
  have HF := hide qf
  clear hs hB q qf hb
  go_wp2_with fail
  refine (drawAny_any Hs.out).mono ?_
  rintro e w2 ⟨dt, i, f, g, at2, mix2, rfl, hdt, ok1, s2, m2⟩
  have hlt := s2.lt
  have y2 : Ext w2 (w2.alloc (.cells #[.int .i64 i, .float .f64 f, .float .f64 g] 29)) := (Ext.refl w2).alloc _ _
  have M2 := hide (m2.trans (y2.mut b))
  have z20 := M2.out.box (k := w.heap.size) (by omega) ((HQ.out 0).trans (by simp : _ = some (.int .i64 0)))
  have z21 := M2.out.box (k := w.heap.size) (by omega) ((HQ.out 1).trans (by simp : _ = some (.float .f64 0)))
  have z22 := M2.out.box (k := w.heap.size) (by omega) ((HQ.out 2).trans (by simp : _ = some (.float .f64 0)))
  have zf2 : ∀ o, (w2.alloc (.cells #[.int .i64 i, .float .f64 f, .float .f64 g] 29)).frozen? ⟨w.heap.size, o, none⟩ = false := fun o => (M2.out.fz _).trans ((HF.out o).trans (X0.out.unfrozen (Nat.le_refl _) o))
  have c20 : (w2.alloc (.cells #[.int .i64 i, .float .f64 f, .float .f64 g] 29)).cell? ⟨w2.heap.size, 0, none⟩ = some (.int .i64 i) := by simp
  have c21 : (w2.alloc (.cells #[.int .i64 i, .float .f64 f, .float .f64 g] 29)).cell? ⟨w2.heap.size, 1, none⟩ = some (.float .f64 f) := by simp
  have c22 : (w2.alloc (.cells #[.int .i64 i, .float .f64 f, .float .f64 g] 29)).cell? ⟨w2.heap.size, 2, none⟩ = some (.float .f64 g) := by simp
  have hw12 := m2.size
  have Hb2 := hide (below_mut (X0.out.bl.trans (HB.out.mono (by simp))) M2.out (by omega) (by omega))
  have Hs2 := hide (s2.keep y2)
  have Ok1 := hide ok1
  clear ok1 m2 s2 y2 M2
  go_wp2_with fail
  refine (drawDType_any Hs2.out).mono ?_
  rintro e w3 ⟨to, at3, mix3, rfl, hto, s3, m3⟩
  have z30 := m3.box (k := w.heap.size) (by omega) z20
  have z31 := m3.box (k := w.heap.size) (by omega) z21
  have z32 := m3.box (k := w.heap.size) (by omega) z22
  have c30 := m3.box (k := w2.heap.size) (by omega) c20
  have c31 := m3.box (k := w2.heap.size) (by omega) c21
  have c32 := m3.box (k := w2.heap.size) (by omega) c22
  have zf3 : ∀ o, w3.frozen? ⟨w.heap.size, o, none⟩ = false := fun o => (m3.fz _).trans (zf2 o)
  have Hb3 := hide (below_mut Hb2.out m3 (by omega) Hb2.out.size)
  have Hs3 := hide s3
  clear s3 m3 z20 z21 z22 zf2 c20 c21 c22 Hs2
  go_wp2_with fail
  refine (next_any Hs3.out 20).mono ?_
  rintro e w4 ⟨k4, at4, mix4, rfl, hk4, s4, m4⟩
  have z40 := m4.box (k := w.heap.size) (by omega) z30
  have z41 := m4.box (k := w.heap.size) (by omega) z31
  have z42 := m4.box (k := w.heap.size) (by omega) z32
  have c40 := m4.box (k := w2.heap.size) (by omega) c30
  have c41 := m4.box (k := w2.heap.size) (by omega) c31
  have c42 := m4.box (k := w2.heap.size) (by omega) c32
  have zf4 : ∀ o, w4.frozen? ⟨w.heap.size, o, none⟩ = false := fun o => (m4.fz _).trans (zf3 o)
  have Hb4 := hide (below_mut Hb3.out m4 (by omega) Hb3.out.size)
  have Hs4 := hide s4
  clear s4 m4 z30 z31 z32 zf3 c30 c31 c32 Hs3
  by_cases hz : k4 = 0
  · subst hz
    go_wp2_with fail
    refine (next_any Hs4.out 2).mono ?_
    rintro e w5 ⟨k5, at5, mix5, rfl, hk5, s5, m5⟩
    have z50 := m5.box (k := w.heap.size) (by omega) z40
    have z51 := m5.box (k := w.heap.size) (by omega) z41
    have z52 := m5.box (k := w.heap.size) (by omega) z42
    have c50 := m5.box (k := w2.heap.size) (by omega) c40
    have c51 := m5.box (k := w2.heap.size) (by omega) c41
    have c52 := m5.box (k := w2.heap.size) (by omega) c42
    have zf5 : ∀ o, w5.frozen? ⟨w.heap.size, o, none⟩ = false := fun o => (m5.fz _).trans (zf4 o)
    have Hb5 := hide (below_mut Hb4.out m5 (by omega) Hb4.out.size)
    clear s5 m5 z40 z41 z42 zf4 c40 c41 c42 Hs4
    obtain rfl | rfl : k5 = 0 ∨ k5 = 1 := by omega
    ·
      go_wp2_with fail
      go_region
      all_goals go_wp2
      all_goals exact bodyPost_ret (v := .tuple #[.int .i64 dt, .int .i64 0, .agg #[.int .i64 i, .float .f64 f, .float .f64 g]]) (by simp [results, Try.results30, go_sem, z50, z51, z52, c50, c51, c52]) rfl ⟨dt, 0, i, f, g, rfl, Ok1.out, by repeat (first | exact ((Hb5.out.setCell (Nat.le_refl _) _).setCell (Nat.le_refl _) _).setCell (Nat.le_refl _) _ | with_reducible refine Below.drew ?_)⟩
    ·
      go_wp2_with fail
      go_region
      all_goals go_wp2
      all_goals exact bodyPost_ret (v := .tuple #[.int .i64 dt, .int .i64 10, .agg #[.int .i64 i, .float .f64 f, .float .f64 g]]) (by simp [results, Try.results30, go_sem, z50, z51, z52, c50, c51, c52]) rfl ⟨dt, 10, i, f, g, rfl, Ok1.out, by repeat (first | exact ((Hb5.out.setCell (Nat.le_refl _) _).setCell (Nat.le_refl _) _).setCell (Nat.le_refl _) _ | with_reducible refine Below.drew ?_)⟩
  ·
    go_wp2_with fail
    go_region
    all_goals go_wp2
    all_goals exact bodyPost_ret (v := .tuple #[.int .i64 dt, .int .i64 to, .agg #[.int .i64 i, .float .f64 f, .float .f64 g]]) (by simp [results, Try.results30, go_sem, z40, z41, z42, c40, c41, c42]) rfl ⟨dt, to, i, f, g, rfl, Ok1.out, by repeat (first | exact ((Hb4.out.setCell (Nat.le_refl _) _).setCell (Nat.le_refl _) _).setCell (Nat.le_refl _) _ | with_reducible refine Below.drew ?_)⟩

end Go.Proofs.Ythaajmkfeniofaa
