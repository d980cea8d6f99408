import Derived.Test.YtdmbpkcjladhdaaGreatDoorFcJ
namespace Go.Proofs.YtdmbpkcjladhdaaGreatDoor
open Go.RowKit FL Ieee
set_option linter.unusedSimpArgs false
set_option linter.unusedVariables false

/-- A result lies in block b and may be written. -/
structure R4 (b : Nat) (w : World) (c i : Int) (f g : Nat) : Prop where
  c0 : w.cell? ⟨b, 0, none⟩ = some (.int .i64 c)
  c1 : w.cell? ⟨b, 1, none⟩ = some (.int .i64 i)
  c2 : w.cell? ⟨b, 2, none⟩ = some (.float .f64 f)
  c3 : w.cell? ⟨b, 3, none⟩ = some (.float .f64 g)
  fz : ∀ o, w.frozen? ⟨b, o, none⟩ = false

theorem R4.keep {b : Nat} {w w' : World} {c i : Int} {f g : Nat} (h : R4 b w c i f g) (x : Below w.heap.size w w') : R4 b w' c i f g := by
  have hb := cell_lt h.c0
  exact ⟨by rw [x.cell (p := ⟨b, 0, none⟩) hb, h.c0], by rw [x.cell (p := ⟨b, 1, none⟩) hb, h.c1], by rw [x.cell (p := ⟨b, 2, none⟩) hb, h.c2], by rw [x.cell (p := ⟨b, 3, none⟩) hb, h.c3], fun o => by rw [Below.frozen x (p := ⟨b, o, none⟩) hb, h.fz]⟩
theorem R4.new (w : World) (c i : Int) (f g : Nat) (t : TypeId) : R4 w.heap.size (w.alloc (.cells #[.int .i64 c, .int .i64 i, .float .f64 f, .float .f64 g] t)) c i f g :=
  ⟨by simp, by simp, by simp, by simp, fun o => World.frozen?_alloc_new _ _ _ _⟩

theorem R4.set {b : Nat} {w : World} {c i : Int} {f g : Nat} (h : R4 b w c i f g) (c' i' : Int) (f' g' : Nat) :
    R4 b ((((w.setCell ⟨b, 0, none⟩ (.int .i64 c')).setCell ⟨b, 1, none⟩ (.int .i64 i')).setCell ⟨b, 2, none⟩ (.float .f64 f')).setCell ⟨b, 3, none⟩ (.float .f64 g')) c' i' f' g' := by
  have oth : ∀ (w : World) (o p : Nat) (v x : Value), o ≠ p → w.cell? ⟨b, p, none⟩ = some x → (w.setCell ⟨b, o, none⟩ v).cell? ⟨b, p, none⟩ = some x := fun w o p v x hop hx => by
    rw [World.cell?_setCell_other _ _ _ _ (by intro e; simp only [Addr.mk.injEq] at e; omega), hx]
  have sam : ∀ (w : World) (o : Nat) (v x : Value), w.cell? ⟨b, o, none⟩ = some x → (w.setCell ⟨b, o, none⟩ v).cell? ⟨b, o, none⟩ = some v := fun w o v x hx => World.cell?_setCell_same _ _ _ hx
  refine ⟨?_, ?_, ?_, ?_, fun o => by rw [World.frozen?_setCell, World.frozen?_setCell, World.frozen?_setCell, World.frozen?_setCell, h.fz]⟩
  · exact oth _ _ _ _ _ (by omega) (oth _ _ _ _ _ (by omega) (oth _ _ _ _ _ (by omega) (sam _ _ _ _ h.c0)))
  · exact oth _ _ _ _ _ (by omega) (oth _ _ _ _ _ (by omega) (sam _ _ _ _ (oth _ _ _ _ _ (by omega) h.c1)))
  · exact oth _ _ _ _ _ (by omega) (sam _ _ _ _ (oth _ _ _ _ _ (by omega) (oth _ _ _ _ _ (by omega) h.c2)))
  · exact sam _ _ _ _ (oth _ _ _ _ _ (by omega) (oth _ _ _ _ _ (by omega) (oth _ _ _ _ _ (by omega) h.c3)))

def QOk (good : Bool) (R : Int → Nat → Nat → Prop) (w : World) (e : Ending) (w' : World) : Prop := ∃ (i' : Int) (f' g' : Nat), e = .returned (if good = true then .agg #[.int .i64 0, .int .i64 i', .float .f64 f', .float .f64 g'] else .agg #[.int .i64 14, .int .i64 0, .float .f64 0, .float .f64 0]) ∧ R i' f' g' ∧ Below w.heap.size w w'

set_option maxRecDepth 100000 in
set_option maxHeartbeats 1000000 in
theorem ParseCell_any (dt : Int) (sv : Value) (L : List UInt8) (good : Bool) (R : Int → Nat → Nat → Prop) (w : World) (m : Int) (hm : w.cell? ⟨2, 0, none⟩ = some (.int .i64 m))
    (cvt : (convert 22 9 sv).run Tryz.prog (w.alloc (.cells #[.int .i64 0, .int .i64 0, .float .f64 0, .float .f64 0] 31)) = .ok (str L) (w.alloc (.cells #[.int .i64 0, .int .i64 0, .float .f64 0, .float .f64 0] 31)))
    (pc : ∀ w, w.cell? ⟨2, 0, none⟩ = some (.int .i64 m) → Calls Tryz.prog 19 #[.int .i64 dt, str L] w fun e w' => POk good R w e w') :
    Calls Tryz.prog 7 #[.int .i64 dt, sv] w fun e w' => QOk good R w e w' := by
  have Q0 := R4.new w 0 0 0 0 31
  have A0 : Below w.heap.size w (w.alloc (.cells #[.int .i64 0, .int .i64 0, .float .f64 0, .float .f64 0] 31)) := (Below.refl _ w).alloc (Nat.le_refl _) _
  have p0 := pc _ (below_cell A0 hm)
  clear pc
  generalize str L = U at *
  go_enter Tryz.func7, Tryz.ntmps7
  go_wp2_with (go_at_call 19; refine p0.mono ?_; rintro e w1 ⟨i', f', g', rfl, hR, x1⟩; refine Hid.out ?_)
  refine hide ?_
  have Q1 := Q0.keep x1
  have A1 : Below w.heap.size w w1 := A0.trans (x1.mono A0.size)
  have zl : w.heap.size < w1.heap.size := cell_lt Q1.c0
  have HR := hide hR
  have HA := hide A1
  clear x1 Q0 p0 hR cvt A1 A0
  have hne : w.heap.size ≠ w1.heap.size := by omega
  cases good
  · have S := (Q1.set 14 0 0 0).keep ((Below.refl _ _).alloc (o := .cells #[.int .i64 i', .float .f64 f', .float .f64 g'] 25) (Nat.le_refl _))
    have AS := (((((HA.out.setCell (p := ⟨w.heap.size, 0, none⟩) (Nat.le_refl _) (.int .i64 14)).setCell (p := ⟨w.heap.size, 1, none⟩) (Nat.le_refl _) (.int .i64 0)).setCell (p := ⟨w.heap.size, 2, none⟩) (Nat.le_refl _) (.float .f64 0)).setCell (p := ⟨w.heap.size, 3, none⟩) (Nat.le_refl _) (.float .f64 0)))
    have AT := hide (AS.alloc (o := .cells #[.int .i64 i', .float .f64 f', .float .f64 g'] 25) AS.size)
    have HS := hide S
    obtain ⟨q0, q1, q2, q3, qf⟩ := Q1
    clear S AS
    go_wp2
    obtain ⟨s0, s1, s2, s3, sf⟩ := HS.out
    exact bodyPost_ret (v := .agg #[.int .i64 14, .int .i64 0, .float .f64 0, .float .f64 0]) (by simp [results, Tryz.results7, go_sem, s0, s1, s2, s3]) rfl ⟨i', f', g', rfl, HR.out, AT.out⟩
  · have S := (Q1.set 0 i' f' g').keep ((Below.refl _ _).alloc (o := .cells #[.int .i64 i', .float .f64 f', .float .f64 g'] 25) (Nat.le_refl _))
    have AS := (((((HA.out.setCell (p := ⟨w.heap.size, 0, none⟩) (Nat.le_refl _) (.int .i64 0)).setCell (p := ⟨w.heap.size, 1, none⟩) (Nat.le_refl _) (.int .i64 i')).setCell (p := ⟨w.heap.size, 2, none⟩) (Nat.le_refl _) (.float .f64 f')).setCell (p := ⟨w.heap.size, 3, none⟩) (Nat.le_refl _) (.float .f64 g')))
    have AT := hide (AS.alloc (o := .cells #[.int .i64 i', .float .f64 f', .float .f64 g'] 25) AS.size)
    have HS := hide S
    obtain ⟨q0, q1, q2, q3, qf⟩ := Q1
    clear S AS
    go_wp2
    obtain ⟨s0, s1, s2, s3, sf⟩ := HS.out
    exact bodyPost_ret (v := .agg #[.int .i64 0, .int .i64 i', .float .f64 f', .float .f64 g']) (by simp [results, Tryz.results7, go_sem, s0, s1, s2, s3]) rfl ⟨i', f', g', rfl, HR.out, AT.out⟩
end Go.Proofs.YtdmbpkcjladhdaaGreatDoor
