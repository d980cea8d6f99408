import Derived.Test.YtjjemnlknnnkbaaPoolC
namespace Go.Proofs.Ytjjemnlknnnkbaa
open Go.ChangeShapes Go.RowKit Go.MuLone
set_option linter.unusedSimpArgs false
set_option linter.unusedVariables false

/-- The pool's own block: the lock free, the sum, the budget, the blocks, the map. -/
structure PB (w : World) (P : Nat) (sum budget : Int) (vB vM : Value) : Prop where
  c0 : w.cell? ⟨P, 0, none⟩ = some (.int .i32 0)
  c2 : w.cell? ⟨P, 2, none⟩ = some (.int .i64 sum)
  c3 : w.cell? ⟨P, 3, none⟩ = some (.int .i64 budget)
  c4 : w.cell? ⟨P, 4, none⟩ = some vB
  c5 : w.cell? ⟨P, 5, none⟩ = some vM
  fz : ∀ o, w.frozen? ⟨P, o, none⟩ = false
theorem PB.drew {w : World} {P : Nat} {sum budget : Int} {vB vM : Value} (h : PB w P sum budget vB vM) : PB w.drew P sum budget vB vM := ⟨h.c0, h.c2, h.c3, h.c4, h.c5, h.fz⟩
theorem PB.relock {w : World} {P : Nat} {sum budget : Int} {vB vM : Value} (h : PB w P sum budget vB vM) (x : Value) : PB ((w.setCell ⟨P, 0, none⟩ x).setCell ⟨P, 0, none⟩ (.int .i32 0)) P sum budget vB vM :=
  ⟨World.cell?_setCell_same _ _ _ (World.cell?_setCell_same _ _ _ h.c0), near (by omega) (near (by omega) h.c2), near (by omega) (near (by omega) h.c3), near (by omega) (near (by omega) h.c4), near (by omega) (near (by omega) h.c5), fun o => by simp [h.fz]⟩
theorem PB.resum {w : World} {P : Nat} {sum budget : Int} {vB vM : Value} (h : PB w P sum budget vB vM) (x : Value) (m : Int) : PB (((w.setCell ⟨P, 0, none⟩ x).setCell ⟨P, 2, none⟩ (.int .i64 m)).setCell ⟨P, 0, none⟩ (.int .i32 0)) P m budget vB vM :=
  ⟨World.cell?_setCell_same _ _ _ (near (by omega) (World.cell?_setCell_same _ _ _ h.c0)), near (by omega) (World.cell?_setCell_same _ _ _ (near (by omega) h.c2)), near (by omega) (near (by omega) (near (by omega) h.c3)), near (by omega) (near (by omega) (near (by omega) h.c4)), near (by omega) (near (by omega) (near (by omega) h.c5)), fun o => by simp [h.fz]⟩
theorem PB.mut {w w' : World} {P c : Nat} {sum budget : Int} {vB vM : Value} (h : PB w P sum budget vB vM) (m : Mut c w w') (hb : P ≠ c) : PB w' P sum budget vB vM :=
  ⟨m.box hb h.c0, m.box hb h.c2, m.box hb h.c3, m.box hb h.c4, m.box hb h.c5, fun o => (m.fz _).trans (h.fz o)⟩
theorem PB.ext {w w' : World} {P : Nat} {sum budget : Int} {vB vM : Value} (h : PB w P sum budget vB vM) (x : Ext w w') : PB w' P sum budget vB vM :=
  ⟨x.box h.c0, x.box h.c2, x.box h.c3, x.box h.c4, x.box h.c5, fun o => (x.fz _).trans (h.fz o)⟩
theorem PB.lt {w : World} {P : Nat} {sum budget : Int} {vB vM : Value} (h : PB w P sum budget vB vM) : P < w.heap.size := cell_lt h.c0
theorem PB.setB {w : World} {P : Nat} {sum budget : Int} {vB vM : Value} (h : PB w P sum budget vB vM) (x : Value) : PB (w.setCell ⟨P, 4, none⟩ x) P sum budget x vM :=
  ⟨near (by omega) h.c0, near (by omega) h.c2, near (by omega) h.c3, World.cell?_setCell_same _ _ _ h.c4, near (by omega) h.c5, fun o => by simp [h.fz]⟩

set_option maxHeartbeats 800000 in
theorem now_any {P : Nat} {sum budget : Int} {vB vM : Value} (w : World) (h : PB w P sum budget vB vM) :
    Calls Try.prog 43 #[.pointer (some ⟨P, 0, none⟩)] w fun e w' => e = .returned (.int .i64 sum) ∧ PB w' P sum budget vB vM ∧ Mut P w w' := by
  have f0 := h.fz 0
  have c0 := h.c0
  have d2 : (w.setCell ⟨P, 0, none⟩ (.int .i32 1)).cell? ⟨P, 2, none⟩ = some (.int .i64 sum) := near (by omega) h.c2
  have e0 : (w.setCell ⟨P, 0, none⟩ (.int .i32 1)).cell? ⟨P, 0, none⟩ = some (.int .i32 1) := World.cell?_setCell_same _ _ _ c0
  have H := hide h
  clear h
  have M0 : Hid (Mut P w (w.setCell ⟨P, 0, none⟩ (.int .i32 1))) := (Mut.refl _ _).setCell _ _
  go_enter_defers Try.func43, Try.ntmps43
  go_wp2_with (go_at_call 53; refine (lock_free muLib ⟨P, 0, none⟩ _ c0 f0).mono ?_; rintro e w' ⟨rfl, rfl⟩)
  refine leaves_cons (f := 54) (args := #[.pointer (some ⟨P, 0, none⟩)]) (by simp) (by simp [go_sem]) ?_
  refine (unlock_deferred muLib ⟨P, 0, none⟩ .returning _ ?_ ?_).mono ?_
  · exact e0
  · simp [f0]
  rintro e u' w'' ⟨rfl, rfl, rfl⟩
  exact ⟨_, results_tmp rfl _ _ _, rfl, H.out.relock _, M0.out.setCell _ _⟩

set_option maxHeartbeats 800000 in
theorem shrink_any {P : Nat} {sum budget : Int} {vB vM : Value} (w : World) (h : PB w P sum budget vB vM) (n : Int) (hs : 0 ≤ sum ∧ sum ≤ 1000000000) (hn : 0 ≤ n ∧ n ≤ 65536) :
    Calls Try.prog 49 #[.pointer (some ⟨P, 0, none⟩), .int .i64 n] w fun e w' => e = .returned (.tuple #[]) ∧ PB w' P (sum - n) budget vB vM ∧ Mut P w w' := by
  have f0 := h.fz 0
  have f2 := h.fz 2
  have c0 := h.c0
  have d2 : (w.setCell ⟨P, 0, none⟩ (.int .i32 1)).cell? ⟨P, 2, none⟩ = some (.int .i64 sum) := near (by omega) h.c2
  have e0 : (w.setCell ⟨P, 0, none⟩ (.int .i32 1)).cell? ⟨P, 0, none⟩ = some (.int .i32 1) := World.cell?_setCell_same _ _ _ c0
  have H := hide h
  clear h
  have M0 : Hid (Mut P w (w.setCell ⟨P, 0, none⟩ (.int .i32 1))) := (Mut.refl _ _).setCell _ _
  go_enter_defers Try.func49, Try.ntmps49
  go_wp2_with (go_at_call 53; refine (lock_free muLib ⟨P, 0, none⟩ _ c0 f0).mono ?_; rintro e w' ⟨rfl, rfl⟩)
  refine leaves_cons (f := 54) (args := #[.pointer (some ⟨P, 0, none⟩)]) (by simp) (by simp [go_sem]) ?_
  refine (unlock_deferred muLib ⟨P, 0, none⟩ .returning _ ?_ ?_).mono ?_
  · exact near (by omega) e0
  · simp [f0]
  rintro e u' w'' ⟨rfl, rfl, rfl⟩
  exact ⟨_, results_none rfl _ _ _, rfl, H.out.resum _ _, (M0.out.setCell _ _).setCell _ _⟩

set_option maxHeartbeats 800000 in
theorem grow_yes {P : Nat} {sum budget : Int} {vB vM : Value} (w : World) (h : PB w P sum budget vB vM) (n : Int) (hs : 0 ≤ sum ∧ sum ≤ 1000000000) (hn : 0 ≤ n ∧ n ≤ 65536) (hb : sum + n ≤ budget) :
    Calls Try.prog 46 #[.pointer (some ⟨P, 0, none⟩), .int .i64 n] w fun e w' => e = .returned (.bool true) ∧ PB w' P (sum + n) budget vB vM ∧ Mut P w w' := by
  have f0 := h.fz 0
  have f2 := h.fz 2
  have c0 := h.c0
  have d2 : (w.setCell ⟨P, 0, none⟩ (.int .i32 1)).cell? ⟨P, 2, none⟩ = some (.int .i64 sum) := near (by omega) h.c2
  have d3 : (w.setCell ⟨P, 0, none⟩ (.int .i32 1)).cell? ⟨P, 3, none⟩ = some (.int .i64 budget) := near (by omega) h.c3
  have e0 : (w.setCell ⟨P, 0, none⟩ (.int .i32 1)).cell? ⟨P, 0, none⟩ = some (.int .i32 1) := World.cell?_setCell_same _ _ _ c0
  have H := hide h
  clear h
  have M0 : Hid (Mut P w (w.setCell ⟨P, 0, none⟩ (.int .i32 1))) := (Mut.refl _ _).setCell _ _
  have hd : ¬ budget < sum + n := by omega
  go_enter_defers Try.func46, Try.ntmps46
  go_wp2_with (go_at_call 53; refine (lock_free muLib ⟨P, 0, none⟩ _ c0 f0).mono ?_; rintro e w' ⟨rfl, rfl⟩)
  go_region
  all_goals go_wp2
  all_goals
    refine leaves_cons (f := 54) (args := #[.pointer (some ⟨P, 0, none⟩)]) (by simp) (by simp [go_sem]) ?_
    refine (unlock_deferred muLib ⟨P, 0, none⟩ .returning _ ?_ ?_).mono ?_
    · exact near (by omega) e0
    · simp [f0]
    rintro e u' w'' ⟨rfl, rfl, rfl⟩
    exact ⟨_, results_tmp rfl _ _ _, rfl, by first | exact H.out.drew.resum _ _ | exact H.out.resum _ _, by first | exact (M0.out.drew.setCell _ _).setCell _ _ | exact (M0.out.setCell _ _).setCell _ _⟩

set_option maxHeartbeats 800000 in
theorem grow_no {P : Nat} {sum budget : Int} {vB vM : Value} (w : World) (h : PB w P sum budget vB vM) (n : Int) (hs : 0 ≤ sum ∧ sum ≤ 1000000000) (hn : 0 ≤ n ∧ n ≤ 65536) (hb : budget < sum + n) :
    Calls Try.prog 46 #[.pointer (some ⟨P, 0, none⟩), .int .i64 n] w fun e w' => e = .returned (.bool false) ∧ PB w' P sum budget vB vM ∧ Mut P w w' := by
  have f0 := h.fz 0
  have c0 := h.c0
  have d2 : (w.setCell ⟨P, 0, none⟩ (.int .i32 1)).cell? ⟨P, 2, none⟩ = some (.int .i64 sum) := near (by omega) h.c2
  have d3 : (w.setCell ⟨P, 0, none⟩ (.int .i32 1)).cell? ⟨P, 3, none⟩ = some (.int .i64 budget) := near (by omega) h.c3
  have e0 : (w.setCell ⟨P, 0, none⟩ (.int .i32 1)).cell? ⟨P, 0, none⟩ = some (.int .i32 1) := World.cell?_setCell_same _ _ _ c0
  have H := hide h
  clear h
  have M0 : Hid (Mut P w (w.setCell ⟨P, 0, none⟩ (.int .i32 1))) := (Mut.refl _ _).setCell _ _
  go_enter_defers Try.func46, Try.ntmps46
  go_wp2_with (go_at_call 53; refine (lock_free muLib ⟨P, 0, none⟩ _ c0 f0).mono ?_; rintro e w' ⟨rfl, rfl⟩)
  go_region
  all_goals go_wp2
  all_goals
    refine leaves_cons (f := 54) (args := #[.pointer (some ⟨P, 0, none⟩)]) (by simp) (by simp [go_sem]) ?_
    refine (unlock_deferred muLib ⟨P, 0, none⟩ .returning _ ?_ ?_).mono ?_
    · exact e0
    · simp [f0]
    rintro e u' w'' ⟨rfl, rfl, rfl⟩
    exact ⟨_, results_tmp rfl _ _ _, rfl, by first | exact H.out.drew.relock _ | exact H.out.relock _, by first | exact M0.out.drew.setCell _ _ | exact M0.out.setCell _ _⟩
end Go.Proofs.Ytjjemnlknnnkbaa
