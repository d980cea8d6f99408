import Derived.Test.YtjjemnlknnnkbaaMarks
import Derived.Test.YtjjemnlknnnkbaaLocks
import Derived.Conc.MuLone
namespace Go.Proofs.Ytjjemnlknnnkbaa
open Go.ChangeShapes Go.RowKit Go.MuLone
set_option linter.unusedSimpArgs false
set_option linter.unusedVariables false

theorem near {W : World} {b o q : Nat} {v x : Value} (hne : o ≠ q) (h : W.cell? ⟨b, q, none⟩ = some x) : (W.setCell ⟨b, o, none⟩ v).cell? ⟨b, q, none⟩ = some x := by
  rw [World.cell?_setCell_other _ _ _ _ (by intro e; simp only [Addr.mk.injEq] at e; omega)]; exact h

/-- A crew in block b: the lock free, next and tiles of the queue, the workers, what they hold. -/
structure Crew (w : World) (b : Nat) (next tiles n : Int) (held : List Int) : Prop where
  c0 : w.cell? ⟨b, 0, none⟩ = some (.int .i32 0)
  c2 : w.cell? ⟨b, 2, none⟩ = some (.int .i64 next)
  c3 : w.cell? ⟨b, 3, none⟩ = some (.int .i64 tiles)
  c4 : w.cell? ⟨b, 4, none⟩ = some (.int .i64 n)
  ch : ∀ j, j < held.length → w.cell? ⟨b, 5 + j, none⟩ = some (.int .i64 (held.getD j 0))
  fz : ∀ o, w.frozen? ⟨b, o, none⟩ = false
theorem Crew.drew {w : World} {b : Nat} {next tiles n : Int} {held : List Int} (h : Crew w b next tiles n held) : Crew w.drew b next tiles n held := ⟨h.c0, h.c2, h.c3, h.c4, h.ch, h.fz⟩
theorem Crew.relock {w : World} {b : Nat} {next tiles n : Int} {held : List Int} (h : Crew w b next tiles n held) (x : Value) : Crew ((w.setCell ⟨b, 0, none⟩ x).setCell ⟨b, 0, none⟩ (.int .i32 0)) b next tiles n held :=
  ⟨World.cell?_setCell_same _ _ _ (World.cell?_setCell_same _ _ _ h.c0), near (by omega) (near (by omega) h.c2), near (by omega) (near (by omega) h.c3), near (by omega) (near (by omega) h.c4), fun j hj => near (by omega) (near (by omega) (h.ch j hj)), fun o => by simp [h.fz]⟩
theorem Crew.retake {w : World} {b : Nat} {next tiles n : Int} {held : List Int} (h : Crew w b next tiles n held) (x : Value) (m : Int) : Crew (((w.setCell ⟨b, 0, none⟩ x).setCell ⟨b, 2, none⟩ (.int .i64 m)).setCell ⟨b, 0, none⟩ (.int .i32 0)) b m tiles n held :=
  ⟨World.cell?_setCell_same _ _ _ (near (by omega) (World.cell?_setCell_same _ _ _ h.c0)), near (by omega) (World.cell?_setCell_same _ _ _ (near (by omega) h.c2)), near (by omega) (near (by omega) (near (by omega) h.c3)), near (by omega) (near (by omega) (near (by omega) h.c4)), fun j hj => near (by omega) (near (by omega) (near (by omega) (h.ch j hj))), fun o => by simp [h.fz]⟩
theorem getD_set (xs : List Int) (i : Nat) (x : Int) (j : Nat) (hi : i < xs.length) : (xs.set i x).getD j 0 = if i = j then x else xs.getD j 0 := by
  rw [List.getD_eq_getElem?_getD, List.getElem?_set, List.getD_eq_getElem?_getD]
  by_cases e : i = j
  · subst e; simp [hi]
  · simp [e]
theorem Crew.hold {w : World} {b : Nat} {next tiles n : Int} {held : List Int} (h : Crew w b next tiles n held) (i : Nat) (hi : i < held.length) (x : Int) : Crew (w.setCell ⟨b, 5 + i, none⟩ (.int .i64 x)) b next tiles n (held.set i x) :=
  ⟨near (by omega) h.c0, near (by omega) h.c2, near (by omega) h.c3, near (by omega) h.c4, fun j hj => by
    rw [List.length_set] at hj
    rw [getD_set held i x j hi]
    by_cases e : i = j
    · subst e; rw [if_pos rfl]; exact World.cell?_setCell_same _ _ _ (h.ch i hi)
    · rw [if_neg e]; exact near (by omega) (h.ch j hj), fun o => by simp [h.fz]⟩
theorem Crew.mut {w w' : World} {b c : Nat} {next tiles n : Int} {held : List Int} (h : Crew w b next tiles n held) (m : Mut c w w') (hb : b ≠ c) : Crew w' b next tiles n held :=
  ⟨m.box hb h.c0, m.box hb h.c2, m.box hb h.c3, m.box hb h.c4, fun j hj => m.box hb (h.ch j hj), fun o => (m.fz _).trans (h.fz o)⟩

set_option maxHeartbeats 800000 in
/-- (*tileQueue).empty -/
theorem empty_any {b : Nat} {next tiles n : Int} {held : List Int} (w : World) (h : Crew w b next tiles n held) :
    Calls Try.prog 45 #[.pointer (some ⟨b, 0, none⟩)] w fun e w' => e = .returned (.bool (decide (next = tiles))) ∧ Crew w' b next tiles n held ∧ Mut b w w' := by
  have f0 := h.fz 0
  have c0 := h.c0
  have c2 := h.c2
  have c3 := h.c3
  have H := hide h
  clear h
  have d2 : (w.setCell ⟨b, 0, none⟩ (.int .i32 1)).cell? ⟨b, 2, none⟩ = some (.int .i64 next) := near (by omega) c2
  have d3 : (w.setCell ⟨b, 0, none⟩ (.int .i32 1)).cell? ⟨b, 3, none⟩ = some (.int .i64 tiles) := near (by omega) c3
  have e0 : (w.setCell ⟨b, 0, none⟩ (.int .i32 1)).cell? ⟨b, 0, none⟩ = some (.int .i32 1) := World.cell?_setCell_same _ _ _ c0
  have M0 : Hid (Mut b w (w.setCell ⟨b, 0, none⟩ (.int .i32 1))) := (Mut.refl _ _).setCell _ _
  go_enter_defers Try.func45, Try.ntmps45
  go_wp2_with (go_at_call 53; refine (lock_free muLib ⟨b, 0, none⟩ _ c0 f0).mono ?_; rintro e w' ⟨rfl, rfl⟩)
  go_region
  all_goals go_wp2
  all_goals
    refine leaves_cons (f := 54) (args := #[.pointer (some ⟨b, 0, none⟩)]) (by simp) (by simp [go_sem]) ?_
    refine (unlock_deferred muLib ⟨b, 0, none⟩ .returning _ ?_ ?_).mono ?_
    · exact e0
    · simp [f0]
    rintro e u' w'' ⟨rfl, rfl, rfl⟩
    exact ⟨_, results_tmp rfl _ _ _, by congr 2, by first | exact H.out.drew.relock _ | exact H.out.relock _, by first | exact M0.out.drew.setCell _ _ | exact M0.out.setCell _ _⟩

set_option maxHeartbeats 800000 in
/-- (*tileQueue).take -/
theorem take_any {b : Nat} {next tiles n : Int} {held : List Int} (w : World) (h : Crew w b next tiles n held) (hn : 0 ≤ next ∧ next ≤ 1000000) :
    Calls Try.prog 44 #[.pointer (some ⟨b, 0, none⟩)] w fun e w' => e = .returned (.int .i64 next) ∧ Crew w' b (next + 1) tiles n held ∧ Mut b w w' := by
  have f0 := h.fz 0
  have f2 := h.fz 2
  have c0 := h.c0
  have c2 := h.c2
  have H := hide h
  clear h
  have d2 : (w.setCell ⟨b, 0, none⟩ (.int .i32 1)).cell? ⟨b, 2, none⟩ = some (.int .i64 next) := near (by omega) c2
  have e0 : (w.setCell ⟨b, 0, none⟩ (.int .i32 1)).cell? ⟨b, 0, none⟩ = some (.int .i32 1) := World.cell?_setCell_same _ _ _ c0
  have M0 : Hid (Mut b w (w.setCell ⟨b, 0, none⟩ (.int .i32 1))) := (Mut.refl _ _).setCell _ _
  go_enter_defers Try.func44, Try.ntmps44
  go_wp2_with (go_at_call 53; refine (lock_free muLib ⟨b, 0, none⟩ _ c0 f0).mono ?_; rintro e w' ⟨rfl, rfl⟩)
  refine leaves_cons (f := 54) (args := #[.pointer (some ⟨b, 0, none⟩)]) (by simp) (by simp [go_sem]) ?_
  refine (unlock_deferred muLib ⟨b, 0, none⟩ .returning _ ?_ ?_).mono ?_
  · exact near (by omega) e0
  · simp [f0]
  rintro e u' w'' ⟨rfl, rfl, rfl⟩
  exact ⟨_, results_tmp rfl _ _ _, rfl, H.out.retake _ _, (M0.out.setCell _ _).setCell _ _⟩
end Go.Proofs.Ytjjemnlknnnkbaa
