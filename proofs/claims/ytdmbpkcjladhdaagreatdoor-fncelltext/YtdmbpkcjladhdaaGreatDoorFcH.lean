import Derived.Test.YtdmbpkcjladhdaaGreatDoorFcG
import Derived.Test.YtdmbpkcjladhdaaGreatDoorUnA
import Derived.Test.YtdmbpkcjladhdaaGreatDoorCvB
import Derived.Test.YtdmbpkcjladhdaaGreatDoorFmN
namespace Go.Proofs.YtdmbpkcjladhdaaGreatDoor
open Go.RowKit FL Ieee
set_option linter.unusedSimpArgs false
set_option linter.unusedVariables false

/-- A cell lies in block b and may be written. -/
structure RC (b : Nat) (w : World) (i : Int) (f g : Nat) : Prop where
  c0 : w.cell? ⟨b, 0, none⟩ = some (.int .i64 i)
  c1 : w.cell? ⟨b, 1, none⟩ = some (.float .f64 f)
  c2 : w.cell? ⟨b, 2, none⟩ = some (.float .f64 g)
  fz : ∀ o, w.frozen? ⟨b, o, none⟩ = false

theorem cell_lt {W : World} {b o : Nat} {v : Value} (hc : W.cell? ⟨b, o, none⟩ = some v) : b < W.heap.size := by
  by_cases e : b < W.heap.size
  · exact e
  · have e2 : W.heap[b]? = none := by simp; omega
    simp [World.cell?, e2] at hc
theorem RC.keep {b : Nat} {w w' : World} {i : Int} {f g : Nat} (h : RC b w i f g) (x : Below w.heap.size w w') : RC b w' i f g := by
  have hb := cell_lt h.c0
  exact ⟨by rw [x.cell (p := ⟨b, 0, none⟩) hb, h.c0], by rw [x.cell (p := ⟨b, 1, none⟩) hb, h.c1], by rw [x.cell (p := ⟨b, 2, none⟩) hb, h.c2], fun o => by rw [Below.frozen x (p := ⟨b, o, none⟩) hb, h.fz]⟩
theorem RC.new (w : World) (i : Int) (f g : Nat) (t : TypeId) : RC w.heap.size (w.alloc (.cells #[.int .i64 i, .float .f64 f, .float .f64 g] t)) i f g :=
  ⟨by simp, by simp, by simp, fun o => World.frozen?_alloc_new _ _ _ _⟩

theorem RC.set {b : Nat} {w : World} {i : Int} {f g : Nat} (h : RC b w i f g) (i' : Int) (f' g' : Nat) :
    RC b (((w.setCell ⟨b, 0, none⟩ (.int .i64 i')).setCell ⟨b, 1, none⟩ (.float .f64 f')).setCell ⟨b, 2, none⟩ (.float .f64 g')) i' f' g' := by
  have a0 : (w.setCell ⟨b, 0, none⟩ (.int .i64 i')).cell? ⟨b, 0, none⟩ = some (.int .i64 i') := World.cell?_setCell_same _ _ _ h.c0
  have a1 : (w.setCell ⟨b, 0, none⟩ (.int .i64 i')).cell? ⟨b, 1, none⟩ = some (.float .f64 f) := by
    rw [World.cell?_setCell_other _ _ _ _ (by intro e; simp at e), h.c1]
  have a2 : (w.setCell ⟨b, 0, none⟩ (.int .i64 i')).cell? ⟨b, 2, none⟩ = some (.float .f64 g) := by
    rw [World.cell?_setCell_other _ _ _ _ (by intro e; simp at e), h.c2]
  have b0 : ((w.setCell ⟨b, 0, none⟩ (.int .i64 i')).setCell ⟨b, 1, none⟩ (.float .f64 f')).cell? ⟨b, 0, none⟩ = some (.int .i64 i') := by
    rw [World.cell?_setCell_other _ _ _ _ (by intro e; simp at e), a0]
  have b1 : ((w.setCell ⟨b, 0, none⟩ (.int .i64 i')).setCell ⟨b, 1, none⟩ (.float .f64 f')).cell? ⟨b, 1, none⟩ = some (.float .f64 f') := World.cell?_setCell_same _ _ _ a1
  have b2 : ((w.setCell ⟨b, 0, none⟩ (.int .i64 i')).setCell ⟨b, 1, none⟩ (.float .f64 f')).cell? ⟨b, 2, none⟩ = some (.float .f64 g) := by
    rw [World.cell?_setCell_other _ _ _ _ (by intro e; simp at e), a2]
  exact ⟨by rw [World.cell?_setCell_other _ _ _ _ (by intro e; simp at e), b0], by rw [World.cell?_setCell_other _ _ _ _ (by intro e; simp at e), b1], World.cell?_setCell_same _ _ _ b2,
    fun o => by rw [World.frozen?_setCell, World.frozen?_setCell, World.frozen?_setCell, h.fz]⟩

/-- What Convert makes of a double. -/
theorem cv_any (dt : Int) (hd : dt = 7 ∨ dt = 8) (x : Nat) (hx : B64 x) (w : World) :
    Calls Tryz.prog 36 #[.int .i64 8, .int .i64 dt, .agg #[.int .i64 0, .float .f64 x, .float .f64 0]] w fun e w' => ∃ f', e = .returned (.agg #[.int .i64 0, .float .f64 f', .float .f64 0]) ∧ ((dt = 8 ∧ f' = x) ∨ (dt = 7 ∧ SingleR x f')) ∧ Ext w w' := by
  have hv : validB 8 0 x 0 = true := by unfold validB; rw [if_neg (by decide), if_neg (by decide), if_pos rfl]; decide
  have hi : I64 0 := by unfold I64; omega
  have h0 : B64 0 := B64_0
  rcases hd with rfl | rfl
  · refine (conv_flt 8 7 0 x 0 (by omega) hi hx h0 hv (by omega) (Or.inr rfl) rfl w).mono ?_
    rintro e w' ⟨i', f', g', rfl, hR, hE⟩
    rcases hR with ⟨a, _⟩ | ⟨_, a, _⟩ | ⟨_, _, hg, hh⟩
    · rw [hv] at a; cases a
    · omega
    · rcases hh with hh | ⟨_, hh⟩ | hh
      · exact hh.elim
      · rcases hh with hh | ⟨_, hi', hS⟩ | hh
        · exact hh.elim
        · subst hi' hg
          exact ⟨f', rfl, Or.inr ⟨rfl, hS⟩, hE⟩
        · exact hh.elim
      · exact hh.elim
  · refine (conv_same 8 8 0 x 0 (by omega) hi hx h0 hv rfl w).mono ?_
    rintro e w' ⟨i', f', g', rfl, hR, hE⟩
    rcases hR with ⟨a, _⟩ | ⟨_, _, h1, h2, h3⟩ | ⟨_, a, _⟩
    · rw [hv] at a; cases a
    · subst h1 h2 h3
      exact ⟨_, rfl, Or.inl ⟨rfl, rfl⟩, hE⟩
    · exact absurd rfl a

/-- What parseCell answers. -/
def POk (good : Bool) (R : Int → Nat → Nat → Prop) (w : World) (e : Ending) (w' : World) : Prop := ∃ (i' : Int) (f' g' : Nat), e = .returned (.tuple #[.agg #[.int .i64 i', .float .f64 f', .float .f64 g'], .bool good]) ∧ R i' f' g' ∧ Below w.heap.size w w'

set_option maxRecDepth 100000 in
set_option maxHeartbeats 1000000 in
theorem pc_flt (dt : Int) (hd : dt = 7 ∨ dt = 8) (L : List UInt8) (x : Nat) (hx : B64 x) (good : Bool) (m : Int) (w : World) (hm : w.cell? ⟨2, 0, none⟩ = some (.int .i64 m))
    (pf : ∀ w, w.cell? ⟨2, 0, none⟩ = some (.int .i64 m) → Calls Tryz.prog 35 #[str L] w fun e w' => e = .returned (.tuple #[.float .f64 x, .bool good]) ∧ Below w.heap.size w w') :
    Calls Tryz.prog 19 #[.int .i64 dt, str L] w fun e w' => POk good (fun i' f' g' => i' = 0 ∧ g' = 0 ∧ ((dt = 8 ∧ f' = x) ∨ (dt = 7 ∧ SingleR x f'))) w e w' := by
  have kd := kindOf_any dt
  have hk : kindL dt = 2 := by rcases hd with rfl | rfl <;> decide
  rw [hk] at kd
  have cv := cv_any dt hd x hx
  have R0 := RC.new w 0 0 0 25
  have A0 : Below w.heap.size w (w.alloc (.cells #[.int .i64 0, .float .f64 0, .float .f64 0] 25)) := (Below.refl _ w).alloc (Nat.le_refl _) _
  have pf0 := pf _ (below_cell A0 hm)
  clear pf
  generalize str L = U at *
  go_enter Tryz.func19, Tryz.ntmps19
  go_wp2_with (first | (go_at_call 25; refine (kd _).mono ?_; rintro e w1 ⟨rfl, hw1⟩; obtain rfl := hw1.symm) | (go_at_call 35; refine pf0.mono ?_; rintro e w2 ⟨rfl, x2⟩; refine Hid.out ?_))
  refine hide ?_
  have R2 := R0.keep x2
  have A2 : Below w.heap.size w w2 := A0.trans (x2.mono A0.size)
  clear x2 R0
  go_wp2_with (go_at_call 36; refine (cv _).mono ?_; rintro e w3 ⟨f', rfl, hf', x3⟩; refine Hid.out ?_)
  refine hide ?_
  have R3 := R2.keep x3.bl
  have A3 : Below w.heap.size w w3 := A2.trans (x3.bl.mono A2.size)
  have RS := R3.set 0 f' 0
  obtain ⟨q0, q1, q2, qf⟩ := R3
  have AS : Below w.heap.size w (((w3.setCell ⟨w.heap.size, 0, none⟩ (.int .i64 0)).setCell ⟨w.heap.size, 1, none⟩ (.float .f64 f')).setCell ⟨w.heap.size, 2, none⟩ (.float .f64 0)) := ((A3.setCell (Nat.le_refl _) _).setCell (Nat.le_refl _) _).setCell (Nat.le_refl _) _
  obtain ⟨s0, s1, s2, sf⟩ := RS
  have S0 := hide s0
  have S1 := hide s1
  have S2 := hide s2
  have Hf := hide hf'
  clear x3 R2 hf' s0 s1 s2 sf
  go_wp2
  have s0 := S0.out
  have s1 := S1.out
  have s2 := S2.out
  exact bodyPost_ret (v := .tuple #[.agg #[.int .i64 0, .float .f64 f', .float .f64 0], .bool good]) (by simp [results, Tryz.results19, go_sem, s0, s1, s2]) rfl ⟨0, f', 0, rfl, ⟨rfl, rfl, Hf.out⟩, AS⟩
end Go.Proofs.YtdmbpkcjladhdaaGreatDoor
