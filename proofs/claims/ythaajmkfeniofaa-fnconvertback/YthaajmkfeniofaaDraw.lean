import Derived.Test.YthaajmkfeniofaaSrc
namespace Go.Proofs.Ythaajmkfeniofaa
open Go.RowKit FL
set_option linter.unusedSimpArgs false
set_option linter.unusedVariables false

/-- What a float operation gives, and how many draws it makes. -/
def arR (op : BinOp) (x y : Nat) (w : World) : Nat := match floatBits op .f64 x y with
  | some r => r
  | none => (Question.nanBits .f64 x y).cut (w.tape w.drawn (Question.nanBits .f64 x y))
def arN (op : BinOp) (x y : Nat) : Nat := match floatBits op .f64 x y with
  | some _ => 0
  | none => 1

theorem run_ar (P : Program) (w : World) (op : BinOp) (t : TypeId) (x y : Nat) (hop : op = .add ∨ op = .sub ∨ op = .mul ∨ op = .quo) :
    (binOp op t (.float .f64 x) (.float .f64 y)).run P w = .ok (.float .f64 (arR op x y w)) (w.drewN (arN op x y)) := by
  unfold arR arN
  cases h : floatBits op .f64 x y with
  | some r => exact run_float_arith w op t .f64 x y r h
  | none => exact run_arith_none P w op t .f64 x y hop h
theorem run_ar_add (P : Program) (w : World) (t : TypeId) (x y : Nat) : (binOp .add t (.float .f64 x) (.float .f64 y)).run P w = .ok (.float .f64 (arR .add x y w)) (w.drewN (arN .add x y)) := run_ar P w .add t x y (by simp)
theorem run_ar_sub (P : Program) (w : World) (t : TypeId) (x y : Nat) : (binOp .sub t (.float .f64 x) (.float .f64 y)).run P w = .ok (.float .f64 (arR .sub x y w)) (w.drewN (arN .sub x y)) := run_ar P w .sub t x y (by simp)
theorem run_ar_mul (P : Program) (w : World) (t : TypeId) (x y : Nat) : (binOp .mul t (.float .f64 x) (.float .f64 y)).run P w = .ok (.float .f64 (arR .mul x y w)) (w.drewN (arN .mul x y)) := run_ar P w .mul t x y (by simp)
theorem run_ar_quo (P : Program) (w : World) (t : TypeId) (x y : Nat) : (binOp .quo t (.float .f64 x) (.float .f64 y)).run P w = .ok (.float .f64 (arR .quo x y w)) (w.drewN (arN .quo x y)) := run_ar P w .quo t x y (by simp)

theorem arR_lt (op : BinOp) (x y : Nat) (w : World) : B64 (arR op x y w) := by
  unfold arR B64
  cases h : floatBits op .f64 x y with
  | some r =>
    have := floatBits_wf h
    simpa [Lit.wf] using this
  | none => exact (nanBits_cut x y _).2
theorem ofInt_lt (n : Int) : B64 (floatOfInt .f64 n) := by
  have := floatOfInt_wf .f64 n
  simpa [Lit.wf, B64] using this

theorem drawDType_any {w : World} {b : Nat} {sv : Value} {n : Nat} {at_ mix size : Int} (h : Src w b sv n at_ mix size) :
    Calls Try.prog 64 #[.pointer (some ⟨b, 0, none⟩)] w fun e w' => ∃ (v at2 mix2 : Int), e = .returned (.int .i64 v) ∧ (1 ≤ v ∧ v ≤ 9) ∧ Src w' b sv n at2 mix2 size ∧ Mut b w w' := by
  have H := hide h
  clear h
  go_enter Try.func64, Try.ntmps64
  go_wp2_with fail
  refine (next_any H.out 9).mono ?_
  rintro e w1 ⟨v, at2, mix2, rfl, ⟨hv0, hv1, _⟩, hs, hm⟩
  have hv2 := hv1 (by omega)
  have Hs := hide hs
  have Hm := hide hm
  clear hs hm hv1
  go_wp2
  go_ret
  exact ⟨1 + v, at2, mix2, rfl, ⟨by omega, by omega⟩, Hs.out, Hm.out⟩

section
attribute [local go_sem] run_ar_add run_ar_sub run_ar_mul run_ar_quo
set_option maxHeartbeats 2000000 in
theorem drawFloat_any {w : World} {b : Nat} {sv : Value} {n : Nat} {at_ mix size : Int} (h : Src w b sv n at_ mix size) :
    Calls Try.prog 99 #[.pointer (some ⟨b, 0, none⟩)] w fun e w' => ∃ (r : Nat) (at2 mix2 : Int), e = .returned (.float .f64 r) ∧ B64 r ∧ Src w' b sv n at2 mix2 size ∧ Mut b w w' := by
  have H := hide h
  clear h
  go_enter Try.func99, Try.ntmps99
  go_wp2_with fail
  refine (next_any H.out 24).mono ?_
  rintro e w1 ⟨k, at2, mix2, rfl, ⟨hv0, hv1, _⟩, hs, hm⟩
  have Hs := hide hs
  have Hm := hide hm
  clear hs hm hv1 hv0
  go_wp2_with fail
  refine (next_any Hs.out 40).mono ?_
  rintro e w2 ⟨j, at3, mix3, rfl, ⟨hv0, hv1, _⟩, hs, hm⟩
  have Hs2 := hide hs
  have Hm2 := hide hm
  clear hs hm hv1 hv0
  go_wp2
  all_goals go_ret
  all_goals go_light
  all_goals refine ⟨_, at3, mix3, rfl, ?_, ?_, ?_⟩
  all_goals first | exact arR_lt _ _ _ _ | exact B64_0 | (apply Mut.drewN; exact Hm.out.trans Hm2.out) | exact Hm.out.trans Hm2.out | exact Hs2.out | exact Hs2.out.keep ((Ext.refl _).drewN _) | trace_state
end
end Go.Proofs.Ythaajmkfeniofaa
