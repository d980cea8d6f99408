import Derived.Test.YtdmbpkcjladhdaaGreatDoorCells3
namespace Go.Proofs.YtdmbpkcjladhdaaGreatDoor
open Go.RowKit FL
set_option linter.unusedSimpArgs false
set_option linter.unusedVariables false


set_option maxHeartbeats 1000000 in
theorem lwSameFloat_any (a b : Nat) (ha : B64 a) (hb : B64 b) (w : World) :
    Calls Tryz.prog 20 #[.float .f64 a, .float .f64 b] w fun e w' => e = .returned (.bool (sameB a b)) ∧ w' = w := by
  have ea := feq_self a
  have eb := feq_self b
  cases na : nanD a <;> cases nb : nanD b <;> rw [na] at ea <;> rw [nb] at eb <;> simp only [Bool.not_true, Bool.not_false] at ea eb
  · cases za : feq a 0 <;> cases zb : feq b 0
    case true.true =>
      have l1 : flt 9218868437227405312 0 = false := by decide
      have l2 : flt 18442240474082181120 0 = true := by decide
      have z1 : feq 0 9223372036854775808 = true := by decide
      have z2 : feq 9223372036854775808 0 = true := by decide
      have q1 := fun w => run_float_arith (P := Tryz.prog) w .quo 23 .f64 4607182418800017408 0 9218868437227405312 (by decide)
      have q2 := fun w => run_float_arith (P := Tryz.prog) w .quo 23 .f64 4607182418800017408 9223372036854775808 18442240474082181120 (by decide)
      rcases zero_cases a ha za with rfl | rfl <;> rcases zero_cases b hb zb with rfl | rfl
      all_goals
        go_enter Tryz.func20, Tryz.ntmps20
        go_wp2
        go_ret
        exact ⟨ret_bool (by decide), rfl⟩
    all_goals
      have hs := same_nz a b ha hb na nb (by rw [za, zb]; simp)
      cases fab : feq a b
      · have Hs := hide (fab.symm.trans hs)
        clear hs
        go_enter Tryz.func20, Tryz.ntmps20
        go_wp2
        go_ret
        exact ⟨ret_bool Hs.out, rfl⟩
      · have Hs := hide (fab.symm.trans hs)
        clear hs
        have hk : keyD a = keyD b := by unfold feq at fab; rw [na, nb] at fab; simpa using fab
        have hz : feq a 0 = feq b 0 := by unfold feq; rw [na, nb, hk]
        rw [za, zb] at hz
        have Hk := hide hk
        clear hk
        first
          | (cases hz; done)
          | (clear hz
             go_enter Tryz.func20, Tryz.ntmps20
             go_wp2
             go_ret
             exact ⟨ret_bool Hs.out, rfl⟩)
  all_goals
    go_enter Tryz.func20, Tryz.ntmps20
    go_wp2
    go_ret
    exact ⟨ret_bool (by unfold sameB; rw [na, nb]; rfl), rfl⟩

/-! ### float32(x), float64(u) -/
end Go.Proofs.YtdmbpkcjladhdaaGreatDoor
