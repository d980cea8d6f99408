import Derived.Test.YthaajmkfeniofaaTrunc
namespace Go.Proofs.Ythaajmkfeniofaa
open Go.RowKit FL Ieee
set_option linter.unusedSimpArgs false
set_option linter.unusedVariables false

theorem run_trunc (w : World) (x : Nat) (n : Int) (h : (double.read x).toInt .zero = some n) (h1 : -9223372036854775808 ≤ n) (h2 : n ≤ 9223372036854775807) :
    (convert 25 2 (.float .f64 x)).run Try.prog w = .ok (.int .i64 n) w := by
  have hd : (FloatKind.f64.decode x).toInt .zero = some n := h
  have hm : IntKind.i64.min ≤ n ∧ n ≤ IntKind.i64.max := ⟨h1, h2⟩
  simp [convert, run_underlying Try.underlying25, run_underlying Try.underlying2, Conv.floatToInt, hd, hm]
  intro h3; exfalso; omega

def TruncOk (x : Nat) (n : Int) : Prop := (-9223372036854775808 ≤ n ∧ n ≤ 9223372036854775807) ∧ (x % 9223372036854775808 < 4890909195324358656 → (double.read x).toInt .zero = some n)

theorem kC : keyD 4890909195324358656 = 4890909195324358656 := by decide
theorem kD : keyD 14114281232179134464 = -4890909195324358656 := by decide
theorem nC : nanD 4890909195324358656 = false := by decide
theorem nD : nanD 14114281232179134464 = false := by decide

set_option maxRecDepth 100000 in
set_option maxHeartbeats 1000000 in
theorem truncate_any (x : Nat) (hx : B64 x) (w : World) :
    Calls Try.prog 104 #[.float .f64 x] w fun e w' => ∃ n : Int, e = .returned (.int .i64 n) ∧ TruncOk x n ∧ w' = w := by
  have hx2 : x < 18446744073709551616 := hx
  have hk := keyD_eq x hx2
  cases hn : nanD x
  · have e1 : flt 4890909195324358656 x = decide (4890909195324358656 < keyD x) := by unfold flt; rw [hn, nC, kC]; rfl
    have e2 : feq x 4890909195324358656 = decide (keyD x = 4890909195324358656) := by unfold feq; rw [hn, nC, kC]; rfl
    have e3 : flt x 14114281232179134464 = decide (keyD x < -4890909195324358656) := by unfold flt; rw [hn, nD, kD]; rfl
    have e4 : feq x 14114281232179134464 = decide (keyD x = -4890909195324358656) := by unfold feq; rw [hn, nD, kD]; rfl
    by_cases c1 : 4890909195324358656 ≤ keyD x
    · have t1 : (flt 4890909195324358656 x || feq x 4890909195324358656) = true := by rw [e1, e2]; simp; omega
      have hO : TruncOk x 9223372036854775807 := ⟨by omega, fun h => by exfalso; split at hk <;> omega⟩
      have HO := hide hO
      clear hO e1 e2 e3 e4 c1 hk hx hx2
      go_enter Try.func104, Try.ntmps104
      go_wp2_with fail
      refine (isNaN_any x _).mono ?_
      rintro e w1 ⟨rfl, rfl⟩
      go_wp2
      go_ret
      exact ⟨_, rfl, HO.out, rfl⟩
    · have f1 : flt 4890909195324358656 x = false := by rw [e1]; simp; omega
      have f2 : feq x 4890909195324358656 = false := by rw [e2]; simp; omega
      by_cases c2 : keyD x ≤ -4890909195324358656
      · have t2 : (flt x 14114281232179134464 || feq x 14114281232179134464) = true := by rw [e3, e4]; simp; omega
        have hO : TruncOk x (-9223372036854775808) := ⟨by omega, fun h => by exfalso; split at hk <;> omega⟩
        have HO := hide hO
        clear hO e1 e2 e3 e4 c1 c2 hk hx hx2
        go_enter Try.func104, Try.ntmps104
        go_wp2_with fail
        refine (isNaN_any x _).mono ?_
        rintro e w1 ⟨rfl, rfl⟩
        go_wp2
        go_ret
        exact ⟨_, rfl, HO.out, rfl⟩
      · have f3 : flt x 14114281232179134464 = false := by rw [e3]; simp; omega
        have f4 : feq x 14114281232179134464 = false := by rw [e4]; simp; omega
        obtain ⟨n, h1, h2, h3⟩ := toInt_lt x (by split at hk <;> omega)
        have hr := run_trunc w x n h1 (by omega) (by omega)
        have hO : TruncOk x n := ⟨by omega, fun _ => h1⟩
        have HO := hide hO
        clear hO e1 e2 e3 e4 c1 c2 hk hx hx2 h1 h2 h3
        go_enter Try.func104, Try.ntmps104
        go_wp2_with fail
        refine (isNaN_any x _).mono ?_
        rintro e w1 ⟨rfl, rfl⟩
        go_wp2
        go_ret
        exact ⟨_, rfl, HO.out, rfl⟩
  · have hO : TruncOk x 0 := ⟨by omega, fun h => by exfalso; have := (nanD_iff x).1 hn; omega⟩
    have HO := hide hO
    clear hO hk hx hx2
    go_enter Try.func104, Try.ntmps104
    go_wp2_with fail
    refine (isNaN_any x _).mono ?_
    rintro e w1 ⟨rfl, rfl⟩
    go_wp2
    go_ret
    exact ⟨_, rfl, HO.out, rfl⟩
end Go.Proofs.Ythaajmkfeniofaa
