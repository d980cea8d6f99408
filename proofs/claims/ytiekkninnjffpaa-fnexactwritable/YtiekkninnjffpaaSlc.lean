import Derived.Test.YtiekkninnjffpaaLawB
namespace Go.Proofs.Ytiekkninnjffpaa
open Go.ChangeShapes Go.RowKit
set_option linter.unusedSimpArgs false
set_option linter.unusedVariables false

def sLo (step : Int) : Int := if step < 0 then -1 else 0
def sHi (n step : Int) : Int := if step < 0 then n - 1 else n
/-- An end of a slice put right. -/
def rightL (x n step : Int) : Int := if x < 0 then max (x + n) (sLo step) else min x (sHi n step)
/-- How many are taken. -/
def cntS (a b step : Int) : Int := if step < 0 then (if a - b ≤ 0 then 0 else (a - b + -step - 1) / -step) else (if b - a ≤ 0 then 0 else (b - a + step - 1) / step)

theorem rightL_bd {x n step : Int} (hn : 0 ≤ n ∧ n ≤ 4096) (hs : step ≠ 0) (hx : -1000000 ≤ x ∧ x ≤ 1000000) : sLo step ≤ rightL x n step ∧ rightL x n step ≤ sHi n step := by
  unfold rightL sLo sHi
  split <;> split <;> omega

theorem cnt_pos {d s : Int} (hd : 0 < d) (hs : 0 < s) : 0 < (d + s - 1) / s ∧ (d + s - 1) / s ≤ d := by
  constructor
  · have : 1 ≤ (d + s - 1) / s := by rw [Int.le_ediv_iff_mul_le hs]; omega
    omega
  · have : (d + s - 1) / s < d + 1 := by
      rw [Int.ediv_lt_iff_lt_mul hs]
      have h1 : d * 1 ≤ d * s := Int.mul_le_mul_of_nonneg_left (by omega) (by omega)
      rw [Int.add_mul]
      omega
    omega
theorem cnt_lt {d s : Int} (hs : 0 < s) (k : Int) : k < (d + s - 1) / s ↔ k * s < d := by
  have h : k < (d + s - 1) / s ↔ k + 1 ≤ (d + s - 1) / s := by omega
  rw [h, Int.le_ediv_iff_mul_le hs, Int.add_mul]
  omega

theorem cntS_bd (a b step n : Int) (hs : step ≠ 0) (ha : sLo step ≤ a ∧ a ≤ sHi n step) (hb : sLo step ≤ b ∧ b ≤ sHi n step) (hn : 0 ≤ n) : 0 ≤ cntS a b step ∧ cntS a b step ≤ n := by
  unfold sLo sHi at *
  unfold cntS
  split
  · next h =>
    rw [if_pos h] at ha hb
    rw [if_pos h] at ha hb
    split
    · omega
    · have := cnt_pos (d := a - b) (s := -step) (by omega) (by omega)
      omega
  · next h =>
    rw [if_neg h] at ha hb
    rw [if_neg h] at ha hb
    split
    · omega
    · have := cnt_pos (d := b - a) (s := step) (by omega) (by omega)
      omega

/-- The loop goes on exactly so long. -/
theorem cntS_lt (a b step : Int) (hs : step ≠ 0) (k : Nat) : ((0 < step ∧ a + k * step < b) ∨ (step < 0 ∧ b < a + k * step)) ↔ (k : Int) < cntS a b step := by
  unfold cntS
  by_cases h : step < 0
  · rw [if_pos h]
    have hm : (k : Int) * -step = -(k * step) := by rw [Int.mul_neg]
    by_cases hd : a - b ≤ 0
    · rw [if_pos hd]
      have h0 : 0 ≤ (k : Int) * -step := Int.mul_nonneg (by omega) (by omega)
      omega
    · rw [if_neg hd, cnt_lt (by omega), hm]
      omega
  · rw [if_neg h]
    by_cases hd : b - a ≤ 0
    · rw [if_pos hd]
      have h0 : 0 ≤ (k : Int) * step := Int.mul_nonneg (by omega) (by omega)
      omega
    · rw [if_neg hd, cnt_lt (by omega)]
      omega

def okStep (x : Int) : Bool := decide (-1000000 ≤ x ∧ x ≤ 1000000)

set_option maxRecDepth 100000 in
theorem isStep_any (x : Int) (w : World) : Calls Try.prog 72 #[.int .i64 x] w fun e w' => e = .returned (.bool (okStep x)) ∧ w' = w := by
  by_cases h1 : -1000000 ≤ x
  · by_cases h2 : x ≤ 1000000
    · have hv : Hid (okStep x = true) := decide_eq_true ⟨h1, h2⟩
      go_enter Try.func72, Try.ntmps72
      go_wp2
      go_ret
      exact ⟨ret_bool (by rw [hv.out]; try simp [h1, h2]), rfl⟩
    · have hv : Hid (okStep x = false) := decide_eq_false (fun q => h2 q.2)
      go_enter Try.func72, Try.ntmps72
      go_wp2
      go_ret
      exact ⟨ret_bool (by rw [hv.out]; try simp [h1, h2]), rfl⟩
  · have hv : Hid (okStep x = false) := decide_eq_false (fun q => h1 q.1)
    go_enter Try.func72, Try.ntmps72
    go_wp2
    go_ret
    exact ⟨ret_bool (by rw [hv.out]; try simp [h1]), rfl⟩

theorem retI {a b : Int} (h : a = b) : Ending.returned (Value.int .i64 a) = Ending.returned (Value.int .i64 b) := by rw [h]

set_option maxRecDepth 100000 in
set_option maxHeartbeats 1000000 in
theorem l2Right_any (x n lo hi : Int) (hn : 0 ≤ n ∧ n ≤ 4096) (hx : -1000000 ≤ x ∧ x ≤ 1000000) (w : World) :
    Calls Try.prog 70 #[.int .i64 x, .int .i64 n, .int .i64 lo, .int .i64 hi] w fun e w' => e = .returned (.int .i64 (if x < 0 then max (x + n) lo else min x hi)) ∧ w' = w := by
  by_cases h : x < 0
  · by_cases h2 : x + n < lo
    · go_enter Try.func70, Try.ntmps70
      go_wp2
      go_ret
      exact ⟨retI (by (try rw [if_pos h]); omega), rfl⟩
    · go_enter Try.func70, Try.ntmps70
      go_wp2
      go_ret
      exact ⟨retI (by (try rw [if_pos h]); omega), rfl⟩
  · by_cases h2 : hi < x
    · go_enter Try.func70, Try.ntmps70
      go_wp2
      go_ret
      exact ⟨retI (by (try rw [if_neg h]); omega), rfl⟩
    · go_enter Try.func70, Try.ntmps70
      go_wp2
      go_ret
      exact ⟨retI (by (try rw [if_neg h]); omega), rfl⟩

set_option maxRecDepth 100000 in
set_option maxHeartbeats 1000000 in
theorem putRight_any (x n step : Int) (hn : 0 ≤ n ∧ n ≤ 4096) (hx : -1000000 ≤ x ∧ x ≤ 1000000) (w : World) :
    Calls Try.prog 85 #[.int .i64 x, .int .i64 n, .int .i64 step] w fun e w' => e = .returned (.int .i64 (rightL x n step)) ∧ w' = w := by
  have hv : Hid (rightL x n step = if x < 0 then max (x + n) (sLo step) else min x (sHi n step)) := rfl
  by_cases hs : step < 0
  · have h1 : sLo step = -1 := if_pos hs
    have h2 : sHi n step = n - 1 := if_pos hs
    have H1 := hide h1
    have H2 := hide h2
    clear h1 h2
    by_cases h : x < 0
    · go_enter Try.func85, Try.ntmps85
      go_wp2
      all_goals go_ret
      all_goals exact ⟨retI (by rw [hv.out, H1.out, H2.out]; split <;> omega), rfl⟩
    · go_enter Try.func85, Try.ntmps85
      go_wp2
      all_goals go_ret
      all_goals exact ⟨retI (by rw [hv.out, H1.out, H2.out]; split <;> omega), rfl⟩
  · have h1 : sLo step = 0 := if_neg hs
    have h2 : sHi n step = n := if_neg hs
    have H1 := hide h1
    have H2 := hide h2
    clear h1 h2
    by_cases h : x < 0
    · go_enter Try.func85, Try.ntmps85
      go_wp2
      all_goals go_ret
      all_goals exact ⟨retI (by rw [hv.out, H1.out, H2.out]; split <;> omega), rfl⟩
    · go_enter Try.func85, Try.ntmps85
      go_wp2
      all_goals go_ret
      all_goals exact ⟨retI (by rw [hv.out, H1.out, H2.out]; split <;> omega), rfl⟩

set_option maxRecDepth 100000 in
set_option maxHeartbeats 1000000 in
theorem countSteps_any (a b step : Int) (ha : -1 ≤ a ∧ a ≤ 4096) (hb : -1 ≤ b ∧ b ≤ 4096) (hs : step ≠ 0) (hs1 : -1000000 ≤ step ∧ step ≤ 1000000) (w : World) :
    Calls Try.prog 86 #[.int .i64 a, .int .i64 b, .int .i64 step] w fun e w' => e = .returned (.int .i64 (cntS a b step)) ∧ w' = w := by
  by_cases h : step < 0
  · by_cases hd : a - b ≤ 0
    · have hv : Hid (cntS a b step = 0) := by show cntS a b step = 0; unfold cntS; rw [if_pos h, if_pos hd]
      have hd2 : -(b - a) ≤ 0 := by omega
      go_enter Try.func86, Try.ntmps86
      go_wp2
      go_ret
      exact ⟨retI hv.out.symm, rfl⟩
    · obtain ⟨t, rfl⟩ : ∃ t, step = -t := ⟨-step, by omega⟩
      have hv : Hid (cntS a b (-t) = (-(b - a) + t - 1) / t) := by
        show cntS a b (-t) = _
        unfold cntS
        rw [if_pos h, if_neg hd, Int.neg_neg]
        congr 1
        omega
      have hd2 : ¬ -(b - a) ≤ 0 := by omega
      have ht : 0 < t := by omega
      clear h hs
      have h : -t < 0 := by omega
      go_enter Try.func86, Try.ntmps86
      go_wp2
      go_ret
      exact ⟨retI hv.out.symm, rfl⟩
  · by_cases hd : b - a ≤ 0
    · have hv : Hid (cntS a b step = 0) := by show cntS a b step = 0; unfold cntS; rw [if_neg h, if_pos hd]
      go_enter Try.func86, Try.ntmps86
      go_wp2
      go_ret
      exact ⟨retI hv.out.symm, rfl⟩
    · have hv : Hid (cntS a b step = (b - a + step - 1) / step) := by show cntS a b step = _; unfold cntS; rw [if_neg h, if_neg hd]
      go_enter Try.func86, Try.ntmps86
      go_wp2
      go_ret
      exact ⟨retI hv.out.symm, rfl⟩
end Go.Proofs.Ytiekkninnjffpaa
