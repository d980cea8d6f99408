import Derived.Test.YtjjemnlknnnkbaaBase
import Derived.WalkKit
import Derived.WalkSpells
import Derived.WalkLawsBesides
import Derived.Outline
import Derived.Deep.Light
namespace Go.Proofs.Ytjjemnlknnnkbaa
open Go.RowKit
set_option linter.unusedSimpArgs false
set_option linter.unusedVariables false

/-- The size of the block for n bytes. -/
def roundL (n : Int) : Int :=
  if n < 0 ∨ 65536 < n then -1 else if n ≤ 16 then 16 else if n ≤ 32 then 32 else if n ≤ 64 then 64 else if n ≤ 128 then 128 else if n ≤ 256 then 256 else if n ≤ 512 then 512
  else if n ≤ 1024 then 1024 else if n ≤ 2048 then 2048 else if n ≤ 4096 then 4096 else if n ≤ 8192 then 8192 else if n ≤ 16384 then 16384 else if n ≤ 32768 then 32768 else 65536

/-- A size on the way. -/
def OnWay (n s : Int) : Prop :=
  s = 16 ∨ ((s = 32 ∨ s = 64 ∨ s = 128 ∨ s = 256 ∨ s = 512 ∨ s = 1024 ∨ s = 2048 ∨ s = 4096 ∨ s = 8192 ∨ s = 16384 ∨ s = 32768 ∨ s = 65536) ∧ s < 2 * n)

theorem OnWay.done {n s : Int} (h : OnWay n s) (h0 : 0 ≤ n ∧ n ≤ 65536) (hs : ¬ s < n) : s = roundL n := by
  unfold OnWay at h
  rcases h with rfl | ⟨rfl | rfl | rfl | rfl | rfl | rfl | rfl | rfl | rfl | rfl | rfl | rfl, h⟩
  all_goals unfold roundL
  all_goals (iterate 13 (first | rw [if_neg (by omega)] | rw [if_pos (by omega)] | skip))
theorem OnWay.next {n s : Int} (h : OnWay n s) (h0 : 0 ≤ n ∧ n ≤ 65536) (hs : s < n) : OnWay n (s * 2) := by
  unfold OnWay at *
  omega
theorem OnWay.le {n s : Int} (h : OnWay n s) : 16 ≤ s ∧ s ≤ 65536 := by
  unfold OnWay at h; omega


set_option maxHeartbeats 1000000 in
theorem iRound_any (n : Int) (w : World) :
    Calls Try.prog 8 #[.int .i64 n] w fun e w' => e = .returned (.int .i64 (roundL n)) ∧ w' = w := by
  by_cases h0 : 0 ≤ n ∧ n ≤ 65536
  · go_enter Try.func8, Try.ntmps8
    go_wp2
    all_goals try (exfalso; omega)
    go_loopw [3] (fun i wr => ∃ s : Int, i = .int .i64 s ∧ OnWay n s ∧ wr = w) (fun i _ => (65536 - intOf i).toNat)
    case atStart => exact ⟨16, rfl, Or.inl rfl, rfl⟩
    case round =>
      obtain ⟨s, rfl, hs, rfl⟩ := hrel
      have hl := hs.le
      have Hs := hide hs
      clear hs
      by_cases hlt : s < n
      · go_wp2
        go_roundw
        · exact ⟨s * 2, by go_num, Hs.out.next h0 hlt, by trivial⟩
        · simp [intOf]; omega
      · go_wp2
        go_ret
        exact ⟨ret_int (Hs.out.done h0 (by omega)), rfl⟩
  · have hr : roundL n = -1 := by unfold roundL; rw [if_pos (by omega)]
    go_enter Try.func8, Try.ntmps8
    go_wp2
    all_goals try (exfalso; omega)
    all_goals go_ret
    all_goals first | exact ⟨rfl, rfl⟩ | exact ⟨ret_int hr.symm, rfl⟩

set_option maxHeartbeats 1000000 in
theorem sRound_any (n : Int) (w : World) :
    Calls Try.prog 7 #[.int .i64 n] w fun e w' => e = .returned (.int .i64 (roundL n)) ∧ w' = w := by
  by_cases h0 : 0 ≤ n ∧ n ≤ 65536
  · go_enter Try.func7, Try.ntmps7
    go_wp2
    all_goals try (exfalso; omega)
    go_loopw [3] (fun i wr => ∃ s : Int, i = .int .i64 s ∧ OnWay n s ∧ wr = w) (fun i _ => (65536 - intOf i).toNat)
    case atStart => exact ⟨16, rfl, Or.inl rfl, rfl⟩
    case round =>
      obtain ⟨s, rfl, hs, rfl⟩ := hrel
      have hl := hs.le
      have Hs := hide hs
      clear hs
      by_cases hlt : s < n
      · go_wp2
        go_roundw
        · exact ⟨s * 2, by go_num, Hs.out.next h0 hlt, by trivial⟩
        · simp [intOf]; omega
      · go_wp2
        go_ret
        exact ⟨ret_int (Hs.out.done h0 (by omega)), rfl⟩
  · have hr : roundL n = -1 := by unfold roundL; rw [if_pos (by omega)]
    go_enter Try.func7, Try.ntmps7
    go_wp2
    all_goals try (exfalso; omega)
    all_goals go_ret
    all_goals first | exact ⟨rfl, rfl⟩ | exact ⟨ret_int hr.symm, rfl⟩
end Go.Proofs.Ytjjemnlknnnkbaa
