import Derived.Test.YtjjemnlknnnkbaaSpecSD
import Derived.Test.YtjjemnlknnnkbaaImplSC
namespace Go.Proofs.Ytjjemnlknnnkbaa
open Go.ChangeShapes Go.RowKit Go.MuLone
set_option linter.unusedSimpArgs false
set_option linter.unusedVariables false

set_option maxRecDepth 100000 in
set_option maxHeartbeats 1000000 in
theorem sSC_any {w : World} {v : Value} {picks : List Int} (h : Ints w v picks) (tiles workers : Int) (hl : picks.length ≤ 1048576) :
    Calls Try.prog 12 #[.int .i64 tiles, .int .i64 workers, v] w fun e w' => TOk w (schedL tiles workers picks) e w' := by
  by_cases hg : 0 ≤ tiles ∧ tiles ≤ 4096 ∧ 1 ≤ workers ∧ workers ≤ 64 ∧ picks.length ≤ 10000
  · obtain ⟨n, rfl⟩ : ∃ n : Nat, workers = (n : Int) := ⟨workers.toNat, by omega⟩
    have e : schedL tiles n picks = (turnsL n tiles picks (2 * tiles).toNat).1 := (if_pos hg).trans (by rw [Int.toNat_natCast])
    rw [e]
    exact sSC_good h tiles n ⟨hg.1, hg.2.1⟩ ⟨by omega, by omega⟩ hg.2.2.2.2
  have e : schedL tiles workers picks = [] := if_neg hg
  rw [e]
  obtain ⟨sa, cap, rfl, _⟩ := h
  have hB : Hid (Bel w (w.alloc (.cells #[] 68))) := ((Ext.refl w).alloc _ _).bl
  by_cases c0 : tiles < 0
  · have d0 : decide (tiles < 0) = true := decide_eq_true c0
    go_enter Try.func12, Try.ntmps12
    go_wp2
    go_ret
    exact ⟨_, _, rfl, Or.inl rfl, hB.out⟩
  have d0 : decide (tiles < 0) = false := decide_eq_false c0
  by_cases c1 : 4096 < tiles
  · have d1 : decide (4096 < tiles) = true := decide_eq_true c1
    go_enter Try.func12, Try.ntmps12
    go_wp2
    go_ret
    exact ⟨_, _, rfl, Or.inl rfl, hB.out⟩
  have d1 : decide (4096 < tiles) = false := decide_eq_false c1
  by_cases c2 : workers < 1
  · have d2 : decide (workers < 1) = true := decide_eq_true c2
    go_enter Try.func12, Try.ntmps12
    go_wp2
    go_ret
    exact ⟨_, _, rfl, Or.inl rfl, hB.out⟩
  have d2 : decide (workers < 1) = false := decide_eq_false c2
  by_cases c3 : 64 < workers
  · have d3 : decide (64 < workers) = true := decide_eq_true c3
    go_enter Try.func12, Try.ntmps12
    go_wp2
    go_ret
    exact ⟨_, _, rfl, Or.inl rfl, hB.out⟩
  have d3 : decide (64 < workers) = false := decide_eq_false c3
  by_cases c4 : 10000 < (picks.length : Int)
  · have d4 : decide (10000 < (picks.length : Int)) = true := decide_eq_true c4
    go_enter Try.func12, Try.ntmps12
    go_wp2
    go_ret
    exact ⟨_, _, rfl, Or.inl rfl, hB.out⟩
  have d4 : decide (10000 < (picks.length : Int)) = false := decide_eq_false c4
  exact absurd ⟨by omega, by omega, by omega, by omega, by omega⟩ hg

set_option maxRecDepth 100000 in
set_option maxHeartbeats 1000000 in
theorem iSC_any {w : World} {v : Value} {picks : List Int} (h : Ints w v picks) (tiles workers : Int) (hl : picks.length ≤ 1048576) :
    Calls Try.prog 14 #[.int .i64 tiles, .int .i64 workers, v] w fun e w' => TOk w (schedL tiles workers picks) e w' := by
  by_cases hg : 0 ≤ tiles ∧ tiles ≤ 4096 ∧ 1 ≤ workers ∧ workers ≤ 64 ∧ picks.length ≤ 10000
  · obtain ⟨n, rfl⟩ : ∃ n : Nat, workers = (n : Int) := ⟨workers.toNat, by omega⟩
    have e : schedL tiles n picks = (turnsL n tiles picks (2 * tiles).toNat).1 := (if_pos hg).trans (by rw [Int.toNat_natCast])
    rw [e]
    exact iSC_good h tiles n ⟨hg.1, hg.2.1⟩ ⟨by omega, by omega⟩ hg.2.2.2.2
  have e : schedL tiles workers picks = [] := if_neg hg
  rw [e]
  obtain ⟨sa, cap, rfl, _⟩ := h
  have hB : Hid (Bel w (w.alloc (.cells #[] 68))) := ((Ext.refl w).alloc _ _).bl
  by_cases c0 : tiles < 0
  · have d0 : decide (tiles < 0) = true := decide_eq_true c0
    go_enter Try.func14, Try.ntmps14
    go_wp2
    go_ret
    exact ⟨_, _, rfl, Or.inl rfl, hB.out⟩
  have d0 : decide (tiles < 0) = false := decide_eq_false c0
  by_cases c1 : 4096 < tiles
  · have d1 : decide (4096 < tiles) = true := decide_eq_true c1
    go_enter Try.func14, Try.ntmps14
    go_wp2
    go_ret
    exact ⟨_, _, rfl, Or.inl rfl, hB.out⟩
  have d1 : decide (4096 < tiles) = false := decide_eq_false c1
  by_cases c2 : workers < 1
  · have d2 : decide (workers < 1) = true := decide_eq_true c2
    go_enter Try.func14, Try.ntmps14
    go_wp2
    go_ret
    exact ⟨_, _, rfl, Or.inl rfl, hB.out⟩
  have d2 : decide (workers < 1) = false := decide_eq_false c2
  by_cases c3 : 64 < workers
  · have d3 : decide (64 < workers) = true := decide_eq_true c3
    go_enter Try.func14, Try.ntmps14
    go_wp2
    go_ret
    exact ⟨_, _, rfl, Or.inl rfl, hB.out⟩
  have d3 : decide (64 < workers) = false := decide_eq_false c3
  by_cases c4 : 10000 < (picks.length : Int)
  · have d4 : decide (10000 < (picks.length : Int)) = true := decide_eq_true c4
    go_enter Try.func14, Try.ntmps14
    go_wp2
    go_ret
    exact ⟨_, _, rfl, Or.inl rfl, hB.out⟩
  have d4 : decide (10000 < (picks.length : Int)) = false := decide_eq_false c4
  exact absurd ⟨by omega, by omega, by omega, by omega, by omega⟩ hg

end Go.Proofs.Ytjjemnlknnnkbaa
