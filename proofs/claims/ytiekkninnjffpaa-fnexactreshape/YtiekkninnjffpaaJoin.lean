import Derived.Test.YtiekkninnjffpaaFix
namespace Go.Proofs.Ytiekkninnjffpaa
open Go.ChangeShapes Go.RowKit
set_option linter.unusedSimpArgs false
set_option linter.unusedVariables false

/-- The length of axis i from the last one on; 1 where there is none. -/
def lenE (xs : List Int) (i : Nat) : Int := if i < xs.length then xs.getD (xs.length - 1 - i) 0 else 1

set_option maxRecDepth 100000 in
set_option maxHeartbeats 1000000 in
theorem l2Length_any {w : World} {v : Value} {xs : List Int} (h : Ints w v xs) (hl : xs.length ≤ 1000000000000) (i : Nat) (hi : i ≤ 1000000000000) :
    Calls Try.prog 54 #[v, .int .i64 i] w fun e w' => e = .returned (.int .i64 (lenE xs i)) ∧ w' = w := by
  obtain ⟨sa, cap, rfl, hx⟩ := h
  by_cases hlt : i < xs.length
  · rcases hx with h0 | ⟨b, off, rfl, hrow⟩
    · rw [h0] at hlt; simp at hlt
    have q0 := hrow (xs.length - 1 - i) (by omega)
    have hE : Hid (lenE xs i = xs.getD (xs.length - 1 - i) 0) := if_pos hlt
    generalize xs.getD (xs.length - 1 - i) 0 = x at q0 hE
    have hn : ¬ (xs.length : Int) ≤ (i : Int) := by omega
    have hj : ((xs.length : Int) - 1 - (i : Int)) = ((xs.length - 1 - i : Nat) : Int) := by omega
    have hk0 : (0 : Int) ≤ ((xs.length - 1 - i : Nat) : Int) := Int.natCast_nonneg _
    have hk1 : ((xs.length - 1 - i : Nat) : Int) < (xs.length : Int) := by omega
    clear hrow
    go_enter Try.func54, Try.ntmps54
    go_wp2
    go_ret
    exact ⟨ret_int hE.out.symm, rfl⟩
  · have hE : Hid (lenE xs i = 1) := if_neg hlt
    have hn : (xs.length : Int) ≤ (i : Int) := by omega
    clear hx
    go_enter Try.func54, Try.ntmps54
    go_wp2
    go_ret
    exact ⟨ret_int hE.out.symm, rfl⟩

def joinB (a b : Int) : Bool := decide (a = 1 ∨ b = 1 ∨ a = b)
def joinV (a b : Int) : Int := if a = 1 then b else a

set_option maxRecDepth 100000 in
theorem joinLengths_any (a b : Int) (w : World) :
    Calls Try.prog 80 #[.int .i64 a, .int .i64 b] w fun e w' => e = .returned (.tuple #[.int .i64 (joinV a b), .bool (joinB a b)]) ∧ w' = w := by
  by_cases ha : a = 1
  · subst ha
    go_enter Try.func80, Try.ntmps80
    go_wp2
    go_ret2
    exact ⟨by simp [joinV, joinB], rfl⟩
  · have hv : joinV a b = a := if_neg ha
    have hab : (a == 1) = false := by simp [ha]
    rw [hv]
    by_cases hb : b = 1
    · subst hb
      have hB : joinB a 1 = true := by simp [joinB]
      rw [hB]
      go_enter Try.func80, Try.ntmps80
      go_wp2
      go_ret2
      exact ⟨rfl, rfl⟩
    · have hB : joinB a b = (a == b) := by unfold joinB; rw [Bool.eq_iff_iff]; simp [ha, hb]
      have hbb : (b == 1) = false := by simp [hb]
      rw [hB]
      go_enter Try.func80, Try.ntmps80
      go_wp2
      go_ret2
      exact ⟨by simp [hbb], rfl⟩

set_option maxRecDepth 100000 in
set_option maxHeartbeats 2000000 in
theorem fromEnd_any (w : World) (xs : List Int) (h4 : xs.length ≤ 4) (k : Nat) (hk : k < 4) :
    Calls Try.prog 81 #[.agg (shp xs), .int .i64 (k + 1 : Nat)] w fun e w' => e = .returned (.int .i64 (lenE xs k)) ∧ Ext w w' := by
  by_cases hlt : k < xs.length
  · have hcase : (∃ a, xs = [a]) ∨ (∃ a b, xs = [a, b]) ∨ (∃ a b c, xs = [a, b, c]) ∨ (∃ a b c d, xs = [a, b, c, d]) := by
      match xs, h4, hlt with
      | [a], _, _ => exact Or.inl ⟨a, rfl⟩
      | [a, b], _, _ => exact Or.inr (Or.inl ⟨a, b, rfl⟩)
      | [a, b, c], _, _ => exact Or.inr (Or.inr (Or.inl ⟨a, b, c, rfl⟩))
      | [a, b, c, d], _, _ => exact Or.inr (Or.inr (Or.inr ⟨a, b, c, d, rfl⟩))
      | _ :: _ :: _ :: _ :: _ :: _, h, _ => simp at h
    obtain rfl | rfl | rfl | rfl : k = 0 ∨ k = 1 ∨ k = 2 ∨ k = 3 := by omega
    all_goals rcases hcase with ⟨a, rfl⟩ | ⟨a, b, rfl⟩ | ⟨a, b, c, rfl⟩ | ⟨a, b, c, d, rfl⟩
    all_goals try (simp at hlt; done)
    all_goals
      simp only [shp, List.length_cons, List.length_nil, List.getD_cons_zero, List.getD_cons_succ, List.getD_nil]
      go_enter Try.func81, Try.ntmps81
      go_wp2
      go_ret
      exact ⟨by simp [lenE], by repeat (first | with_reducible exact Ext.refl _ | with_reducible apply Ext.alloc)⟩
  · have hE : Hid (lenE xs k = 1) := if_neg hlt
    have hn : (xs.length : Int) < ((k + 1 : Nat) : Int) := by omega
    simp only [shp]
    go_enter Try.func81, Try.ntmps81
    go_wp2
    go_ret
    exact ⟨ret_int hE.out.symm, by repeat (first | with_reducible exact Ext.refl _ | with_reducible apply Ext.alloc)⟩

end Go.Proofs.Ytiekkninnjffpaa
