import Derived.Test.YtiekkninnjffpaaLists
namespace Go.Proofs.Ytiekkninnjffpaa
open Go.ChangeShapes Go.RowKit
set_option linter.unusedSimpArgs false
set_option linter.unusedVariables false

def prod (xs : List Int) : Int := xs.foldl (· * ·) 1
theorem prod_take (xs : List Int) (k : Nat) (hk : k < xs.length) : prod (xs.take (k + 1)) = prod (xs.take k) * xs.getD k 0 := by
  unfold prod
  rw [List.take_add_one, List.foldl_append, List.getD_eq_getElem?_getD, List.getElem?_eq_getElem hk]
  rfl
/-- All lengths up to k are in range. -/
abbrev InR (xs : List Int) (k : Nat) : Prop := ∀ j, j < k → 0 ≤ xs.getD j 0 ∧ xs.getD j 0 ≤ 4096
theorem InR.step {xs : List Int} {k : Nat} (h : InR xs k) (hx : 0 ≤ xs.getD k 0 ∧ xs.getD k 0 ≤ 4096) : InR xs (k + 1) := fun j hj => by
  by_cases e : j = k
  · rw [e]; exact hx
  · exact h j (by omega)
theorem mul_bd {n x B : Int} (hn : 0 ≤ n ∧ n ≤ B) (hx : 0 ≤ x ∧ x ≤ 4096) : 0 ≤ n * x ∧ n * x ≤ B * 4096 :=
  ⟨Int.mul_nonneg hn.1 hx.1, Int.mul_le_mul hn.2 hx.2 hx.1 (Int.le_trans hn.1 hn.2)⟩
def bd (k : Nat) : Int := if k = 0 then 1 else if k = 1 then 4096 else if k = 2 then 16777216 else if k = 3 then 68719476736 else 281474976710656
theorem bd_le (k : Nat) : bd k ≤ 281474976710656 := by unfold bd; repeat' split
                                                       all_goals omega
theorem prod_bd (xs : List Int) : ∀ k, k ≤ 4 → k ≤ xs.length → InR xs k → 0 ≤ prod (xs.take k) ∧ prod (xs.take k) ≤ bd k
  | 0, _, _, _ => by simp [prod, bd]
  | k + 1, h4, hl, h => by
    have ih := prod_bd xs k (by omega) (by omega) (fun j hj => h j (by omega))
    rw [prod_take xs k (by omega)]
    have := mul_bd ih (h k (by omega))
    have hb : bd k * 4096 = bd (k + 1) := by
      obtain rfl | rfl | rfl | rfl : k = 0 ∨ k = 1 ∨ k = 2 ∨ k = 3 := by omega
      all_goals rfl
    rw [hb] at this
    exact this

/-- A good shape. -/
abbrev Good (xs : List Int) : Prop := xs.length ≤ 4 ∧ InR xs xs.length ∧ prod xs ≤ 4096
def goodB (xs : List Int) : Bool := decide (Good xs)
def cntL (xs : List Int) : Int := if Good xs then prod xs else -1

set_option maxRecDepth 100000 in
set_option maxHeartbeats 1000000 in
theorem l2Count_any {w : World} {v : Value} {xs : List Int} (h : Ints w v xs) (hl : xs.length ≤ 1000000000000) :
    Calls Try.prog 51 #[v] w fun e w' => e = .returned (.int .i64 (cntL xs)) ∧ w' = w := by
  obtain ⟨sa, cap, rfl, hx⟩ := h
  have HX := hide hx
  clear hx
  by_cases h4 : xs.length ≤ 4
  · have h4' : (xs.length : Int) ≤ 4 := by omega
    go_enter Try.func51, Try.ntmps51
    go_wp2
    go_loopw [3, 4] (fun m i wr => ∃ k : Nat, i = .int .i64 k ∧ m = .int .i64 (prod (xs.take k)) ∧ k ≤ xs.length ∧ Hid (InR xs k) ∧ wr = w) (fun m i _ => xs.length - (intOf i).toNat)
    case atStart => exact ⟨0, rfl, rfl, by omega, fun j hj => absurd hj (Nat.not_lt_zero _), rfl⟩
    case round =>
      obtain ⟨k, rfl, rfl, hk, hin, rfl⟩ := hrel
      have hb := prod_bd xs k (by omega) hk hin.out
      have hb2 := bd_le k
      by_cases hlt : k < xs.length
      · rcases HX.out with h0 | ⟨b, off, rfl, hrow⟩
        · rw [h0] at hlt; simp at hlt
        have q0 := hrow k hlt
        have hk0 : (0 : Int) ≤ (k : Int) := Int.natCast_nonneg _
        have hk1 : (k : Int) < (xs.length : Int) := by omega
        have hp := prod_take xs k hlt
        by_cases hr : 0 ≤ xs.getD k 0 ∧ xs.getD k 0 ≤ 4096
        · have hin2 : Hid (InR xs (k + 1)) := hin.out.step hr
          have hB := prod_bd xs (k + 1) (by omega) (by omega) hin2.out
          have hB2 := bd_le (k + 1)
          generalize bd (k + 1) = B1 at hB hB2
          generalize bd k = B0 at hb hb2
          generalize hP1 : prod (xs.take (k + 1)) = P1 at hp hB
          have HP1 := hide hP1
          clear hP1
          generalize prod (xs.take k) = P0 at hp hb ⊢
          generalize xs.getD k 0 = x at q0 hp hr
          have hw1 : wrap64 (P0 * x) = P1 := by rw [← hp]; unfold wrap64; omega
          clear hrow hp
          have hlo : ¬ x < 0 := by omega
          have hhi : ¬ 4096 < x := by omega
          go_wp2
          go_roundw
          · exact ⟨k + 1, by go_num, by first | (rw [HP1.out]; done) | (rw [HP1.out, hw1]), by omega, hin2, by trivial⟩
          · simp [intOf]; omega
        · have hng : Hid (cntL xs = -1) := by
            show cntL xs = -1
            unfold cntL
            exact if_neg (fun g => hr (g.2.1 k hlt))
          generalize xs.getD k 0 = x at q0 hp hr
          clear hp hrow hb hb2
          by_cases hlo : x < 0
          · go_wp2
            go_ret
            exact ⟨ret_int hng.out.symm, rfl⟩
          · have hhi : 4096 < x := by omega
            go_wp2
            go_ret
            exact ⟨ret_int hng.out.symm, rfl⟩
      · have hkk : k = xs.length := by omega
        subst hkk
        rw [List.take_length] at hb ⊢
        by_cases hp : prod xs ≤ 4096
        · have hg : Hid (cntL xs = prod xs) := if_pos ⟨h4, hin.out, hp⟩
          generalize prod xs = P at hp hg hb ⊢
          go_wp2
          go_ret
          exact ⟨ret_int hg.out.symm, rfl⟩
        · have hg : Hid (cntL xs = -1) := if_neg (fun g => hp g.2.2)
          generalize prod xs = P at hp hg hb ⊢
          have hp2 : 4096 < P := by omega
          go_wp2
          go_ret
          exact ⟨ret_int hg.out.symm, rfl⟩
  · have hg : Hid (cntL xs = -1) := if_neg (fun g => h4 g.1)
    have h4' : 4 < (xs.length : Int) := by omega
    go_enter Try.func51, Try.ntmps51
    go_wp2
    go_ret
    exact ⟨ret_int hg.out.symm, rfl⟩

/-- A shape as the program keeps it. -/
def shp (xs : List Int) : Array Value := #[.int .i64 xs.length, .int .i64 (xs.getD 0 0), .int .i64 (xs.getD 1 0), .int .i64 (xs.getD 2 0), .int .i64 (xs.getD 3 0)]

set_option maxRecDepth 100000 in
set_option maxHeartbeats 1000000 in
theorem count_any (w : World) (xs : List Int) (h4 : xs.length ≤ 4) (hr : InR xs xs.length) :
    Calls Try.prog 61 #[.agg (shp xs)] w fun e w' => e = .returned (.int .i64 (prod xs)) ∧ w' = w.alloc (.cells (shp xs) 62) := by
  have HR := hide hr
  clear hr
  have h4' : (xs.length : Int) ≤ 4 := by omega
  go_enter Try.func61, Try.ntmps61
  simp only [shp]
  have R0 : ∀ j, j < xs.length → (w.alloc (.cells (shp xs) 62)).cell? ⟨w.heap.size, 1 + j, none⟩ = some (.int .i64 (xs.getD j 0)) := fun j hj => by
    obtain rfl | rfl | rfl | rfl : j = 0 ∨ j = 1 ∨ j = 2 ∨ j = 3 := by omega
    all_goals simp [shp]
  have HR0 := hide R0
  clear R0
  go_wp2
  go_loopw [3, 11] (fun m i wr => ∃ k : Nat, i = .int .i64 k ∧ m = .int .i64 (prod (xs.take k)) ∧ k ≤ xs.length ∧ wr = w.alloc (.cells (shp xs) 62)) (fun m i _ => xs.length - (intOf i).toNat)
  case atStart => exact ⟨0, rfl, rfl, by omega, rfl⟩
  case round =>
    obtain ⟨k, rfl, rfl, hk, rfl⟩ := hrel
    have hb := prod_bd xs k (by omega) hk (fun j hj => HR.out j (by omega))
    have hb2 := bd_le k
    by_cases hlt : k < xs.length
    · have q0 := HR0.out k hlt
      have hk0 : (0 : Int) ≤ (k : Int) := Int.natCast_nonneg _
      have hk1 : (k : Int) < (xs.length : Int) := by omega
      have hp := prod_take xs k hlt
      have hB := prod_bd xs (k + 1) (by omega) (by omega) (fun j hj => HR.out j (by omega))
      have hB2 := bd_le (k + 1)
      generalize bd (k + 1) = B1 at hB hB2
      generalize bd k = B0 at hb hb2
      generalize hP1 : prod (xs.take (k + 1)) = P1 at hp hB
      have HP1 := hide hP1
      clear hP1
      generalize prod (xs.take k) = P0 at hp hb ⊢
      generalize xs.getD k 0 = x at q0 hp
      have hw1 : wrap64 (P0 * x) = P1 := by rw [← hp]; unfold wrap64; omega
      clear hp
      go_wp2
      go_roundw
      · exact ⟨k + 1, by go_num, by first | (rw [HP1.out]; done) | (rw [HP1.out, hw1]), by omega, by trivial⟩
      · simp [intOf]; omega
    · have hkk : k = xs.length := by omega
      subst hkk
      rw [List.take_length]
      go_wp2
      go_ret
      exact ⟨rfl, rfl⟩
end Go.Proofs.Ytiekkninnjffpaa
