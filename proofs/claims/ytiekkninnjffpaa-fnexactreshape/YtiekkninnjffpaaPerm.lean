import Derived.Test.YtiekkninnjffpaaLawB
namespace Go.Proofs.Ytiekkninnjffpaa
open Go.ChangeShapes Go.RowKit
set_option linter.unusedSimpArgs false
set_option linter.unusedVariables false

/-- The first k numbers are axes of n, no two the same. -/
abbrev PN (ps : List Int) (n k : Nat) : Prop := (∀ j, j < k → 0 ≤ ps.getD j 0 ∧ ps.getD j 0 < n) ∧ (∀ j, j < k → ∀ i, i < j → ps.getD i 0 ≠ ps.getD j 0)
abbrev PermOk (ps : List Int) (n : Nat) : Prop := ps.length = n ∧ PN ps n ps.length
def dcPermOk (ps : List Int) (n : Nat) : Bool := decide (PermOk ps n)
theorem dcPermOk_t {ps : List Int} {n : Nat} (h : PermOk ps n) : dcPermOk ps n = true := decide_eq_true h
theorem dcPermOk_f {ps : List Int} {n : Nat} (h : ¬ PermOk ps n) : dcPermOk ps n = false := decide_eq_false h
theorem PN.zero (ps : List Int) (n : Nat) : PN ps n 0 := ⟨fun j hj => absurd hj (Nat.not_lt_zero _), fun j h2 => absurd h2 (Nat.not_lt_zero _)⟩
theorem PN.step {ps : List Int} {n k : Nat} (h : PN ps n k) (h1 : 0 ≤ ps.getD k 0 ∧ ps.getD k 0 < n) (h2 : ∀ i, i < k → ps.getD i 0 ≠ ps.getD k 0) : PN ps n (k + 1) :=
  ⟨fun j hj => by
    by_cases e : j = k
    · subst e; exact h1
    · exact h.1 j (by omega), fun j hj i hij => by
    by_cases e : j = k
    · subst e; exact h2 i hij
    · exact h.2 j (by omega) i hij⟩

def seenB (ps : List Int) (k a : Nat) : Bool := (List.range k).any fun j => ps.getD j 0 == (a : Int)
theorem seenB_iff {ps : List Int} {k a : Nat} : seenB ps k a = true ↔ ∃ j, j < k ∧ ps.getD j 0 = (a : Int) := by
  unfold seenB
  simp [List.any_eq_true]
theorem seenB_succ (ps : List Int) (k a : Nat) : seenB ps (k + 1) a = (seenB ps k a || ps.getD k 0 == (a : Int)) := by
  unfold seenB
  rw [List.range_succ, List.any_append]
  simp

/-- The world of the loop: the marks at B. -/
structure NS (w wr : World) (B : Nat) (ps : List Int) (k : Nat) : Prop where
  c : ∀ a, a < 4 → wr.cell? ⟨B, a, none⟩ = some (.bool (seenB ps k a))
  ex : Ext w wr
theorem NS.step {w wr : World} {B : Nat} {ps : List Int} {k a : Nat} (h : NS w wr B ps k) (ha : a < 4) (hx : ps.getD k 0 = (a : Int)) (hB : w.heap.size ≤ B) : NS w (wr.setCell ⟨B, a, none⟩ (.bool true)) B ps (k + 1) := by
  refine ⟨fun b hb => ?_, h.ex.setCell hB _⟩
  rw [seenB_succ, hx]
  by_cases e : a = b
  · subst e
    rw [show ((a : Int) == (a : Int)) = true from by simp, Bool.or_true]
    exact World.cell?_setCell_same _ _ _ (h.c a ha)
  · rw [show ((a : Int) == (b : Int)) = false from by simp; omega, Bool.or_false]
    exact near e (h.c b hb)

def NRel (w : World) (B : Nat) (ps : List Int) (n : Nat) (i : Value) (wr : World) : Prop := ∃ k : Nat, i = .int .i64 k ∧ k ≤ ps.length ∧ Hid (PN ps n k) ∧ NS w wr B ps k

set_option maxRecDepth 100000 in
set_option maxHeartbeats 2000000 in
theorem names_any {w : World} {vP : Value} {ps : List Int} (hP : Ints w vP ps) (n : Nat) (hn : n ≤ 4) (ln : ps.length ≤ 1048576) :
    Calls Try.prog 63 #[vP, .int .i64 n] w fun e w' => e = .returned (.bool (dcPermOk ps n)) ∧ Ext w w' := by
  obtain ⟨sp, cp, rfl, rP⟩ := hP
  by_cases hl : ¬ ps.length = n
  · have hno : Hid ((dcPermOk ps n) = false) := decide_eq_false (fun q => hl q.1)
    have hne : ((ps.length : Int) != (n : Int)) = true := by simp; omega
    go_enter Try.func63, Try.ntmps63
    go_wp2
    go_ret
    exact ⟨ret_bool hno.out.symm, by repeat (first | with_reducible exact Ext.refl _ | with_reducible apply Ext.alloc)⟩
  have hl := Classical.not_not.1 hl
  have HP := hide rP
  clear rP
  have hne : ((ps.length : Int) != (n : Int)) = false := by simp; omega
  have Hl := hide hl
  clear hl
  have x0 : Ext w (w.alloc (.cells #[.bool false, .bool false, .bool false, .bool false] 98)) := (Ext.refl w).alloc _ _
  have n1 := fun j => new_cell w #[.bool false, .bool false, .bool false, .bool false] 98 w.heap.size rfl j
  have S0 : Hid (NS w (w.alloc (.cells #[.bool false, .bool false, .bool false, .bool false] 98)) w.heap.size ps 0) := ⟨fun a ha => by
    have e : seenB ps 0 a = false := by simp [seenB]
    rw [e]
    obtain rfl | rfl | rfl | rfl : a = 0 ∨ a = 1 ∨ a = 2 ∨ a = 3 := by omega
    all_goals exact n1 _, x0⟩
  clear x0 n1
  go_enter Try.func63, Try.ntmps63
  go_wp2_with fail
  clear hne
  generalize hB : w.heap.size = B at S0 ⊢
  have HB : Hid (w.heap.size ≤ B) := Nat.le_of_eq hB
  clear hB
  go_loopw [14] (fun i wr => NRel w B ps n i wr) (fun i _ => ps.length - (intOf i).toNat)
  case atStart => exact ⟨0, rfl, by omega, PN.zero ps n, S0.out⟩
  case round =>
    obtain ⟨k, rfl, hk, hpn, hS⟩ := hrel
    have HS := hide hS
    clear hS
    by_cases hlt : k < ps.length
    · rcases HP.out with h0 | ⟨bp, op, rfl, hrp⟩
      · rw [h0] at hlt; simp at hlt
      have qp := HS.out.ex.box (hrp k hlt)
      have hk0 : (0 : Int) ≤ (k : Int) := Int.natCast_nonneg _
      have hk1 : (k : Int) < (ps.length : Int) := by omega
      have hno1 : Hid (¬ (0 ≤ ps.getD k 0 ∧ ps.getD k 0 < n) → (dcPermOk ps n) = false) := fun q => decide_eq_false (fun g => q (g.2.1 k hlt))
      by_cases h1 : ps.getD k 0 < 0
      · have hno := hide (hno1.out (by omega))
        generalize ps.getD k 0 = x at qp h1
        clear hrp hno1
        go_wp2
        go_ret
        exact ⟨ret_bool hno.out.symm, HS.out.ex⟩
      by_cases h2 : (n : Int) ≤ ps.getD k 0
      · have hno := hide (hno1.out (by omega))
        generalize ps.getD k 0 = x at qp h1 h2
        clear hrp hno1
        go_wp2
        go_ret
        exact ⟨ret_bool hno.out.symm, HS.out.ex⟩
      obtain ⟨a, hxa⟩ : ∃ a : Nat, ps.getD k 0 = (a : Int) := ⟨(ps.getD k 0).toNat, by omega⟩
      have han : a < n := by omega
      have ha4 : a < 4 := by omega
      have hin := hide (show 0 ≤ ps.getD k 0 ∧ ps.getD k 0 < n by omega)
      have hst := hide (HS.out.step ha4 hxa HB.out)
      have hsn : Hid (seenB ps k a = false → PN ps n (k + 1)) := fun q => hpn.out.step hin.out (fun i hi e => by
        have : seenB ps k a = true := seenB_iff.2 ⟨i, hi, e.trans hxa⟩
        rw [q] at this; cases this)
      have hsy : Hid (seenB ps k a = true → (dcPermOk ps n) = false) := fun q => decide_eq_false (fun g => by
        obtain ⟨i, hi, e⟩ := seenB_iff.1 q
        exact g.2.2 k hlt i hi (e.trans hxa.symm))
      have qc := HS.out.c a ha4
      rw [hxa] at qp h1 h2
      have ha0 : (0 : Int) ≤ (a : Int) := Int.natCast_nonneg _
      have ha44 : (a : Int) < 4 := by omega
      have bf := fun o => HS.out.ex.unfrozen (b := B) HB.out o
      have h3 : ¬ (a : Int) < 0 := by omega
      clear hrp hno1 hin hxa h1
      cases hsb : seenB ps k a
      · have hp2 := hide (hsn.out hsb)
        rw [hsb] at qc
        clear hsn hsy hsb
        go_wp2
        go_roundw
        · exact ⟨k + 1, by go_num, by omega, hp2, hst.out⟩
        · simp [intOf]; omega
      · have hno := hide (hsy.out hsb)
        rw [hsb] at qc
        clear hsn hsy hsb hst
        go_wp2
        go_ret
        exact ⟨ret_bool hno.out.symm, HS.out.ex⟩
    · have hkk : k = ps.length := by omega
      subst hkk
      have hyes : Hid ((dcPermOk ps n) = true) := decide_eq_true ⟨Hl.out, hpn.out⟩
      go_wp2
      go_ret
      exact ⟨ret_bool hyes.out.symm, HS.out.ex⟩
end Go.Proofs.Ytiekkninnjffpaa
