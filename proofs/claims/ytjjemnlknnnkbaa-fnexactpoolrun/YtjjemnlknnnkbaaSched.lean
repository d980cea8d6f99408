import Derived.Test.YtjjemnlknnnkbaaQueue
namespace Go.Proofs.Ytjjemnlknnnkbaa
open Go.ChangeShapes Go.RowKit Go.MuLone
set_option linter.unusedSimpArgs false
set_option linter.unusedVariables false

/-- The worker that has the turn: w itself where tiles are left, else the first from w on that holds one. -/
def seek (held : List Int) (n : Nat) (more : Bool) (w : Nat) : Nat :=
  if more then w else match (List.range n).find? (fun i => decide (0 ≤ held.getD ((w + i) % n) 0)) with
    | some i => (w + i) % n
    | none => w
theorem seek_more (held : List Int) (n w : Nat) : seek held n true w = w := rfl
theorem seek_at {held : List Int} {n w i : Nat} (hi : i < n) (h : 0 ≤ held.getD ((w + i) % n) 0) (hn : ∀ j, j < i → held.getD ((w + j) % n) 0 < 0) : seek held n false w = (w + i) % n := by
  have : (List.range n).find? (fun i => decide (0 ≤ held.getD ((w + i) % n) 0)) = some i := by
    rw [List.find?_range_eq_some]
    exact ⟨by simpa using h, by simpa using hi, fun j hj => by simpa using hn j hj⟩
  unfold seek
  rw [this]
  rfl
theorem seek_none {held : List Int} {n w : Nat} (hn : ∀ j, j < n → held.getD ((w + j) % n) 0 < 0) : seek held n false w = w := by
  have : (List.range n).find? (fun i => decide (0 ≤ held.getD ((w + i) % n) 0)) = none := by
    rw [List.find?_eq_none]
    intro i hi
    have := hn i (by simpa using hi)
    rw [decide_eq_true_eq]; omega
  unfold seek
  rw [this]
  rfl
theorem seek_lt (held : List Int) (n : Nat) (more : Bool) (w : Nat) (hw : w < n) : seek held n more w < n := by
  unfold seek
  split
  · exact hw
  · split
    · exact Nat.mod_lt _ (by omega)
    · exact hw

abbrev TurnL := Int × Int × Bool
/-- One turn. -/
def turnL (n : Nat) (tiles : Int) (s : Int × List Int) (p : Int) : TurnL × Int × List Int :=
  let x := seek s.2 n (decide (s.1 < tiles)) (p.emod n).toNat
  if 0 ≤ s.2.getD x 0 then ((x, s.2.getD x 0, true), s.1, s.2.set x (-1)) else ((x, s.1, false), s.1 + 1, s.2.set x s.1)
/-- So many turns: what was answered, how many tiles are taken, what is held. -/
def turnsL (n : Nat) (tiles : Int) (picks : List Int) : Nat → List TurnL × Int × List Int
  | 0 => ([], 0, List.replicate n (-1))
  | k + 1 => ((turnsL n tiles picks k).1 ++ [(turnL n tiles (turnsL n tiles picks k).2 (picks.getD k 0)).1], (turnL n tiles (turnsL n tiles picks k).2 (picks.getD k 0)).2)
theorem turns_succ (n : Nat) (tiles : Int) (picks : List Int) (k : Nat) : turnsL n tiles picks (k + 1) = ((turnsL n tiles picks k).1 ++ [(turnL n tiles (turnsL n tiles picks k).2 (picks.getD k 0)).1], (turnL n tiles (turnsL n tiles picks k).2 (picks.getD k 0)).2) := rfl

/-- How many hold a tile. -/
def holders (held : List Int) : Nat := held.countP (fun v => decide (0 ≤ v))
/-- What holds after k turns. -/
structure TInv (n : Nat) (tiles : Int) (k : Nat) (taken : Int) (held : List Int) : Prop where
  len : held.length = n
  lo : 0 ≤ taken
  hi : taken ≤ tiles
  hl : ∀ j, j < n → -1 ≤ held.getD j 0 ∧ held.getD j 0 < tiles
  cnt : (k : Int) + holders held = 2 * taken

theorem count_set : ∀ (xs : List Int) (i : Nat) (x : Int), i < xs.length → ((holders (xs.set i x) : Nat) : Int) = holders xs + (if 0 ≤ x then 1 else 0) - (if 0 ≤ xs.getD i 0 then 1 else 0)
  | [], i, x, h => by simp at h
  | y :: ys, 0, x, h => by
    simp only [holders, List.set_cons_zero, List.countP_cons, List.getD_cons_zero, decide_eq_true_eq]
    split <;> split <;> simp_all
  | y :: ys, i + 1, x, h => by
    have ih := count_set ys i x (by simpa using h)
    simp only [holders, List.set_cons_succ, List.countP_cons, List.getD_cons_succ] at ih ⊢
    push_cast
    omega

theorem TInv.start (n : Nat) (tiles : Int) (ht : 0 ≤ tiles) (h1 : 0 < tiles ∨ True) : TInv n tiles 0 0 (List.replicate n (-1)) := by
  refine ⟨by simp, by omega, ht, fun j hj => ?_, ?_⟩
  · have : (List.replicate n (-1 : Int)).getD j 0 = -1 := by simp [List.getD_eq_getElem?_getD, hj]
    rw [this]; omega
  · simp [holders]
/-- Where all tiles are taken and turns are left somebody holds one. -/
theorem TInv.some {n : Nat} {tiles : Int} {k : Nat} {taken : Int} {held : List Int} (h : TInv n tiles k taken held) (hk : (k : Int) < 2 * tiles) (he : taken = tiles) : ∃ j, j < n ∧ 0 ≤ held.getD j 0 := by
  have hc := h.cnt
  have hp : 0 < holders held := by omega
  unfold holders at hp
  rw [List.countP_pos_iff] at hp
  obtain ⟨v, hv, h0⟩ := hp
  obtain ⟨j, hj, e⟩ := List.getElem_of_mem hv
  refine ⟨j, by have := h.len; omega, ?_⟩
  rw [List.getD_eq_getElem?_getD, List.getElem?_eq_getElem hj]
  simp only [Option.getD_some, e]
  simpa using h0
theorem mod_reach (n w j : Nat) (hw : w < n) (hj : j < n) : ∃ i, i < n ∧ (w + i) % n = j := by
  by_cases h : w ≤ j
  · exact ⟨j - w, by omega, by rw [show w + (j - w) = j by omega]; exact Nat.mod_eq_of_lt hj⟩
  · exact ⟨n + j - w, by omega, by rw [show w + (n + j - w) = j + n by omega, Nat.add_mod_right]; exact Nat.mod_eq_of_lt hj⟩
/-- The first from w on. -/
theorem first_reach {held : List Int} {n w : Nat} (hw : w < n) (h : ∃ j, j < n ∧ 0 ≤ held.getD j 0) : ∃ i, i < n ∧ 0 ≤ held.getD ((w + i) % n) 0 ∧ ∀ j, j < i → held.getD ((w + j) % n) 0 < 0 := by
  obtain ⟨j, hj, h0⟩ := h
  obtain ⟨i, hi, e⟩ := mod_reach n w j hw hj
  have key : ∀ m, m < n → 0 ≤ held.getD ((w + m) % n) 0 → ∃ i, i ≤ m ∧ 0 ≤ held.getD ((w + i) % n) 0 ∧ ∀ j, j < i → held.getD ((w + j) % n) 0 < 0 := by
    intro m
    induction m using Nat.strongRecOn with
    | ind m ih =>
      intro hm h0
      by_cases q : ∃ j, j < m ∧ 0 ≤ held.getD ((w + j) % n) 0
      · obtain ⟨j, hj, hj0⟩ := q
        obtain ⟨i, h1, h2, h3⟩ := ih j hj (by omega) hj0
        exact ⟨i, by omega, h2, h3⟩
      · refine ⟨m, Nat.le_refl _, h0, fun j hj => ?_⟩
        rcases Int.lt_or_le (held.getD ((w + j) % n) 0) 0 with h | h
        · exact h
        · exact absurd ⟨j, hj, h⟩ q
  obtain ⟨i', h1, h2, h3⟩ := key i hi (by rw [e]; exact h0)
  exact ⟨i', by omega, h2, h3⟩
theorem pick_lt (p : Int) (n : Nat) (hn : 0 < n) : (p.emod n).toNat < n := by
  have h1 : p.emod (n : Int) < (n : Int) := Int.emod_lt_of_pos _ (by omega)
  have h2 : 0 ≤ p.emod (n : Int) := Int.emod_nonneg _ (by omega)
  omega
/-- The worker of the turn holds one, or a tile is left. -/
theorem TInv.turn {n : Nat} {tiles : Int} {k : Nat} {taken : Int} {held : List Int} (h : TInv n tiles k taken held) (hn : 0 < n) (hk : (k : Int) < 2 * tiles) (p : Int) :
    (0 ≤ held.getD (seek held n (decide (taken < tiles)) (p.emod n).toNat) 0) ∨ taken < tiles := by
  by_cases q : taken < tiles
  · exact Or.inr q
  · left
    rw [decide_eq_false q]
    obtain ⟨i, h1, h2, h3⟩ := first_reach (pick_lt p n hn) (h.some hk (by have := h.hi; omega))
    rw [seek_at h1 h2 h3]
    exact h2
theorem TInv.step {n : Nat} {tiles : Int} {k : Nat} {s : Int × List Int} (h : TInv n tiles k s.1 s.2) (hn : 0 < n) (hk : (k : Int) < 2 * tiles) (p : Int) :
    TInv n tiles (k + 1) (turnL n tiles s p).2.1 (turnL n tiles s p).2.2 := by
  have hx := seek_lt s.2 n (decide (s.1 < tiles)) (p.emod n).toNat (pick_lt p n hn)
  have ht := h.turn hn hk p
  unfold turnL
  simp only
  generalize seek s.2 n (decide (s.1 < tiles)) (p.emod n).toNat = x at hx ht ⊢
  have hl := h.len
  have hc := h.cnt
  have h1 := h.lo
  have h2 := h.hi
  split
  · next h0 =>
    have hs := count_set s.2 x (-1) (by omega)
    rw [if_pos h0, if_neg (by omega)] at hs
    refine ⟨by simpa using hl, h1, h2, fun j hj => ?_, ?_⟩
    · simp only
      rw [getD_set _ _ _ _ (by omega)]
      split
      · omega
      · exact h.hl j hj
    · simp only
      omega
  · next h0 =>
    have hs := count_set s.2 x s.1 (by omega)
    rw [if_neg h0, if_pos h1] at hs
    have ht' : s.1 < tiles := ht.resolve_left h0
    refine ⟨by simpa using hl, by simp only; omega, by simp only; omega, fun j hj => ?_, ?_⟩
    · simp only
      rw [getD_set _ _ _ _ (by omega)]
      split
      · omega
      · exact h.hl j hj
    · simp only
      omega
theorem turns_inv (n : Nat) (tiles : Int) (picks : List Int) (hn : 0 < n) (ht : 0 ≤ tiles) : ∀ k : Nat, (k : Int) ≤ 2 * tiles → TInv n tiles k (turnsL n tiles picks k).2.1 (turnsL n tiles picks k).2.2
  | 0, _ => TInv.start n tiles ht (Or.inr trivial)
  | k + 1, h => by
    have ih := turns_inv n tiles picks hn ht k (by omega)
    rw [turns_succ]
    exact ih.step hn (by omega) _
theorem turns_len (n : Nat) (tiles : Int) (picks : List Int) : ∀ k : Nat, (turnsL n tiles picks k).1.length = k
  | 0 => rfl
  | k + 1 => by rw [turns_succ]; simp [turns_len n tiles picks k]

/-- The answer of Schedule. -/
def schedL (tiles workers : Int) (picks : List Int) : List TurnL :=
  if 0 ≤ tiles ∧ tiles ≤ 4096 ∧ 1 ≤ workers ∧ workers ≤ 64 ∧ picks.length ≤ 10000 then (turnsL workers.toNat tiles picks (2 * tiles).toNat).1 else []
theorem schedL_len (tiles workers : Int) (picks : List Int) : (schedL tiles workers picks).length ≤ 8192 := by
  unfold schedL
  split
  · rw [turns_len]; omega
  · simp
end Go.Proofs.Ytjjemnlknnnkbaa
