import Derived.Test.YtjjemnlknnnkbaaPoolC
namespace Go.Proofs.Ytjjemnlknnnkbaa
open Go.ChangeShapes Go.RowKit Go.MuLone
set_option linter.unusedSimpArgs false
set_option linter.unusedVariables false

def sumL : List Int → Int
  | [] => 0
  | x :: xs => x + sumL xs
theorem sumL_append (a b : List Int) : sumL (a ++ b) = sumL a + sumL b := by
  induction a with
  | nil => simp [sumL]
  | cons x a ih => simp only [List.cons_append, sumL, ih]; omega
theorem sumL_set : ∀ (xs : List Int) (j : Nat) (v : Int), j < xs.length → sumL (xs.set j v) = sumL xs - xs.getD j 0 + v
  | [], j, v, h => by simp at h
  | x :: xs, 0, v, h => by simp [sumL]; omega
  | x :: xs, j + 1, v, h => by
    have ih := sumL_set xs j v (by simpa using h)
    simp only [List.set_cons_succ, sumL, List.getD_cons_succ, ih]; omega
theorem sumL_take (xs : List Int) (k : Nat) (hk : k < xs.length) : sumL (xs.take (k + 1)) = sumL (xs.take k) + xs.getD k 0 := by
  rw [take_snocB 0 xs k hk, sumL_append]; simp [sumL]
theorem getDs {α : Type} (l : List α) (d x : α) (i j : Nat) (hl : i < l.length) : (l.set i x).getD j d = if j = i then x else l.getD j d := by
  by_cases e : j = i
  · subst e
    rw [if_pos rfl, List.getD_eq_getElem?_getD, List.getElem?_set_self hl]; rfl
  · rw [if_neg e, List.getD_eq_getElem?_getD, List.getElem?_set_ne (fun e1 => e e1.symm), ← List.getD_eq_getElem?_getD]
theorem getD_snoc {α : Type} (l : List α) (d x : α) (j : Nat) : (l ++ [x]).getD j d = if j < l.length then l.getD j d else if j = l.length then x else d := by
  rw [List.getD_eq_getElem?_getD, List.getD_eq_getElem?_getD]
  by_cases e : j < l.length
  · rw [if_pos e, List.getElem?_append_left e]
  · rw [if_neg e, List.getElem?_append_right (by omega)]
    by_cases e2 : j = l.length
    · rw [if_pos e2]; subst e2; simp
    · rw [if_neg e2]
      have : j - l.length ≠ 0 := by omega
      simp [List.getElem?_cons, this]

/-- What the law keeps: the numbers that are live, the sizes held. -/
structure PI (bs : List Blk) (L S : List Int) : Prop where
  len : S.length = L.length
  each : ∀ j, j < L.length → (L.getD j 0 = -2 ∧ S.getD j 0 = 0) ∨ ∃ n : Nat, L.getD j 0 = (n : Int) ∧ n < bs.length ∧ (bs.getD n b0).2 = true ∧ S.getD j 0 = (bs.getD n b0).1
  inj : ∀ j k, j < L.length → k < L.length → L.getD j 0 = L.getD k 0 → L.getD j 0 ≠ -2 → j = k
  onto : ∀ n, n < bs.length → (bs.getD n b0).2 = true → ∃ j, j < L.length ∧ L.getD j 0 = (n : Int)
  sum : sumL S = liveL bs
theorem find_some {bs : List Blk} {r : Int} {i : Nat} (h : findFree bs r = some i) : i < bs.length ∧ freeB bs r i = true := by
  unfold findFree at h
  have h1 := List.mem_of_find?_eq_some h
  have h2 := List.find?_some h
  exact ⟨by simpa using h1, h2⟩
theorem PI.nil : PI [] [] [] := ⟨rfl, fun j h => by simp at h, fun j k h => by simp at h, fun n h => by simp at h, rfl⟩
theorem liveL_setB : ∀ (bs : List Blk) (i : Nat) (b : Blk), i < bs.length → liveL (bs.set i b) = liveL bs - blv (bs.getD i b0) + blv b
  | [], i, b, h => by simp at h
  | x :: bs, 0, b, h => by simp [liveL]; omega
  | x :: bs, i + 1, b, h => by
    have ih := liveL_setB bs i b (by simpa using h)
    simp only [List.set_cons_succ, liveL, List.getD_cons_succ, ih]; omega
/-- A block that is not live is taken. -/
theorem PI.use {bs : List Blk} {L S : List Int} (h : PI bs L S) (i : Nat) (hi : i < bs.length) (hu : (bs.getD i b0).2 = false) (r : Int) : PI (bs.set i (r, true)) (L ++ [(i : Int)]) (S ++ [r]) ∧ ∀ j, j < L.length → L.getD j 0 ≠ (i : Int) := by
  have hno : ∀ j, j < L.length → L.getD j 0 ≠ (i : Int) := fun j hj e => by
    rcases h.each j hj with ⟨h1, _⟩ | ⟨n, h1, h2, h3, _⟩
    · omega
    · have : n = i := by omega
      subst this
      rw [hu] at h3; cases h3
  refine ⟨⟨by simp [h.len], fun j hj => ?_, fun j k hj hk he hne => ?_, fun n hn hu' => ?_, ?_⟩, hno⟩
  · rw [List.length_append, List.length_singleton] at hj
    rw [getD_snoc, getD_snoc, h.len]
    by_cases e : j < L.length
    · rw [if_pos e, if_pos e]
      rcases h.each j e with h1 | ⟨n, h1, h2, h3, h4⟩
      · exact Or.inl h1
      · have hne : n ≠ i := fun e1 => hno j e (by rw [h1, e1])
        refine Or.inr ⟨n, h1, by simp [h2], ?_, ?_⟩ <;> rw [getDs _ _ _ _ _ hi, if_neg hne]
        · exact h3
        · exact h4
    · have e2 : j = L.length := by omega
      rw [if_neg e, if_neg e, if_pos e2, if_pos e2]
      refine Or.inr ⟨i, rfl, by simp [hi], ?_, ?_⟩ <;> rw [getDs _ _ _ _ _ hi, if_pos rfl]
  · rw [List.length_append, List.length_singleton] at hj hk
    rw [getD_snoc] at he hne
    rw [getD_snoc] at he
    by_cases ej : j < L.length
    · rw [if_pos ej] at he hne
      by_cases ek : k < L.length
      · rw [if_pos ek] at he
        exact h.inj j k ej ek he hne
      · rw [if_neg ek, if_pos (by omega)] at he
        exact absurd he (hno j ej)
    · rw [if_neg ej, if_pos (by omega)] at he hne
      by_cases ek : k < L.length
      · rw [if_pos ek] at he
        exact absurd he.symm (hno k ek)
      · omega
  · rw [List.length_set] at hn
    rw [getDs _ _ _ _ _ hi] at hu'
    by_cases e : n = i
    · exact ⟨L.length, by simp, by rw [getD_snoc, if_neg (by omega), if_pos rfl, e]⟩
    · rw [if_neg e] at hu'
      obtain ⟨j, h1, h2⟩ := h.onto n hn hu'
      exact ⟨j, by rw [List.length_append]; omega, by rw [getD_snoc, if_pos h1]; exact h2⟩
  · rw [sumL_append, h.sum, liveL_setB _ _ _ hi]
    have e : blv (bs.getD i b0) = 0 := by unfold blv; rw [hu]; rfl
    rw [e]; simp [blv, sumL]
/-- A new block is taken. -/
theorem PI.push {bs : List Blk} {L S : List Int} (h : PI bs L S) (r : Int) : PI (bs ++ [(r, true)]) (L ++ [(bs.length : Int)]) (S ++ [r]) ∧ ∀ j, j < L.length → L.getD j 0 ≠ (bs.length : Int) := by
  have hno : ∀ j, j < L.length → L.getD j 0 ≠ (bs.length : Int) := fun j hj e => by
    rcases h.each j hj with ⟨h1, _⟩ | ⟨n, h1, h2, h3, _⟩
    · omega
    · omega
  refine ⟨⟨by simp [h.len], fun j hj => ?_, fun j k hj hk he hne => ?_, fun n hn hu' => ?_, ?_⟩, hno⟩
  · rw [List.length_append, List.length_singleton] at hj
    rw [getD_snoc, getD_snoc, h.len]
    by_cases e : j < L.length
    · rw [if_pos e, if_pos e]
      rcases h.each j e with h1 | ⟨n, h1, h2, h3, h4⟩
      · exact Or.inl h1
      · refine Or.inr ⟨n, h1, by simp; omega, ?_, ?_⟩ <;> rw [getD_snoc, if_pos h2]
        · exact h3
        · exact h4
    · have e2 : j = L.length := by omega
      rw [if_neg e, if_neg e, if_pos e2, if_pos e2]
      refine Or.inr ⟨bs.length, rfl, by simp, ?_, ?_⟩ <;> rw [getD_snoc, if_neg (by omega), if_pos rfl]
  · rw [List.length_append, List.length_singleton] at hj hk
    rw [getD_snoc] at he hne
    rw [getD_snoc] at he
    by_cases ej : j < L.length
    · rw [if_pos ej] at he hne
      by_cases ek : k < L.length
      · rw [if_pos ek] at he
        exact h.inj j k ej ek he hne
      · rw [if_neg ek, if_pos (by omega)] at he
        exact absurd he (hno j ej)
    · rw [if_neg ej, if_pos (by omega)] at he hne
      by_cases ek : k < L.length
      · rw [if_pos ek] at he
        exact absurd he.symm (hno k ek)
      · omega
  · rw [List.length_append, List.length_singleton] at hn
    rw [getD_snoc] at hu'
    by_cases e : n < bs.length
    · rw [if_pos e] at hu'
      obtain ⟨j, h1, h2⟩ := h.onto n e hu'
      exact ⟨j, by rw [List.length_append]; omega, by rw [getD_snoc, if_pos h1]; exact h2⟩
    · exact ⟨L.length, by simp, by rw [getD_snoc, if_neg (by omega), if_pos rfl]; omega⟩
  · rw [sumL_append, h.sum, liveL_append]
    simp [blv, sumL, liveL]
/-- The inner loop over the live numbers, at a give of n. -/
def gv (n : Int) (L S : List Int) : Nat → List Int × List Int
  | 0 => (L, S)
  | k + 1 => if (gv n L S k).1.getD k 0 = n then ((gv n L S k).1.set k (-2), (gv n L S k).2.set k 0) else gv n L S k
theorem gv_len (n : Int) (L S : List Int) : ∀ k, (gv n L S k).1.length = L.length ∧ (gv n L S k).2.length = S.length
  | 0 => ⟨rfl, rfl⟩
  | k + 1 => by
    have ih := gv_len n L S k
    unfold gv
    split
    · simp [ih.1, ih.2]
    · exact ih
theorem gv_at {n : Int} {L S : List Int} {j0 : Nat} (hj : j0 < L.length) (h0 : L.getD j0 0 = n) (h2 : n ≠ -2) (hu : ∀ j, j < L.length → L.getD j 0 = n → j = j0) : ∀ k, k ≤ L.length → gv n L S k = if j0 < k then (L.set j0 (-2), S.set j0 0) else (L, S)
  | 0, _ => by simp [gv]
  | k + 1, hk => by
    have ih := gv_at (S := S) hj h0 h2 hu k (by omega)
    unfold gv
    rw [ih]
    by_cases e : j0 < k
    · rw [if_pos e, if_pos (show j0 < k + 1 by omega)]
      dsimp only
      rw [getDs _ _ _ _ _ hj, if_neg (show ¬ k = j0 by omega)]
      by_cases e2 : L.getD k 0 = n
      · have := hu k (by omega) e2; omega
      · rw [if_neg e2]
    · rw [if_neg e]
      dsimp only
      by_cases e2 : L.getD k 0 = n
      · have := hu k (by omega) e2
        subst this
        rw [if_pos e2, if_pos (show k < k + 1 by omega)]
      · rw [if_neg e2, if_neg (fun e3 => by have : j0 = k := by omega
                                            subst this; exact e2 h0)]
theorem PI.give {bs : List Blk} {L S : List Int} (h : PI bs L S) (i : Nat) (hi : i < bs.length) (hu : (bs.getD i b0).2 = true) : PI (bs.set i ((bs.getD i b0).1, false)) (gv i L S L.length).1 (gv i L S L.length).2 := by
  obtain ⟨j0, hj, h0⟩ := h.onto i hi hu
  rw [gv_at hj h0 (by omega) (fun j hj1 hj2 => h.inj j j0 hj1 hj (by rw [hj2, h0]) (by omega)) L.length (Nat.le_refl _), if_pos hj]
  have hS0 : S.getD j0 0 = (bs.getD i b0).1 := by
    rcases h.each j0 hj with ⟨h1, _⟩ | ⟨n, h1, h2, h3, h4⟩
    · omega
    · have : n = i := by omega
      subst this; exact h4
  refine ⟨by simp [h.len], fun j hjl => ?_, fun j k hjl hkl he hne => ?_, fun n hn hu' => ?_, ?_⟩
  · dsimp only at hjl ⊢
    rw [List.length_set] at hjl
    rw [getDs _ _ _ _ _ hj, getDs _ _ _ _ _ (by rw [h.len]; exact hj)]
    by_cases e : j = j0
    · rw [if_pos e, if_pos e]; exact Or.inl ⟨rfl, rfl⟩
    · rw [if_neg e, if_neg e]
      rcases h.each j hjl with h1 | ⟨n, h1, h2, h3, h4⟩
      · exact Or.inl h1
      · have hne : n ≠ i := fun e1 => e (h.inj j j0 hjl hj (by rw [h1, h0, e1]) (by omega))
        refine Or.inr ⟨n, h1, by simp [h2], ?_, ?_⟩ <;> rw [getDs _ _ _ _ _ hi, if_neg hne]
        · exact h3
        · exact h4
  · dsimp only at hjl hkl he hne
    rw [List.length_set] at hjl hkl
    rw [getDs _ _ _ _ _ hj] at he hne
    rw [getDs _ _ _ _ _ hj] at he
    by_cases e : j = j0
    · rw [if_pos e] at hne; exact absurd rfl hne
    · rw [if_neg e] at he hne
      by_cases e2 : k = j0
      · rw [if_pos e2] at he; exact absurd he hne
      · rw [if_neg e2] at he
        exact h.inj j k hjl hkl he hne
  · rw [List.length_set] at hn
    rw [getDs _ _ _ _ _ hi] at hu'
    by_cases e : n = i
    · rw [if_pos e] at hu'; cases hu'
    · rw [if_neg e] at hu'
      obtain ⟨j, h1, h2⟩ := h.onto n hn hu'
      refine ⟨j, by simp [h1], ?_⟩
      dsimp only
      rw [getDs _ _ _ _ _ hj, if_neg (fun e1 => e (by rw [e1, h0] at h2; omega))]
      exact h2
  · dsimp only
    rw [sumL_set _ _ _ (by rw [h.len]; exact hj), h.sum, liveL_setB _ _ _ hi, hS0]
    have e : blv (bs.getD i b0) = (bs.getD i b0).1 := by unfold blv; rw [hu]; rfl
    rw [e]; simp [blv]
/-- One operation: what the law's step makes of the lists. -/
def lawStep (op : P3) (a : P3) (L S : List Int) : List Int × List Int :=
  if a.1 = 0 then (if op.1 = 1 then (L ++ [a.2.1], S ++ [roundL op.2.1]) else gv a.2.1 L S L.length) else (L, S)
theorem lawStep_ok {bs : List Blk} {L S : List Int} (h : PI bs L S) (budget : Int) (op : P3) :
    PI (stepP budget bs op).1 (lawStep op (ansP (stepP budget bs op)) L S).1 (lawStep op (ansP (stepP budget bs op)) L S).2 ∧
    ((ansP (stepP budget bs op)).1 = 0 → op.1 = 1 → (∀ j, j < L.length → L.getD j 0 ≠ (ansP (stepP budget bs op)).2.1) ∧ liveL (stepP budget bs op).1 ≤ budget) := by
  unfold ansP lawStep
  dsimp only
  unfold stepP
  by_cases h1 : op.1 = 1
  · rw [if_pos h1]
    by_cases h2 : roundL op.2.1 < 0
    · rw [if_pos h2]
      dsimp only
      rw [if_neg (show ¬ (16 : Int) = 0 by omega)]
      exact ⟨h, fun e => absurd e (by omega)⟩
    · rw [if_neg h2]
      dsimp only
      unfold takeL
      by_cases h3 : budget < liveL bs + roundL op.2.1
      · rw [if_pos h3]
        dsimp only
        rw [if_pos (show (-1 : Int) < 0 by omega), if_neg (show ¬ (17 : Int) = 0 by omega)]
        exact ⟨h, fun e => absurd e (by omega)⟩
      · rw [if_neg h3]
        cases hf : findFree bs (roundL op.2.1) with
        | none =>
          dsimp only
          rw [if_neg (show ¬ (bs.length : Int) < 0 by omega), if_pos (show (0 : Int) = 0 from rfl), if_pos h1]
          obtain ⟨p1, p2⟩ := h.push (roundL op.2.1)
          refine ⟨p1, fun _ _ => ⟨p2, ?_⟩⟩
          rw [liveL_append]
          simp [liveL, blv]; omega
        | some i =>
          dsimp only
          have hfi := find_some hf
          rw [if_neg (show ¬ (i : Int) < 0 by omega), if_pos (show (0 : Int) = 0 from rfl), if_pos h1]
          have hb : (bs.getD i b0).2 = false := by have := hfi.2; unfold freeB at this; simp at this; exact this.1
          obtain ⟨p1, p2⟩ := h.use i hfi.1 hb (roundL op.2.1)
          refine ⟨p1, fun _ _ => ⟨p2, ?_⟩⟩
          rw [liveL_setB _ _ _ hfi.1]
          have e : blv (bs.getD i b0) = 0 := by unfold blv; rw [hb]; rfl
          rw [e]; simp [blv]; omega
  · rw [if_neg h1]
    by_cases h2 : op.1 = 2
    · rw [if_pos h2]
      by_cases h3 : 0 ≤ op.2.2 ∧ op.2.2 < bs.length ∧ (bs.getD op.2.2.toNat b0).2 = true
      · rw [if_pos h3]
        dsimp only
        rw [if_pos rfl, if_neg h1]
        have := h.give op.2.2.toNat (by omega) h3.2.2
        rw [Int.toNat_of_nonneg h3.1] at this
        exact ⟨this, fun _ e => absurd e h1⟩
      · rw [if_neg h3]
        dsimp only
        rw [if_neg (show ¬ (15 : Int) = 0 by omega)]
        exact ⟨h, fun e => absurd e (by omega)⟩
    · rw [if_neg h2]
      dsimp only
      rw [if_neg (show ¬ (3 : Int) = 0 by omega)]
      exact ⟨h, fun e => absurd e (by omega)⟩
end Go.Proofs.Ytjjemnlknnnkbaa
