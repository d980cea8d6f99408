import Derived.Test.YtjjemnlknnnkbaaMapM
namespace Go.Proofs.Ytjjemnlknnnkbaa
open Go.ChangeShapes Go.RowKit Go.Lib
set_option linter.unusedSimpArgs false
set_option linter.unusedVariables false

/-- The numbers of the free blocks of a size, in ascending order. -/
def frees (bs : List Blk) (s : Int) : List Int := ((List.range bs.length).filter (freeB bs s)).map (fun i : Nat => (i : Int))
theorem frees_mem {bs : List Blk} {s x : Int} : x ∈ frees bs s ↔ ∃ i : Nat, i < bs.length ∧ freeB bs s i = true ∧ x = (i : Int) := by
  unfold frees
  simp only [List.mem_map, List.mem_filter, List.mem_range]
  exact ⟨fun ⟨i, ⟨h1, h2⟩, h3⟩ => ⟨i, h1, h2, h3.symm⟩, fun ⟨i, h1, h2, h3⟩ => ⟨i, ⟨h1, h2⟩, h3.symm⟩⟩
theorem frees_sorted (bs : List Blk) (s : Int) : (frees bs s).Pairwise (· < ·) := by
  unfold frees
  rw [List.pairwise_map]
  refine (List.Pairwise.filter _ List.pairwise_lt_range).imp fun h => ?_
  exact_mod_cast h
theorem frees_len (bs : List Blk) (s : Int) : (frees bs s).length ≤ bs.length := by
  unfold frees
  rw [List.length_map]
  exact Nat.le_trans (List.length_filter_le _ _) (by simp)
theorem sorted_ext : ∀ (l1 l2 : List Int), l1.Pairwise (· < ·) → l2.Pairwise (· < ·) → (∀ x, x ∈ l1 ↔ x ∈ l2) → l1 = l2
  | [], [], _, _, _ => rfl
  | [], b :: l2, _, _, h => absurd ((h b).2 (by simp)) (by simp)
  | a :: l1, [], _, _, h => absurd ((h a).1 (by simp)) (by simp)
  | a :: l1, b :: l2, h1, h2, h => by
    rw [List.pairwise_cons] at h1 h2
    have hab : a = b := by
      have ha := (h a).1 (by simp)
      have hb := (h b).2 (by simp)
      rcases List.mem_cons.1 ha with e | e
      · exact e
      · rcases List.mem_cons.1 hb with e' | e'
        · exact e'.symm
        · have := h2.1 a e
          have := h1.1 b e'
          omega
    subst hab
    rw [sorted_ext l1 l2 h1.2 h2.2 fun x => ⟨fun hx => ?_, fun hx => ?_⟩]
    · rcases List.mem_cons.1 ((h x).1 (List.mem_cons_of_mem _ hx)) with e | e
      · subst e; exact absurd (h1.1 x hx) (by omega)
      · exact e
    · rcases List.mem_cons.1 ((h x).2 (List.mem_cons_of_mem _ hx)) with e | e
      · subst e; exact absurd (h2.1 x hx) (by omega)
      · exact e
theorem sorted_at {L : List Int} (h : L.Pairwise (· < ·)) : ∀ a b, a < b → b < L.length → L.getD a 0 < L.getD b 0 := fun a b hab hb => by
  rw [List.pairwise_iff_getElem] at h
  rw [List.getD_eq_getElem?_getD, List.getD_eq_getElem?_getD, List.getElem?_eq_getElem (by omega), List.getElem?_eq_getElem hb]
  exact h a b (by omega) hb hab
theorem freeB_set {bs : List Blk} {i : Nat} (b : Blk) (hi : i < bs.length) (s : Int) (j : Nat) : freeB (bs.set i b) s j = if j = i then (!b.2 && b.1 == s) else freeB bs s j := by
  unfold freeB
  by_cases e : j = i
  · subst e
    rw [if_pos rfl, List.getD_eq_getElem?_getD, List.getElem?_set_self hi]
    rfl
  · rw [if_neg e, List.getD_eq_getElem?_getD, List.getElem?_set_ne (fun h => e h.symm), ← List.getD_eq_getElem?_getD]
theorem frees_nil (s : Int) : frees [] s = [] := rfl
theorem frees_none {bs : List Blk} {s : Int} (h : frees bs s = []) : findFree bs s = none := find_none fun j hj => by
  cases e : freeB bs s j with
  | false => rfl
  | true => exact absurd (frees_mem.2 ⟨j, hj, e, rfl⟩) (by rw [h]; simp)
theorem frees_head {bs : List Blk} {s x : Int} {rest : List Int} (h : frees bs s = x :: rest) : ∃ i : Nat, i < bs.length ∧ x = (i : Int) ∧ freeB bs s i = true ∧ findFree bs s = some i := by
  obtain ⟨i, hi, hf, hx⟩ := frees_mem.1 (show x ∈ frees bs s by rw [h]; simp)
  refine ⟨i, hi, hx, hf, find_at hi hf fun j hj => ?_⟩
  cases e : freeB bs s j with
  | false => rfl
  | true =>
    have hm : (j : Int) ∈ frees bs s := frees_mem.2 ⟨j, by omega, e, rfl⟩
    have hs := frees_sorted bs s
    rw [h] at hm hs
    rw [List.pairwise_cons] at hs
    rcases List.mem_cons.1 hm with e1 | e1
    · omega
    · have := hs.1 _ e1
      omega
theorem frees_taken {bs : List Blk} {s x : Int} {rest : List Int} (h : frees bs s = x :: rest) {i : Nat} (hi : i < bs.length) (hx : x = (i : Int)) : frees (bs.set i (s, true)) s = rest := by
  have hs := frees_sorted bs s
  have hm : ∀ y, y ∈ frees bs s ↔ y = x ∨ y ∈ rest := fun y => by rw [h, List.mem_cons]
  rw [h, List.pairwise_cons] at hs
  refine sorted_ext _ _ (frees_sorted _ _) hs.2 fun y => ⟨fun hy => ?_, fun hy => ?_⟩
  · obtain ⟨j, hj, hf, rfl⟩ := frees_mem.1 hy
    rw [freeB_set _ hi] at hf
    rw [List.length_set] at hj
    split at hf
    · simp at hf
    · rename_i hne
      rcases (hm j).1 (frees_mem.2 ⟨j, hj, hf, rfl⟩) with e | e
      · omega
      · exact e
  · obtain ⟨j, hj, hf, rfl⟩ := frees_mem.1 ((hm y).2 (Or.inr hy))
    have hne : j ≠ i := fun e => by have := hs.1 _ hy; omega
    exact frees_mem.2 ⟨j, by rw [List.length_set]; exact hj, by rw [freeB_set _ hi, if_neg hne]; exact hf, rfl⟩
/-- The lists of other sizes stay. -/
theorem frees_other {bs : List Blk} {i : Nat} (hi : i < bs.length) (u : Bool) {s : Int} (hs : (bs.getD i b0).1 ≠ s) : frees (bs.set i ((bs.getD i b0).1, u)) s = frees bs s := by
  refine sorted_ext _ _ (frees_sorted _ _) (frees_sorted _ _) fun y => ?_
  rw [frees_mem, frees_mem]
  refine ⟨fun ⟨j, hj, hf, e⟩ => ?_, fun ⟨j, hj, hf, e⟩ => ?_⟩
  · rw [List.length_set] at hj
    refine ⟨j, hj, ?_, e⟩
    rw [freeB_set _ hi] at hf
    split at hf
    · simp at hf
      exact absurd hf.2 hs
    · exact hf
  · refine ⟨j, by rw [List.length_set]; exact hj, ?_, e⟩
    rw [freeB_set _ hi]
    split
    · rename_i e1
      subst e1
      unfold freeB at hf
      simp at hf
      exact absurd hf.2 hs
    · exact hf
theorem frees_push (bs : List Blk) (r s : Int) : frees (bs ++ [(r, true)]) s = frees bs s := by
  refine sorted_ext _ _ (frees_sorted _ _) (frees_sorted _ _) fun y => ?_
  rw [frees_mem, frees_mem]
  refine ⟨fun ⟨j, hj, hf, e⟩ => ?_, fun ⟨j, hj, hf, e⟩ => ?_⟩
  · rw [List.length_append, List.length_singleton] at hj
    unfold freeB at hf
    by_cases h : j < bs.length
    · rw [List.getD_eq_getElem?_getD, List.getElem?_append_left h, ← List.getD_eq_getElem?_getD] at hf
      exact ⟨j, h, hf, e⟩
    · have : j = bs.length := by omega
      subst this
      simp [List.getD_eq_getElem?_getD] at hf
  · refine ⟨j, by rw [List.length_append]; omega, ?_, e⟩
    unfold freeB at hf ⊢
    rw [List.getD_eq_getElem?_getD, List.getElem?_append_left hj, ← List.getD_eq_getElem?_getD]
    exact hf
theorem getD_lt_mem {L : List Int} {k : Nat} (hk : k < L.length) : L.getD k 0 ∈ L := by
  rw [List.getD_eq_getElem?_getD, List.getElem?_eq_getElem hk]
  exact List.getElem_mem hk
theorem frees_given {bs : List Blk} {i : Nat} (hi : i < bs.length) (hu : (bs.getD i b0).2 = true) {p : Nat} (hp : Goes (frees bs (bs.getD i b0).1) i p) :
    frees (bs.set i ((bs.getD i b0).1, false)) (bs.getD i b0).1 = insL (frees bs (bs.getD i b0).1) p i := by
  have hnot : (i : Int) ∉ frees bs (bs.getD i b0).1 := fun h => by
    obtain ⟨j, _, hf, e⟩ := frees_mem.1 h
    have : j = i := by omega
    subst this
    unfold freeB at hf
    rw [hu] at hf
    simp at hf
  have hs := frees_sorted bs (bs.getD i b0).1
  generalize hL : frees bs (bs.getD i b0).1 = L at *
  have hmem : ∀ y, y ∈ insL L p i ↔ y = (i : Int) ∨ y ∈ L := fun y => by
    unfold insL
    rw [List.mem_append, List.mem_cons]
    constructor
    · rintro (h | h | h)
      · exact Or.inr (List.mem_of_mem_take h)
      · exact Or.inl h
      · exact Or.inr (List.mem_of_mem_drop h)
    · rintro (h | h)
      · exact Or.inr (Or.inl h)
      · rw [← List.take_append_drop p L, List.mem_append] at h
        rcases h with h | h
        · exact Or.inl h
        · exact Or.inr (Or.inr h)
  have hins : (insL L p i).Pairwise (· < ·) := by
    have hlen := insL_len L p (i : Int) hp.le
    rw [List.pairwise_iff_getElem]
    intro a b ha hb hab
    have ga : (insL L p i)[a] = (insL L p i).getD a 0 := by rw [List.getD_eq_getElem?_getD, List.getElem?_eq_getElem ha]; rfl
    have gb : (insL L p i)[b] = (insL L p i).getD b 0 := by rw [List.getD_eq_getElem?_getD, List.getElem?_eq_getElem hb]; rfl
    rw [ga, gb, insL_getD _ _ _ hp.le, insL_getD _ _ _ hp.le]
    have hst := sorted_at hs
    have hhi : ∀ k, p ≤ k → k < L.length → (i : Int) < L.getD k 0 := fun k h1 h2 => by
      have := hp.hi k h1 h2
      have hm := getD_lt_mem h2
      have : (i : Int) ≠ L.getD k 0 := fun e => hnot (by rw [e]; exact hm)
      omega
    by_cases h1 : a < p
    · rw [if_pos h1]
      by_cases h2 : b < p
      · rw [if_pos h2]; exact hst a b hab (by have := hp.le; omega)
      · rw [if_neg h2]
        by_cases h3 : b = p
        · rw [if_pos h3]; exact hp.lo a h1
        · rw [if_neg h3]; exact hst a (b - 1) (by omega) (by omega)
    · rw [if_neg h1]
      by_cases h2 : a = p
      · rw [if_pos h2, if_neg (by omega), if_neg (by omega)]
        exact hhi _ (by omega) (by omega)
      · rw [if_neg h2, if_neg (by omega), if_neg (by omega)]
        exact hst _ _ (by omega) (by omega)
  refine sorted_ext _ _ (frees_sorted _ _) hins fun y => ?_
  rw [hmem, frees_mem]
  constructor
  · rintro ⟨j, hj, hf, rfl⟩
    rw [freeB_set _ hi] at hf
    rw [List.length_set] at hj
    split at hf
    · rename_i e; exact Or.inl (by omega)
    · refine Or.inr ?_
      rw [← hL]
      exact frees_mem.2 ⟨j, hj, hf, rfl⟩
  · rintro (h | h)
    · exact ⟨i, by rw [List.length_set]; exact hi, by rw [freeB_set _ hi, if_pos rfl]; simp, h⟩
    · rw [← hL] at h
      obtain ⟨j, hj, hf, e⟩ := frees_mem.1 h
      refine ⟨j, by rw [List.length_set]; exact hj, ?_, e⟩
      rw [freeB_set _ hi]
      split
      · simp
      · exact hf
end Go.Proofs.Ytjjemnlknnnkbaa
