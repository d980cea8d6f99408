import Derived.Test.YtiekkninnjffpaaGoesUp
import Derived.Test.YtiekkninnjffpaaSpecWR
namespace Go.Proofs.Ytiekkninnjffpaa
open Go.ChangeShapes Go.RowKit Go.Shelf
set_option linter.unusedSimpArgs false
set_option linter.unusedVariables false

theorem prod_drop (xs : List Int) (k : Nat) (hk : k < xs.length) : prod (xs.drop k) = xs.getD k 0 * prod (xs.drop (k + 1)) := by
  rw [List.drop_eq_getElem_cons hk, prod_cons, List.getD_eq_getElem?_getD, List.getElem?_eq_getElem hk]; rfl
theorem getD_drop (xs : List Int) (k j : Nat) : (xs.drop k).getD j 0 = xs.getD (k + j) 0 := by
  simp [List.getD_eq_getElem?_getD, List.getElem?_drop]
theorem drop_inR {xs : List Int} (hr : InR xs xs.length) (k : Nat) : InR (xs.drop k) (xs.drop k).length := fun j hj => by
  rw [getD_drop]
  rw [List.length_drop] at hj
  exact hr _ (by omega)
theorem drop_bd {xs : List Int} (h4 : xs.length ≤ 4) (hr : InR xs xs.length) (k m : Nat) (hm : m ≤ (xs.drop k).length) : 0 ≤ prod ((xs.drop k).take m) ∧ prod ((xs.drop k).take m) ≤ 281474976710656 := by
  have hl : (xs.drop k).length ≤ 4 := by rw [List.length_drop]; omega
  have h := prod_bd (xs.drop k) m (by omega) hm (fun j hj => drop_inR hr k j (by omega))
  have := bd_le m
  omega
theorem drop_bd' {xs : List Int} (h4 : xs.length ≤ 4) (hr : InR xs xs.length) (k : Nat) : 0 ≤ prod (xs.drop k) ∧ prod (xs.drop k) ≤ 281474976710656 := by
  have h := drop_bd h4 hr k (xs.drop k).length (Nat.le_refl _)
  rw [List.take_length] at h
  exact h

/-- The strides of a row-major view. -/
def rmS (xs : List Int) : List Int := (List.range xs.length).map fun i => if prod xs = 0 then 0 else prod (xs.drop (i + 1))
theorem rmS_len (xs : List Int) : (rmS xs).length = xs.length := by simp [rmS]
theorem rmS_getD (xs : List Int) (j : Nat) : (rmS xs).getD j 0 = if j < xs.length then (if prod xs = 0 then 0 else prod (xs.drop (j + 1))) else 0 := by
  unfold rmS
  by_cases h : j < xs.length
  · rw [if_pos h]; simp [List.getD_eq_getElem?_getD, h]
  · rw [if_neg h]; simp [List.getD_eq_getElem?_getD, h]

theorem places_head : ∀ (xs ss : List Int) (at_ : Int), xs.length = ss.length → (∀ n ∈ xs, 1 ≤ n) → (places xs ss at_).head? = some at_
  | [], ss, at_, hl, h => by simp [places]
  | n :: ns, [], at_, hl, h => by simp at hl
  | n :: ns, s :: ss, at_, hl, h => by
    have hn : 1 ≤ n := h n (by simp)
    obtain ⟨m, hm⟩ : ∃ m, n.toNat = m + 1 := ⟨n.toNat - 1, by omega⟩
    have ih := places_head ns ss at_ (by simpa using hl) (fun m hm => h m (by simp [hm]))
    simp only [places]
    rw [hm, List.range_succ_eq_map, List.flatMap_cons]
    have e0 : at_ + ((0 : Nat) : Int) * s = at_ := by simp
    rw [e0, List.head?_append, ih]
    rfl
theorem offs_head {xs ss : List Int} {off : Int} (hv : ValidV xs ss off) : offsL xs ss off = [] ∨ (offsL xs ss off).head? = some off := by
  unfold offsL
  by_cases hz : prod xs = 0
  · rw [if_pos hz]; exact Or.inl rfl
  · rw [if_neg hz]
    exact Or.inr (places_head xs ss off hv.2.1.symm (prod_pos_of hv.1.2.1 hz))

/-- Each place is the one behind the last. -/
def GoUp (L : List Int) (k : Nat) : Prop := ∀ i, i + 1 < k → L.getD (i + 1) 0 = L.getD i 0 + 1
theorem GoUp.step {L : List Int} {k : Nat} (h : GoUp L (k + 1)) (e : L.getD (k + 1) 0 = L.getD k 0 + 1) : GoUp L (k + 1 + 1) := fun i hi => by
  by_cases q : i = k
  · subst q; exact e
  · exact h i (by omega)
theorem ups_getD (off : Int) (n j : Nat) (h : j < n) : (ups off n).getD j 0 = off + (j : Int) := by
  simp [ups, List.getD_eq_getElem?_getD, h]
theorem goUp_iff {L : List Int} {off : Int} (h : L = [] ∨ L.head? = some off) : L = ups off L.length ↔ GoUp L L.length := by
  constructor
  · intro e i hi
    rw [e, ups_getD _ _ _ hi, ups_getD _ _ _ (by omega)]
    omega
  · intro g
    rcases h with h | h
    · subst h; rfl
    · have key : ∀ j, j < L.length → L.getD j 0 = off + (j : Int) := by
        intro j
        induction j with
        | zero =>
          intro hj
          rw [List.getD_eq_getElem?_getD, ← List.head?_eq_getElem?, h]
          simp
        | succ j ih =>
          intro hj
          rw [g j hj, ih (by omega)]
          omega
      refine List.ext_getElem (by rw [ups_len]) fun j h1 h2 => ?_
      have a := key j h1
      have b := ups_getD off L.length j h1
      rw [List.getD_eq_getElem?_getD, List.getElem?_eq_getElem h1] at a
      rw [List.getD_eq_getElem?_getD, List.getElem?_eq_getElem h2] at b
      exact a.trans b.symm

def rsL (xs ss : List Int) (off : Int) (ys : List Int) : Int × List Int × List Int × Int :=
  if ValidV xs ss off then (if Good ys ∧ prod ys = prod xs then (if offsL xs ss off = ups off (offsL xs ss off).length then (0, ys, rmS ys, off) else (13, [], [], 0)) else (6, [], [], 0)) else (12, [], [], 0)
theorem goesUp_any {xs ss : List Int} {off : Int} (hv : ValidV xs ss off) (w : World) :
    Calls Try.prog 68 #[.agg (vw xs ss off)] w fun e w' => e = .returned (.bool (decide (offsL xs ss off = ups off (offsL xs ss off).length))) ∧ Bel w w' :=
  callsIn_wide.1 (goesUp_in 3 (Nat.le_refl _) xs ss off w hv.1.1 hv.2.1 hv.1.2.1 hv.1.2.2 hv.2.2.2.1 hv.2.2.1 (offs_in hv) (offs_len hv))
theorem rsL_len {xs ss : List Int} {off : Int} {ys : List Int} {c : Int} {L S : List Int} {o : Int} (h : rsL xs ss off ys = (c, L, S, o)) : L.length ≤ 4 ∧ S.length ≤ 4 := by
  unfold rsL at h
  split at h
  · next v =>
    split at h
    · next g =>
      split at h
      · simp only [Prod.mk.injEq] at h
        obtain ⟨_, rfl, rfl, _⟩ := h
        rw [rmS_len]
        exact ⟨g.1.1, g.1.1⟩
      · simp only [Prod.mk.injEq] at h
        obtain ⟨_, rfl, rfl, _⟩ := h
        simp
    · simp only [Prod.mk.injEq] at h
      obtain ⟨_, rfl, rfl, _⟩ := h
      simp
  · simp only [Prod.mk.injEq] at h
    obtain ⟨_, rfl, rfl, _⟩ := h
    simp
end Go.Proofs.Ytiekkninnjffpaa
