import Derived.Test.YtbkdfhlbjaiahaaSpecBS
namespace Go.Proofs.Ytbkdfhlbjaiahaa
open Go.ChangeShapes Go.RowKit
set_option linter.unusedSimpArgs false
set_option linter.unusedVariables false

/-- The places of all elements from here on. -/
def places : List Int → List Int → Int → List Int
  | [], _, at_ => [at_]
  | n :: ns, s :: ss, at_ => (List.range n.toNat).flatMap fun (i : Nat) => places ns ss (at_ + (i : Int) * s)
  | _ :: _, [], _ => []

def least : List Int → List Int → Int → Int
  | n :: ns, s :: ss, at_ => least ns ss (at_ + min (s * (n - 1)) 0)
  | _, _, at_ => at_
def most : List Int → List Int → Int → Int
  | n :: ns, s :: ss, at_ => most ns ss (at_ + max (s * (n - 1)) 0)
  | _, _, at_ => at_

theorem least_shift : ∀ (xs ss : List Int) (a b : Int), least xs ss (a + b) = least xs ss a + b
  | [], _, a, b => by simp [least]
  | n :: ns, [], a, b => by simp [least]
  | n :: ns, s :: ss, a, b => by
    simp only [least]
    rw [show a + b + min (s * (n - 1)) 0 = a + min (s * (n - 1)) 0 + b by omega, least_shift ns ss]
theorem most_shift : ∀ (xs ss : List Int) (a b : Int), most xs ss (a + b) = most xs ss a + b
  | [], _, a, b => by simp [most]
  | n :: ns, [], a, b => by simp [most]
  | n :: ns, s :: ss, a, b => by
    simp only [most]
    rw [show a + b + max (s * (n - 1)) 0 = a + max (s * (n - 1)) 0 + b by omega, most_shift ns ss]

theorem mul_between (i n s : Int) (h0 : 0 ≤ i) (h1 : i ≤ n - 1) : min (s * (n - 1)) 0 ≤ i * s ∧ i * s ≤ max (s * (n - 1)) 0 := by
  by_cases hs : 0 ≤ s
  · have a : 0 ≤ i * s := Int.mul_nonneg h0 hs
    have b : i * s ≤ s * (n - 1) := by rw [Int.mul_comm i s]; exact Int.mul_le_mul_of_nonneg_left h1 hs
    omega
  · have a : i * s ≤ 0 := Int.mul_nonpos_of_nonneg_of_nonpos h0 (by omega)
    have b : s * (n - 1) ≤ i * s := by
      have := Int.mul_le_mul_of_nonneg_left h1 (show 0 ≤ -s by omega)
      rw [Int.neg_mul, Int.neg_mul] at this
      rw [Int.mul_comm i s]; omega
    omega

/-- Every place lies between the two ends. -/
theorem places_in : ∀ (xs ss : List Int) (at_ p : Int), p ∈ places xs ss at_ → xs.length = ss.length → least xs ss at_ ≤ p ∧ p ≤ most xs ss at_
  | [], ss, at_, p, h, hl => by simp [places] at h; subst h; simp [least, most]
  | n :: ns, [], at_, p, h, hl => by simp at hl
  | n :: ns, s :: ss, at_, p, h, hl => by
    simp only [places, List.mem_flatMap, List.mem_range] at h
    obtain ⟨i, hi, hp⟩ := h
    have ih := places_in ns ss _ p hp (by simpa using hl)
    have hb := mul_between (i : Int) n s (by omega) (by omega)
    rw [least_shift, most_shift] at ih
    simp only [least, most]
    rw [least_shift, most_shift]
    omega

/-- The two ends are places. -/
theorem ends_in : ∀ (xs ss : List Int) (at_ : Int), xs.length = ss.length → (∀ n ∈ xs, 1 ≤ n) → least xs ss at_ ∈ places xs ss at_ ∧ most xs ss at_ ∈ places xs ss at_
  | [], ss, at_, hl, h => by simp [places, least, most]
  | n :: ns, [], at_, hl, h => by simp at hl
  | n :: ns, s :: ss, at_, hl, h => by
    have hn : 1 ≤ n := h n (by simp)
    have ih := fun a => ends_in ns ss a (by simpa using hl) (fun m hm => h m (by simp [hm]))
    simp only [places, least, most, List.mem_flatMap, List.mem_range]
    have e0 : at_ + ((0 : Nat) : Int) * s = at_ := by simp
    have e1 : at_ + ((n.toNat - 1 : Nat) : Int) * s = at_ + s * (n - 1) := by
      have : ((n.toNat - 1 : Nat) : Int) = n - 1 := by omega
      rw [this, Int.mul_comm]
    constructor
    · by_cases hs : s * (n - 1) ≤ 0
      · refine ⟨n.toNat - 1, by omega, ?_⟩
        rw [e1, Int.min_eq_left hs]; exact (ih _).1
      · refine ⟨0, by omega, ?_⟩
        rw [e0, Int.min_eq_right (by omega), Int.add_zero]; exact (ih _).1
    · by_cases hs : s * (n - 1) ≤ 0
      · refine ⟨0, by omega, ?_⟩
        rw [e0, Int.max_eq_right hs, Int.add_zero]; exact (ih _).2
      · refine ⟨n.toNat - 1, by omega, ?_⟩
        rw [e1, Int.max_eq_left (by omega)]; exact (ih _).2

/-- All places are in range exactly if the two ends are. -/
theorem all_in (xs ss : List Int) (at_ : Int) (hl : xs.length = ss.length) (h : ∀ n ∈ xs, 1 ≤ n) : (∀ p ∈ places xs ss at_, 0 ≤ p ∧ p < 4096) ↔ (0 ≤ least xs ss at_ ∧ most xs ss at_ < 4096) := by
  constructor
  · intro k
    have := ends_in xs ss at_ hl h
    exact ⟨(k _ this.1).1, (k _ this.2).2⟩
  · intro k p hp
    have := places_in xs ss at_ p hp hl
    omega
end Go.Proofs.Ytbkdfhlbjaiahaa
