import Derived.Test.YtanbgpmbccianaaM6
import Derived.Test.YtanbgpmbccianaaM6
import Derived.Test.YtanbgpmbccianaaM6
namespace Go.Proofs.Ytanbgpmbccianaa
open Go.ChangeShapes Go.RowKit
set_option linter.unusedSimpArgs false
set_option linter.unusedVariables false

/-- The indexes of v's axes, of an element of the stretched view. -/
def isB (xs is : List Int) (p : Nat) : List Int := (List.range xs.length).map fun i => if xs.getD i 0 = 1 then 0 else is.getD (p + i) 0
theorem isB_len (xs is : List Int) (p : Nat) : (isB xs is p).length = xs.length := by simp [isB]
theorem isB_getD (xs is : List Int) (p i : Nat) (h : i < xs.length) : (isB xs is p).getD i 0 = if xs.getD i 0 = 1 then 0 else is.getD (p + i) 0 := by simp [isB, List.getD_eq_getElem?_getD, h]

theorem Ints.at {w : World} {s : Option Addr} {n c : Nat} {xs : List Int} (h : Ints w (.slice s n c) xs) (j : Nat) (hj : j < xs.length) : ∃ b o, s = some ⟨b, o, none⟩ ∧ w.cell? ⟨b, o + j, none⟩ = some (.int .i64 (xs.getD j 0)) := by
  obtain ⟨sa, cap, e, h⟩ := h
  injection e with e1 _ _
  subst e1
  rcases h with rfl | ⟨b, o, rfl, hr⟩
  · simp at hj
  · exact ⟨b, o, rfl, hr j hj⟩
theorem sgn_bd {X S : Int} (hX : 0 ≤ X ∧ X ≤ 4096) (hS : -4096 ≤ S ∧ S ≤ 4096) : -16777216 ≤ X * S ∧ X * S ≤ 16777216 := by
  have h1 : X * S ≤ X * 4096 := Int.mul_le_mul_of_nonneg_left hS.2 hX.1
  have h2 : X * (-4096) ≤ X * S := Int.mul_le_mul_of_nonneg_left hS.1 hX.1
  omega
theorem idxL_bd {xs : List Int} (hp : ∀ j, j < xs.length → 1 ≤ xs.getD j 0 ∧ xs.getD j 0 ≤ 4096) (k a : Nat) (h : a < xs.length) : 0 ≤ (idxL xs k).getD a 0 ∧ (idxL xs k).getD a 0 ≤ 4096 := by
  rw [idxL_getD xs k a h]
  have h1 := hp a h
  have h2 := Nat.mod_lt (k / plen (xs.drop (a + 1))) (show 0 < (xs.getD a 0).toNat by omega)
  omega

end Go.Proofs.Ytanbgpmbccianaa
