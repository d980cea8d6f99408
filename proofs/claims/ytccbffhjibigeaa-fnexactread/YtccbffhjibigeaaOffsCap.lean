import Derived.Test.YtccbffhjibigeaaPlacesK
import Derived.Test.YtccbffhjibigeaaOffsIn
namespace Go.Proofs.Ytccbffhjibigeaa
open Go.ChangeShapes Go.RowKit Go.Shelf
set_option linter.unusedSimpArgs false
set_option linter.unusedVariables false

attribute [local go_sem] Oper.semAt_some

theorem KC.grown {b g : Nat} {A B : World} (hg : A.grownBy B (some g)) (h : g < b) : KC b A B :=
  ⟨hg.size, fun k o hk ho _ => (hg.block k (Array.getElem?_eq_some_iff.1 ho).1 (fun e => by cases e; omega)).trans ho⟩
theorem offs_cap {xs ss : List Int} {off : Int} (hv : ValidV xs ss off) : (offsL xs ss off).length ≤ (prod xs).toNat := by
  unfold offsL
  split
  · simp
  · rw [places_len xs ss off hv.2.1.symm]
    have h1 := prod_plen (fun m hm => (good_nonneg hv.1 m hm).1)
    omega

end Go.Proofs.Ytccbffhjibigeaa
