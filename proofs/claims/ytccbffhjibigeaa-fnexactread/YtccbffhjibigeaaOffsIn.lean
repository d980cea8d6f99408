import Derived.Test.YtccbffhjibigeaaLawVA
namespace Go.Proofs.Ytccbffhjibigeaa
open Go.ChangeShapes Go.RowKit
set_option linter.unusedSimpArgs false
set_option linter.unusedVariables false


theorem offs_in {xs ss : List Int} {off : Int} (hv : ValidV xs ss off) : ∀ x ∈ offsL xs ss off, 0 ≤ x ∧ x < 4096 := fun x hx => by
  unfold offsL at hx
  split at hx
  · cases hx
  · next hz =>
    obtain ⟨hg, hl, _, _, h | h⟩ := hv
    · exact absurd h hz
    · exact (all_in xs ss off hl.symm (fun n hn => (good_pos hg hz n hn).1)).2 h x hx
end Go.Proofs.Ytccbffhjibigeaa
