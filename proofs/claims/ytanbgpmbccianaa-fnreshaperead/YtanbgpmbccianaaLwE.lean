import Derived.Test.YtanbgpmbccianaaLwC
namespace Go.Proofs.Ytanbgpmbccianaa
open Go.ChangeShapes Go.RowKit
set_option linter.unusedSimpArgs false
set_option linter.unusedVariables false

theorem pick_take : ∀ (ps is : List Int) (m : Nat) (i acc : Int), m < ps.length → m < is.length → pick (ps.take (m + 1)) (is.take (m + 1)) i acc = if ps.getD m 0 = i then is.getD m 0 else pick (ps.take m) (is.take m) i acc
  | [], is, m, i, acc, h, _ => by simp at h
  | p :: ps, [], m, i, acc, _, h => by simp at h
  | p :: ps, x :: xs, 0, i, acc, _, _ => by cases ps <;> cases xs <;> simp [pick]
  | p :: ps, x :: xs, m + 1, i, acc, h1, h2 => by
    have := pick_take ps xs m i (if p = i then x else acc) (by simpa using h1) (by simpa using h2)
    simpa [pick] using this

end Go.Proofs.Ytanbgpmbccianaa
