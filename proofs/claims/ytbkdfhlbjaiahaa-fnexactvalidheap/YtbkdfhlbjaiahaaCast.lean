import Derived.Test.YtbkdfhlbjaiahaaInts
namespace Go.Proofs.Ytbkdfhlbjaiahaa
open Go.RowKit
set_option linter.unusedSimpArgs false
set_option linter.unusedVariables false

theorem skind_eq (dt : Int) (h : 1 ≤ dt ∧ dt ≤ 9) : skindL dt = kindL dt := by unfold skindL kindL; omega

def castL (f t r : Int) : Bool :=
  decide ((1 ≤ f ∧ f ≤ 9) ∧ (1 ≤ t ∧ t ≤ 9) ∧ ((r = 0 ∧ promL f t = t) ∨ (r = 1 ∧ (promL f t = t ∨ kindL f ≤ kindL t)) ∨ r = 2))

end Go.Proofs.Ytbkdfhlbjaiahaa
