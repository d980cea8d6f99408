import Derived.Test.YtbkdfhlbjaiahaaFixV3
namespace Go.Proofs.Ytbkdfhlbjaiahaa
open Go.ChangeShapes Go.RowKit
set_option linter.unusedSimpArgs false
set_option linter.unusedVariables false

theorem fixView_any {w : World} {vS vT : Value} {xs ss : List Int} (hS : Ints w vS xs) (hT : Ints w vT ss) (off : Int) (lx : xs.length ≤ 1048576) (ls : ss.length ≤ 1048576) :
    Calls Try.prog 53 #[.agg #[vS, vT, .int .i64 off]] w fun e w' => FixVOk w xs ss off e w' := by
  by_cases h : Good xs ∧ ss.length = xs.length ∧ (0 ≤ off ∧ off ≤ 4096)
  · exact fixView_good hS hT off lx ls h.1 h.2.1 h.2.2
  · exact fixView_bad hS hT off lx ls h

end Go.Proofs.Ytbkdfhlbjaiahaa
