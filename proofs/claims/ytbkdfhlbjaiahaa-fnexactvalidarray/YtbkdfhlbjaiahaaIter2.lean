import Derived.Test.YtbkdfhlbjaiahaaPlaces
namespace Go.Proofs.Ytbkdfhlbjaiahaa
open Go.ChangeShapes Go.RowKit
set_option linter.unusedSimpArgs false
set_option linter.unusedVariables false


/-- The places of a view, in order; none where it has no element. -/
def offsL (xs ss : List Int) (off : Int) : List Int := if prod xs = 0 then [] else places xs ss off

end Go.Proofs.Ytbkdfhlbjaiahaa
