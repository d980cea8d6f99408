/-
  No cell of these rows narrows 'for every input' (looked for: loops, veiled, ifaces, maps, wideKeys, modest, calm, conditions, laid).
  DERIVED. THE GIVEN ROWS OF THIS SEAT. 3 by the template 'for every input the law returns true; each argument reads behind the call as it read before'; 0 by the template 'total and deterministic' (their statements: YtfhcpicddegblaaGreatTotals.lean).
  GIVEN WITH THE SEED: the statements are not yours to turn. If you find one false, say at which input.
  Laid BY PROGRAM, IN A SANDBOX (cutbox-rows.mjs): the forced cells as the released guide's own fill.sh prints them over the translation 072da83bb6d6e7d0… (all of the seat's roots in one cut). By AI agents, Wed Nov 11 2026. No macro, syntax, notation, axiom, sorry.
-/
import Derived.Test.YtfhcpicddegblaaGreatChecked
import GoSem.Claim
import GoSem.ClaimJoined
import GoSem.ClaimMapViews
import Derived.JoinedTies
import Derived.KernelRfl
namespace Go.Proofs.YtfhcpicddegblaaGreat
/- THE CELL 'sum', in the pinned program and in every row, IS THE sha256 OF THE DUMP (.gsa) THAT YtfhcpicddegblaaGreatProg.lean LOADS. Nothing in Lean hashes anything: it is a label: what it is worth is what the hold of that sum in a sandbox is worth. -/
noncomputable def Tryz.pinned : Pinned := { name := "ytfhcpicddegblaagreat", sum := "072da83bb6d6e7d0c54aa48e40a6b1d23504e3d4c8a0e6c90827655782994da6", checked := Tryz.checked }
namespace Rows
def none {H : Type} : Left H := { results := [], args := [] }

/-- 'laws.FnExactSolve': WHATEVER THE INPUT: true; the input reads as it did. -/
def fnExactSolveSpec : ChangeSpec := { name := "fnExactSolve", fn := fun _ => fun
  | [d1, d2, d3, d4] => { results := [.lit (.bool true)], args := [d1, d2, d3, d4] }
  | _ => none }
def fnExactSolveRow : OpenClaim := { program := "ytfhcpicddegblaagreat", sum := "072da83bb6d6e7d0c54aa48e40a6b1d23504e3d4c8a0e6c90827655782994da6", func := "loop.example/s16388/laws.FnExactSolve", spec := "fnExactSolve", inPlace := ["math.Float64bits", "math.Float64frombits"], unfollowed := true, recurses := true, apart := false }
def FnExactSolveSaid : Prop := fnExactSolveRow.holds Tryz.pinned (OpenSpec.ofChange fnExactSolveSpec)

/-- ITS FALSE NEIGHBOUR: 'it returns false'. Refute it at one input. -/
def fnExactSolveWrong : ChangeSpec := { name := "fnExactSolve", fn := fun _ => fun
  | [d1, d2, d3, d4] => { results := [.lit (.bool false)], args := [d1, d2, d3, d4] }
  | _ => none }
def FnExactSolveWrongFalsely : Prop := fnExactSolveRow.holds Tryz.pinned (OpenSpec.ofChange fnExactSolveWrong)

/-- 'laws.FnExactSortAxis': WHATEVER THE INPUT: true; the input reads as it did. -/
def fnExactSortAxisSpec : ChangeSpec := { name := "fnExactSortAxis", fn := fun _ => fun
  | [d1, d2, d3] => { results := [.lit (.bool true)], args := [d1, d2, d3] }
  | _ => none }
def fnExactSortAxisRow : OpenClaim := { program := "ytfhcpicddegblaagreat", sum := "072da83bb6d6e7d0c54aa48e40a6b1d23504e3d4c8a0e6c90827655782994da6", func := "loop.example/s16388/laws.FnExactSortAxis", spec := "fnExactSortAxis", inPlace := ["math.Float64bits"], unfollowed := true, recurses := true, apart := false }
def FnExactSortAxisSaid : Prop := fnExactSortAxisRow.holds Tryz.pinned (OpenSpec.ofChange fnExactSortAxisSpec)

/-- ITS FALSE NEIGHBOUR: 'it returns false'. Refute it at one input. -/
def fnExactSortAxisWrong : ChangeSpec := { name := "fnExactSortAxis", fn := fun _ => fun
  | [d1, d2, d3] => { results := [.lit (.bool false)], args := [d1, d2, d3] }
  | _ => none }
def FnExactSortAxisWrongFalsely : Prop := fnExactSortAxisRow.holds Tryz.pinned (OpenSpec.ofChange fnExactSortAxisWrong)

/-- 'laws.FnExactArgSort': WHATEVER THE INPUT: true; the input reads as it did. -/
def fnExactArgSortSpec : ChangeSpec := { name := "fnExactArgSort", fn := fun _ => fun
  | [d1, d2, d3, d4] => { results := [.lit (.bool true)], args := [d1, d2, d3, d4] }
  | _ => none }
def fnExactArgSortRow : OpenClaim := { program := "ytfhcpicddegblaagreat", sum := "072da83bb6d6e7d0c54aa48e40a6b1d23504e3d4c8a0e6c90827655782994da6", func := "loop.example/s16388/laws.FnExactArgSort", spec := "fnExactArgSort", inPlace := ["math.Float64bits"], unfollowed := true, recurses := true, apart := false }
def FnExactArgSortSaid : Prop := fnExactArgSortRow.holds Tryz.pinned (OpenSpec.ofChange fnExactArgSortSpec)

/-- ITS FALSE NEIGHBOUR: 'it returns false'. Refute it at one input. -/
def fnExactArgSortWrong : ChangeSpec := { name := "fnExactArgSort", fn := fun _ => fun
  | [d1, d2, d3, d4] => { results := [.lit (.bool false)], args := [d1, d2, d3, d4] }
  | _ => none }
def FnExactArgSortWrongFalsely : Prop := fnExactArgSortRow.holds Tryz.pinned (OpenSpec.ofChange fnExactArgSortWrong)

/- THE SECOND FORM. 'bulk': how many values and letters a reading holds, each counted each time it is reached (what is shared counts as often as it is met; a slice's spare places count too). A statement '..UptoSaid' is the law's where the arguments, and the package variables that the reading takes, are together of bulk at most 1048576: NARROWER than '..Said'. Prove '..Said' where nothing that the law and all that it calls make is longer than what came in: it says more and counts as full. Else prove '..UptoSaid'. A law counts once. -/
mutual
def uptoBulk {H : Type} : DataW H → Nat
  | .lit (.string bytes) => bytes.length + 1
  | .lit _ => 1
  | .nil => 1
  | .ptr d => uptoBulk d + 1
  | .slice elems spare => uptoBulkAll elems + uptoBulkAll spare + 1
  | .agg parts => uptoBulkAll parts + 1
  | .iface _ d => uptoBulk d + 1
  | .map entries => uptoBulkEntries entries + 1
  | .held _ => 1
def uptoBulkAll {H : Type} : List (DataW H) → Nat
  | [] => 0
  | d :: r => uptoBulk d + uptoBulkAll r
def uptoBulkEntries {H : Type} : List (Lit × DataW H) → Nat
  | [] => 0
  | x :: r => uptoBulkEntry x + uptoBulkEntries r
def uptoBulkEntry {H : Type} : Lit × DataW H → Nat
  | (.string bytes, d) => bytes.length + uptoBulk d + 1
  | (_, d) => uptoBulk d + 1
 end
def uptoSmall : (H : Type) → List (DataW H) → Bool := fun _ ds => decide (uptoBulkAll ds ≤ 1048576)
def OpenSpec.upto (s : _root_.Go.ChangeSpec) : _root_.Go.OpenSpec := { _root_.Go.OpenSpec.ofChange s with cond := some uptoSmall }

/-- 'laws.FnExactSolve', WHERE WHAT IT READS IS OF BULK AT MOST 1048576: true; the input reads as it did. -/
def fnExactSolveUptoRow : OpenClaim := { program := "ytfhcpicddegblaagreat", sum := "072da83bb6d6e7d0c54aa48e40a6b1d23504e3d4c8a0e6c90827655782994da6", func := "loop.example/s16388/laws.FnExactSolve", spec := "fnExactSolve", inPlace := ["math.Float64bits", "math.Float64frombits"], unfollowed := true, recurses := true, apart := false, narrowed := true }
def FnExactSolveUptoSaid : Prop := fnExactSolveUptoRow.holds Tryz.pinned (OpenSpec.upto fnExactSolveSpec)

/-- 'laws.FnExactSortAxis', WHERE WHAT IT READS IS OF BULK AT MOST 1048576: true; the input reads as it did. -/
def fnExactSortAxisUptoRow : OpenClaim := { program := "ytfhcpicddegblaagreat", sum := "072da83bb6d6e7d0c54aa48e40a6b1d23504e3d4c8a0e6c90827655782994da6", func := "loop.example/s16388/laws.FnExactSortAxis", spec := "fnExactSortAxis", inPlace := ["math.Float64bits"], unfollowed := true, recurses := true, apart := false, narrowed := true }
def FnExactSortAxisUptoSaid : Prop := fnExactSortAxisUptoRow.holds Tryz.pinned (OpenSpec.upto fnExactSortAxisSpec)

/-- 'laws.FnExactArgSort', WHERE WHAT IT READS IS OF BULK AT MOST 1048576: true; the input reads as it did. -/
def fnExactArgSortUptoRow : OpenClaim := { program := "ytfhcpicddegblaagreat", sum := "072da83bb6d6e7d0c54aa48e40a6b1d23504e3d4c8a0e6c90827655782994da6", func := "loop.example/s16388/laws.FnExactArgSort", spec := "fnExactArgSort", inPlace := ["math.Float64bits"], unfollowed := true, recurses := true, apart := false, narrowed := true }
def FnExactArgSortUptoSaid : Prop := fnExactArgSortUptoRow.holds Tryz.pinned (OpenSpec.upto fnExactArgSortSpec)

end Rows
end Go.Proofs.YtfhcpicddegblaaGreat
