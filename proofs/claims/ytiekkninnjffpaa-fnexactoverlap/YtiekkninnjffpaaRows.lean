/-
  No cell of these rows narrows 'for every input' (looked for: loops, veiled, ifaces, maps, wideKeys, modest, calm, conditions, laid).
  DERIVED. THE GIVEN ROWS OF THIS SEAT. 10 by the template 'for every input the law returns true; each argument reads behind the call as it read before'; 0 by the template 'total and deterministic' (their statements: YtiekkninnjffpaaTotals.lean).
  GIVEN WITH THE SEED: the statements are not yours to turn. If you find one false, say at which input.
  Laid BY PROGRAM, IN A SANDBOX (cutbox-rows.mjs): the forced cells as the released guide's own fill.sh prints them over the translation 27ec5c3a5349c958… (all of the seat's roots in one cut). By AI agents, Wed Nov 11 2026. No macro, syntax, notation, axiom, sorry.
-/
import Derived.Test.YtiekkninnjffpaaChecked
import GoSem.Claim
import GoSem.ClaimJoined
import GoSem.ClaimMapViews
import Derived.JoinedTies
import Derived.KernelRfl
namespace Go.Proofs.Ytiekkninnjffpaa
/- THE CELL 'sum', in the pinned program and in every row, IS THE sha256 OF THE DUMP (.gsa) THAT YtiekkninnjffpaaProg.lean LOADS. Nothing in Lean hashes anything: it is a label: what it is worth is what the hold of that sum in a sandbox is worth. -/
noncomputable def Try.pinned : Pinned := { name := "ytiekkninnjffpaa", sum := "27ec5c3a5349c958d7145683a9ff4093ca484186c143108ca249a229928abd89", checked := Try.checked }
namespace Rows
def none {H : Type} : Left H := { results := [], args := [] }

/-- 'laws.FnExactValidView': WHATEVER THE INPUT: true; the input reads as it did. -/
def fnExactValidViewSpec : ChangeSpec := { name := "fnExactValidView", fn := fun _ => fun
  | [d] => { results := [.lit (.bool true)], args := [d] }
  | _ => none }
def fnExactValidViewRow : OpenClaim := { program := "ytiekkninnjffpaa", sum := "27ec5c3a5349c958d7145683a9ff4093ca484186c143108ca249a229928abd89", func := "loop.example/s16388/laws.FnExactValidView", spec := "fnExactValidView", recurses := true, apart := false }
def FnExactValidViewSaid : Prop := fnExactValidViewRow.holds Try.pinned (OpenSpec.ofChange fnExactValidViewSpec)

/-- ITS FALSE NEIGHBOUR: 'it returns false'. Refute it at one input. -/
def fnExactValidViewWrong : ChangeSpec := { name := "fnExactValidView", fn := fun _ => fun
  | [d] => { results := [.lit (.bool false)], args := [d] }
  | _ => none }
def FnExactValidViewWrongFalsely : Prop := fnExactValidViewRow.holds Try.pinned (OpenSpec.ofChange fnExactValidViewWrong)

/-- 'laws.FnExactBroadcastShape': WHATEVER THE INPUT: true; the input reads as it did. -/
def fnExactBroadcastShapeSpec : ChangeSpec := { name := "fnExactBroadcastShape", fn := fun _ => fun
  | [d1, d2] => { results := [.lit (.bool true)], args := [d1, d2] }
  | _ => none }
def fnExactBroadcastShapeRow : OpenClaim := { program := "ytiekkninnjffpaa", sum := "27ec5c3a5349c958d7145683a9ff4093ca484186c143108ca249a229928abd89", func := "loop.example/s16388/laws.FnExactBroadcastShape", spec := "fnExactBroadcastShape", apart := false }
def FnExactBroadcastShapeSaid : Prop := fnExactBroadcastShapeRow.holds Try.pinned (OpenSpec.ofChange fnExactBroadcastShapeSpec)

/-- ITS FALSE NEIGHBOUR: 'it returns false'. Refute it at one input. -/
def fnExactBroadcastShapeWrong : ChangeSpec := { name := "fnExactBroadcastShape", fn := fun _ => fun
  | [d1, d2] => { results := [.lit (.bool false)], args := [d1, d2] }
  | _ => none }
def FnExactBroadcastShapeWrongFalsely : Prop := fnExactBroadcastShapeRow.holds Try.pinned (OpenSpec.ofChange fnExactBroadcastShapeWrong)

/-- 'laws.FnExactWritable': WHATEVER THE INPUT: true; the input reads as it did. -/
def fnExactWritableSpec : ChangeSpec := { name := "fnExactWritable", fn := fun _ => fun
  | [d] => { results := [.lit (.bool true)], args := [d] }
  | _ => none }
def fnExactWritableRow : OpenClaim := { program := "ytiekkninnjffpaa", sum := "27ec5c3a5349c958d7145683a9ff4093ca484186c143108ca249a229928abd89", func := "loop.example/s16388/laws.FnExactWritable", spec := "fnExactWritable", unfollowed := true, recurses := true, apart := false }
def FnExactWritableSaid : Prop := fnExactWritableRow.holds Try.pinned (OpenSpec.ofChange fnExactWritableSpec)

/-- ITS FALSE NEIGHBOUR: 'it returns false'. Refute it at one input. -/
def fnExactWritableWrong : ChangeSpec := { name := "fnExactWritable", fn := fun _ => fun
  | [d] => { results := [.lit (.bool false)], args := [d] }
  | _ => none }
def FnExactWritableWrongFalsely : Prop := fnExactWritableRow.holds Try.pinned (OpenSpec.ofChange fnExactWritableWrong)

/-- 'laws.FnExactOverlap': WHATEVER THE INPUT: true; the input reads as it did. -/
def fnExactOverlapSpec : ChangeSpec := { name := "fnExactOverlap", fn := fun _ => fun
  | [d1, d2] => { results := [.lit (.bool true)], args := [d1, d2] }
  | _ => none }
def fnExactOverlapRow : OpenClaim := { program := "ytiekkninnjffpaa", sum := "27ec5c3a5349c958d7145683a9ff4093ca484186c143108ca249a229928abd89", func := "loop.example/s16388/laws.FnExactOverlap", spec := "fnExactOverlap", unfollowed := true, recurses := true, apart := false }
def FnExactOverlapSaid : Prop := fnExactOverlapRow.holds Try.pinned (OpenSpec.ofChange fnExactOverlapSpec)

/-- ITS FALSE NEIGHBOUR: 'it returns false'. Refute it at one input. -/
def fnExactOverlapWrong : ChangeSpec := { name := "fnExactOverlap", fn := fun _ => fun
  | [d1, d2] => { results := [.lit (.bool false)], args := [d1, d2] }
  | _ => none }
def FnExactOverlapWrongFalsely : Prop := fnExactOverlapRow.holds Try.pinned (OpenSpec.ofChange fnExactOverlapWrong)

/-- 'laws.FnExactOffsets': WHATEVER THE INPUT: true; the input reads as it did. -/
def fnExactOffsetsSpec : ChangeSpec := { name := "fnExactOffsets", fn := fun _ => fun
  | [d] => { results := [.lit (.bool true)], args := [d] }
  | _ => none }
def fnExactOffsetsRow : OpenClaim := { program := "ytiekkninnjffpaa", sum := "27ec5c3a5349c958d7145683a9ff4093ca484186c143108ca249a229928abd89", func := "loop.example/s16388/laws.FnExactOffsets", spec := "fnExactOffsets", unfollowed := true, recurses := true, apart := false }
def FnExactOffsetsSaid : Prop := fnExactOffsetsRow.holds Try.pinned (OpenSpec.ofChange fnExactOffsetsSpec)

/-- ITS FALSE NEIGHBOUR: 'it returns false'. Refute it at one input. -/
def fnExactOffsetsWrong : ChangeSpec := { name := "fnExactOffsets", fn := fun _ => fun
  | [d] => { results := [.lit (.bool false)], args := [d] }
  | _ => none }
def FnExactOffsetsWrongFalsely : Prop := fnExactOffsetsRow.holds Try.pinned (OpenSpec.ofChange fnExactOffsetsWrong)

/-- 'laws.FnExactTranspose': WHATEVER THE INPUT: true; the input reads as it did. -/
def fnExactTransposeSpec : ChangeSpec := { name := "fnExactTranspose", fn := fun _ => fun
  | [d1, d2] => { results := [.lit (.bool true)], args := [d1, d2] }
  | _ => none }
def fnExactTransposeRow : OpenClaim := { program := "ytiekkninnjffpaa", sum := "27ec5c3a5349c958d7145683a9ff4093ca484186c143108ca249a229928abd89", func := "loop.example/s16388/laws.FnExactTranspose", spec := "fnExactTranspose", recurses := true, apart := false }
def FnExactTransposeSaid : Prop := fnExactTransposeRow.holds Try.pinned (OpenSpec.ofChange fnExactTransposeSpec)

/-- ITS FALSE NEIGHBOUR: 'it returns false'. Refute it at one input. -/
def fnExactTransposeWrong : ChangeSpec := { name := "fnExactTranspose", fn := fun _ => fun
  | [d1, d2] => { results := [.lit (.bool false)], args := [d1, d2] }
  | _ => none }
def FnExactTransposeWrongFalsely : Prop := fnExactTransposeRow.holds Try.pinned (OpenSpec.ofChange fnExactTransposeWrong)

/-- 'laws.FnExactBroadcast': WHATEVER THE INPUT: true; the input reads as it did. -/
def fnExactBroadcastSpec : ChangeSpec := { name := "fnExactBroadcast", fn := fun _ => fun
  | [d1, d2] => { results := [.lit (.bool true)], args := [d1, d2] }
  | _ => none }
def fnExactBroadcastRow : OpenClaim := { program := "ytiekkninnjffpaa", sum := "27ec5c3a5349c958d7145683a9ff4093ca484186c143108ca249a229928abd89", func := "loop.example/s16388/laws.FnExactBroadcast", spec := "fnExactBroadcast", recurses := true, apart := false }
def FnExactBroadcastSaid : Prop := fnExactBroadcastRow.holds Try.pinned (OpenSpec.ofChange fnExactBroadcastSpec)

/-- ITS FALSE NEIGHBOUR: 'it returns false'. Refute it at one input. -/
def fnExactBroadcastWrong : ChangeSpec := { name := "fnExactBroadcast", fn := fun _ => fun
  | [d1, d2] => { results := [.lit (.bool false)], args := [d1, d2] }
  | _ => none }
def FnExactBroadcastWrongFalsely : Prop := fnExactBroadcastRow.holds Try.pinned (OpenSpec.ofChange fnExactBroadcastWrong)

/-- 'laws.FnExactReshape': WHATEVER THE INPUT: true; the input reads as it did. -/
def fnExactReshapeSpec : ChangeSpec := { name := "fnExactReshape", fn := fun _ => fun
  | [d1, d2] => { results := [.lit (.bool true)], args := [d1, d2] }
  | _ => none }
def fnExactReshapeRow : OpenClaim := { program := "ytiekkninnjffpaa", sum := "27ec5c3a5349c958d7145683a9ff4093ca484186c143108ca249a229928abd89", func := "loop.example/s16388/laws.FnExactReshape", spec := "fnExactReshape", unfollowed := true, recurses := true, apart := false }
def FnExactReshapeSaid : Prop := fnExactReshapeRow.holds Try.pinned (OpenSpec.ofChange fnExactReshapeSpec)

/-- ITS FALSE NEIGHBOUR: 'it returns false'. Refute it at one input. -/
def fnExactReshapeWrong : ChangeSpec := { name := "fnExactReshape", fn := fun _ => fun
  | [d1, d2] => { results := [.lit (.bool false)], args := [d1, d2] }
  | _ => none }
def FnExactReshapeWrongFalsely : Prop := fnExactReshapeRow.holds Try.pinned (OpenSpec.ofChange fnExactReshapeWrong)

/-- 'laws.FnExactSlice': WHATEVER THE INPUT: true; the input reads as it did. -/
def fnExactSliceSpec : ChangeSpec := { name := "fnExactSlice", fn := fun _ => fun
  | [d1, d2, d3, d4, d5] => { results := [.lit (.bool true)], args := [d1, d2, d3, d4, d5] }
  | _ => none }
def fnExactSliceRow : OpenClaim := { program := "ytiekkninnjffpaa", sum := "27ec5c3a5349c958d7145683a9ff4093ca484186c143108ca249a229928abd89", func := "loop.example/s16388/laws.FnExactSlice", spec := "fnExactSlice", recurses := true, apart := false }
def FnExactSliceSaid : Prop := fnExactSliceRow.holds Try.pinned (OpenSpec.ofChange fnExactSliceSpec)

/-- ITS FALSE NEIGHBOUR: 'it returns false'. Refute it at one input. -/
def fnExactSliceWrong : ChangeSpec := { name := "fnExactSlice", fn := fun _ => fun
  | [d1, d2, d3, d4, d5] => { results := [.lit (.bool false)], args := [d1, d2, d3, d4, d5] }
  | _ => none }
def FnExactSliceWrongFalsely : Prop := fnExactSliceRow.holds Try.pinned (OpenSpec.ofChange fnExactSliceWrong)

/-- 'laws.FnViews': WHATEVER THE INPUT: true; the input reads as it did. -/
def fnViewsSpec : ChangeSpec := { name := "fnViews", fn := fun _ => fun
  | [d] => { results := [.lit (.bool true)], args := [d] }
  | _ => none }
def fnViewsRow : OpenClaim := { program := "ytiekkninnjffpaa", sum := "27ec5c3a5349c958d7145683a9ff4093ca484186c143108ca249a229928abd89", func := "loop.example/s16388/laws.FnViews", spec := "fnViews", unfollowed := true, recurses := true, apart := false }
def FnViewsSaid : Prop := fnViewsRow.holds Try.pinned (OpenSpec.ofChange fnViewsSpec)

/-- ITS FALSE NEIGHBOUR: 'it returns false'. Refute it at one input. -/
def fnViewsWrong : ChangeSpec := { name := "fnViews", fn := fun _ => fun
  | [d] => { results := [.lit (.bool false)], args := [d] }
  | _ => none }
def FnViewsWrongFalsely : Prop := fnViewsRow.holds Try.pinned (OpenSpec.ofChange fnViewsWrong)

/- THE SECOND FORM. 'bulk': how many values and letters a reading holds, each counted each time it is reached (what is shared counts as often as it is met; a slice's spare places count too). A statement '..UptoSaid' is the law's where the arguments, and the package variables that the reading takes, are together of bulk at most 1048576: NARROWER than '..Said'. Prove '..Said' where nothing that the law and all that it calls make is longer than what came in: it says more and counts as full. Else prove '..UptoSaid'. A law counts once. -/
mutual
def uptoBulk {H : Type} : DataW H → Nat
  | .lit (.string bytes) => bytes.length + 1
  | .lit _ => 1
  | .nil => 1
  | .ptr d => uptoBulk d + 1
  | .slice elems spare => uptoBulkAll elems + uptoBulkAll spare + 1
  | .agg parts => uptoBulkAll parts + 1
  | .iface _ d => uptoBulk d + 1
  | .map entries => uptoBulkEntries entries + 1
  | .held _ => 1
def uptoBulkAll {H : Type} : List (DataW H) → Nat
  | [] => 0
  | d :: r => uptoBulk d + uptoBulkAll r
def uptoBulkEntries {H : Type} : List (Lit × DataW H) → Nat
  | [] => 0
  | x :: r => uptoBulkEntry x + uptoBulkEntries r
def uptoBulkEntry {H : Type} : Lit × DataW H → Nat
  | (.string bytes, d) => bytes.length + uptoBulk d + 1
  | (_, d) => uptoBulk d + 1
 end
def uptoSmall : (H : Type) → List (DataW H) → Bool := fun _ ds => decide (uptoBulkAll ds ≤ 1048576)
def OpenSpec.upto (s : _root_.Go.ChangeSpec) : _root_.Go.OpenSpec := { _root_.Go.OpenSpec.ofChange s with cond := some uptoSmall }

/-- 'laws.FnExactValidView', WHERE WHAT IT READS IS OF BULK AT MOST 1048576: true; the input reads as it did. -/
def fnExactValidViewUptoRow : OpenClaim := { program := "ytiekkninnjffpaa", sum := "27ec5c3a5349c958d7145683a9ff4093ca484186c143108ca249a229928abd89", func := "loop.example/s16388/laws.FnExactValidView", spec := "fnExactValidView", recurses := true, apart := false, narrowed := true }
def FnExactValidViewUptoSaid : Prop := fnExactValidViewUptoRow.holds Try.pinned (OpenSpec.upto fnExactValidViewSpec)

/-- 'laws.FnExactBroadcastShape', WHERE WHAT IT READS IS OF BULK AT MOST 1048576: true; the input reads as it did. -/
def fnExactBroadcastShapeUptoRow : OpenClaim := { program := "ytiekkninnjffpaa", sum := "27ec5c3a5349c958d7145683a9ff4093ca484186c143108ca249a229928abd89", func := "loop.example/s16388/laws.FnExactBroadcastShape", spec := "fnExactBroadcastShape", apart := false, narrowed := true }
def FnExactBroadcastShapeUptoSaid : Prop := fnExactBroadcastShapeUptoRow.holds Try.pinned (OpenSpec.upto fnExactBroadcastShapeSpec)

/-- 'laws.FnExactWritable', WHERE WHAT IT READS IS OF BULK AT MOST 1048576: true; the input reads as it did. -/
def fnExactWritableUptoRow : OpenClaim := { program := "ytiekkninnjffpaa", sum := "27ec5c3a5349c958d7145683a9ff4093ca484186c143108ca249a229928abd89", func := "loop.example/s16388/laws.FnExactWritable", spec := "fnExactWritable", unfollowed := true, recurses := true, apart := false, narrowed := true }
def FnExactWritableUptoSaid : Prop := fnExactWritableUptoRow.holds Try.pinned (OpenSpec.upto fnExactWritableSpec)

/-- 'laws.FnExactOverlap', WHERE WHAT IT READS IS OF BULK AT MOST 1048576: true; the input reads as it did. -/
def fnExactOverlapUptoRow : OpenClaim := { program := "ytiekkninnjffpaa", sum := "27ec5c3a5349c958d7145683a9ff4093ca484186c143108ca249a229928abd89", func := "loop.example/s16388/laws.FnExactOverlap", spec := "fnExactOverlap", unfollowed := true, recurses := true, apart := false, narrowed := true }
def FnExactOverlapUptoSaid : Prop := fnExactOverlapUptoRow.holds Try.pinned (OpenSpec.upto fnExactOverlapSpec)

/-- 'laws.FnExactOffsets', WHERE WHAT IT READS IS OF BULK AT MOST 1048576: true; the input reads as it did. -/
def fnExactOffsetsUptoRow : OpenClaim := { program := "ytiekkninnjffpaa", sum := "27ec5c3a5349c958d7145683a9ff4093ca484186c143108ca249a229928abd89", func := "loop.example/s16388/laws.FnExactOffsets", spec := "fnExactOffsets", unfollowed := true, recurses := true, apart := false, narrowed := true }
def FnExactOffsetsUptoSaid : Prop := fnExactOffsetsUptoRow.holds Try.pinned (OpenSpec.upto fnExactOffsetsSpec)

/-- 'laws.FnExactTranspose', WHERE WHAT IT READS IS OF BULK AT MOST 1048576: true; the input reads as it did. -/
def fnExactTransposeUptoRow : OpenClaim := { program := "ytiekkninnjffpaa", sum := "27ec5c3a5349c958d7145683a9ff4093ca484186c143108ca249a229928abd89", func := "loop.example/s16388/laws.FnExactTranspose", spec := "fnExactTranspose", recurses := true, apart := false, narrowed := true }
def FnExactTransposeUptoSaid : Prop := fnExactTransposeUptoRow.holds Try.pinned (OpenSpec.upto fnExactTransposeSpec)

/-- 'laws.FnExactBroadcast', WHERE WHAT IT READS IS OF BULK AT MOST 1048576: true; the input reads as it did. -/
def fnExactBroadcastUptoRow : OpenClaim := { program := "ytiekkninnjffpaa", sum := "27ec5c3a5349c958d7145683a9ff4093ca484186c143108ca249a229928abd89", func := "loop.example/s16388/laws.FnExactBroadcast", spec := "fnExactBroadcast", recurses := true, apart := false, narrowed := true }
def FnExactBroadcastUptoSaid : Prop := fnExactBroadcastUptoRow.holds Try.pinned (OpenSpec.upto fnExactBroadcastSpec)

/-- 'laws.FnExactReshape', WHERE WHAT IT READS IS OF BULK AT MOST 1048576: true; the input reads as it did. -/
def fnExactReshapeUptoRow : OpenClaim := { program := "ytiekkninnjffpaa", sum := "27ec5c3a5349c958d7145683a9ff4093ca484186c143108ca249a229928abd89", func := "loop.example/s16388/laws.FnExactReshape", spec := "fnExactReshape", unfollowed := true, recurses := true, apart := false, narrowed := true }
def FnExactReshapeUptoSaid : Prop := fnExactReshapeUptoRow.holds Try.pinned (OpenSpec.upto fnExactReshapeSpec)

/-- 'laws.FnExactSlice', WHERE WHAT IT READS IS OF BULK AT MOST 1048576: true; the input reads as it did. -/
def fnExactSliceUptoRow : OpenClaim := { program := "ytiekkninnjffpaa", sum := "27ec5c3a5349c958d7145683a9ff4093ca484186c143108ca249a229928abd89", func := "loop.example/s16388/laws.FnExactSlice", spec := "fnExactSlice", recurses := true, apart := false, narrowed := true }
def FnExactSliceUptoSaid : Prop := fnExactSliceUptoRow.holds Try.pinned (OpenSpec.upto fnExactSliceSpec)

/-- 'laws.FnViews', WHERE WHAT IT READS IS OF BULK AT MOST 1048576: true; the input reads as it did. -/
def fnViewsUptoRow : OpenClaim := { program := "ytiekkninnjffpaa", sum := "27ec5c3a5349c958d7145683a9ff4093ca484186c143108ca249a229928abd89", func := "loop.example/s16388/laws.FnViews", spec := "fnViews", unfollowed := true, recurses := true, apart := false, narrowed := true }
def FnViewsUptoSaid : Prop := fnViewsUptoRow.holds Try.pinned (OpenSpec.upto fnViewsSpec)

end Rows
end Go.Proofs.Ytiekkninnjffpaa
