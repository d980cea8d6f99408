/-
  No cell of these rows narrows 'for every input' (looked for: loops, veiled, ifaces, maps, wideKeys, modest, calm, conditions, laid).
  DERIVED. THE GIVEN ROWS OF THIS SEAT. 9 by the template 'for every input the law returns true; each argument reads behind the call as it read before'; 0 by the template 'total and deterministic' (their statements: YthaajmkfeniofaaTotals.lean).
  GIVEN WITH THE SEED: the statements are not yours to turn. If you find one false, say at which input.
  Laid BY PROGRAM, IN A SANDBOX (cutbox-rows.mjs): the forced cells as the released guide's own fill.sh prints them over the translation d33276235a707f1f… (all of the seat's roots in one cut). By AI agents, Wed Nov 11 2026. No macro, syntax, notation, axiom, sorry.
-/
import Derived.Test.YthaajmkfeniofaaChecked
import GoSem.Claim
import GoSem.ClaimJoined
import GoSem.ClaimMapViews
import Derived.JoinedTies
import Derived.KernelRfl
namespace Go.Proofs.Ythaajmkfeniofaa
/- THE CELL 'sum', in the pinned program and in every row, IS THE sha256 OF THE DUMP (.gsa) THAT YthaajmkfeniofaaProg.lean LOADS. Nothing in Lean hashes anything: it is a label: what it is worth is what the hold of that sum in a sandbox is worth. -/
noncomputable def Try.pinned : Pinned := { name := "ythaajmkfeniofaa", sum := "d33276235a707f1f502d87613fcb2c89c375c2ddfc16ef19d4f41dfbcd282f5d", checked := Try.checked }
namespace Rows
def none {H : Type} : Left H := { results := [], args := [] }

/-- 'laws.FnExactPromote': WHATEVER THE INPUT: true; the input reads as it did. -/
def fnExactPromoteSpec : ChangeSpec := { name := "fnExactPromote", fn := fun _ => fun
  | [d1, d2] => { results := [.lit (.bool true)], args := [d1, d2] }
  | _ => none }
def fnExactPromoteRow : OpenClaim := { program := "ythaajmkfeniofaa", sum := "d33276235a707f1f502d87613fcb2c89c375c2ddfc16ef19d4f41dfbcd282f5d", func := "loop.example/s16388/laws.FnExactPromote", spec := "fnExactPromote", apart := false }
def FnExactPromoteSaid : Prop := fnExactPromoteRow.holds Try.pinned (OpenSpec.ofChange fnExactPromoteSpec)

/-- ITS FALSE NEIGHBOUR: 'it returns false'. Refute it at one input. -/
def fnExactPromoteWrong : ChangeSpec := { name := "fnExactPromote", fn := fun _ => fun
  | [d1, d2] => { results := [.lit (.bool false)], args := [d1, d2] }
  | _ => none }
def FnExactPromoteWrongFalsely : Prop := fnExactPromoteRow.holds Try.pinned (OpenSpec.ofChange fnExactPromoteWrong)

/-- 'laws.FnExactCanCast': WHATEVER THE INPUT: true; the input reads as it did. -/
def fnExactCanCastSpec : ChangeSpec := { name := "fnExactCanCast", fn := fun _ => fun
  | [d1, d2, d3] => { results := [.lit (.bool true)], args := [d1, d2, d3] }
  | _ => none }
def fnExactCanCastRow : OpenClaim := { program := "ythaajmkfeniofaa", sum := "d33276235a707f1f502d87613fcb2c89c375c2ddfc16ef19d4f41dfbcd282f5d", func := "loop.example/s16388/laws.FnExactCanCast", spec := "fnExactCanCast", apart := false }
def FnExactCanCastSaid : Prop := fnExactCanCastRow.holds Try.pinned (OpenSpec.ofChange fnExactCanCastSpec)

/-- ITS FALSE NEIGHBOUR: 'it returns false'. Refute it at one input. -/
def fnExactCanCastWrong : ChangeSpec := { name := "fnExactCanCast", fn := fun _ => fun
  | [d1, d2, d3] => { results := [.lit (.bool false)], args := [d1, d2, d3] }
  | _ => none }
def FnExactCanCastWrongFalsely : Prop := fnExactCanCastRow.holds Try.pinned (OpenSpec.ofChange fnExactCanCastWrong)

/-- 'laws.FnExactValidCell': WHATEVER THE INPUT: true; the input reads as it did. -/
def fnExactValidCellSpec : ChangeSpec := { name := "fnExactValidCell", fn := fun _ => fun
  | [d1, d2] => { results := [.lit (.bool true)], args := [d1, d2] }
  | _ => none }
def fnExactValidCellRow : OpenClaim := { program := "ythaajmkfeniofaa", sum := "d33276235a707f1f502d87613fcb2c89c375c2ddfc16ef19d4f41dfbcd282f5d", func := "loop.example/s16388/laws.FnExactValidCell", spec := "fnExactValidCell", inPlace := ["math.Float64bits"], apart := false }
def FnExactValidCellSaid : Prop := fnExactValidCellRow.holds Try.pinned (OpenSpec.ofChange fnExactValidCellSpec)

/-- ITS FALSE NEIGHBOUR: 'it returns false'. Refute it at one input. -/
def fnExactValidCellWrong : ChangeSpec := { name := "fnExactValidCell", fn := fun _ => fun
  | [d1, d2] => { results := [.lit (.bool false)], args := [d1, d2] }
  | _ => none }
def FnExactValidCellWrongFalsely : Prop := fnExactValidCellRow.holds Try.pinned (OpenSpec.ofChange fnExactValidCellWrong)

/-- 'laws.FnExactBefore': WHATEVER THE INPUT: true; the input reads as it did. -/
def fnExactBeforeSpec : ChangeSpec := { name := "fnExactBefore", fn := fun _ => fun
  | [d1, d2, d3] => { results := [.lit (.bool true)], args := [d1, d2, d3] }
  | _ => none }
def fnExactBeforeRow : OpenClaim := { program := "ythaajmkfeniofaa", sum := "d33276235a707f1f502d87613fcb2c89c375c2ddfc16ef19d4f41dfbcd282f5d", func := "loop.example/s16388/laws.FnExactBefore", spec := "fnExactBefore", inPlace := ["math.Float64bits"], apart := false }
def FnExactBeforeSaid : Prop := fnExactBeforeRow.holds Try.pinned (OpenSpec.ofChange fnExactBeforeSpec)

/-- ITS FALSE NEIGHBOUR: 'it returns false'. Refute it at one input. -/
def fnExactBeforeWrong : ChangeSpec := { name := "fnExactBefore", fn := fun _ => fun
  | [d1, d2, d3] => { results := [.lit (.bool false)], args := [d1, d2, d3] }
  | _ => none }
def FnExactBeforeWrongFalsely : Prop := fnExactBeforeRow.holds Try.pinned (OpenSpec.ofChange fnExactBeforeWrong)

/-- 'laws.FnExactConvert': WHATEVER THE INPUT: true; the input reads as it did. -/
def fnExactConvertSpec : ChangeSpec := { name := "fnExactConvert", fn := fun _ => fun
  | [d1, d2, d3] => { results := [.lit (.bool true)], args := [d1, d2, d3] }
  | _ => none }
def fnExactConvertRow : OpenClaim := { program := "ythaajmkfeniofaa", sum := "d33276235a707f1f502d87613fcb2c89c375c2ddfc16ef19d4f41dfbcd282f5d", func := "loop.example/s16388/laws.FnExactConvert", spec := "fnExactConvert", inPlace := ["math.Float64bits"], apart := false }
def FnExactConvertSaid : Prop := fnExactConvertRow.holds Try.pinned (OpenSpec.ofChange fnExactConvertSpec)

/-- ITS FALSE NEIGHBOUR: 'it returns false'. Refute it at one input. -/
def fnExactConvertWrong : ChangeSpec := { name := "fnExactConvert", fn := fun _ => fun
  | [d1, d2, d3] => { results := [.lit (.bool false)], args := [d1, d2, d3] }
  | _ => none }
def FnExactConvertWrongFalsely : Prop := fnExactConvertRow.holds Try.pinned (OpenSpec.ofChange fnExactConvertWrong)

/-- 'laws.FnExactApplyUnary': WHATEVER THE INPUT: true; the input reads as it did. -/
def fnExactApplyUnarySpec : ChangeSpec := { name := "fnExactApplyUnary", fn := fun _ => fun
  | [d1, d2, d3] => { results := [.lit (.bool true)], args := [d1, d2, d3] }
  | _ => none }
def fnExactApplyUnaryRow : OpenClaim := { program := "ythaajmkfeniofaa", sum := "d33276235a707f1f502d87613fcb2c89c375c2ddfc16ef19d4f41dfbcd282f5d", func := "loop.example/s16388/laws.FnExactApplyUnary", spec := "fnExactApplyUnary", inPlace := ["math.Float64bits", "math.Float64frombits"], apart := false }
def FnExactApplyUnarySaid : Prop := fnExactApplyUnaryRow.holds Try.pinned (OpenSpec.ofChange fnExactApplyUnarySpec)

/-- ITS FALSE NEIGHBOUR: 'it returns false'. Refute it at one input. -/
def fnExactApplyUnaryWrong : ChangeSpec := { name := "fnExactApplyUnary", fn := fun _ => fun
  | [d1, d2, d3] => { results := [.lit (.bool false)], args := [d1, d2, d3] }
  | _ => none }
def FnExactApplyUnaryWrongFalsely : Prop := fnExactApplyUnaryRow.holds Try.pinned (OpenSpec.ofChange fnExactApplyUnaryWrong)

/-- 'laws.FnOrder': WHATEVER THE INPUT: true; the input reads as it did. -/
def fnOrderSpec : ChangeSpec := { name := "fnOrder", fn := fun _ => fun
  | [d] => { results := [.lit (.bool true)], args := [d] }
  | _ => none }
def fnOrderRow : OpenClaim := { program := "ythaajmkfeniofaa", sum := "d33276235a707f1f502d87613fcb2c89c375c2ddfc16ef19d4f41dfbcd282f5d", func := "loop.example/s16388/laws.FnOrder", spec := "fnOrder", inPlace := ["math.Float64bits", "math.Float64frombits"], apart := false }
def FnOrderSaid : Prop := fnOrderRow.holds Try.pinned (OpenSpec.ofChange fnOrderSpec)

/-- ITS FALSE NEIGHBOUR: 'it returns false'. Refute it at one input. -/
def fnOrderWrong : ChangeSpec := { name := "fnOrder", fn := fun _ => fun
  | [d] => { results := [.lit (.bool false)], args := [d] }
  | _ => none }
def FnOrderWrongFalsely : Prop := fnOrderRow.holds Try.pinned (OpenSpec.ofChange fnOrderWrong)

/-- 'laws.FnConvertBack': WHATEVER THE INPUT: true; the input reads as it did. -/
def fnConvertBackSpec : ChangeSpec := { name := "fnConvertBack", fn := fun _ => fun
  | [d] => { results := [.lit (.bool true)], args := [d] }
  | _ => none }
def fnConvertBackRow : OpenClaim := { program := "ythaajmkfeniofaa", sum := "d33276235a707f1f502d87613fcb2c89c375c2ddfc16ef19d4f41dfbcd282f5d", func := "loop.example/s16388/laws.FnConvertBack", spec := "fnConvertBack", inPlace := ["math.Float64bits"], apart := false }
def FnConvertBackSaid : Prop := fnConvertBackRow.holds Try.pinned (OpenSpec.ofChange fnConvertBackSpec)

/-- ITS FALSE NEIGHBOUR: 'it returns false'. Refute it at one input. -/
def fnConvertBackWrong : ChangeSpec := { name := "fnConvertBack", fn := fun _ => fun
  | [d] => { results := [.lit (.bool false)], args := [d] }
  | _ => none }
def FnConvertBackWrongFalsely : Prop := fnConvertBackRow.holds Try.pinned (OpenSpec.ofChange fnConvertBackWrong)

/-- 'laws.FnExactApply': WHATEVER THE INPUT: true; the input reads as it did. -/
def fnExactApplySpec : ChangeSpec := { name := "fnExactApply", fn := fun _ => fun
  | [d1, d2, d3, d4] => { results := [.lit (.bool true)], args := [d1, d2, d3, d4] }
  | _ => none }
def fnExactApplyRow : OpenClaim := { program := "ythaajmkfeniofaa", sum := "d33276235a707f1f502d87613fcb2c89c375c2ddfc16ef19d4f41dfbcd282f5d", func := "loop.example/s16388/laws.FnExactApply", spec := "fnExactApply", inPlace := ["math.Float64bits", "math.Float64frombits"], apart := false }
def FnExactApplySaid : Prop := fnExactApplyRow.holds Try.pinned (OpenSpec.ofChange fnExactApplySpec)

/-- ITS FALSE NEIGHBOUR: 'it returns false'. Refute it at one input. -/
def fnExactApplyWrong : ChangeSpec := { name := "fnExactApply", fn := fun _ => fun
  | [d1, d2, d3, d4] => { results := [.lit (.bool false)], args := [d1, d2, d3, d4] }
  | _ => none }
def FnExactApplyWrongFalsely : Prop := fnExactApplyRow.holds Try.pinned (OpenSpec.ofChange fnExactApplyWrong)

/- THE SECOND FORM. 'bulk': how many values and letters a reading holds, each counted each time it is reached (what is shared counts as often as it is met; a slice's spare places count too). A statement '..UptoSaid' is the law's where the arguments, and the package variables that the reading takes, are together of bulk at most 1048576: NARROWER than '..Said'. Prove '..Said' where nothing that the law and all that it calls make is longer than what came in: it says more and counts as full. Else prove '..UptoSaid'. A law counts once. -/
mutual
def uptoBulk {H : Type} : DataW H → Nat
  | .lit (.string bytes) => bytes.length + 1
  | .lit _ => 1
  | .nil => 1
  | .ptr d => uptoBulk d + 1
  | .slice elems spare => uptoBulkAll elems + uptoBulkAll spare + 1
  | .agg parts => uptoBulkAll parts + 1
  | .iface _ d => uptoBulk d + 1
  | .map entries => uptoBulkEntries entries + 1
  | .held _ => 1
def uptoBulkAll {H : Type} : List (DataW H) → Nat
  | [] => 0
  | d :: r => uptoBulk d + uptoBulkAll r
def uptoBulkEntries {H : Type} : List (Lit × DataW H) → Nat
  | [] => 0
  | x :: r => uptoBulkEntry x + uptoBulkEntries r
def uptoBulkEntry {H : Type} : Lit × DataW H → Nat
  | (.string bytes, d) => bytes.length + uptoBulk d + 1
  | (_, d) => uptoBulk d + 1
 end
def uptoSmall : (H : Type) → List (DataW H) → Bool := fun _ ds => decide (uptoBulkAll ds ≤ 1048576)
def OpenSpec.upto (s : _root_.Go.ChangeSpec) : _root_.Go.OpenSpec := { _root_.Go.OpenSpec.ofChange s with cond := some uptoSmall }

/-- 'laws.FnExactPromote', WHERE WHAT IT READS IS OF BULK AT MOST 1048576: true; the input reads as it did. -/
def fnExactPromoteUptoRow : OpenClaim := { program := "ythaajmkfeniofaa", sum := "d33276235a707f1f502d87613fcb2c89c375c2ddfc16ef19d4f41dfbcd282f5d", func := "loop.example/s16388/laws.FnExactPromote", spec := "fnExactPromote", apart := false, narrowed := true }
def FnExactPromoteUptoSaid : Prop := fnExactPromoteUptoRow.holds Try.pinned (OpenSpec.upto fnExactPromoteSpec)

/-- 'laws.FnExactCanCast', WHERE WHAT IT READS IS OF BULK AT MOST 1048576: true; the input reads as it did. -/
def fnExactCanCastUptoRow : OpenClaim := { program := "ythaajmkfeniofaa", sum := "d33276235a707f1f502d87613fcb2c89c375c2ddfc16ef19d4f41dfbcd282f5d", func := "loop.example/s16388/laws.FnExactCanCast", spec := "fnExactCanCast", apart := false, narrowed := true }
def FnExactCanCastUptoSaid : Prop := fnExactCanCastUptoRow.holds Try.pinned (OpenSpec.upto fnExactCanCastSpec)

/-- 'laws.FnExactValidCell', WHERE WHAT IT READS IS OF BULK AT MOST 1048576: true; the input reads as it did. -/
def fnExactValidCellUptoRow : OpenClaim := { program := "ythaajmkfeniofaa", sum := "d33276235a707f1f502d87613fcb2c89c375c2ddfc16ef19d4f41dfbcd282f5d", func := "loop.example/s16388/laws.FnExactValidCell", spec := "fnExactValidCell", inPlace := ["math.Float64bits"], apart := false, narrowed := true }
def FnExactValidCellUptoSaid : Prop := fnExactValidCellUptoRow.holds Try.pinned (OpenSpec.upto fnExactValidCellSpec)

/-- 'laws.FnExactBefore', WHERE WHAT IT READS IS OF BULK AT MOST 1048576: true; the input reads as it did. -/
def fnExactBeforeUptoRow : OpenClaim := { program := "ythaajmkfeniofaa", sum := "d33276235a707f1f502d87613fcb2c89c375c2ddfc16ef19d4f41dfbcd282f5d", func := "loop.example/s16388/laws.FnExactBefore", spec := "fnExactBefore", inPlace := ["math.Float64bits"], apart := false, narrowed := true }
def FnExactBeforeUptoSaid : Prop := fnExactBeforeUptoRow.holds Try.pinned (OpenSpec.upto fnExactBeforeSpec)

/-- 'laws.FnExactConvert', WHERE WHAT IT READS IS OF BULK AT MOST 1048576: true; the input reads as it did. -/
def fnExactConvertUptoRow : OpenClaim := { program := "ythaajmkfeniofaa", sum := "d33276235a707f1f502d87613fcb2c89c375c2ddfc16ef19d4f41dfbcd282f5d", func := "loop.example/s16388/laws.FnExactConvert", spec := "fnExactConvert", inPlace := ["math.Float64bits"], apart := false, narrowed := true }
def FnExactConvertUptoSaid : Prop := fnExactConvertUptoRow.holds Try.pinned (OpenSpec.upto fnExactConvertSpec)

/-- 'laws.FnExactApplyUnary', WHERE WHAT IT READS IS OF BULK AT MOST 1048576: true; the input reads as it did. -/
def fnExactApplyUnaryUptoRow : OpenClaim := { program := "ythaajmkfeniofaa", sum := "d33276235a707f1f502d87613fcb2c89c375c2ddfc16ef19d4f41dfbcd282f5d", func := "loop.example/s16388/laws.FnExactApplyUnary", spec := "fnExactApplyUnary", inPlace := ["math.Float64bits", "math.Float64frombits"], apart := false, narrowed := true }
def FnExactApplyUnaryUptoSaid : Prop := fnExactApplyUnaryUptoRow.holds Try.pinned (OpenSpec.upto fnExactApplyUnarySpec)

/-- 'laws.FnOrder', WHERE WHAT IT READS IS OF BULK AT MOST 1048576: true; the input reads as it did. -/
def fnOrderUptoRow : OpenClaim := { program := "ythaajmkfeniofaa", sum := "d33276235a707f1f502d87613fcb2c89c375c2ddfc16ef19d4f41dfbcd282f5d", func := "loop.example/s16388/laws.FnOrder", spec := "fnOrder", inPlace := ["math.Float64bits", "math.Float64frombits"], apart := false, narrowed := true }
def FnOrderUptoSaid : Prop := fnOrderUptoRow.holds Try.pinned (OpenSpec.upto fnOrderSpec)

/-- 'laws.FnConvertBack', WHERE WHAT IT READS IS OF BULK AT MOST 1048576: true; the input reads as it did. -/
def fnConvertBackUptoRow : OpenClaim := { program := "ythaajmkfeniofaa", sum := "d33276235a707f1f502d87613fcb2c89c375c2ddfc16ef19d4f41dfbcd282f5d", func := "loop.example/s16388/laws.FnConvertBack", spec := "fnConvertBack", inPlace := ["math.Float64bits"], apart := false, narrowed := true }
def FnConvertBackUptoSaid : Prop := fnConvertBackUptoRow.holds Try.pinned (OpenSpec.upto fnConvertBackSpec)

/-- 'laws.FnExactApply', WHERE WHAT IT READS IS OF BULK AT MOST 1048576: true; the input reads as it did. -/
def fnExactApplyUptoRow : OpenClaim := { program := "ythaajmkfeniofaa", sum := "d33276235a707f1f502d87613fcb2c89c375c2ddfc16ef19d4f41dfbcd282f5d", func := "loop.example/s16388/laws.FnExactApply", spec := "fnExactApply", inPlace := ["math.Float64bits", "math.Float64frombits"], apart := false, narrowed := true }
def FnExactApplyUptoSaid : Prop := fnExactApplyUptoRow.holds Try.pinned (OpenSpec.upto fnExactApplySpec)

end Rows
end Go.Proofs.Ythaajmkfeniofaa
