import Derived.Test.YthaajmkfeniofaaCells3
import Derived.ProofKit
import Derived.OpenShut
import Derived.Lib.SmallJoins
import Derived.Laws.Cover2
namespace Go.Proofs.Ythaajmkfeniofaa
open Go.ChangeShapes Go.WideShapes Go.ChangeAt Go.RowKit Go.Joins
set_option linter.unusedSimpArgs false
set_option linter.unusedVariables false

theorem own : ownKnob Try.prog.godebug = none := by kernel_rfl
theorem cells27 : Try.prog.cellsOf 27 = 3 := by kernel_rfl

section
variable {H : Type} {enc : TypeId × Value → H} {W : World} {base : Nat} {spare : Nat → Bool} {held : Bool}

theorem trod_float {k : FloatKind} {fuel : Nat} {t : TypeId} {cs : List Value} {x : DataW H × List MemPlace} (ht : Try.prog.underlying t = some (.float k)) (h : DataW.trod enc Try.prog W base spare held fuel t cs = some x) : ∃ n, cs = [.float k n] ∧ x = (.lit (.float k n), []) ∧ (Lit.float k n).wf = true := by
  cases fuel with
  | zero => simp [DataW.trod] at h
  | succ n =>
    unfold DataW.trod at h
    rw [ht] at h
    split at h <;> simp_all

set_option maxRecDepth 100000 in
theorem open_cell {r : Reach} {b0 : Nat} {v : Value} {d : DataW H} {p : List MemPlace} (hv : Value.okWide Try.prog W r b0 27 v) (h : DataW.Trod enc Try.prog W base spare held 27 v d p) :
    ∃ (i : Int) (f g : Nat), v = .agg #[.int .i64 i, .float .f64 f, .float .f64 g] ∧ d = .agg [.lit (.int .i64 i), .lit (.float .f64 f), .lit (.float .f64 g)] ∧ p = [] ∧ (Lit.int .i64 i).wf = true ∧ (Lit.float .f64 f).wf = true ∧ (Lit.float .f64 g).wf = true := by
  obtain ⟨c0, c1, c2, y0, y1, y2, m, rfl, rfl, rfl, hy0, hy1, hy2⟩ := open_agg3 Try.underlying27 (by kernel_rfl) cells27 hv h
  obtain ⟨x, e0, rfl, wx⟩ := DataW.trod_int Try.underlying2 hy0
  obtain ⟨y, e1, rfl, wy⟩ := trod_float Try.underlying25 hy1
  obtain ⟨z, e2, rfl, wz⟩ := trod_float Try.underlying25 hy2
  simp at e0 e1 e2
  subst e0 e1 e2
  exact ⟨x, y, z, rfl, rfl, rfl, wx, wy, wz⟩

set_option maxRecDepth 100000 in
theorem shut_cell {i : Int} {f g : Nat} (wi : (Lit.int .i64 i).wf = true) (wf : (Lit.float .f64 f).wf = true) (wg : (Lit.float .f64 g).wf = true) :
    DataW.Trod enc Try.prog W base spare held 27 (.agg #[.int .i64 i, .float .f64 f, .float .f64 g]) (.agg [.lit (.int .i64 i), .lit (.float .f64 f), .lit (.float .f64 g)]) [] := by
  simpa using shut_agg3 (enc := enc) (w := W) (base := base) (spare := spare) (held := held) (y0 := (.lit (.int .i64 i), [])) (y1 := (.lit (.float .f64 f), [])) (y2 := (.lit (.float .f64 g), [])) Try.underlying27 (by kernel_rfl) cells27 ⟨1, by simp [DataW.trod, Try.underlying2, wi]⟩ ⟨1, by simp [DataW.trod, Try.underlying25, wf]⟩ ⟨1, by simp [DataW.trod, Try.underlying25, wg]⟩
end

theorem wf_I64 {i : Int} (h : (Lit.int .i64 i).wf = true) : I64 i := by
  have := bounds_i64 h
  unfold I64; omega
theorem wf_B64 {f : Nat} (h : (Lit.float .f64 f).wf = true) : B64 f := by
  simpa [Lit.wf, B64] using h
end Go.Proofs.Ythaajmkfeniofaa
