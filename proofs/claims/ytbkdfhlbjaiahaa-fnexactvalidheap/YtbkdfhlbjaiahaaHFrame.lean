import Derived.Test.YtbkdfhlbjaiahaaRows
import Derived.Test.YtbkdfhlbjaiahaaHSz
import Derived.WalkKit
import Derived.ProofKit
import Derived.OpenShut
import Derived.ChangeSlices
import Derived.Carry
import Derived.Deep.Slices
import Derived.Deep.Strs
import Derived.Lib.SmallJoins
namespace Go.Proofs.Ytbkdfhlbjaiahaa
open Go.ChangeShapes Go.WideShapes Go.ChangeAt Go.RowKit Go.Deep FL
set_option linter.unusedVariables false
set_option linter.unusedSimpArgs false
theorem ownK : ownKnob Try.prog.godebug = none := by kernel_rfl
theorem laidOut : laidOutB Try.prog = true := by kernel_rfl
theorem cells2 : Try.prog.cellsOf 2 = 1 := by kernel_rfl
theorem cells57 : Try.prog.cellsOf 57 = 1 := by kernel_rfl
theorem cells83 : Try.prog.cellsOf 83 = 1 := by kernel_rfl
theorem cells22 : Try.prog.cellsOf 22 = 1 := by kernel_rfl
theorem cells116 : Try.prog.cellsOf 116 = 3 := by kernel_rfl
theorem cells85 : Try.prog.cellsOf 85 = 2 := by kernel_rfl
theorem cells24 : Try.prog.cellsOf 24 = 1 := by kernel_rfl
theorem wf_I64 {i : Int} (h : (Lit.int .i64 i).wf = true) : I64 i := by
  have := bounds_i64 h
  unfold I64; omega
theorem wf_B64 {f : Nat} (h : (Lit.float .f64 f).wf = true) : B64 f := by
  simpa [Lit.wf, B64] using h
theorem no_spot {w : World} {a : Addr} {v : Value} (h : w.cell? a = some v) : a.spot = none := by
  unfold World.cell? at h
  split at h
  · cases e : a.spot with
    | none => rfl
    | some x => rw [e] at h; simp at h
  · cases h
section
variable {H : Type} {enc : TypeId × Value → H} {W : World} {base : Nat} {spare : Nat → Bool} {held : Bool}
theorem trod_float {k : FloatKind} {fuel : Nat} {t : TypeId} {cs : List Value} {x : DataW H × List MemPlace} (ht : Try.prog.underlying t = some (.float k)) (h : DataW.trod enc Try.prog W base spare held fuel t cs = some x) : ∃ n, cs = [.float k n] ∧ x = (.lit (.float k n), []) ∧ (Lit.float k n).wf = true := by
  cases fuel with
  | zero => simp [DataW.trod] at h
  | succ n =>
    unfold DataW.trod at h
    rw [ht] at h
    split at h <;> simp_all
set_option maxRecDepth 100000 in
theorem cells_of {u : Value} {n : Nat} {y : DataW H × List MemPlace} (h : DataW.trod enc Try.prog W 0 (fun _ => true) true n 83 [u] = some y) : ∃ cs : List C3, CV W u cs ∧ CG cs ∧ cs.length ≤ 9223372036854775807 := by
  rcases open_slice Try.underlying83 h with ⟨hcs, hx⟩ | ⟨a, len, cap, m, n', D, Pl, hcs, _, hl, hm, hmm, hx, hi⟩
  · simp at hcs
    subst hcs
    exact ⟨[], ⟨none, 0, rfl, Or.inl rfl⟩, fun c hc => by simp at hc, by simp⟩
  · simp at hcs
    subst hcs
    simp only [if_true] at hmm
    subst hmm
    have each : ∀ i, i < len → ∃ q : C3, (W.cell? (a.add (i * 3)) = some (.int .i64 q.1) ∧ W.cell? ((a.add (i * 3)).add 1) = some (.float .f64 q.2.1) ∧ W.cell? ((a.add (i * 3)).add 2) = some (.float .f64 q.2.2)) ∧ I64 q.1 ∧ B64 q.2.1 ∧ B64 q.2.2 := fun i hlt => by
      obtain ⟨cs', h1, h2⟩ := hi i (by omega)
      rw [cells116] at h1
      obtain ⟨_, hlen, hcell⟩ := World.cells?_some h1
      obtain ⟨y0, y1, y2, k, _, _, g0, g1, g2⟩ := trod_struct3 Try.underlying116 h2
      match cs', hlen with
      | [v0, v1, v2], _ =>
        simp [cells2, cells57] at g0 g1 g2
        obtain ⟨x0, e0, _, w0⟩ := DataW.trod_int Try.underlying2 g0
        obtain ⟨x1, e1, _, w1⟩ := trod_float Try.underlying57 g1
        obtain ⟨x2, e2, _, w2⟩ := trod_float Try.underlying57 g2
        simp at e0 e1 e2
        subst e0 e1 e2
        have c0 := hcell 0 (by omega)
        have c1 := hcell 1 (by omega)
        have c2 := hcell 2 (by omega)
        have z : (a.add (i * 3)).add 0 = a.add (i * 3) := by simp [Addr.add]
        rw [z] at c0
        exact ⟨(x0, x1, x2), ⟨by simpa using c0, by simpa using c1, by simpa using c2⟩, wf_I64 w0, wf_B64 w1, wf_B64 w2⟩
    obtain ⟨f, hfq⟩ := choose_lt each
    have hlen : ((List.range len).map f).length = len := by simp
    refine ⟨(List.range len).map f, ⟨some a, _, by rw [hlen], ?_⟩, fun c hc => ?_, by rw [hlen]; unfold maxLen at hm; omega⟩
    · by_cases e : len = 0
      · subst e; exact Or.inl rfl
      · have hs : a.spot = none := no_spot (by have := (hfq 0 (by omega)).1.1; simpa [Addr.add] using this)
        obtain ⟨b, off, spot⟩ := a
        simp only at hs
        subst hs
        refine Or.inr ⟨b, off, rfl, fun j hj => ?_⟩
        rw [hlen] at hj
        have e2 : ((List.range len).map f).getD j k0 = f j := by simp [List.getD_eq_getElem?_getD, hj]
        rw [e2]
        obtain ⟨⟨c0, c1, c2⟩, _⟩ := hfq j hj
        rw [add_add] at c1 c2
        rw [Addr.add_lit] at c0 c1 c2
        exact ⟨c0, by rw [Nat.add_assoc]; exact c1, by rw [Nat.add_assoc]; exact c2⟩
    · simp only [List.mem_map, List.mem_range] at hc
      obtain ⟨i, hi', rfl⟩ := hc
      exact (hfq i hi').2
set_option maxRecDepth 100000 in
theorem stores_of {u : Value} {n : Nat} {y : DataW H × List MemPlace} (h : DataW.trod enc Try.prog W 0 (fun _ => true) true n 22 [u] = some y) : ∃ ss : List St, SV W u ss ∧ SB ss ∧ SG ss := by
  rcases open_slice Try.underlying22 h with ⟨hcs, hx⟩ | ⟨a, len, cap, m, n', D, Pl, hcs, _, hl, hm, hmm, hx, hi⟩
  · simp at hcs
    subst hcs
    exact ⟨[], ⟨none, 0, rfl, Or.inl rfl⟩, ⟨by simp, fun s hs => by simp at hs⟩, fun s hs => by simp at hs⟩
  · simp at hcs
    subst hcs
    simp only [if_true] at hmm
    subst hmm
    have each : ∀ i, i < len → ∃ q : St, (W.cell? (a.add (i * 2)) = some (.int .i64 q.1) ∧ ∃ u, W.cell? ((a.add (i * 2)).add 1) = some u ∧ CV W u q.2) ∧ CG q.2 ∧ q.2.length ≤ 9223372036854775807 := fun i hlt => by
      obtain ⟨cs', h1, h2⟩ := hi i (by omega)
      rw [cells85] at h1
      obtain ⟨_, hlen, hcell⟩ := World.cells?_some h1
      obtain ⟨y0, y1, k, _, _, g0, g1⟩ := trod_struct2 Try.underlying85 h2
      match cs', hlen with
      | [v0, v1], _ =>
        simp [cells2, cells83] at g0 g1
        obtain ⟨x0, e0, _, w0⟩ := DataW.trod_int Try.underlying2 g0
        simp at e0
        subst e0
        obtain ⟨cs, hcv, hcg, hcl⟩ := cells_of g1
        have c0 := hcell 0 (by omega)
        have c1 := hcell 1 (by omega)
        have z : (a.add (i * 2)).add 0 = a.add (i * 2) := by simp [Addr.add]
        rw [z] at c0
        exact ⟨(x0, cs), ⟨by simpa using c0, v1, by simpa using c1, hcv⟩, hcg, hcl⟩
    obtain ⟨f, hfq⟩ := choose_lt each
    have hlen : ((List.range len).map f).length = len := by simp
    refine ⟨(List.range len).map f, ⟨some a, _, by rw [hlen], ?_⟩, ⟨by rw [hlen]; unfold maxLen at hm; omega, fun s hs => ?_⟩, fun s hs => ?_⟩
    · by_cases e : len = 0
      · subst e; exact Or.inl rfl
      · have hs : a.spot = none := no_spot (by have := (hfq 0 (by omega)).1.1; simpa [Addr.add] using this)
        obtain ⟨b, off, spot⟩ := a
        simp only at hs
        subst hs
        refine Or.inr ⟨b, off, rfl, fun j hj => ?_⟩
        rw [hlen] at hj
        have e2 : ((List.range len).map f).getD j s0 = f j := by simp [List.getD_eq_getElem?_getD, hj]
        rw [e2]
        obtain ⟨⟨c0, u, c1, c2⟩, _⟩ := hfq j hj
        rw [add_add] at c1
        rw [Addr.add_lit] at c0 c1
        exact ⟨c0, u, by rw [Nat.add_assoc]; exact c1, c2⟩
    · simp only [List.mem_map, List.mem_range] at hs
      obtain ⟨i, hi', rfl⟩ := hs
      exact (hfq i hi').2.2
    · simp only [List.mem_map, List.mem_range] at hs
      obtain ⟨i, hi', rfl⟩ := hs
      exact (hfq i hi').2.1
set_option maxRecDepth 100000 in
theorem heap_of {b0 : Nat} {v : Value} {d : DataW H} {p : List MemPlace} (hv : Value.okWide Try.prog W .any b0 24 v)
    (h : DataW.Trod enc Try.prog W 0 (fun _ => true) true 24 v d p) : ∃ (u : Value) (ss : List St), v = .agg #[u] ∧ SV W u ss ∧ SB ss ∧ SG ss := by
  obtain ⟨cs, rfl, hsz⟩ := okWide_struct Try.underlying24 hv
  rw [cells24] at hsz
  obtain ⟨c0, rfl⟩ : ∃ c0, cs = #[c0] := by
    obtain ⟨l⟩ := cs
    match l, hsz with
    | [c0], _ => exact ⟨c0, rfl⟩
  obtain ⟨fuel, hf⟩ := h
  obtain ⟨y0, n, _, _, h0⟩ := trod_struct1 Try.underlying24 hf
  simp [Value.cells, cells22] at h0
  obtain ⟨ss, h1, h2, h3⟩ := stores_of h0
  exact ⟨c0, ss, rfl, h1, h2, h3⟩
end
end Go.Proofs.Ytbkdfhlbjaiahaa
