import Derived.Test.YtccbffhjibigeaaLawVA
import Derived.Maps.AppendAt
namespace Go.Proofs.Ytccbffhjibigeaa
open Go.ChangeShapes Go.RowKit FL
set_option linter.unusedSimpArgs false
set_option linter.unusedVariables false

def c3v (c : C3) : List Value := [.int .i64 c.1, .float .f64 c.2.1, .float .f64 c.2.2]
def flat : List C3 → List Value
  | [] => []
  | c :: cs => c3v c ++ flat cs
theorem flatC_len (cs : List C3) : (flat cs).length = cs.length * 3 := by
  induction cs with
  | nil => rfl
  | cons c cs ih => rw [flat, List.length_append, ih, List.length_cons]; simp [c3v]; omega
theorem flat_app (cs ds : List C3) : flat (cs ++ ds) = flat cs ++ flat ds := by
  induction cs with
  | nil => rfl
  | cons c cs ih => rw [List.cons_append, flat, flat, ih, List.append_assoc]
theorem flat_get (cs : List C3) : ∀ j, j < cs.length → (flat cs)[j * 3]? = some (.int .i64 (cs.getD j k0).1) ∧ (flat cs)[j * 3 + 1]? = some (.float .f64 (cs.getD j k0).2.1) ∧ (flat cs)[j * 3 + 2]? = some (.float .f64 (cs.getD j k0).2.2) := by
  induction cs with
  | nil => intro j hj; simp at hj
  | cons c cs ih =>
    intro j hj
    match j with
    | 0 => exact ⟨rfl, rfl, rfl⟩
    | j + 1 =>
      have h := ih j (by simpa using hj)
      have e : ∀ i, (flat (c :: cs))[(j + 1) * 3 + i]? = (flat cs)[j * 3 + i]? := fun i => by
        rw [flat, List.getElem?_append_right (by simp [c3v]; omega)]
        congr 1
        simp [c3v]; omega
      have e0 := e 0
      rw [Nat.add_zero, Nat.add_zero] at e0
      rw [e0, e 1, e 2, List.getD_cons_succ]
      exact h
/-- The rows that a call made for its answer. -/
def OwnC (w' : World) (lo : Nat) (sa : Option Addr) (cs : List C3) : Prop := cs = [] ∨ ∃ g, sa = some ⟨g, 0, none⟩ ∧ lo ≤ g ∧ CRow w' g 0 cs ∧ ∀ o, w'.frozen? ⟨g, o, none⟩ = false
def CellsOk (w : World) (cs : List C3) (e : Ending) (w' : World) : Prop := ∃ (sa : Option Addr) (cap : Nat), e = .returned (.slice sa cs.length cap) ∧ OwnC w' w.heap.size sa cs ∧ Below w.heap.size w w'
theorem crow_of_own {w : World} {base g n cap : Nat} {cs : List C3} (h : w.ownsRow base 59 3 (.slice (some ⟨g, 0, none⟩) n cap) n (flat cs)) (hn : n = cs.length) : CRow w g 0 cs := fun j hj => by
  obtain ⟨a, b, c⟩ := flat_get cs j hj
  rw [Nat.zero_add]
  exact ⟨(h.cellAt _ (by omega)).trans a, (h.cellAt _ (by omega)).trans b, (h.cellAt _ (by omega)).trans c⟩
theorem own_cells {w3 : World} {lo base n : Nat} {v : Value} {cs : List C3} (hb : lo ≤ base) (h : w3.ownsRow base 59 3 v n (flat cs)) : ∃ sa cap, v = .slice sa cs.length cap ∧ OwnC w3 lo sa cs := by
  have hl : n = cs.length := by have := h.1; rw [flatC_len] at this; omega
  by_cases h0 : cs = []
  · subst h0
    rcases h.2 with ⟨h1, h2⟩ | ⟨g, cap, cur, h1, h2, _⟩
    · exact ⟨none, 0, by first | exact h1 | (rw [h1]; rfl), Or.inl rfl⟩
    · exact ⟨_, _, by rw [h1, hl], Or.inl rfl⟩
  · have hp : 0 < n := by rw [hl]; exact List.length_pos_iff.2 h0
    rcases h.2 with ⟨h1, h2⟩ | ⟨g, cap, cur, h1, h2, _⟩
    · omega
    · subst h1
      exact ⟨_, _, by rw [hl], Or.inr ⟨g, rfl, by omega, crow_of_own h hl, fun o => h.frozenAt o⟩⟩
theorem cells_nil {w w' : World} {cs : List C3} (h : cs = []) (sa : Option Addr) (cap : Nat) (hB : Below w.heap.size w w') : CellsOk w cs (.returned (.slice sa 0 cap)) w' := by
  subst h
  exact ⟨sa, cap, rfl, Or.inl rfl, hB⟩
theorem CellsOk.from {w w1 w' : World} {cs : List C3} {e : Ending} (hB : Below w.heap.size w w1) (h : CellsOk w1 cs e w') : CellsOk w cs e w' := by
  obtain ⟨sa, cap, h1, h2, h3⟩ := h
  refine ⟨sa, cap, h1, ?_, Bel.tr hB h3⟩
  rcases h2 with h2 | ⟨g, h4, h5, h6⟩
  · exact Or.inl h2
  · exact Or.inr ⟨g, h4, Nat.le_trans hB.size h5, h6⟩
/-- What Read answers. -/
def readL (ss : List St) (st : Int) (xs sv : List Int) (off : Int) : List C3 := (offsL xs sv off).map fun p => (ss.getD st.toNat s0).2.getD p.toNat k0
def readA (ss : List St) (st : Int) (xs sv : List Int) (off : Int) : List C3 := if vHeap ss = true ∧ GoodA ss st xs sv off then readL ss st xs sv off else []
theorem grown_more {w w1 w2 : World} {g : Nat} {row : Option Nat} (h : w.grownBy w1 (some g)) (k : w1.grownBy w2 row) (hr : row = some g ∨ ∃ j, row = some j ∧ w.heap.size ≤ j) : w.grownBy w2 (some g) :=
  ⟨k.os.trans h.os, k.tape.trans h.tape, k.output.trans h.output, Nat.le_trans h.size k.size, fun j hj hn => (k.block j (Nat.lt_of_lt_of_le hj h.size) (by
    rcases hr with rfl | ⟨i, rfl, hi⟩
    · exact hn
    · intro e; cases e; omega)).trans (h.block j hj hn)⟩
theorem grown_box {w w1 : World} {g : Nat} (h : w.grownBy w1 (some g)) {b o : Nat} {v : Value} (hb : b ≠ g) (hc : w.cell? ⟨b, o, none⟩ = some v) : w1.cell? ⟨b, o, none⟩ = some v := by
  rw [← hc]
  exact World.cell?_of_block (w := w) (a := ⟨b, o, none⟩) (h.block b (cell_lt hc) (fun e => by cases e; exact hb rfl))
theorem grown_alloc {w w1 : World} {g : Nat} (h : w.grownBy w1 (some g)) (o : Obj) : w.grownBy (w1.alloc o) (some g) :=
  ⟨h.os, h.tape, h.output, by have := h.size; simp; omega, fun j hj hn => by
    have hs := h.size
    rw [← h.block j hj hn]
    exact ((Below.refl w1.heap.size w1).alloc (Nat.le_refl _) o).block j (by omega)⟩
theorem grown_drew {w w1 : World} {r : Option Nat} (h : w.grownBy w1 r) : w.grownBy w1.drew r := ⟨h.os, h.tape, h.output, h.size, h.block⟩
theorem c3v_one (c : C3) : ∀ u ∈ c3v c, u.oneCell' = true := fun u hu => by
  simp only [c3v, List.mem_cons, List.not_mem_nil, or_false] at hu
  rcases hu with rfl | rfl | rfl <;> rfl
theorem flat_one (cs : List C3) (c : C3) : flat (cs ++ [c]) = flat cs ++ c3v c := by rw [flat_app]; simp [flat]
end Go.Proofs.Ytccbffhjibigeaa
