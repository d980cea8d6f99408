import Derived.Test.YtjjemnlknnnkbaaPoolB
namespace Go.Proofs.Ytjjemnlknnnkbaa
open Go.ChangeShapes Go.RowKit Go.MuLone
set_option linter.unusedSimpArgs false
set_option linter.unusedVariables false

/-- Three integers: an operation, an answer. -/
abbrev P3 := Int × Int × Int
def p0 : P3 := (0, 0, 0)
def p3v (t : P3) : List Value := [.int .i64 t.1, .int .i64 t.2.1, .int .i64 t.2.2]
def p3cells (ts : List P3) : List Value := ts.flatMap p3v
theorem p3cells_len : ∀ ts : List P3, (p3cells ts).length = ts.length * 3
  | [] => rfl
  | t :: ts => by
    have := p3cells_len ts
    simp only [p3cells, List.flatMap_cons, List.length_append, List.length_cons] at this ⊢
    rw [this]
    simp [p3v]; omega
theorem p3cells_snoc (ts : List P3) (t : P3) : p3cells (ts ++ [t]) = p3cells ts ++ p3v t := by simp [p3cells]
theorem p3cells_at : ∀ (ts : List P3) (j i : Nat), j < ts.length → i < 3 → (p3cells ts)[j * 3 + i]? = (p3v (ts.getD j p0))[i]?
  | [], j, i, h, _ => by simp at h
  | t :: ts, 0, i, h, hi => by
    simp only [p3cells, List.flatMap_cons, Nat.zero_mul, Nat.zero_add, List.getD_cons_zero]
    rw [List.getElem?_append_left (by simp [p3v]; omega)]
  | t :: ts, j + 1, i, h, hi => by
    have ih := p3cells_at ts j i (by simpa using h) hi
    simp only [p3cells, List.flatMap_cons, List.getD_cons_succ] at ih ⊢
    rw [List.getElem?_append_right (by simp [p3v]; omega), show (j + 1) * 3 + i - (p3v t).length = j * 3 + i by simp [p3v]; omega]
    exact ih
theorem p3v_one (t : P3) : ∀ u ∈ p3v t, u.oneCell' = true := fun u hu => by
  simp [p3v] at hu
  rcases hu with rfl | rfl | rfl <;> rfl
/-- The triples lie in block b from place off on. -/
def PRow (w : World) (b off : Nat) (ts : List P3) : Prop := ∀ j, j < ts.length → w.cell? ⟨b, off + j * 3, none⟩ = some (.int .i64 (ts.getD j p0).1) ∧ w.cell? ⟨b, off + j * 3 + 1, none⟩ = some (.int .i64 (ts.getD j p0).2.1) ∧ w.cell? ⟨b, off + j * 3 + 2, none⟩ = some (.int .i64 (ts.getD j p0).2.2)
def PV (w : World) (v : Value) (ts : List P3) : Prop := ∃ sa cap, v = .slice sa ts.length cap ∧ (ts = [] ∨ ∃ b off, sa = some ⟨b, off, none⟩ ∧ PRow w b off ts)
theorem PRow.keep {w w' : World} {b off : Nat} {ts : List P3} (h : PRow w b off ts) (x : Bel w w') : PRow w' b off ts := fun j hj => ⟨x.box (h j hj).1, x.box (h j hj).2.1, x.box (h j hj).2.2⟩
def POwn (w' : World) (lo hi : Nat) (sa : Option Addr) (ts : List P3) : Prop := ts = [] ∨ ∃ g, sa = some ⟨g, 0, none⟩ ∧ lo ≤ g ∧ g < hi ∧ PRow w' g 0 ts ∧ ∀ o, w'.frozen? ⟨g, o, none⟩ = false
def POk (w : World) (ts : List P3) (e : Ending) (w' : World) : Prop :=
  ∃ (sa : Option Addr) (cap : Nat), e = .returned (.slice sa ts.length cap) ∧ POwn w' w.heap.size w'.heap.size sa ts ∧ Bel w w'
theorem pown_of {w w3 : World} {base n : Nat} {v : Value} {ts : List P3} (hb : w.heap.size ≤ base) (hB : Bel w w3) (h : w3.ownsRow base 32 3 v n (p3cells ts)) : POk w ts (.returned v) w3 := by
  have hl : n = ts.length := by have := h.1; rw [p3cells_len] at this; omega
  rcases h.2 with ⟨h1, h2⟩ | ⟨g, cap, cur, h1, hg, _⟩
  · have : ts = [] := List.eq_nil_of_length_eq_zero (by omega)
    subst this
    exact ⟨none, 0, by rw [h1]; rfl, Or.inl rfl, hB⟩
  · subst h1
    refine ⟨_, cap, by rw [hl], Or.inr ⟨g, rfl, by omega, (h.lt g rfl).2, fun j hj => ?_, fun o => h.frozenAt o⟩, hB⟩
    have hb := fun (i : Nat) (hi : i < 3) => (h.cellAt (j * 3 + i) (by omega)).trans (p3cells_at ts j i hj hi)
    rw [Nat.zero_add]
    exact ⟨hb 0 (by omega), hb 1 (by omega), hb 2 (by omega)⟩

/-- One operation: the blocks behind it, the code, the number. -/
def stepP (budget : Int) (bs : List Blk) (op : P3) : List Blk × Int × Int :=
  if op.1 = 1 then
    (if roundL op.2.1 < 0 then (bs, 16, -1) else ((takeL bs budget (roundL op.2.1)).1, (if (takeL bs budget (roundL op.2.1)).2 < 0 then 17 else 0), (takeL bs budget (roundL op.2.1)).2))
  else if op.1 = 2 then
    (if 0 ≤ op.2.2 ∧ op.2.2 < bs.length ∧ (bs.getD op.2.2.toNat b0).2 = true then (bs.set op.2.2.toNat ((bs.getD op.2.2.toNat b0).1, false), 0, op.2.2) else (bs, 15, -1))
  else (bs, 3, -1)
def ansP (x : List Blk × Int × Int) : P3 := (x.2.1, x.2.2, liveL x.1)
def runP (budget : Int) (ops : List P3) : Nat → List P3 × List Blk
  | 0 => ([], [])
  | k + 1 => ((runP budget ops k).1 ++ [ansP (stepP budget (runP budget ops k).2 (ops.getD k p0))], (stepP budget (runP budget ops k).2 (ops.getD k p0)).1)
theorem runP_succ (budget : Int) (ops : List P3) (k : Nat) : runP budget ops (k + 1) = ((runP budget ops k).1 ++ [ansP (stepP budget (runP budget ops k).2 (ops.getD k p0))], (stepP budget (runP budget ops k).2 (ops.getD k p0)).1) := rfl
theorem runP_len (budget : Int) (ops : List P3) : ∀ k, (runP budget ops k).1.length = k
  | 0 => rfl
  | k + 1 => by rw [runP_succ]; simp [runP_len budget ops k]
theorem ite_bd {p : Prop} [Decidable p] {a b : Int} (ha : 16 ≤ a ∧ a ≤ 65536) (hb : 16 ≤ b ∧ b ≤ 65536) : 16 ≤ (if p then a else b) ∧ (if p then a else b) ≤ 65536 := by
  split
  · exact ha
  · exact hb
theorem round_bd (n : Int) : roundL n = -1 ∨ (16 ≤ roundL n ∧ roundL n ≤ 65536) := by
  by_cases h : n < 0 ∨ 65536 < n
  · exact Or.inl (if_pos h)
  · right
    unfold roundL
    rw [if_neg h]
    iterate 12 refine ite_bd ⟨by decide, by decide⟩ ?_
    exact ⟨by decide, by decide⟩
theorem SzOk.set {bs : List Blk} (h : SzOk bs) (i : Nat) (b : Blk) (hb : 16 ≤ b.1 ∧ b.1 ≤ 65536) : SzOk (bs.set i b) := fun x hx => by
  rcases List.mem_or_eq_of_mem_set hx with h1 | h1
  · exact h x h1
  · rw [h1]; exact hb
theorem take_ok {bs : List Blk} (h : SzOk bs) (budget r : Int) (hr : 16 ≤ r ∧ r ≤ 65536) : SzOk (takeL bs budget r).1 ∧ (takeL bs budget r).1.length ≤ bs.length + 1 ∧ -1 ≤ (takeL bs budget r).2 := by
  unfold takeL
  split
  · exact ⟨h, by simp, by simp⟩
  · split
    · exact ⟨h.set _ _ hr, by simp, by first | (simp; done) | (simp; omega)⟩
    · refine ⟨fun b hb => ?_, by simp, by first | (simp; done) | (simp; omega)⟩
      rcases List.mem_append.1 hb with h1 | h1
      · exact h b h1
      · simp at h1; rw [h1]; exact hr
theorem step_ok {bs : List Blk} (h : SzOk bs) (budget : Int) (op : P3) : SzOk (stepP budget bs op).1 ∧ (stepP budget bs op).1.length ≤ bs.length + 1 := by
  unfold stepP
  split
  · split
    · exact ⟨h, by simp⟩
    · have hr := (round_bd op.2.1).resolve_left (by omega)
      have := take_ok h budget _ hr
      exact ⟨this.1, this.2.1⟩
  · split
    · split
      · next hc =>
        refine ⟨h.set _ _ (h.at _ (by omega)), by simp⟩
      · exact ⟨h, by simp⟩
    · exact ⟨h, by simp⟩
theorem run_ok (budget : Int) (ops : List P3) : ∀ k, SzOk (runP budget ops k).2 ∧ (runP budget ops k).2.length ≤ k
  | 0 => ⟨fun b hb => by simp [runP] at hb, by simp [runP]⟩
  | k + 1 => by
    have ih := run_ok budget ops k
    rw [runP_succ]
    have := step_ok ih.1 budget (ops.getD k p0)
    exact ⟨this.1, by have := this.2; have := ih.2; simp only; omega⟩
/-- The answer of PoolRun. -/
def poolL (budget : Int) (ops : List P3) : List P3 := if ops.length ≤ 2000 then (runP budget ops ops.length).1 else []
theorem poolL_len (budget : Int) (ops : List P3) : (poolL budget ops).length ≤ 2000 := by
  unfold poolL
  split
  · rw [runP_len]; omega
  · simp

/-- Rows of different element types lie in different blocks. -/
theorem own_ne {w : World} {B B' e e' size size' n n' : Nat} {v v' : Value} {xs xs' : List Value} (h : w.ownsRow B e size v n xs) (h' : w.ownsRow B' e' size' v' n' xs') (hne : e ≠ e') : v.ownBlock = none ∨ v.ownBlock ≠ v'.ownBlock := by
  rcases h.2 with ⟨rfl, _⟩ | ⟨g, cap, cur, rfl, _, hgg, _⟩
  · exact .inl rfl
  · rcases h'.2 with ⟨rfl, _⟩ | ⟨g', cap', cur', rfl, _, hgg', _⟩
    · exact .inr (by simp [Value.ownBlock])
    · refine .inr fun he => ?_
      simp only [Value.ownBlock, Option.some.injEq] at he
      subst he
      rw [hgg] at hgg'
      simp only [Option.some.injEq, Obj.cells.injEq] at hgg'
      exact hne hgg'.2.1
/-- The world of spec.PoolRun's loop. -/
structure QS (w wr : World) (bs : List Blk) (ts : List P3) (vB vO : Value) : Prop where
  ownB : wr.ownsRow w.heap.size 61 2 vB bs.length (bcells bs)
  ownO : wr.ownsRow w.heap.size 32 3 vO ts.length (p3cells ts)
  bl : Bel w wr
theorem QS.ext {w wr W : World} {bs : List Blk} {ts : List P3} {vB vO : Value} (h : QS w wr bs ts vB vO) (x : Ext wr W) : QS w W bs ts vB vO :=
  ⟨own_below h.ownB x.bl (fun k hk => (h.ownB.lt k hk).2), own_below h.ownO x.bl (fun k hk => (h.ownO.lt k hk).2), Bel.tr h.bl x.bl⟩
theorem QS.grow {w wr W : World} {bs bs' : List Blk} {ts : List P3} {vB vB' vO : Value} (h : QS w wr bs ts vB vO) (hg : wr.grownBy W vB.ownBlock) (hB : W.ownsRow w.heap.size 61 2 vB' bs'.length (bcells bs')) : QS w W bs' ts vB' vO :=
  ⟨hB, h.ownO.kept hg (own_ne h.ownO h.ownB (by decide)), h.bl.grown hg (Below.size h.bl) (fun j hj => (h.ownB.lt j hj).1)⟩
theorem QS.push {w wr W : World} {bs : List Blk} {ts : List P3} {vB vO vO' : Value} (h : QS w wr bs ts vB vO) (t : P3) (hg : (wr.alloc (.cells #[.int .i64 t.1, .int .i64 t.2.1, .int .i64 t.2.2] 32)).grownBy W vO.ownBlock) (hO : W.ownsRow w.heap.size 32 3 vO' (ts.length + 1) (p3cells ts ++ p3v t)) : QS w W bs (ts ++ [t]) vB vO' := by
  have hg' := grown_al hg
  refine ⟨h.ownB.kept hg' (own_ne h.ownB h.ownO (by decide)), ?_, h.bl.grown hg' (Below.size h.bl) (fun j hj => (h.ownO.lt j hj).1)⟩
  rw [List.length_append, p3cells_snoc]
  exact hO
theorem QS.szP {w wr : World} {bs : List Blk} {ts : List P3} {vB vO : Value} (h : QS w wr bs ts vB vO) (A : Array Value) (t : TypeId) : w.heap.size ≤ (wr.alloc (.cells A t)).heap.size := by
  have h1 : wr.heap.size ≤ (wr.alloc (.cells A t)).heap.size := Below.size ((Ext.refl wr).alloc A t).bl
  exact Nat.le_trans (Below.size h.bl) h1
theorem three_newP (W : World) (t : P3) : ∀ j u, (p3v t)[j]? = some u → (W.alloc (.cells #[.int .i64 t.1, .int .i64 t.2.1, .int .i64 t.2.2] 32)).cell? ((⟨W.heap.size, 0, none⟩ : Addr).add j) = some u := fun j u hu => by
  have n1 := fun j => new_cell W #[.int .i64 t.1, .int .i64 t.2.1, .int .i64 t.2.2] 32 W.heap.size rfl j
  rw [Addr.add_lit, Nat.zero_add, n1 j]
  simpa [p3v] using hu
end Go.Proofs.Ytjjemnlknnnkbaa
