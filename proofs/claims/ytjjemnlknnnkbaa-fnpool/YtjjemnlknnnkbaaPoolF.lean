import Derived.Test.YtjjemnlknnnkbaaFrees
import Derived.Test.YtjjemnlknnnkbaaPoolE
namespace Go.Proofs.Ytjjemnlknnnkbaa
open Go.ChangeShapes Go.RowKit Go.Lib Go.ChangeMaps
set_option linter.unusedSimpArgs false
set_option linter.unusedVariables false

/-- A block as the program keeps it: its bytes, and whether it is live. -/
abbrev IB := Value × Bool
def z0 : IB := (nilI, false)
def zvv (z : IB) : List Value := [z.1, .bool z.2]
def zcells (zs : List IB) : List Value := zs.flatMap zvv
theorem zcells_len : ∀ zs : List IB, (zcells zs).length = zs.length * 2
  | [] => rfl
  | t :: ts => by
    have := zcells_len ts
    simp only [zcells, List.flatMap_cons, List.length_append, List.length_cons] at this ⊢
    rw [this]
    simp [zvv]; omega
theorem zcells_snoc (ts : List IB) (t : IB) : zcells (ts ++ [t]) = zcells ts ++ zvv t := by simp [zcells]
theorem zcells_at : ∀ (ts : List IB) (j i : Nat), j < ts.length → i < 2 → (zcells ts)[j * 2 + i]? = (zvv (ts.getD j z0))[i]?
  | [], j, i, h, _ => by simp at h
  | t :: ts, 0, i, h, hi => by
    simp only [zcells, List.flatMap_cons, Nat.zero_mul, Nat.zero_add, List.getD_cons_zero]
    rw [List.getElem?_append_left (by simp [zvv]; omega)]
  | t :: ts, j + 1, i, h, hi => by
    have ih := zcells_at ts j i (by simpa using h) hi
    simp only [zcells, List.flatMap_cons, List.getD_cons_succ] at ih ⊢
    rw [List.getElem?_append_right (by simp [zvv]; omega), show (j + 1) * 2 + i - (zvv t).length = j * 2 + i by simp [zvv]; omega]
    exact ih
theorem zcells_set : ∀ (ts : List IB) (j : Nat) (u : Bool), j < ts.length → (zcells ts).set (j * 2 + 1) (.bool u) = zcells (ts.set j ((ts.getD j z0).1, u))
  | [], j, u, h => by simp at h
  | t :: ts, 0, u, h => by simp [zcells, zvv]
  | t :: ts, j + 1, u, h => by
    have ih := zcells_set ts j u (by simpa using h)
    simp only [zcells, List.flatMap_cons, List.getD_cons_succ, List.set_cons_succ] at ih ⊢
    rw [List.set_append_right _ _ (by simp [zvv]; omega), show (j + 1) * 2 + 1 - (zvv t).length = j * 2 + 1 by simp [zvv]; omega, ih]
theorem zown_at {w : World} {base g n cap : Nat} {zs : List IB} (h : w.ownsRow base 100 2 (.slice (some ⟨g, 0, none⟩) n cap) n (zcells zs)) (j : Nat) (hj : j < zs.length) : w.cell? ⟨g, j * 2, none⟩ = some (zs.getD j z0).1 ∧ w.cell? ⟨g, j * 2 + 1, none⟩ = some (.bool (zs.getD j z0).2) := by
  have hl : n = zs.length := by have := h.1; rw [zcells_len] at this; omega
  have hb := fun (i : Nat) (hi : i < 2) => (h.cellAt (j * 2 + i) (by omega)).trans (zcells_at zs j i hj hi)
  exact ⟨hb 0 (by omega), hb 1 (by omega)⟩
/-- The bytes of a block. -/
def Byt (w : World) (v : Value) (s : Int) : Prop := ∃ y n cur, v = .slice (some ⟨y, 0, none⟩) n n ∧ (n : Int) = s ∧ w.heap[y]? = some (.cells cur 5 (0, 0)) ∧ n ≤ cur.size
/-- The pool as the program keeps it. -/
structure PIv (w : World) (base P Mb n : Nat) (sum budget : Int) (bs : List Blk) (zs : List IB) (vB : Value) (M : Int → Value) (F : Int → List Int) : Prop where
  pb : PB w P sum budget vB (.map (some Mb))
  own : w.ownsRow base 100 2 vB bs.length (zcells zs)
  zl : zs.length = bs.length
  zf : ∀ j, j < bs.length → (zs.getD j z0).2 = (bs.getD j b0).2
  zb : ∀ j, j < bs.length → Byt w (zs.getD j z0).1 (bs.getD j b0).1
  mp : MpIs w Mb n M
  fr : ∀ s, FV w (M s) (F s)
  inj : ∀ s s' k, (M s).ownBlock = some k → (M s').ownBlock = some k → s = s'
  lo : base ≤ P ∧ base ≤ Mb ∧ base ≤ w.heap.size
  lof : ∀ s k, (M s).ownBlock = some k → base ≤ k
  loy : ∀ j, j < bs.length → ∀ k, (zs.getD j z0).1.ownBlock = some k → base ≤ k
  pm : P ≠ Mb
  pB : vB.ownBlock ≠ some P
  pf : ∀ s, (M s).ownBlock ≠ some P
  py : ∀ j, j < bs.length → (zs.getD j z0).1.ownBlock ≠ some P
theorem PB.row {w w' : World} {P : Nat} {sum budget : Int} {vB vM : Value} (h : PB w P sum budget vB vM) {row : Option Nat} (hg : w.grownBy w' row) (hr : some P ≠ row) : PB w' P sum budget vB vM := by
  have hk := hg.block P h.lt hr
  have hc := fun o => World.cell?_of_block (w := w) (w' := w') (a := ⟨P, o, none⟩) hk
  exact ⟨(hc 0).trans h.c0, (hc 2).trans h.c2, (hc 3).trans h.c3, (hc 4).trans h.c4, (hc 5).trans h.c5, fun o => (World.frozen?_of_block (w := w) (w' := w') (a := ⟨P, o, none⟩) hk).trans (h.fz o)⟩
theorem Byt.row {w w' : World} {v : Value} {s : Int} (h : Byt w v s) {row : Option Nat} (hg : w.grownBy w' row) (hr : ∀ k, v.ownBlock = some k → some k ≠ row) : Byt w' v s := by
  obtain ⟨y, n, cur, rfl, h1, h2, h3⟩ := h
  exact ⟨y, n, cur, rfl, h1, (hg.block y (Array.getElem?_eq_some_iff.1 h2).1 (hr y rfl)).trans h2, h3⟩
theorem MpIs.row {w w' : World} {b n : Nat} {M : Int → Value} (h : MpIs w b n M) {row : Option Nat} (hg : w.grownBy w' row) (hr : some b ≠ row) : MpIs w' b n M := by
  obtain ⟨es, clock, h1, h2⟩ := h
  exact ⟨es, clock, (hg.block b (Array.getElem?_eq_some_iff.1 h1).1 hr).trans h1, h2⟩
theorem FV.row {w w' : World} {v : Value} {L : List Int} (h : FV w v L) {row : Option Nat} (hg : w.grownBy w' row) (hr : ∀ k, v.ownBlock = some k → some k ≠ row) : FV w' v L := h.block fun k hk => hg.block k (h.lt k hk) (hr k hk)
theorem Mut.grown {b : Nat} {w w' : World} (m : Mut b w w') : w.grownBy w' (some b) := ⟨m.os, m.tape, m.output, m.size, fun k hk hn => m.block k hk (fun e => hn (by rw [e]))⟩
theorem Ext.grown {w w' : World} (x : Ext w w') (row : Option Nat) : w.grownBy w' row := by
  have m := x.mut w.heap.size
  exact ⟨m.os, m.tape, m.output, m.size, fun k hk _ => m.block k hk (Nat.ne_of_lt hk)⟩
theorem setBlock_grown {w : World} {b : Nat} {es es' : Array MapEntry} {c c' : Nat} (hb : w.heap[b]? = some (.map es c)) : w.grownBy (setBlock w b (.map es' c')) (some b) := ⟨rfl, rfl, rfl, by simp [setBlock], fun k _ hk => heap_setBlock_other hb _ (fun e => hk (by rw [e]))⟩
section
variable {w w' : World} {base P Mb n : Nat} {sum budget : Int} {bs : List Blk} {zs : List IB} {vB : Value} {M : Int → Value} {F : Int → List Int}
theorem PIv.bBlk (h : PIv w base P Mb n sum budget bs zs vB M F) {k : Nat} (hk : vB.ownBlock = some k) : base ≤ k ∧ ∃ cur, w.heap[k]? = some (.cells cur 100 (0, 0)) := by
  rcases h.own.2 with ⟨h1, _⟩ | ⟨g, cap, cur, h1, h2, h3, _⟩
  · rw [h1] at hk; simp [Value.ownBlock] at hk
  · rw [h1] at hk
    simp [Value.ownBlock] at hk
    subst hk
    exact ⟨h2, cur, h3⟩
theorem PIv.yBlk (h : PIv w base P Mb n sum budget bs zs vB M F) {j : Nat} (hj : j < bs.length) {k : Nat} (hk : (zs.getD j z0).1.ownBlock = some k) : ∃ cur, w.heap[k]? = some (.cells cur 5 (0, 0)) := by
  obtain ⟨y, m, cur, h1, h2, h3, h4⟩ := h.zb j hj
  rw [h1] at hk
  simp [Value.ownBlock] at hk
  subst hk
  exact ⟨cur, h3⟩
theorem FV.blk {v : Value} {L : List Int} (h : FV w v L) {k : Nat} (hk : v.ownBlock = some k) : ∃ cur, w.heap[k]? = some (.cells cur 2 (0, 0)) := by
  rcases h with ⟨_, rfl⟩ | ⟨b, off, cap, rfl, h⟩
  · simp [Value.ownBlock] at hk
  · simp [Value.ownBlock] at hk
    subst hk
    obtain ⟨cur, h1, _⟩ := h.cur
    exact ⟨cur, h1⟩
theorem PIv.mBlk (h : PIv w base P Mb n sum budget bs zs vB M F) : ∃ es c, w.heap[Mb]? = some (.map es c) := by
  obtain ⟨es, c, h1, _⟩ := h.mp
  exact ⟨es, c, h1⟩
/-- What no pool holds. -/
def Alien (w : World) (P : Nat) (row : Option Nat) : Prop := ∀ k, row = some k → k ≠ P ∧ (k < w.heap.size → ∃ cur t fz, w.heap[k]? = some (.cells cur t fz) ∧ t ≠ 2 ∧ t ≠ 5 ∧ t ≠ 100)
theorem PIv.row (h : PIv w base P Mb n sum budget bs zs vB M F) {row : Option Nat} (hg : w.grownBy w' row) (ha : Alien w P row) : PIv w' base P Mb n sum budget bs zs vB M F := by
  have cl : ∀ k c, w.heap[k]? = some c → (∀ cur t fz, c = .cells cur t fz → t = 2 ∨ t = 5 ∨ t = 100) → some k ≠ row := fun k c hc hn e => by
    obtain ⟨_, h2⟩ := ha k e.symm
    obtain ⟨cur, t, fz, h3, h4, h5, h6⟩ := h2 (Array.getElem?_eq_some_iff.1 hc).1
    rw [hc] at h3
    rcases hn cur t fz (Option.some.inj h3) with q | q | q <;> contradiction
  have bl : ∀ k, vB.ownBlock = some k → some k ≠ row := fun k hk => by
    obtain ⟨_, cur, h1⟩ := h.bBlk hk
    exact cl k _ h1 (fun _ _ _ e => by cases e; simp)
  refine ⟨h.pb.row hg (fun e => (ha P e.symm).1 rfl), h.own.kept hg ?_, h.zl, h.zf, fun j hj => (h.zb j hj).row hg fun k hk => ?_, h.mp.row hg ?_, fun s => (h.fr s).row hg fun k hk => ?_, h.inj, ⟨h.lo.1, h.lo.2.1, Nat.le_trans h.lo.2.2 hg.size⟩, h.lof, h.loy, h.pm, h.pB, h.pf, h.py⟩
  · cases e : vB.ownBlock with
    | none => exact Or.inl rfl
    | some k => exact Or.inr (bl k e)
  · obtain ⟨cur, h1⟩ := h.yBlk hj hk
    exact cl k _ h1 (fun _ _ _ e => by cases e; simp)
  · obtain ⟨es, c, h1⟩ := h.mBlk
    exact cl Mb _ h1 (fun _ _ _ e => by cases e)
  · obtain ⟨cur, h1⟩ := (h.fr s).blk hk
    exact cl k _ h1 (fun _ _ _ e => by cases e; simp)
theorem PIv.ext (h : PIv w base P Mb n sum budget bs zs vB M F) (x : Ext w w') : PIv w' base P Mb n sum budget bs zs vB M F := h.row (x.grown none) (fun k e => by cases e)
/-- Another sum. -/
theorem PIv.reP (h : PIv w base P Mb n sum budget bs zs vB M F) (m : Mut P w w') {sum' : Int} (hp : PB w' P sum' budget vB (.map (some Mb))) : PIv w' base P Mb n sum' budget bs zs vB M F := by
  have hg := m.grown
  refine ⟨hp, h.own.kept hg ?_, h.zl, h.zf, fun j hj => (h.zb j hj).row hg fun k hk e => h.py j hj (by rw [hk, e]), h.mp.row hg (fun e => h.pm (Option.some.inj e).symm), fun s => (h.fr s).row hg fun k hk e => h.pf s (by rw [hk, e]), h.inj, ⟨h.lo.1, h.lo.2.1, Nat.le_trans h.lo.2.2 hg.size⟩, h.lof, h.loy, h.pm, h.pB, h.pf, h.py⟩
  exact Or.inr h.pB
/-- Blocks anew: their flags. -/
theorem PIv.reB (h : PIv w base P Mb n sum budget bs zs vB M F) (hg : w.grownBy w' vB.ownBlock) {bs' : List Blk} {zs' : List IB} (ho : w'.ownsRow base 100 2 vB bs'.length (zcells zs')) (zl : zs'.length = bs'.length)
    (zf : ∀ j, j < bs'.length → (zs'.getD j z0).2 = (bs'.getD j b0).2) (hz : ∀ j, j < bs'.length → j < bs.length ∧ (zs'.getD j z0).1 = (zs.getD j z0).1 ∧ (bs'.getD j b0).1 = (bs.getD j b0).1) : PIv w' base P Mb n sum budget bs' zs' vB M F := by
  refine ⟨h.pb.row hg (fun e => h.pB e.symm), ho, zl, zf, fun j hj => ?_, h.mp.row hg (fun e => ?_), fun s => (h.fr s).row hg fun k hk e => ?_, h.inj, ⟨h.lo.1, h.lo.2.1, Nat.le_trans h.lo.2.2 hg.size⟩, h.lof, fun j hj => ?_, h.pm, h.pB, h.pf, fun j hj => ?_⟩
  · obtain ⟨g1, g2, g3⟩ := hz j hj
    rw [g2, g3]
    refine (h.zb j g1).row hg fun k hk e => ?_
    obtain ⟨cur, h1⟩ := h.yBlk g1 hk
    obtain ⟨_, cur2, h2⟩ := h.bBlk e.symm
    rw [h1] at h2
    cases h2
  · obtain ⟨_, cur2, h2⟩ := h.bBlk e.symm
    obtain ⟨es, c, h1⟩ := h.mBlk
    rw [h1] at h2
    cases h2
  · obtain ⟨_, cur2, h2⟩ := h.bBlk e.symm
    obtain ⟨cur, h1⟩ := (h.fr s).blk hk
    rw [h1] at h2
    cases h2
  · obtain ⟨g1, g2, g3⟩ := hz j hj
    rw [g2]; exact h.loy j g1
  · obtain ⟨g1, g2, g3⟩ := hz j hj
    rw [g2]; exact h.py j g1
/-- One list anew: its row is written (w1), then the map (w2). -/
theorem PIv.reF (h : PIv w base P Mb n sum budget bs zs vB M F) {w1 w2 : World} (s : Int) (hg : w.grownBy w1 (M s).ownBlock) {v : Value} {L : List Int} (hv : FV w1 v L) (hvk : ∀ k, v.ownBlock = some k → (M s).ownBlock = some k ∨ w.heap.size ≤ k)
    (hg2 : w1.grownBy w2 (some Mb)) {n' : Nat} (hM : MpIs w2 Mb n' (fun x => if x = s then v else M x)) : PIv w2 base P Mb n' sum budget bs zs vB (fun x => if x = s then v else M x) (fun x => if x = s then L else F x) := by
  have nb : ∀ k, vB.ownBlock = some k → some k ≠ (M s).ownBlock ∧ k ≠ Mb := fun k hk => by
    obtain ⟨_, cur, h1⟩ := h.bBlk hk
    refine ⟨fun e => ?_, fun e => ?_⟩
    · obtain ⟨cur2, h2⟩ := (h.fr s).blk e.symm
      rw [h1] at h2; cases h2
    · subst e
      obtain ⟨es, c, h2⟩ := h.mBlk
      rw [h1] at h2; cases h2
  have ny : ∀ j, j < bs.length → ∀ k, (zs.getD j z0).1.ownBlock = some k → some k ≠ (M s).ownBlock ∧ k ≠ Mb := fun j hj k hk => by
    obtain ⟨cur, h1⟩ := h.yBlk hj hk
    refine ⟨fun e => ?_, fun e => ?_⟩
    · obtain ⟨cur2, h2⟩ := (h.fr s).blk e.symm
      rw [h1] at h2; cases h2
    · subst e
      obtain ⟨es, c, h2⟩ := h.mBlk
      rw [h1] at h2; cases h2
  have nf : ∀ t k, (M t).ownBlock = some k → k ≠ Mb := fun t k hk e => by
    subst e
    obtain ⟨cur, h1⟩ := (h.fr t).blk hk
    obtain ⟨es, c, h2⟩ := h.mBlk
    rw [h1] at h2; cases h2
  have hMlt : Mb < w.heap.size := by
    obtain ⟨es, c, h2⟩ := h.mBlk
    exact (Array.getElem?_eq_some_iff.1 h2).1
  have nv : ∀ k, v.ownBlock = some k → k ≠ Mb := fun k hk e => by
    rcases hvk k hk with q | q
    · exact nf s k q e
    · omega
  refine ⟨(h.pb.row hg (fun e => h.pf s e.symm)).row hg2 (fun e => h.pm (Option.some.inj e)), (h.own.kept hg ?_).kept hg2 ?_, h.zl, h.zf, fun j hj => ((h.zb j hj).row hg fun k hk => (ny j hj k hk).1).row hg2 fun k hk e => (ny j hj k hk).2 (Option.some.inj e), hM, fun t => ?_, fun t t' k hk hk' => ?_, ⟨h.lo.1, h.lo.2.1, Nat.le_trans h.lo.2.2 (Nat.le_trans hg.size hg2.size)⟩, fun t k hk => ?_, h.loy, h.pm, h.pB, fun t => ?_, h.py⟩
  · cases e : vB.ownBlock with
    | none => exact Or.inl rfl
    | some k => exact Or.inr (nb k e).1
  · cases e : vB.ownBlock with
    | none => exact Or.inl rfl
    | some k => exact Or.inr (fun e1 => (nb k e).2 (Option.some.inj e1))
  · show FV w2 (if t = s then v else M t) (if t = s then L else F t)
    split
    · exact hv.row hg2 fun k hk e => nv k hk (Option.some.inj e)
    · rename_i hne
      refine ((h.fr t).row hg fun k hk e => hne (h.inj t s k hk e.symm)).row hg2 fun k hk e => nf t k hk (Option.some.inj e)
  · change (if t = s then v else M t).ownBlock = some k at hk
    change (if t' = s then v else M t').ownBlock = some k at hk'
    have old : ∀ x, x ≠ s → (M x).ownBlock = some k → v.ownBlock = some k → False := fun x hx h1 h2 => by
      rcases hvk k h2 with q | q
      · exact hx (h.inj x s k h1 q)
      · have := (h.fr x).lt k h1
        omega
    by_cases e : t = s
    · by_cases e' : t' = s
      · rw [e, e']
      · rw [if_pos e] at hk
        rw [if_neg e'] at hk'
        exact (old t' e' hk' hk).elim
    · by_cases e' : t' = s
      · rw [if_neg e] at hk
        rw [if_pos e'] at hk'
        exact (old t e hk hk').elim
      · rw [if_neg e] at hk
        rw [if_neg e'] at hk'
        exact h.inj t t' k hk hk'
  · change (if t = s then v else M t).ownBlock = some k at hk
    split at hk
    · rcases hvk k hk with q | q
      · exact h.lof s k q
      · have := h.lo.2.2
        omega
    · exact h.lof t k hk
  · show (if t = s then v else M t).ownBlock ≠ some P
    split
    · intro e1
      rcases hvk P e1 with q | q
      · exact h.pf s q
      · have := h.pb.lt
        omega
    · exact h.pf t
/-- A block's bytes are written. -/
theorem PIv.reY (h : PIv w base P Mb n sum budget bs zs vB M F) {y : Nat} {cur cur' : Array Value} (hy : w.heap[y]? = some (.cells cur 5 (0, 0))) (hyP : y ≠ P) (hg : w.grownBy w' (some y)) (hy' : w'.heap[y]? = some (.cells cur' 5 (0, 0))) (hs : cur'.size = cur.size) : PIv w' base P Mb n sum budget bs zs vB M F := by
  refine ⟨h.pb.row hg (fun e => hyP (Option.some.inj e).symm), h.own.kept hg ?_, h.zl, h.zf, fun j hj => ?_, h.mp.row hg (fun e => ?_), fun s => (h.fr s).row hg fun k hk e => ?_, h.inj, ⟨h.lo.1, h.lo.2.1, Nat.le_trans h.lo.2.2 hg.size⟩, h.lof, h.loy, h.pm, h.pB, h.pf, h.py⟩
  · cases e : vB.ownBlock with
    | none => exact Or.inl rfl
    | some k =>
      refine Or.inr fun e1 => ?_
      obtain ⟨_, c2, h2⟩ := h.bBlk e
      rw [Option.some.inj e1, hy] at h2
      cases h2
  · obtain ⟨y', m, c2, h1, h2, h3, h4⟩ := h.zb j hj
    by_cases e : y' = y
    · subst e
      rw [hy] at h3
      cases h3
      exact ⟨y', m, cur', h1, h2, hy', by omega⟩
    · exact ⟨y', m, c2, h1, h2, (hg.block y' (Array.getElem?_eq_some_iff.1 h3).1 (fun e1 => e (Option.some.inj e1))).trans h3, h4⟩
  · obtain ⟨es, c, h2⟩ := h.mBlk
    rw [Option.some.inj e, hy] at h2
    cases h2
  · obtain ⟨c2, h2⟩ := (h.fr s).blk hk
    rw [Option.some.inj e, hy] at h2
    cases h2
end
/-- What a call of the pool keeps: what lies below base, and the rows of answers. -/
structure Kp (base P : Nat) (w w' : World) : Prop where
  os : w'.os = w.os
  tape : w'.tape = w.tape
  output : w'.output = w.output
  size : w.heap.size ≤ w'.heap.size
  block : ∀ k, k < w.heap.size → (k < base ∨ (k ≠ P ∧ ∃ cur, w.heap[k]? = some (.cells cur 32 (0, 0)))) → w'.heap[k]? = w.heap[k]?
theorem Kp.refl (base P : Nat) (w : World) : Kp base P w w := ⟨rfl, rfl, rfl, Nat.le_refl _, fun _ _ _ => rfl⟩
theorem Kp.trans {base P : Nat} {a b c : World} (h : Kp base P a b) (k : Kp base P b c) : Kp base P a c := ⟨k.os.trans h.os, k.tape.trans h.tape, k.output.trans h.output, Nat.le_trans h.size k.size, fun j hj hn => by
  have e := h.block j hj hn
  refine (k.block j (Nat.lt_of_lt_of_le hj h.size) ?_).trans e
  rcases hn with q | ⟨q, cur, q2⟩
  · exact Or.inl q
  · exact Or.inr ⟨q, cur, by rw [e]; exact q2⟩⟩
theorem Kp.of {base P : Nat} {w w' : World} {row : Option Nat} (hg : w.grownBy w' row) (hr : ∀ k, row = some k → base ≤ k ∧ (k = P ∨ ∀ cur, w.heap[k]? ≠ some (.cells cur 32 (0, 0)))) : Kp base P w w' := ⟨hg.os, hg.tape, hg.output, hg.size, fun k hk hn => hg.block k hk fun e => by
  obtain ⟨h1, h2⟩ := hr k e.symm
  rcases hn with q | ⟨q, cur, q2⟩
  · omega
  · rcases h2 with h2 | h2
    · exact q h2
    · exact h2 cur q2⟩
theorem Kp.ext {base P : Nat} {w w' : World} (x : Ext w w') : Kp base P w w' := Kp.of (x.grown none) (fun k e => by cases e)
theorem Kp.mut {base P : Nat} {w w' : World} (m : Mut P w w') (h : base ≤ P) : Kp base P w w' := Kp.of m.grown (fun k e => by cases e; exact ⟨h, Or.inl rfl⟩)
end Go.Proofs.Ytjjemnlknnnkbaa
