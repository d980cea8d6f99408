import Derived.Test.YtanbgpmbccianaaDDv
namespace Go.Proofs.Ytanbgpmbccianaa
open Go.ChangeShapes Go.RowKit
set_option linter.unusedSimpArgs false
set_option linter.unusedVariables false
variable {G : Gh} {s t : SS}

theorem SX.mono {w : World} {H H' b : Nat} (h : SX w H b G s) (hH : H ≤ H') : SX w H' b G s := ⟨SrcH.src h, Nat.lt_of_lt_of_le (SrcH.hb h) hH, fun k hk hl => Nat.lt_of_lt_of_le (SrcH.hg h k hk hl) hH⟩
/-- Lengths that a drawn view may have. -/
def InB (xs : List Int) : Prop := ∀ j, j < xs.length → -1 ≤ xs.getD j 0 ∧ xs.getD j 0 ≤ 4097
theorem InB.set {xs : List Int} (h : InB xs) (j : Nat) {x : Int} (hx : -1 ≤ x ∧ x ≤ 4097) : InB (xs.set j x) := fun k hk => by
  rw [List.length_set] at hk
  by_cases e : j < xs.length
  · rw [set_getD xs j x e k]
    split
    · exact hx
    · exact h k hk
  · rw [List.set_eq_of_length_le (by omega)]; exact h k hk
theorem InB.push {xs : List Int} (h : InB xs) {x : Int} (hx : -1 ≤ x ∧ x ≤ 4097) : InB (xs ++ [x]) := fun k hk => by
  by_cases e : k < xs.length
  · have : (xs ++ [x]).getD k 0 = xs.getD k 0 := by simp [List.getD_eq_getElem?_getD, List.getElem?_append_left e]
    rw [this]; exact h k e
  · have e2 : k = xs.length := by simp at hk; omega
    subst e2
    simpa [List.getD_eq_getElem?_getD] using hx
/-- A drawn view of any kind. -/
def DrawA (w : World) (b : Nat) (G : Gh) (r : V3 × SS) (e : Ending) (w' : World) : Prop := ∃ (sa sb : Option Addr) (ca cb : Nat), e = .returned (.agg #[.slice sa r.1.1.length ca, .slice sb r.1.2.1.length cb, .int .i64 r.1.2.2]) ∧ w'.ownsRow w.heap.size 2 1 (.slice sa r.1.1.length ca) r.1.1.length (r.1.1.map (Value.int .i64)) ∧ w'.ownsRow w.heap.size 2 1 (.slice sb r.1.2.1.length cb) r.1.2.1.length (r.1.2.1.map (Value.int .i64)) ∧ (r.1.1.length ≤ 5 ∧ r.1.2.1.length ≤ 5 ∧ InB r.1.1) ∧ ST w w' w.heap.size b G r.2
/-- Ahead of the return: the view in its box at B, the answer's box at w.heap.size. -/
structure EA (w W : World) (G : Gh) (s : SS) (b B : Nat) (vA vB : Value) (xs ss : List Int) (off : Int) : Prop where
  st : ST w W w.heap.size b G s
  a : W.ownsRow w.heap.size 2 1 vA xs.length (xs.map (Value.int .i64))
  c : W.ownsRow w.heap.size 2 1 vB ss.length (ss.map (Value.int .i64))
  c0 : W.cell? ⟨B, 0, none⟩ = some vA
  c1 : W.cell? ⟨B, 1, none⟩ = some vB
  c2 : W.cell? ⟨B, 2, none⟩ = some (.int .i64 off)
  rb : RB3 W w.heap.size
  tR : Ty W w.heap.size
theorem VB2.ea {w W : World} {b B : Nat} {vA vB : Value} {xs ss : List Int} {off : Int} (h : VB2 w W G s w.heap.size b w.heap.size B vA vB xs ss off) : EA w W G s b B vA vB xs ss off := ⟨h.st, h.dv.a, h.dv.c, h.c0, h.c1, h.c2, h.rb, h.tR⟩
theorem EA.done {w W : World} {b : Nat} {sa sb : Option Addr} {ca cb : Nat} {xs ss : List Int} {off : Int} (hs : ST w W w.heap.size b G s) (ha : W.ownsRow w.heap.size 2 1 (.slice sa xs.length ca) xs.length (xs.map (Value.int .i64))) (hc : W.ownsRow w.heap.size 2 1 (.slice sb ss.length cb) ss.length (ss.map (Value.int .i64))) (tR : Ty W w.heap.size) (hi : xs.length ≤ 5 ∧ ss.length ≤ 5 ∧ InB xs) {v0 v1 v2 : Value} :
    DrawA w b G ((xs, ss, off), s) (.returned (.agg #[.slice sa xs.length ca, .slice sb ss.length cb, .int .i64 off])) (((W.setCell ⟨w.heap.size, 0, none⟩ v0).setCell ⟨w.heap.size, 1, none⟩ v1).setCell ⟨w.heap.size, 2, none⟩ v2) := by
  have n1 := own_ty ha tR
  have n2 := own_ty hc tR
  have hle : w.heap.size ≤ w.heap.size := Nat.le_refl _
  exact ⟨sa, sb, ca, cb, rfl, ownsRow_setCell_other (ownsRow_setCell_other (ownsRow_setCell_other ha (a := ⟨w.heap.size, 0, none⟩) n1 _) (a := ⟨w.heap.size, 1, none⟩) n1 _) (a := ⟨w.heap.size, 2, none⟩) n1 _, ownsRow_setCell_other (ownsRow_setCell_other (ownsRow_setCell_other hc (a := ⟨w.heap.size, 0, none⟩) n2 _) (a := ⟨w.heap.size, 1, none⟩) n2 _) (a := ⟨w.heap.size, 2, none⟩) n2 _, hi, ((hs.setCell hle).setCell hle).setCell hle⟩
/-- A write into the box's own offset. -/
theorem VB2.setO {w W : World} {H b R B : Nat} {vA vB : Value} {xs ss : List Int} {off : Int} (h : VB2 w W G s H b R B vA vB xs ss off) (o : Int) : VB2 w (W.setCell ⟨B, 2, none⟩ (.int .i64 o)) G s H b R B vA vB xs ss o := by
  have h1 := h.hR
  have h2 := h.hB
  have m : Mut B W (W.setCell ⟨B, 2, none⟩ (.int .i64 o)) := (Mut.refl _ _).setCell _ _
  exact ⟨h.st.setCell (by omega), h.dv.other (own_ty h.dv.a h.tB) (own_ty h.dv.c h.tB), near (by omega) h.c0, near (by omega) h.c1, World.cell?_setCell_same _ _ _ h.c2, fun o => (m.fz _).trans (h.cf o), h.rb.mut m (by omega), h1, h2, h.tB.set, h.tR.set⟩
/-- A write into the shape. -/
theorem VB2.setA {w W : World} {b R B g n ca : Nat} {vB : Value} {xs ss : List Int} {off : Int} (h : VB2 w W G s w.heap.size b R B (.slice (some ⟨g, 0, none⟩) n ca) vB xs ss off) (j : Nat) (x : Int) : VB2 w (W.setCell ⟨g, j, none⟩ (.int .i64 x)) G s w.heap.size b R B (.slice (some ⟨g, 0, none⟩) n ca) vB (xs.set j x) ss off := by
  have m : Mut g W (W.setCell ⟨g, j, none⟩ (.int .i64 x)) := (Mut.refl _ _).setCell _ _
  have hg := (h.dv.a.lt g rfl).1
  have nB : B ≠ g := fun e => own_ty h.dv.a h.tB (by rw [e]; rfl)
  have nR : R ≠ g := fun e => own_ty h.dv.a h.tR (by rw [e]; rfl)
  have ho := h.dv.a
  obtain ⟨s', c', e⟩ := own_form2 ho
  injection e with e1 e2 e3
  subst e2
  have hd := h.dv.dj
  refine ⟨h.st.setCell hg, ⟨?_, ownsRow_setCell_other h.dv.c (a := ⟨g, j, none⟩) (fun e => ?_) _, hd⟩, m.box nB h.c0, m.box nB h.c1, m.box nB h.c2, fun o => (m.fz _).trans (h.cf o), h.rb.mut m nR, h.hR, h.hB, h.tB.set, h.tR.set⟩
  · rw [List.length_set, List.map_set]
    exact (ho.stored j (.int .i64 x)).1
  · rcases hd with hd | hd
    · cases hd
    · exact hd e.symm
/-- A write into the strides. -/
theorem VB2.setC {w W : World} {b R B g n cb : Nat} {vA : Value} {xs ss : List Int} {off : Int} (h : VB2 w W G s w.heap.size b R B vA (.slice (some ⟨g, 0, none⟩) n cb) xs ss off) (j : Nat) (x : Int) : VB2 w (W.setCell ⟨g, j, none⟩ (.int .i64 x)) G s w.heap.size b R B vA (.slice (some ⟨g, 0, none⟩) n cb) xs (ss.set j x) off := by
  have m : Mut g W (W.setCell ⟨g, j, none⟩ (.int .i64 x)) := (Mut.refl _ _).setCell _ _
  have hg := (h.dv.c.lt g rfl).1
  have nB : B ≠ g := fun e => own_ty h.dv.c h.tB (by rw [e]; rfl)
  have nR : R ≠ g := fun e => own_ty h.dv.c h.tR (by rw [e]; rfl)
  have ho := h.dv.c
  obtain ⟨s', c', e⟩ := own_form2 ho
  injection e with e1 e2 e3
  subst e2
  have hd := h.dv.dj
  refine ⟨h.st.setCell hg, ⟨ownsRow_setCell_other h.dv.a (a := ⟨g, j, none⟩) (fun e => ?_) _, ?_, hd⟩, m.box nB h.c0, m.box nB h.c1, m.box nB h.c2, fun o => (m.fz _).trans (h.cf o), h.rb.mut m nR, h.hR, h.hB, h.tB.set, h.tR.set⟩
  · rcases hd with hd | hd
    · rw [hd] at e; cases e
    · exact hd (by rw [e]; rfl)
  · rw [List.length_set, List.map_set]
    exact (ho.stored j (.int .i64 x)).1
theorem VI.inB {xs ss : List Int} (h : VI xs ss) : InB xs := fun j hj => by have := h.1.2.1 j hj; omega

/-- No view any more: the source and the answer's box. -/
structure L0 (w W : World) (G : Gh) (s : SS) (b : Nat) : Prop where
  st : ST w W w.heap.size b G s
  rb : RB3 W w.heap.size
  tR : Ty W w.heap.size
structure LA (w W : World) (G : Gh) (s : SS) (b : Nat) (vA : Value) (xs : List Int) : Prop where
  l : L0 w W G s b
  a : W.ownsRow w.heap.size 2 1 vA xs.length (xs.map (Value.int .i64))
structure LL (w W : World) (G : Gh) (s : SS) (b : Nat) (vA vB : Value) (xs ss : List Int) : Prop where
  l : L0 w W G s b
  a : W.ownsRow w.heap.size 2 1 vA xs.length (xs.map (Value.int .i64))
  c : W.ownsRow w.heap.size 2 1 vB ss.length (ss.map (Value.int .i64))
theorem L0.gb {w W W' : World} {b : Nat} (h : L0 w W G s b) (k : ST w W' w.heap.size b G t) (x : W.grownBy W' (some b)) : L0 w W' G t b := by
  have hb := h.st.bH
  exact ⟨k, h.rb.gb x (by omega), h.tR.gb x (by omega)⟩
theorem L0.bel {w W W' : World} {b : Nat} (h : L0 w W G s b) (x : Bel W W') : L0 w W' G s b := h.gb (h.st.bel x) (gb_bel b x)
theorem L0.next {w W : World} {b : Nat} (h : L0 w W G s b) (m : Int) :
    Calls Try.prog 13 #[.pointer (some ⟨b, 0, none⟩), .int .i64 m] W fun e W' => ∃ (v : Int) (t : SS), nextL G.ds s m = (v, t) ∧ e = .returned (.int .i64 v) ∧ (0 ≤ v ∧ (v < m ∨ v = 0)) ∧ L0 w W' G t b :=
  (h.st.next m).mono fun e W' hh => by
    obtain ⟨v, t, h0, h1, h2, h3, h4, h5⟩ := hh
    exact ⟨v, t, h0, h1, ⟨h2, h3⟩, h.gb h4 (gb_mut h5)⟩
theorem own_next {w W W' : World} {b n : Nat} {v : Value} {L : List Value} (h : W.ownsRow w.heap.size 2 1 v n L) (m : Mut b W W') (hb : b < w.heap.size) : W'.ownsRow w.heap.size 2 1 v n L :=
  own_mut h m (fun e => by have := (h.lt b e).1; omega)
theorem LA.next {w W : World} {b : Nat} {vA : Value} {xs : List Int} (h : LA w W G s b vA xs) (m : Int) :
    Calls Try.prog 13 #[.pointer (some ⟨b, 0, none⟩), .int .i64 m] W fun e W' => ∃ (v : Int) (t : SS), nextL G.ds s m = (v, t) ∧ e = .returned (.int .i64 v) ∧ (0 ≤ v ∧ (v < m ∨ v = 0)) ∧ LA w W' G t b vA xs :=
  (h.l.st.next m).mono fun e W' hh => by
    obtain ⟨v, t, h0, h1, h2, h3, h4, h5⟩ := hh
    exact ⟨v, t, h0, h1, ⟨h2, h3⟩, h.l.gb h4 (gb_mut h5), own_next h.a h5 h.l.st.bH⟩
theorem LL.next {w W : World} {b : Nat} {vA vB : Value} {xs ss : List Int} (h : LL w W G s b vA vB xs ss) (m : Int) :
    Calls Try.prog 13 #[.pointer (some ⟨b, 0, none⟩), .int .i64 m] W fun e W' => ∃ (v : Int) (t : SS), nextL G.ds s m = (v, t) ∧ e = .returned (.int .i64 v) ∧ (0 ≤ v ∧ (v < m ∨ v = 0)) ∧ LL w W' G t b vA vB xs ss :=
  (h.l.st.next m).mono fun e W' hh => by
    obtain ⟨v, t, h0, h1, h2, h3, h4, h5⟩ := hh
    exact ⟨v, t, h0, h1, ⟨h2, h3⟩, h.l.gb h4 (gb_mut h5), own_next h.a h5 h.l.st.bH, own_next h.c h5 h.l.st.bH⟩
theorem own_lits {W : World} {base : Nat} (A : Array Value) (L : List Int) (hA : A = (L.map (Value.int .i64)).toArray) (hb : base ≤ W.heap.size) (hl : L.length ≤ 100) : (W.alloc (.cells A 2)).ownsRow base 2 1 (.slice (some ⟨W.heap.size, 0, none⟩) L.length L.length) L.length (L.map (Value.int .i64)) := by
  subst hA
  exact ⟨by simp, Or.inr ⟨W.heap.size, L.length, _, rfl, hb, heap_alloc_new W _, Nat.le_refl _, by unfold maxLen; omega, by simp, by rw [List.take_of_length_le (by simp)]⟩⟩
theorem L0.lit {w W : World} {b : Nat} (h : L0 w W G s b) (A : Array Value) (L : List Int) (hA : A = (L.map (Value.int .i64)).toArray) (hl : L.length ≤ 100) : LA w (W.alloc (.cells A 2)) G s b (.slice (some ⟨W.heap.size, 0, none⟩) L.length L.length) L :=
  ⟨h.bel ((Ext.refl W).alloc _ 2).bl, own_lits A L hA h.st.sz hl⟩
theorem LA.lit {w W : World} {b : Nat} {vA : Value} {xs : List Int} (h : LA w W G s b vA xs) (A : Array Value) (L : List Int) (hA : A = (L.map (Value.int .i64)).toArray) (hl : L.length ≤ 100) (B : Nat) (hB : B = W.heap.size) : LL w (W.alloc (.cells A 2)) G s b vA (.slice (some ⟨B, 0, none⟩) L.length L.length) xs L := by
  subst hB
  exact ⟨h.l.bel ((Ext.refl W).alloc _ 2).bl, h.a.alloc _, own_lits A L hA h.l.st.sz hl⟩
theorem VB2.l0 {w W : World} {b B : Nat} {vA vB : Value} {xs ss : List Int} {off : Int} (h : VB2 w W G s w.heap.size b w.heap.size B vA vB xs ss off) : L0 w W G s b := ⟨h.st, h.rb, h.tR⟩
/-- One more length, one more stride. -/
theorem VB2.pushA {w W w3 : World} {b B : Nat} {vA vB v3 : Value} {xs ss : List Int} {off x : Int} (h : VB2 w W G s w.heap.size b w.heap.size B vA vB xs ss off)
    (hown : w3.ownsRow w.heap.size 2 1 v3 (xs.length + 1) (xs.map (Value.int .i64) ++ [.int .i64 x])) (hgrow : (W.alloc (.cells #[.int .i64 x] 2)).grownBy w3 vA.ownBlock) :
    w3.cell? ⟨B, 0, none⟩ = some vA ∧ (∀ o, w3.frozen? ⟨B, o, none⟩ = false) ∧ EA w (w3.setCell ⟨B, 0, none⟩ v3) G s b B v3 vB (xs ++ [x]) ss off := by
  have y : Ext W (W.alloc (.cells #[.int .i64 x] 2)) := (Ext.refl _).alloc _ _
  have nB := own_ty h.dv.a h.tB
  have nR := own_ty h.dv.a h.tR
  have cB : ∀ {o : Nat} {v : Value}, W.cell? ⟨B, o, none⟩ = some v → w3.cell? ⟨B, o, none⟩ = some v := fun hc => hgrow.cell (y.box hc) (fun e => nB e.symm)
  have cR : ∀ {o : Nat} {v : Value}, W.cell? ⟨w.heap.size, o, none⟩ = some v → w3.cell? ⟨w.heap.size, o, none⟩ = some v := fun hc => hgrow.cell (y.box hc) (fun e => nR e.symm)
  have hBl : B < (W.alloc (.cells #[.int .i64 x] 2)).heap.size := cell_lt (y.box h.c0)
  have hRl : w.heap.size < (W.alloc (.cells #[.int .i64 x] 2)).heap.size := cell_lt (y.box h.rb.r0)
  have hbB : w3.heap[B]? = W.heap[B]? := (hgrow.block B hBl (fun e => nB e.symm)).trans (y.bl.block B (cell_lt h.c0))
  have hbR : w3.heap[w.heap.size]? = W.heap[w.heap.size]? := (hgrow.block _ hRl (fun e => nR e.symm)).trans (y.bl.block _ (cell_lt h.rb.r0))
  have tB : Ty w3 B := by obtain ⟨c, e⟩ := h.tB; exact ⟨c, hbB.trans e⟩
  have tR : Ty w3 w.heap.size := by obtain ⟨c, e⟩ := h.tR; exact ⟨c, hbR.trans e⟩
  have m : Mut B w3 (w3.setCell ⟨B, 0, none⟩ v3) := (Mut.refl _ _).setCell _ _
  have hB := h.hB
  have hc3 : w3.ownsRow w.heap.size 2 1 vB ss.length (ss.map (Value.int .i64)) := (h.dv.c.alloc _).kept hgrow (by
    rcases h.dv.dj with q | q
    · rw [q]
      cases e : vB.ownBlock with
      | none => exact Or.inl rfl
      | some g => exact Or.inr (by simp)
    · exact Or.inr fun e => q e.symm)
  refine ⟨cB h.c0, fun o => (World.frozen?_of_block hbB).trans (h.cf o), ((h.st.alloc _ _).own hgrow (fun j hj => (h.dv.a.lt j hj).1)).setCell (by omega), ?_, ownsRow_setCell_other hc3 (a := ⟨B, 0, none⟩) (own_ty hc3 tB) _, World.cell?_setCell_same _ _ _ (cB h.c0), near (by omega) (cB h.c1), near (by omega) (cB h.c2), RB3.mut ⟨cR h.rb.r0, cR h.rb.r1, cR h.rb.r2, fun o => (World.frozen?_of_block hbR).trans (h.rb.rf o)⟩ m (by omega), tR.set⟩
  rw [List.length_append, List.map_append]
  exact ownsRow_setCell_other hown (a := ⟨B, 0, none⟩) (own_ty hown tB) _
theorem VB2.pushC {w W w3 : World} {b B : Nat} {vA vB v3 : Value} {xs ss : List Int} {off x : Int} (h : VB2 w W G s w.heap.size b w.heap.size B vA vB xs ss off)
    (hown : w3.ownsRow w.heap.size 2 1 v3 (ss.length + 1) (ss.map (Value.int .i64) ++ [.int .i64 x])) (hgrow : (W.alloc (.cells #[.int .i64 x] 2)).grownBy w3 vB.ownBlock) :
    w3.cell? ⟨B, 1, none⟩ = some vB ∧ (∀ o, w3.frozen? ⟨B, o, none⟩ = false) ∧ EA w (w3.setCell ⟨B, 1, none⟩ v3) G s b B vA v3 xs (ss ++ [x]) off := by
  have y : Ext W (W.alloc (.cells #[.int .i64 x] 2)) := (Ext.refl _).alloc _ _
  have nB := own_ty h.dv.c h.tB
  have nR := own_ty h.dv.c h.tR
  have cB : ∀ {o : Nat} {v : Value}, W.cell? ⟨B, o, none⟩ = some v → w3.cell? ⟨B, o, none⟩ = some v := fun hc => hgrow.cell (y.box hc) (fun e => nB e.symm)
  have cR : ∀ {o : Nat} {v : Value}, W.cell? ⟨w.heap.size, o, none⟩ = some v → w3.cell? ⟨w.heap.size, o, none⟩ = some v := fun hc => hgrow.cell (y.box hc) (fun e => nR e.symm)
  have hBl : B < (W.alloc (.cells #[.int .i64 x] 2)).heap.size := cell_lt (y.box h.c0)
  have hRl : w.heap.size < (W.alloc (.cells #[.int .i64 x] 2)).heap.size := cell_lt (y.box h.rb.r0)
  have hbB : w3.heap[B]? = W.heap[B]? := (hgrow.block B hBl (fun e => nB e.symm)).trans (y.bl.block B (cell_lt h.c0))
  have hbR : w3.heap[w.heap.size]? = W.heap[w.heap.size]? := (hgrow.block _ hRl (fun e => nR e.symm)).trans (y.bl.block _ (cell_lt h.rb.r0))
  have tB : Ty w3 B := by obtain ⟨c, e⟩ := h.tB; exact ⟨c, hbB.trans e⟩
  have tR : Ty w3 w.heap.size := by obtain ⟨c, e⟩ := h.tR; exact ⟨c, hbR.trans e⟩
  have m : Mut B w3 (w3.setCell ⟨B, 1, none⟩ v3) := (Mut.refl _ _).setCell _ _
  have hB := h.hB
  have ha3 : w3.ownsRow w.heap.size 2 1 vA xs.length (xs.map (Value.int .i64)) := (h.dv.a.alloc _).kept hgrow (by
    rcases h.dv.dj with q | q
    · exact Or.inl q
    · exact Or.inr q)
  refine ⟨cB h.c1, fun o => (World.frozen?_of_block hbB).trans (h.cf o), ((h.st.alloc _ _).own hgrow (fun j hj => (h.dv.c.lt j hj).1)).setCell (by omega), ownsRow_setCell_other ha3 (a := ⟨B, 1, none⟩) (own_ty ha3 tB) _, ?_, near (by omega) (cB h.c0), World.cell?_setCell_same _ _ _ (cB h.c1), near (by omega) (cB h.c2), RB3.mut ⟨cR h.rb.r0, cR h.rb.r1, cR h.rb.r2, fun o => (World.frozen?_of_block hbR).trans (h.rb.rf o)⟩ m (by omega), tR.set⟩
  rw [List.length_append, List.map_append]
  exact ownsRow_setCell_other hown (a := ⟨B, 1, none⟩) (own_ty hown tB) _
theorem ea4 {w W : World} {b B : Nat} {s3 sb : Option Addr} {c3 cb : Nat} {xs ss : List Int} {off : Int} (hi : VI xs ss) (h : EA w W G s b B (.slice s3 (xs.length + 1) c3) (.slice sb ss.length cb) (xs ++ [1]) ss off) {v0 v1 v2 : Value} :
    DrawA w b G ((xs ++ [1], ss, off), s) (.returned (.agg #[.slice s3 (xs.length + 1) c3, .slice sb ss.length cb, .int .i64 off])) (((W.setCell ⟨w.heap.size, 0, none⟩ v0).setCell ⟨w.heap.size, 1, none⟩ v1).setCell ⟨w.heap.size, 2, none⟩ v2) := by
  have e : xs.length + 1 = (xs ++ [(1 : Int)]).length := by simp
  have ha := h.a
  have h4 := hi.1.1
  have h5 := hi.2.1
  rw [e] at ha ⊢
  exact EA.done h.st ha h.c h.tR ⟨by simp; omega, by omega, hi.inB.push (by omega)⟩
theorem ea5 {w W : World} {b B : Nat} {s3 sa : Option Addr} {c3 ca : Nat} {xs ss : List Int} {off : Int} (hi : VI xs ss) (h : EA w W G s b B (.slice sa xs.length ca) (.slice s3 (ss.length + 1) c3) xs (ss ++ [1]) off) {v0 v1 v2 : Value} :
    DrawA w b G ((xs, ss ++ [1], off), s) (.returned (.agg #[.slice sa xs.length ca, .slice s3 (ss.length + 1) c3, .int .i64 off])) (((W.setCell ⟨w.heap.size, 0, none⟩ v0).setCell ⟨w.heap.size, 1, none⟩ v1).setCell ⟨w.heap.size, 2, none⟩ v2) := by
  have e : ss.length + 1 = (ss ++ [(1 : Int)]).length := by simp
  have hc := h.c
  have h4 := hi.1.1
  have h5 := hi.2.1
  rw [e] at hc ⊢
  exact EA.done h.st h.a hc h.tR ⟨by omega, by simp; omega, hi.inB⟩
theorem eaa {w W : World} {b B j : Nat} {x : Int} {sa sb : Option Addr} {ca cb : Nat} {xs ss : List Int} {off : Int} (hx : -1 ≤ x ∧ x ≤ 4097) (hi : VI xs ss) (h : VB2 w W G s w.heap.size b w.heap.size B (.slice sa xs.length ca) (.slice sb ss.length cb) (xs.set j x) ss off) {v0 v1 v2 : Value} :
    DrawA w b G ((xs.set j x, ss, off), s) (.returned (.agg #[.slice sa xs.length ca, .slice sb ss.length cb, .int .i64 off])) (((W.setCell ⟨w.heap.size, 0, none⟩ v0).setCell ⟨w.heap.size, 1, none⟩ v1).setCell ⟨w.heap.size, 2, none⟩ v2) := by
  have e : xs.length = (xs.set j x).length := by simp
  have ha := h.dv.a
  have h4 := hi.1.1
  have h5 := hi.2.1
  rw [show (Value.slice sa xs.length ca) = .slice sa (xs.set j x).length ca by rw [← e]] at ha ⊢
  exact EA.done h.st ha h.dv.c h.tR ⟨by simp; omega, by omega, hi.inB.set j hx⟩
theorem eac {w W : World} {b B j : Nat} {x : Int} {sa sb : Option Addr} {ca cb : Nat} {xs ss : List Int} {off : Int} (_ : True) (hi : VI xs ss) (h : VB2 w W G s w.heap.size b w.heap.size B (.slice sa xs.length ca) (.slice sb ss.length cb) xs (ss.set j x) off) {v0 v1 v2 : Value} :
    DrawA w b G ((xs, ss.set j x, off), s) (.returned (.agg #[.slice sa xs.length ca, .slice sb ss.length cb, .int .i64 off])) (((W.setCell ⟨w.heap.size, 0, none⟩ v0).setCell ⟨w.heap.size, 1, none⟩ v1).setCell ⟨w.heap.size, 2, none⟩ v2) := by
  have e : ss.length = (ss.set j x).length := by simp
  have hc := h.dv.c
  have h4 := hi.1.1
  have h5 := hi.2.1
  rw [show (Value.slice sb ss.length cb) = .slice sb (ss.set j x).length cb by rw [← e]] at hc ⊢
  exact EA.done h.st h.dv.a hc h.tR ⟨by omega, by simp; omega, hi.inB⟩
theorem dv_swap {w : World} {H : Nat} {vA vB : Value} {xs ss : List Int} (h : DV w H vA vB xs ss) : DV w H vB vA ss xs := ⟨h.c, h.a, by
  rcases h.dj with q | q
  · cases e : vB.ownBlock with
    | none => exact Or.inl rfl
    | some g => rw [q]; exact Or.inr (by simp)
  · exact Or.inr fun e => q e.symm⟩
theorem szA {w W : World} {H b R B : Nat} {vA vB : Value} {xs ss : List Int} {off x : Int} (h : VB2 w W G s H b R B vA vB xs ss off) : w.heap.size ≤ (W.alloc (.cells #[.int .i64 x] 2)).heap.size := by
  have h1 : W.heap.size ≤ (W.alloc (.cells #[.int .i64 x] 2)).heap.size := Below.size ((Ext.refl W).alloc #[.int .i64 x] 2).bl
  exact Nat.le_trans h.st.sz h1
theorem own_at {W : World} {base g n m c : Nat} {L : List Int} (h : W.ownsRow base 2 1 (.slice (some ⟨g, 0, none⟩) n c) m (L.map (Value.int .i64))) (j : Nat) (hj : j < L.length) : W.cell? ⟨g, j, none⟩ = some (.int .i64 (L.getD j 0)) ∧ ∀ o, W.frozen? ⟨g, o, none⟩ = false := by
  obtain ⟨s', c', e⟩ := own_form2 h
  injection e with e1 e2 e3
  subst e2
  have := (row_of_own h).1 j hj
  rw [Nat.zero_add] at this
  exact ⟨this, fun o => h.frozenAt o⟩
theorem DrawA.drew {w W : World} {b : Nat} {r : V3 × SS} {e : Ending} (h : DrawA w b G r e W) : DrawA w b G r e W.drew := by
  obtain ⟨sa, sb, ca, cb, h1, h2, h3, h4, h5⟩ := h
  exact ⟨sa, sb, ca, cb, h1, own_drew h2, own_drew h3, h4, h5.drew⟩
theorem inB_lit {L : List Int} (h : (L.all fun x => decide (-1 ≤ x ∧ x ≤ 4097)) = true) : InB L := fun j hj => by
  have := (List.all_eq_true.1 h) _ (List.getElem_mem hj)
  rw [List.getD_eq_getElem?_getD, List.getElem?_eq_getElem hj]
  exact of_decide_eq_true this

/-- l2DrawAny, as numbers. -/
def anyD (ds : List Int) (s : SS) : V3 × SS :=
  match viewD ds s with
  | (v, s1) => match nextL ds s1 50 with
    | (k, s2) =>
      if k = 0 then (match nextL ds s2 2 with | (x, s3) => (([4096], [1], x), s3))
      else if k = 1 then (match nextL ds s2 2 with | (x, s3) => match nextL ds s3 2 with | (y, s4) => (([0, 5], [4096 + x, -4096], 4096 + y), s4))
      else if k = 2 then (match nextL ds s2 2 with | (x, s3) => (([64, 64 + x], [64, 1], 0), s3))
      else if k = 3 then (([4096, 4096, 0, 4096], [1, 1, 1, 1], 0), s2)
      else if k = 4 then ((v.1 ++ [1], v.2.1, v.2.2), s2)
      else if k = 5 then ((v.1, v.2.1 ++ [1], v.2.2), s2)
      else if k = 6 then ((v.1, v.2.1, -1), s2)
      else if k = 7 then (match nextL ds s2 3 with | (x, s3) => ((v.1, v.2.1, 4096 - x), s3))
      else if 12 ≤ k ∨ v.1.length = 0 then (v, s2)
      else match nextL ds s2 v.1.length with
        | (i, s3) =>
          if k = 8 then ((v.1, v.2.1.set i.toNat (-v.2.1.getD i.toNat 0), v.2.2), s3)
          else if k = 9 then ((v.1.set i.toNat (-1), v.2.1, v.2.2), s3)
          else if k = 10 then (match nextL ds s3 6000 with | (x, s4) => ((v.1, v.2.1.set i.toNat (x - 3000), v.2.2), s4))
          else (match nextL ds s3 2 with | (x, s4) => ((v.1.set i.toNat (4096 + x), v.2.1, v.2.2), s4))

set_option maxRecDepth 100000 in
set_option maxHeartbeats 4000000 in
theorem drawAny_any {w : World} {b : Nat} (hs : SX w w.heap.size b G s) {r : V3 × SS} (hr : anyD G.ds s = r) : Calls Try.prog 12 #[.pointer (some ⟨b, 0, none⟩)] w fun e w' => DrawA w b G r e w' := by
  have HR := hide hr
  clear hr
  obtain ⟨i0, hi0, hz0, hz1, hz2⟩ := info_parts info2
  have R0 := hide (RB3.make w w.heap.size rfl)
  have Y0 := hide (Ty.new w #[.slice none 0 0, .slice none 0 0, .int .i64 0] w.heap.size rfl)
  have S0 := hide ((ST.start hs (Nat.le_refl _)).alloc #[.slice none 0 0, .slice none 0 0, .int .i64 0] 25)
  have hbw : b < w.heap.size := hs.hb
  clear hs
  go_enter Try.func12, Try.ntmps12
  go_wp2_with fail
  generalize w.alloc (.cells #[.slice none 0 0, .slice none 0 0, .int .i64 0] 25) = V0 at R0 Y0 S0 ⊢
  rcases hX : viewD G.ds s with ⟨⟨xs, ss, off⟩, s1⟩
  refine (drawVw_any (ST.start S0.out.src S0.out.sz) hX).mono ?_
  rintro e W1 ⟨vA, vB, rfl, hd, hvi, hst⟩
  dsimp only at hd hvi hst ⊢
  have HX := hide hX
  clear hX
  obtain ⟨sa, sb, ca, cb, rfl, rfl⟩ := hd.sl
  have A1 := hide (VB2.make off (S0.out.trans hst) hd (R0.out.gb hst.gb (by omega)) (Nat.le_refl _) (Y0.out.gb hst.gb (by omega)))
  have HI := hide hvi
  have hl4 := hvi.1.1
  have hl5 : Hid (ss.length = xs.length) := hvi.2.1
  have hl6 : ss.length ≤ 4 := by have := hvi.2.1; omega
  clear hd hvi hst S0 R0 Y0
  go_wp2_with fail
  generalize hB1 : W1.heap.size = B at A1 ⊢
  generalize W1.alloc (.cells #[.slice sa xs.length ca, .slice sb ss.length cb, .int .i64 off] 25) = V1 at A1 ⊢
  clear hB1
  refine (A1.out.next 50).mono ?_
  rintro e W2 ⟨k, s2, Q2, rfl, bk, a2⟩
  have A2 := hide a2
  have R2 := hide Q2
  clear Q2
  have s0 := a2.c0
  clear a2 A1
  rcases (show k = 0 ∨ k = 1 ∨ k = 2 ∨ k = 3 ∨ k = 4 ∨ k = 5 ∨ k = 6 ∨ k = 7 ∨ (8 ≤ k ∧ k < 12) ∨ 12 ≤ k by omega) with rfl | rfl | rfl | rfl | rfl | rfl | rfl | rfl | hk | hk
  · have L1 := hide ((A2.out.l0.lit #[.int .i64 4096] [4096] rfl (by simp)).lit #[.int .i64 1] [1] rfl (by simp) (W2.heap.size + 1) (by simp))
    go_wp2_with fail
    refine (L1.out.next 2).mono ?_
    rintro e W3 ⟨v3, s3, Q3, rfl, b3, l3⟩
    have R3 := hide Q3
    clear Q3
    have L3 := hide l3
    clear l3 L1
    have r0 := L3.out.l.rb.r0
    have r1 := L3.out.l.rb.r1
    have r2 := L3.out.l.rb.r2
    have rf := L3.out.l.rb.rf
    have er : r = (([4096], [1], v3), s3) := by rw [← HR.out]; simp [anyD, HX.out, R2.out, R3.out]
    subst er
    go_wp2
    exact bodyPost_ret (v := .agg #[.slice (some ⟨W2.heap.size, 0, none⟩) 1 1, .slice (some ⟨W2.heap.size + 1, 0, none⟩) 1 1, .int .i64 v3]) (by simp [results, Try.results12, go_sem, set3_0 r0, set3_1 r1, set3_2 r2]) rfl (EA.done (xs := [4096]) (ss := [1]) L3.out.l.st L3.out.a L3.out.c L3.out.l.tR ⟨by simp, by simp, inB_lit rfl⟩)
  · have L1 := hide (A2.out.l0.lit #[.int .i64 0, .int .i64 5] [0, 5] rfl (by simp))
    go_wp2_with fail
    refine (L1.out.next 2).mono ?_
    rintro e W3 ⟨v3, s3, Q3, rfl, b3, l3⟩
    have R3 := hide Q3
    clear Q3
    have L3 := hide (l3.lit #[.int .i64 (4096 + v3), .int .i64 (-4096)] [4096 + v3, -4096] rfl (by simp) W3.heap.size rfl)
    clear l3 L1
    go_wp2_with fail
    refine (L3.out.next 2).mono ?_
    rintro e W4 ⟨v4, s4, Q4, rfl, b4, l4⟩
    have R4 := hide Q4
    clear Q4
    have L4 := hide l4
    clear l4 L3
    have r0 := L4.out.l.rb.r0
    have r1 := L4.out.l.rb.r1
    have r2 := L4.out.l.rb.r2
    have rf := L4.out.l.rb.rf
    have er : r = (([0, 5], [4096 + v3, -4096], 4096 + v4), s4) := by rw [← HR.out]; simp [anyD, HX.out, R2.out, R3.out, R4.out]
    subst er
    go_wp2
    exact bodyPost_ret (v := .agg #[.slice (some ⟨W2.heap.size, 0, none⟩) 2 2, .slice (some ⟨W3.heap.size, 0, none⟩) 2 2, .int .i64 (4096 + v4)]) (by simp [results, Try.results12, go_sem, set3_0 r0, set3_1 r1, set3_2 r2]) rfl (EA.done (xs := [0, 5]) (ss := [4096 + v3, -4096]) L4.out.l.st L4.out.a L4.out.c L4.out.l.tR ⟨by simp, by simp, inB_lit rfl⟩)
  · have L1 := hide A2.out.l0
    go_wp2_with fail
    refine (L1.out.next 2).mono ?_
    rintro e W3 ⟨v3, s3, Q3, rfl, b3, l3⟩
    have R3 := hide Q3
    clear Q3
    have L3 := hide ((l3.lit #[.int .i64 64, .int .i64 (64 + v3)] [64, 64 + v3] rfl (by simp)).lit #[.int .i64 64, .int .i64 1] [64, 1] rfl (by simp) (W3.heap.size + 1) (by simp))
    clear l3 L1
    have r0 := L3.out.l.rb.r0
    have r1 := L3.out.l.rb.r1
    have r2 := L3.out.l.rb.r2
    have rf := L3.out.l.rb.rf
    have er : r = (([64, 64 + v3], [64, 1], 0), s3) := by rw [← HR.out]; simp [anyD, HX.out, R2.out, R3.out]
    subst er
    go_wp2
    exact bodyPost_ret (v := .agg #[.slice (some ⟨W3.heap.size, 0, none⟩) 2 2, .slice (some ⟨W3.heap.size + 1, 0, none⟩) 2 2, .int .i64 0]) (by simp [results, Try.results12, go_sem, set3_0 r0, set3_1 r1, set3_2 r2]) rfl (EA.done (xs := [64, 64 + v3]) (ss := [64, 1]) L3.out.l.st L3.out.a L3.out.c L3.out.l.tR ⟨by simp, by simp, inB_lit (by simp; omega)⟩)
  · have L3 := hide ((A2.out.l0.lit #[.int .i64 4096, .int .i64 4096, .int .i64 0, .int .i64 4096] [4096, 4096, 0, 4096] rfl (by simp)).lit #[.int .i64 1, .int .i64 1, .int .i64 1, .int .i64 1] [1, 1, 1, 1] rfl (by simp) (W2.heap.size + 1) (by simp))
    have r0 := L3.out.l.rb.r0
    have r1 := L3.out.l.rb.r1
    have r2 := L3.out.l.rb.r2
    have rf := L3.out.l.rb.rf
    have er : r = (([4096, 4096, 0, 4096], [1, 1, 1, 1], 0), s2) := by rw [← HR.out]; simp [anyD, HX.out, R2.out]
    subst er
    go_wp2
    exact bodyPost_ret (v := .agg #[.slice (some ⟨W2.heap.size, 0, none⟩) 4 4, .slice (some ⟨W2.heap.size + 1, 0, none⟩) 4 4, .int .i64 0]) (by simp [results, Try.results12, go_sem, set3_0 r0, set3_1 r1, set3_2 r2]) rfl (EA.done (xs := [4096, 4096, 0, 4096]) (ss := [1, 1, 1, 1]) L3.out.l.st L3.out.a L3.out.c L3.out.l.tR ⟨by simp, by simp, inB_lit rfl⟩)
  · have er : r = ((xs ++ [1], ss, off), s2) := by rw [← HR.out]; simp [anyD, HX.out, R2.out]
    subst er
    go_wp2_with (at_builtin; (refine wpList_append_own _ rfl _ _ 23 rfl w.heap.size 2 i0 (.int .i64 0) 1 8 Try.underlying23 hi0 hz0 hz1 hz2 rfl (by decide) _ _ _ rfl (A2.out.dv.a.alloc _) ⟨W2.heap.size, 0, none⟩ 1 1 [.int .i64 1] rfl rfl (cell_one_new _ _ _) (one_val _) (by unfold maxLen; omega) (by omega) (szA A2.out) ?_); intro v3 w3 hown3 hgrow3 hnil3; obtain ⟨q0, qf, hE⟩ := A2.out.pushA hown3 hgrow3; obtain ⟨s3, c3, rfl⟩ := own_form2 hown3; have HE := hide hE; clear hE hown3 hgrow3 hnil3; have c0 := HE.out.c0; have c1 := HE.out.c1; have c2 := HE.out.c2; have r0 := HE.out.rb.r0; have r1 := HE.out.rb.r1; have r2 := HE.out.rb.r2; have rf := HE.out.rb.rf)
    all_goals exact bodyPost_ret (v := .agg #[.slice s3 (xs.length + 1) c3, .slice sb ss.length cb, .int .i64 off]) (by simp [results, Try.results12, go_sem, set3_0 r0, set3_1 r1, set3_2 r2]) rfl (ea4 HI.out HE.out)
  · have er : r = ((xs, ss ++ [1], off), s2) := by rw [← HR.out]; simp [anyD, HX.out, R2.out]
    subst er
    have s1' := A2.out.c1
    go_wp2_with (at_builtin; (refine wpList_append_own _ rfl _ _ 23 rfl w.heap.size 2 i0 (.int .i64 0) 1 8 Try.underlying23 hi0 hz0 hz1 hz2 rfl (by decide) _ _ _ rfl (A2.out.dv.c.alloc _) ⟨W2.heap.size, 0, none⟩ 1 1 [.int .i64 1] rfl rfl (cell_one_new _ _ _) (one_val _) (by unfold maxLen; omega) (by omega) (szA A2.out) ?_); intro v3 w3 hown3 hgrow3 hnil3; obtain ⟨q0, qf, hE⟩ := A2.out.pushC hown3 hgrow3; obtain ⟨s3, c3, rfl⟩ := own_form2 hown3; have HE := hide hE; clear hE hown3 hgrow3 hnil3; have c0 := HE.out.c0; have c1 := HE.out.c1; have c2 := HE.out.c2; have r0 := HE.out.rb.r0; have r1 := HE.out.rb.r1; have r2 := HE.out.rb.r2; have rf := HE.out.rb.rf)
    all_goals exact bodyPost_ret (v := .agg #[.slice sa xs.length ca, .slice s3 (ss.length + 1) c3, .int .i64 off]) (by simp [results, Try.results12, go_sem, set3_0 r0, set3_1 r1, set3_2 r2]) rfl (ea5 HI.out HE.out)
  · have cf := A2.out.cf
    have c2' := A2.out.c2
    have A3 := hide (A2.out.setO (-1))
    have c0 := A3.out.c0
    have c1 := A3.out.c1
    have c2 := A3.out.c2
    have r0 := A3.out.rb.r0
    have r1 := A3.out.rb.r1
    have r2 := A3.out.rb.r2
    have rf := A3.out.rb.rf
    have er : r = ((xs, ss, -1), s2) := by rw [← HR.out]; simp [anyD, HX.out, R2.out]
    subst er
    go_wp2
    all_goals exact bodyPost_ret (v := .agg #[.slice sa xs.length ca, .slice sb ss.length cb, .int .i64 (-1)]) (by simp [results, Try.results12, go_sem, set3_0 r0, set3_1 r1, set3_2 r2]) rfl (EA.done A3.out.st A3.out.dv.a A3.out.dv.c A3.out.tR ⟨by first | omega | (simp; omega), by first | omega | (simp; omega), HI.out.inB⟩)
  · go_wp2_with fail
    refine (A2.out.next 3).mono ?_
    rintro e W3 ⟨v3, s3, Q3, rfl, b3, a3⟩
    have R3 := hide Q3
    clear Q3
    have cf := a3.cf
    have c2' := a3.c2
    have A3 := hide (a3.setO (4096 - v3))
    clear a3
    have c0 := A3.out.c0
    have c1 := A3.out.c1
    have c2 := A3.out.c2
    have r0 := A3.out.rb.r0
    have r1 := A3.out.rb.r1
    have r2 := A3.out.rb.r2
    have rf := A3.out.rb.rf
    have er : r = ((xs, ss, 4096 - v3), s3) := by rw [← HR.out]; simp [anyD, HX.out, R2.out, R3.out]
    subst er
    go_wp2
    all_goals exact bodyPost_ret (v := .agg #[.slice sa xs.length ca, .slice sb ss.length cb, .int .i64 (4096 - v3)]) (by simp [results, Try.results12, go_sem, set3_0 r0, set3_1 r1, set3_2 r2]) rfl (EA.done A3.out.st A3.out.dv.a A3.out.dv.c A3.out.tR ⟨by first | omega | (simp; omega), by first | omega | (simp; omega), HI.out.inB⟩)
  · rcases (show xs.length = 0 ∨ 0 < xs.length by omega) with hd0 | hd0
    · have dd : decide ((0 : Int) < (xs.length : Int)) = false := decide_eq_false (by omega)
      have hdn : ¬ (0 : Int) < (xs.length : Int) := by omega
      have HD0 := hide hd0
      clear hd0
      rcases (show k = 8 ∨ k = 9 ∨ k = 10 ∨ k = 11 by omega) with rfl | rfl | rfl | rfl
      · have c0 := A2.out.c0
        have c1 := A2.out.c1
        have c2 := A2.out.c2
        have r0 := A2.out.rb.r0
        have r1 := A2.out.rb.r1
        have r2 := A2.out.rb.r2
        have rf := A2.out.rb.rf
        have er : r = ((xs, ss, off), s2) := by rw [← HR.out]; simp [anyD, HX.out, R2.out, HD0.out, List.eq_nil_of_length_eq_zero HD0.out]
        subst er
        go_wp2
        all_goals exact bodyPost_ret (v := .agg #[.slice sa xs.length ca, .slice sb ss.length cb, .int .i64 off]) (by simp [results, Try.results12, go_sem, set3_0 r0, set3_1 r1, set3_2 r2]) rfl (EA.done A2.out.st A2.out.dv.a A2.out.dv.c A2.out.tR ⟨by first | omega | (simp; omega), by first | omega | (simp; omega), HI.out.inB⟩)
      · have c0 := A2.out.c0
        have c1 := A2.out.c1
        have c2 := A2.out.c2
        have r0 := A2.out.rb.r0
        have r1 := A2.out.rb.r1
        have r2 := A2.out.rb.r2
        have rf := A2.out.rb.rf
        have er : r = ((xs, ss, off), s2) := by rw [← HR.out]; simp [anyD, HX.out, R2.out, HD0.out, List.eq_nil_of_length_eq_zero HD0.out]
        subst er
        go_wp2
        all_goals exact bodyPost_ret (v := .agg #[.slice sa xs.length ca, .slice sb ss.length cb, .int .i64 off]) (by simp [results, Try.results12, go_sem, set3_0 r0, set3_1 r1, set3_2 r2]) rfl (EA.done A2.out.st A2.out.dv.a A2.out.dv.c A2.out.tR ⟨by first | omega | (simp; omega), by first | omega | (simp; omega), HI.out.inB⟩)
      · have c0 := A2.out.c0
        have c1 := A2.out.c1
        have c2 := A2.out.c2
        have r0 := A2.out.rb.r0
        have r1 := A2.out.rb.r1
        have r2 := A2.out.rb.r2
        have rf := A2.out.rb.rf
        have er : r = ((xs, ss, off), s2) := by rw [← HR.out]; simp [anyD, HX.out, R2.out, HD0.out, List.eq_nil_of_length_eq_zero HD0.out]
        subst er
        go_wp2
        all_goals exact bodyPost_ret (v := .agg #[.slice sa xs.length ca, .slice sb ss.length cb, .int .i64 off]) (by simp [results, Try.results12, go_sem, set3_0 r0, set3_1 r1, set3_2 r2]) rfl (EA.done A2.out.st A2.out.dv.a A2.out.dv.c A2.out.tR ⟨by first | omega | (simp; omega), by first | omega | (simp; omega), HI.out.inB⟩)
      · have c0 := A2.out.c0
        have c1 := A2.out.c1
        have c2 := A2.out.c2
        have r0 := A2.out.rb.r0
        have r1 := A2.out.rb.r1
        have r2 := A2.out.rb.r2
        have rf := A2.out.rb.rf
        have er : r = ((xs, ss, off), s2) := by rw [← HR.out]; simp [anyD, HX.out, R2.out, HD0.out, List.eq_nil_of_length_eq_zero HD0.out]
        subst er
        go_wp2
        all_goals exact bodyPost_ret (v := .agg #[.slice sa xs.length ca, .slice sb ss.length cb, .int .i64 off]) (by simp [results, Try.results12, go_sem, set3_0 r0, set3_1 r1, set3_2 r2]) rfl (EA.done A2.out.st A2.out.dv.a A2.out.dv.c A2.out.tR ⟨by first | omega | (simp; omega), by first | omega | (simp; omega), HI.out.inB⟩)
    · have dd : decide ((0 : Int) < (xs.length : Int)) = true := decide_eq_true (by omega)
      have hdn : (0 : Int) < (xs.length : Int) := by omega
      rcases (show k = 8 ∨ k = 9 ∨ k = 10 ∨ k = 11 by omega) with rfl | rfl | rfl | rfl
      · go_wp2_with fail
        refine (A2.out.next (xs.length : Int)).mono ?_
        rintro e W3 ⟨v3, s3, Q3, rfl, b3, a3⟩
        have R3 := hide Q3
        clear Q3
        obtain ⟨j, hj⟩ : ∃ j : Nat, v3 = (j : Int) := ⟨v3.toNat, by omega⟩
        subst hj
        have hjx : j < xs.length := by omega
        have HNE : Hid (¬ xs = []) := fun e => by rw [e] at hjx; simp at hjx
        have hjs : Hid (j < ss.length) := by show j < ss.length; rw [hl5.out]; exact hjx
        have j0 : (0 : Int) ≤ (j : Int) := Int.natCast_nonneg _
        have j1 : (j : Int) < (xs.length : Int) := by omega
        have j2 : (j : Int) < (ss.length : Int) := by have := hjs.out; omega
        have A3 := hide a3
        clear a3 A2
        obtain ⟨g, cg, hv, hg, hc, hf⟩ := (dv_swap A3.out.dv).at j hjs.out
        have hsb : sb = some ⟨g, 0, none⟩ := by injection hv
        subst hsb
        have hin := HI.out.2.2 j hjs.out
        generalize hgx : ss.getD j 0 = x at hc hin
        have AS := hide (A3.out.setC j (-x))
        have t0 := A3.out.c1
        have s0' := A3.out.c0
        have er : r = ((xs, ss.set j (-x), off), s3) := by rw [← HR.out]; simp [anyD, HX.out, R2.out, HNE.out, R3.out, ← hgx]
        subst er
        clear hv hgx
        go_wp2_with fail
        go_region
        all_goals
          have c0 := AS.out.c0
          have c1 := AS.out.c1
          have c2 := AS.out.c2
          have r0 := AS.out.rb.r0
          have r1 := AS.out.rb.r1
          have r2 := AS.out.rb.r2
          have rf := AS.out.rb.rf
          go_wp2
          all_goals exact bodyPost_ret (v := .agg #[.slice sa xs.length ca, .slice (some ⟨g, 0, none⟩) ss.length cb, .int .i64 off]) (by simp [results, Try.results12, go_sem, set3_0 r0, set3_1 r1, set3_2 r2]) rfl (DrawA.drew <| eac trivial HI.out AS.out)
      · go_wp2_with fail
        refine (A2.out.next (xs.length : Int)).mono ?_
        rintro e W3 ⟨v3, s3, Q3, rfl, b3, a3⟩
        have R3 := hide Q3
        clear Q3
        obtain ⟨j, hj⟩ : ∃ j : Nat, v3 = (j : Int) := ⟨v3.toNat, by omega⟩
        subst hj
        have hjx : j < xs.length := by omega
        have HNE : Hid (¬ xs = []) := fun e => by rw [e] at hjx; simp at hjx
        have hjs : Hid (j < ss.length) := by show j < ss.length; rw [hl5.out]; exact hjx
        have j0 : (0 : Int) ≤ (j : Int) := Int.natCast_nonneg _
        have j1 : (j : Int) < (xs.length : Int) := by omega
        have j2 : (j : Int) < (ss.length : Int) := by have := hjs.out; omega
        have A3 := hide a3
        clear a3 A2
        obtain ⟨g, cg, hv, hg, hc, hf⟩ := A3.out.dv.at j hjx
        have hsa : sa = some ⟨g, 0, none⟩ := by injection hv
        subst hsa
        have AS := hide (A3.out.setA j (-1))
        have t0 := A3.out.c0
        clear hv
        have c0 := AS.out.c0
        have c1 := AS.out.c1
        have c2 := AS.out.c2
        have r0 := AS.out.rb.r0
        have r1 := AS.out.rb.r1
        have r2 := AS.out.rb.r2
        have rf := AS.out.rb.rf
        have er : r = ((xs.set j (-1), ss, off), s3) := by rw [← HR.out]; simp [anyD, HX.out, R2.out, HNE.out, R3.out]
        subst er
        go_wp2
        all_goals exact bodyPost_ret (v := .agg #[.slice (some ⟨g, 0, none⟩) xs.length ca, .slice sb ss.length cb, .int .i64 off]) (by simp [results, Try.results12, go_sem, set3_0 r0, set3_1 r1, set3_2 r2]) rfl (eaa (by omega) HI.out AS.out)
      · go_wp2_with fail
        refine (A2.out.next (xs.length : Int)).mono ?_
        rintro e W3 ⟨v3, s3, Q3, rfl, b3, a3⟩
        have R3 := hide Q3
        clear Q3
        obtain ⟨j, hj⟩ : ∃ j : Nat, v3 = (j : Int) := ⟨v3.toNat, by omega⟩
        subst hj
        have hjx : j < xs.length := by omega
        have HNE : Hid (¬ xs = []) := fun e => by rw [e] at hjx; simp at hjx
        have hjs : Hid (j < ss.length) := by show j < ss.length; rw [hl5.out]; exact hjx
        have j0 : (0 : Int) ≤ (j : Int) := Int.natCast_nonneg _
        have j1 : (j : Int) < (xs.length : Int) := by omega
        have j2 : (j : Int) < (ss.length : Int) := by have := hjs.out; omega
        have A3 := hide a3
        clear a3 A2
        obtain ⟨g, cg, hv, hg, hc, hf⟩ := (dv_swap A3.out.dv).at j hjs.out
        have hsb : sb = some ⟨g, 0, none⟩ := by injection hv
        subst hsb
        have SA : Hid ((fun w' : World => w'.cell? ⟨B, 1, none⟩ = some (.slice (some ⟨g, 0, none⟩) ss.length cb)) W3.drew) := A3.out.c1
        have A3' := hide (A3.out.keep (A3.out.st.drew) (gb_bel b (bel_drew W3)))
        clear hv hc hf
        go_wp2_with fail
        go_region_held3 (fun w' : World => w'.cell? ⟨B, 1, none⟩ = some (.slice (some ⟨g, 0, none⟩) ss.length cb)) (first | with_reducible exact SA.out | with_reducible exact SB'.out | with_reducible exact SC'.out | exact SA.out | fail) (first | (go_at_call 13; refine (A3'.out.next 6000).mono ?_; rintro e W4 ⟨v4, s4, Q4, rfl, b4, a4⟩; have R4 := hide Q4; clear Q4; obtain ⟨hc, hf⟩ := own_at a4.dv.c j hjs.out; have hw : IntKind.i64.wrap (v4 - 3000) = v4 - 3000 := (by rw [IntKind.wrap_i64]; omega); have SB' : Hid ((fun w' : World => w'.cell? ⟨B, 1, none⟩ = some (.slice (some ⟨g, 0, none⟩) ss.length cb)) W4) := a4.c1; have AS := hide (a4.setC j (v4 - 3000)); have SC' : Hid ((fun w' : World => w'.cell? ⟨B, 1, none⟩ = some (.slice (some ⟨g, 0, none⟩) ss.length cb)) (W4.setCell ⟨g, j, none⟩ (.int .i64 (v4 - 3000)))) := AS.out.c1; have A4 := hide a4; clear a4) | fail)
        all_goals
          clear SA A3 A3'
          have c0 := AS.out.c0
          have c1 := AS.out.c1
          have c2 := AS.out.c2
          have r0 := AS.out.rb.r0
          have r1 := AS.out.rb.r1
          have r2 := AS.out.rb.r2
          have rf := AS.out.rb.rf
          have er : r = ((xs, ss.set j (v4 - 3000), off), s4) := by rw [← HR.out]; simp [anyD, HX.out, R2.out, HNE.out, R3.out, R4.out]
          subst er
          go_wp2
          all_goals exact bodyPost_ret (v := .agg #[.slice sa xs.length ca, .slice (some ⟨g, 0, none⟩) ss.length cb, .int .i64 off]) (by simp [results, Try.results12, go_sem, set3_0 r0, set3_1 r1, set3_2 r2]) rfl (eac trivial HI.out AS.out)
      · go_wp2_with fail
        refine (A2.out.next (xs.length : Int)).mono ?_
        rintro e W3 ⟨v3, s3, Q3, rfl, b3, a3⟩
        have R3 := hide Q3
        clear Q3
        obtain ⟨j, hj⟩ : ∃ j : Nat, v3 = (j : Int) := ⟨v3.toNat, by omega⟩
        subst hj
        have hjx : j < xs.length := by omega
        have HNE : Hid (¬ xs = []) := fun e => by rw [e] at hjx; simp at hjx
        have hjs : Hid (j < ss.length) := by show j < ss.length; rw [hl5.out]; exact hjx
        have j0 : (0 : Int) ≤ (j : Int) := Int.natCast_nonneg _
        have j1 : (j : Int) < (xs.length : Int) := by omega
        have j2 : (j : Int) < (ss.length : Int) := by have := hjs.out; omega
        have A3 := hide a3
        clear a3 A2
        obtain ⟨g, cg, hv, hg, hc, hf⟩ := A3.out.dv.at j hjx
        have hsa : sa = some ⟨g, 0, none⟩ := by injection hv
        subst hsa
        have SA : Hid ((fun w' : World => w'.cell? ⟨B, 0, none⟩ = some (.slice (some ⟨g, 0, none⟩) xs.length ca)) W3.drew) := A3.out.c0
        have A3' := hide (A3.out.keep (A3.out.st.drew) (gb_bel b (bel_drew W3)))
        clear hv hc hf
        go_wp2_with fail
        go_region_held3 (fun w' : World => w'.cell? ⟨B, 0, none⟩ = some (.slice (some ⟨g, 0, none⟩) xs.length ca)) (first | with_reducible exact SA.out | with_reducible exact SB'.out | with_reducible exact SC'.out | exact SA.out | fail) (first | (go_at_call 13; refine (A3'.out.next 2).mono ?_; rintro e W4 ⟨v4, s4, Q4, rfl, b4, a4⟩; have R4 := hide Q4; clear Q4; obtain ⟨hc, hf⟩ := own_at a4.dv.a j hjx; have hw : IntKind.i64.wrap (4096 + v4) = 4096 + v4 := (by rw [IntKind.wrap_i64]; omega); have SB' : Hid ((fun w' : World => w'.cell? ⟨B, 0, none⟩ = some (.slice (some ⟨g, 0, none⟩) xs.length ca)) W4) := a4.c0; have AS := hide (a4.setA j (4096 + v4)); have SC' : Hid ((fun w' : World => w'.cell? ⟨B, 0, none⟩ = some (.slice (some ⟨g, 0, none⟩) xs.length ca)) (W4.setCell ⟨g, j, none⟩ (.int .i64 (4096 + v4)))) := AS.out.c0; have A4 := hide a4; clear a4) | fail)
        all_goals
          clear SA A3 A3'
          have c0 := AS.out.c0
          have c1 := AS.out.c1
          have c2 := AS.out.c2
          have r0 := AS.out.rb.r0
          have r1 := AS.out.rb.r1
          have r2 := AS.out.rb.r2
          have rf := AS.out.rb.rf
          have er : r = ((xs.set j (4096 + v4), ss, off), s4) := by rw [← HR.out]; simp [anyD, HX.out, R2.out, HNE.out, R3.out, R4.out]
          subst er
          go_wp2
          all_goals exact bodyPost_ret (v := .agg #[.slice (some ⟨g, 0, none⟩) xs.length ca, .slice sb ss.length cb, .int .i64 off]) (by simp [results, Try.results12, go_sem, set3_0 r0, set3_1 r1, set3_2 r2]) rfl (eaa (by omega) HI.out AS.out)
  · have d0 : (k == 0) = false := by simp; omega
    have d1 : (k == 1) = false := by simp; omega
    have d2 : (k == 2) = false := by simp; omega
    have d3 : (k == 3) = false := by simp; omega
    have d4 : (k == 4) = false := by simp; omega
    have d5 : (k == 5) = false := by simp; omega
    have d6 : (k == 6) = false := by simp; omega
    have d7 : (k == 7) = false := by simp; omega
    have d8 : decide (k < 12) = false := decide_eq_false (by omega)
    have d9 : decide (7 < k) = true := decide_eq_true (by omega)
    have c0 := A2.out.c0
    have c1 := A2.out.c1
    have c2 := A2.out.c2
    have r0 := A2.out.rb.r0
    have r1 := A2.out.rb.r1
    have r2 := A2.out.rb.r2
    have rf := A2.out.rb.rf
    have er : r = ((xs, ss, off), s2) := by rw [← HR.out]; simp [anyD, HX.out, R2.out, hk, show ¬ k = 0 by omega, show ¬ k = 1 by omega, show ¬ k = 2 by omega, show ¬ k = 3 by omega, show ¬ k = 4 by omega, show ¬ k = 5 by omega, show ¬ k = 6 by omega, show ¬ k = 7 by omega]
    subst er
    go_wp2
    all_goals exact bodyPost_ret (v := .agg #[.slice sa xs.length ca, .slice sb ss.length cb, .int .i64 off]) (by simp [results, Try.results12, go_sem, set3_0 r0, set3_1 r1, set3_2 r2]) rfl (EA.done A2.out.st A2.out.dv.a A2.out.dv.c A2.out.tR ⟨by first | omega | (simp; omega), by first | omega | (simp; omega), HI.out.inB⟩)
end Go.Proofs.Ytanbgpmbccianaa
