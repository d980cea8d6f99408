import Derived.Test.YtiekkninnjffpaaImplBR
import Derived.Maps.AppendAt
import Derived.OneCell
import Derived.Below
namespace Go.Proofs.Ytiekkninnjffpaa
open Go.ChangeShapes Go.RowKit
set_option linter.unusedSimpArgs false
set_option linter.unusedVariables false

/-- What a list looks like that is owned. -/
theorem own_form {W : World} {base n : Nat} {v : Value} {L : List Int} (h : W.ownsRow base 2 1 v n (L.map (Value.int .i64))) : ∃ sa cap, v = .slice sa n cap := by
  rcases h.2 with ⟨h1, h2⟩ | ⟨g, cap, cur, h1, _⟩
  · exact ⟨none, 0, by rw [h1, h2]⟩
  · exact ⟨_, cap, h1⟩

/-- A view that is built: v at block w.heap.size, the answer behind it, out at B with its two lists. -/
structure BW (w wr : World) (B : Nat) (vS vT : Value) (off : Int) (Ls Ss : List Int) (vA vB : Value) : Prop where
  p0 : wr.cell? ⟨w.heap.size, 0, none⟩ = some vS
  p1 : wr.cell? ⟨w.heap.size, 1, none⟩ = some vT
  r0 : wr.cell? ⟨w.heap.size + 1, 0, none⟩ = some (.int .i64 0)
  r1 : wr.cell? ⟨w.heap.size + 1, 1, none⟩ = some (.slice none 0 0)
  r2 : wr.cell? ⟨w.heap.size + 1, 2, none⟩ = some (.slice none 0 0)
  r3 : wr.cell? ⟨w.heap.size + 1, 3, none⟩ = some (.int .i64 0)
  rf : ∀ o, wr.frozen? ⟨w.heap.size + 1, o, none⟩ = false
  o0 : wr.cell? ⟨B, 0, none⟩ = some vA
  o1 : wr.cell? ⟨B, 1, none⟩ = some vB
  o2 : wr.cell? ⟨B, 2, none⟩ = some (.int .i64 off)
  bf : ∀ o, wr.frozen? ⟨B, o, none⟩ = false
  ownA : wr.ownsRow (B + 1) 2 1 vA Ls.length (Ls.map (Value.int .i64))
  ownB : wr.ownsRow (B + 1) 2 1 vB Ss.length (Ss.map (Value.int .i64))
  dj : vA.ownBlock = none ∨ vA.ownBlock ≠ vB.ownBlock
  bl : Bel w wr
  sz : B + 1 ≤ wr.heap.size
  hB : w.heap.size + 1 < B

/-- Blocks up to B are kept. -/
theorem BW.low {w wr : World} {B : Nat} {vS vT : Value} {off : Int} {Ls Ss : List Int} {vA vB : Value} (h : BW w wr B vS vT off Ls Ss vA vB) {W : World} (hk : ∀ k, k < B + 1 → W.heap[k]? = wr.heap[k]?) :
    (∀ {b o v}, b < B + 1 → wr.cell? ⟨b, o, none⟩ = some v → W.cell? ⟨b, o, none⟩ = some v) ∧ (∀ {b}, b < B + 1 → ∀ o, W.frozen? ⟨b, o, none⟩ = wr.frozen? ⟨b, o, none⟩) :=
  ⟨fun hb hc => (World.cell?_of_block (hk _ hb)).trans hc, fun hb o => World.frozen?_of_block (hk _ hb)⟩

theorem BW.stepA {w wr w3 : World} {B : Nat} {vS vT : Value} {off : Int} {Ls Ss : List Int} {vA vB : Value} (h : BW w wr B vS vT off Ls Ss vA vB) (x : Int) {v3 : Value}
    (hown : w3.ownsRow (B + 1) 2 1 v3 (Ls.length + 1) (Ls.map (Value.int .i64) ++ [.int .i64 x])) (hgrow : (wr.alloc (.cells #[.int .i64 x] 2)).grownBy w3 vA.ownBlock)
    (hat : v3.ownBlock = vA.ownBlock ∨ v3.ownBlock = some (wr.alloc (.cells #[.int .i64 x] 2)).heap.size) : BW w (w3.setCell ⟨B, 0, none⟩ v3) B vS vT off (Ls ++ [x]) Ss v3 vB := by
  have hs := h.sz
  have hB := h.hB
  have hA : ∀ g, vA.ownBlock = some g → B + 1 ≤ g := fun g hg => (h.ownA.lt g hg).1
  have hk : ∀ k, k < B + 1 → w3.heap[k]? = wr.heap[k]? := fun k hk => by
    rw [hgrow.block k (by simp; omega) (by intro e; have := hA k e.symm; omega)]
    exact ((Ext.refl wr).alloc #[.int .i64 x] 2).bl.block k (by omega)
  obtain ⟨cc, ff⟩ := h.low hk
  have m : Mut B w3 (w3.setCell ⟨B, 0, none⟩ v3) := (Mut.refl _ _).setCell _ _
  have h3 : v3.ownBlock ≠ some B := fun e => by
    have := (hown.lt B e).1
    omega
  have hBB : vB.ownBlock ≠ some B := fun e => by
    have := (h.ownB.lt B e).1
    omega
  have hsz := hgrow.size
  simp at hsz
  refine ⟨m.box (by omega) (cc (by omega) h.p0), m.box (by omega) (cc (by omega) h.p1), m.box (by omega) (cc (by omega) h.r0), m.box (by omega) (cc (by omega) h.r1), m.box (by omega) (cc (by omega) h.r2), m.box (by omega) (cc (by omega) h.r3), fun o => (m.fz _).trans ((ff (by omega) o).trans (h.rf o)),
    World.cell?_setCell_same _ _ _ (cc (by omega) h.o0), near (by omega) (cc (by omega) h.o1), near (by omega) (cc (by omega) h.o2), fun o => (m.fz _).trans ((ff (by omega) o).trans (h.bf o)), ?_, ?_, ?_, ?_, ?_, hB⟩
  · have e : (Ls ++ [x]).map (Value.int .i64) = Ls.map (Value.int .i64) ++ [.int .i64 x] := by simp
    rw [e, List.length_append]
    exact ownsRow_setCell_other hown h3 _
  · refine ownsRow_setCell_other ((h.ownB.alloc _).kept hgrow ?_) hBB _
    cases hb : vB.ownBlock with
    | none => exact Or.inl rfl
    | some b =>
      refine Or.inr fun e => ?_
      rcases h.dj with q | q
      · rw [q] at e; cases e
      · exact q (by rw [hb, ← e])
  · rcases hat with q | q
    · rw [q]; exact h.dj
    · refine Or.inr fun e => ?_
      rw [q] at e
      have := (h.ownB.lt _ e.symm).2
      simp at this
      omega
  · exact ((h.bl.alloc (Below.size h.bl) _).grown hgrow (by have := Below.size h.bl; simp; omega) (fun j hj => by have := hA j hj; omega)).setCell (by show w.heap.size ≤ B; omega) _
  · have : w3.heap.size ≤ (w3.setCell ⟨B, 0, none⟩ v3).heap.size := m.size
    omega

theorem BW.stepB {w wr w3 : World} {B : Nat} {vS vT : Value} {off : Int} {Ls Ss : List Int} {vA vB : Value} (h : BW w wr B vS vT off Ls Ss vA vB) (x : Int) {v3 : Value}
    (hown : w3.ownsRow (B + 1) 2 1 v3 (Ss.length + 1) (Ss.map (Value.int .i64) ++ [.int .i64 x])) (hgrow : (wr.alloc (.cells #[.int .i64 x] 2)).grownBy w3 vB.ownBlock)
    (hat : v3.ownBlock = vB.ownBlock ∨ v3.ownBlock = some (wr.alloc (.cells #[.int .i64 x] 2)).heap.size) : BW w (w3.setCell ⟨B, 1, none⟩ v3) B vS vT off Ls (Ss ++ [x]) vA v3 := by
  have hs := h.sz
  have hB := h.hB
  have hA : ∀ g, vB.ownBlock = some g → B + 1 ≤ g := fun g hg => (h.ownB.lt g hg).1
  have hk : ∀ k, k < B + 1 → w3.heap[k]? = wr.heap[k]? := fun k hk => by
    rw [hgrow.block k (by simp; omega) (by intro e; have := hA k e.symm; omega)]
    exact ((Ext.refl wr).alloc #[.int .i64 x] 2).bl.block k (by omega)
  obtain ⟨cc, ff⟩ := h.low hk
  have m : Mut B w3 (w3.setCell ⟨B, 1, none⟩ v3) := (Mut.refl _ _).setCell _ _
  have h3 : v3.ownBlock ≠ some B := fun e => by
    have := (hown.lt B e).1
    omega
  have hBB : vA.ownBlock ≠ some B := fun e => by
    have := (h.ownA.lt B e).1
    omega
  have hsz := hgrow.size
  simp at hsz
  refine ⟨m.box (by omega) (cc (by omega) h.p0), m.box (by omega) (cc (by omega) h.p1), m.box (by omega) (cc (by omega) h.r0), m.box (by omega) (cc (by omega) h.r1), m.box (by omega) (cc (by omega) h.r2), m.box (by omega) (cc (by omega) h.r3), fun o => (m.fz _).trans ((ff (by omega) o).trans (h.rf o)),
    near (by omega) (cc (by omega) h.o0), World.cell?_setCell_same _ _ _ (cc (by omega) h.o1), near (by omega) (cc (by omega) h.o2), fun o => (m.fz _).trans ((ff (by omega) o).trans (h.bf o)), ?_, ?_, ?_, ?_, ?_, hB⟩
  · refine ownsRow_setCell_other ((h.ownA.alloc _).kept hgrow ?_) hBB _
    exact h.dj
  · have e : (Ss ++ [x]).map (Value.int .i64) = Ss.map (Value.int .i64) ++ [.int .i64 x] := by simp
    rw [e, List.length_append]
    exact ownsRow_setCell_other hown h3 _
  · rcases h.dj with d | d
    · exact Or.inl d
    · rcases hat with q | q
      · rw [q]; exact Or.inr d
      · refine Or.inr fun e => ?_
        rw [q] at e
        have := (h.ownA.lt _ e).2
        simp at this
        omega
  · exact ((h.bl.alloc (Below.size h.bl) _).grown hgrow (by have := Below.size h.bl; simp; omega) (fun j hj => by have := hA j hj; omega)).setCell (by show w.heap.size ≤ B; omega) _
  · have : w3.heap.size ≤ (w3.setCell ⟨B, 1, none⟩ v3).heap.size := m.size
    omega

/-- The answer of the specification. -/
def VSOk (w : World) (c : Int) (L S : List Int) (o : Int) (e : Ending) (w' : World) : Prop :=
  ∃ (sa sb : Option Addr) (ca cb : Nat), e = .returned (.agg #[.int .i64 c, .slice sa L.length ca, .slice sb S.length cb, .int .i64 o]) ∧ IntsB w' w.heap.size w'.heap.size (.slice sa L.length ca) L ∧ IntsB w' w.heap.size w'.heap.size (.slice sb S.length cb) S ∧ Bel w w'

/-- The answer of the specification, with what it owns. -/
def VSOw (w : World) (c : Int) (L S : List Int) (o : Int) (e : Ending) (w' : World) : Prop :=
  ∃ (sa sb : Option Addr) (ca cb : Nat), e = .returned (.agg #[.int .i64 c, .slice sa L.length ca, .slice sb S.length cb, .int .i64 o]) ∧ w'.ownsRow w.heap.size 2 1 (.slice sa L.length ca) L.length (L.map (Value.int .i64)) ∧ w'.ownsRow w.heap.size 2 1 (.slice sb S.length cb) S.length (S.map (Value.int .i64)) ∧ ((Value.slice sa L.length ca).ownBlock = none ∨ (Value.slice sa L.length ca).ownBlock ≠ (Value.slice sb S.length cb).ownBlock) ∧ Bel w w'
theorem own_low {W : World} {base lo n : Nat} {v : Value} {L : List Value} (h : W.ownsRow base 2 1 v n L) (hb : lo ≤ base) : W.ownsRow lo 2 1 v n L := by
  refine ⟨h.1, ?_⟩
  rcases h.2 with q | ⟨g, cap, cur, h1, h2, h3⟩
  · exact Or.inl q
  · exact Or.inr ⟨g, cap, cur, h1, by omega, h3⟩
theorem own_chain4 {W : World} {base n R : Nat} {v : Value} {L : List Value} (h : W.ownsRow base 2 1 v n L) (hb : R < base) (v0 v1 v2 v3 : Value) : ((((W.setCell ⟨R, 0, none⟩ v0).setCell ⟨R, 1, none⟩ v1).setCell ⟨R, 2, none⟩ v2).setCell ⟨R, 3, none⟩ v3).ownsRow base 2 1 v n L :=
  ownsRow_setCell_below (ownsRow_setCell_below (ownsRow_setCell_below (ownsRow_setCell_below h (a := ⟨R, 0, none⟩) hb _) (a := ⟨R, 1, none⟩) hb _) (a := ⟨R, 2, none⟩) hb _) (a := ⟨R, 3, none⟩) hb _
theorem vs_bad {w W : World} {c : Int} {L S : List Int} {o k : Int} (hr : (c, L, S, o) = (k, [], [], 0)) (h : Bel w W) {v0 v1 v2 v3 : Value} :
    VSOw w c L S o (.returned (.agg #[.int .i64 k, .slice none 0 0, .slice none 0 0, .int .i64 0])) ((((W.setCell ⟨w.heap.size + 1, 0, none⟩ v0).setCell ⟨w.heap.size + 1, 1, none⟩ v1).setCell ⟨w.heap.size + 1, 2, none⟩ v2).setCell ⟨w.heap.size + 1, 3, none⟩ v3) := by
  simp only [Prod.mk.injEq] at hr
  obtain ⟨rfl, rfl, rfl, rfl⟩ := hr
  exact ⟨none, none, 0, 0, rfl, World.ownsRow_nil _ _ _ _, World.ownsRow_nil _ _ _ _, Or.inl rfl, chain4 h⟩

theorem own_intsB {W : World} {base n lo : Nat} {sa : Option Addr} {cap : Nat} {L : List Int} (h : W.ownsRow base 2 1 (.slice sa n cap) n (L.map (Value.int .i64))) (hb : lo ≤ base) : IntsB W lo W.heap.size (.slice sa n cap) L := by
  have hl : n = L.length := by have := h.1; simp at this; omega
  subst hl
  refine ⟨sa, cap, rfl, ?_⟩
  by_cases e : L = []
  · exact Or.inl e
  rcases h.2 with ⟨h1, h2⟩ | ⟨g, cap2, cur, h1, h2, h3, _⟩
  · exact absurd (List.eq_nil_of_length_eq_zero h2) e
  have hg : sa = some ⟨g, 0, none⟩ := by simp at h1; exact h1.1
  subst hg
  obtain ⟨hrow, _⟩ := row_of_own h
  exact Or.inr ⟨g, 0, rfl, by omega, cell_lt (hrow 0 (List.length_pos_iff.2 e)), hrow⟩

theorem VSOw.old {w W : World} {c : Int} {L S : List Int} {o : Int} {e : Ending} (h : VSOw w c L S o e W) : VSOk w c L S o e W := by
  obtain ⟨sa, sb, ca, cb, he, h1, h2, _, hB⟩ := h
  exact ⟨sa, sb, ca, cb, he, own_intsB h1 (Nat.le_refl _), own_intsB h2 (Nat.le_refl _), hB⟩

theorem vs_good {w wr : World} {B : Nat} {vS vT : Value} {off : Int} {Ls Ss : List Int} {sa sb : Option Addr} {na nb ca cb : Nat} (h : BW w wr B vS vT off Ls Ss (.slice sa na ca) (.slice sb nb cb)) (hna : na = Ls.length) (hnb : nb = Ss.length) {c : Int} {L S : List Int} {o : Int} (hr : (c, L, S, o) = (0, Ls, Ss, off)) {v0 v1 v2 v3 : Value} :
    VSOw w c L S o (.returned (.agg #[.int .i64 0, .slice sa na ca, .slice sb nb cb, .int .i64 off])) ((((wr.setCell ⟨w.heap.size + 1, 0, none⟩ v0).setCell ⟨w.heap.size + 1, 1, none⟩ v1).setCell ⟨w.heap.size + 1, 2, none⟩ v2).setCell ⟨w.heap.size + 1, 3, none⟩ v3) := by
  simp only [Prod.mk.injEq] at hr
  obtain ⟨rfl, rfl, rfl, rfl⟩ := hr
  subst hna
  subst hnb
  have hB := h.hB
  exact ⟨sa, sb, ca, cb, rfl, own_low (own_chain4 h.ownA (by omega) _ _ _ _) (by omega), own_low (own_chain4 h.ownB (by omega) _ _ _ _) (by omega), h.dj, chain4 h.bl⟩

/-- The start. -/
theorem BW.start {w W : World} {vS vT : Value} {off : Int} (hs : w.heap.size + 1 < W.heap.size) (hb : Bel w W) (p0 : W.cell? ⟨w.heap.size, 0, none⟩ = some vS) (p1 : W.cell? ⟨w.heap.size, 1, none⟩ = some vT)
    (r0 : W.cell? ⟨w.heap.size + 1, 0, none⟩ = some (.int .i64 0)) (r1 : W.cell? ⟨w.heap.size + 1, 1, none⟩ = some (.slice none 0 0)) (r2 : W.cell? ⟨w.heap.size + 1, 2, none⟩ = some (.slice none 0 0)) (r3 : W.cell? ⟨w.heap.size + 1, 3, none⟩ = some (.int .i64 0)) (rf : ∀ o, W.frozen? ⟨w.heap.size + 1, o, none⟩ = false) :
    BW w (W.alloc (.cells #[.slice none 0 0, .slice none 0 0, .int .i64 off] 27)) W.heap.size vS vT off [] [] (.slice none 0 0) (.slice none 0 0) := by
  have x : Ext W (W.alloc (.cells #[.slice none 0 0, .slice none 0 0, .int .i64 off] 27)) := (Ext.refl W).alloc _ _
  have n := fun j => new_cell W #[.slice none 0 0, .slice none 0 0, .int .i64 off] 27 W.heap.size rfl j
  exact ⟨x.box p0, x.box p1, x.box r0, x.box r1, x.box r2, x.box r3, fun o => (x.fz _).trans (rf o), n 0, n 1, n 2, fun o => x.unfrozen (Nat.le_refl _) o, World.ownsRow_nil _ _ _ _, World.ownsRow_nil _ _ _ _, Or.inl rfl, Bel.tr hb x.bl, by simp, hs⟩
end Go.Proofs.Ytiekkninnjffpaa
