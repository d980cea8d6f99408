import Derived.Test.YtanbgpmbccianaaM8
import Derived.Test.YtanbgpmbccianaaM5
namespace Go.Proofs.Ytanbgpmbccianaa
open Go.ChangeShapes Go.RowKit Go.Shelf
set_option linter.unusedSimpArgs false
set_option linter.unusedVariables false

/-- A view that is built: the answer's box behind w.heap.size, out at B, its shape a list of the call's own, its strides a row that grows. -/
structure RW (w W : World) (B : Nat) (off : Int) (ys Ss : List Int) (vA vB : Value) : Prop where
  r0 : W.cell? ⟨w.heap.size + 1, 0, none⟩ = some (.int .i64 0)
  r1 : W.cell? ⟨w.heap.size + 1, 1, none⟩ = some (.slice none 0 0)
  r2 : W.cell? ⟨w.heap.size + 1, 2, none⟩ = some (.slice none 0 0)
  r3 : W.cell? ⟨w.heap.size + 1, 3, none⟩ = some (.int .i64 0)
  rf : ∀ o, W.frozen? ⟨w.heap.size + 1, o, none⟩ = false
  o0 : W.cell? ⟨B, 0, none⟩ = some vA
  o1 : W.cell? ⟨B, 1, none⟩ = some vB
  o2 : W.cell? ⟨B, 2, none⟩ = some (.int .i64 off)
  bf : ∀ o, W.frozen? ⟨B, o, none⟩ = false
  gA : W.ownsRow (w.heap.size + 2) 2 1 vA ys.length (ys.map (Value.int .i64)) ∧ vA.ownBlock ≠ some B ∧ (vA.ownBlock = none ∨ vA.ownBlock ≠ vB.ownBlock)
  ownB : W.ownsRow (B + 1) 2 1 vB Ss.length (Ss.map (Value.int .i64))
  bl : Bel w W
  sz : B + 1 ≤ W.heap.size
  hB : w.heap.size + 1 < B
theorem RW.step {w wr w3 : World} {B : Nat} {off : Int} {ys Ss : List Int} {vA vB : Value} (h : RW w wr B off ys Ss vA vB) (x : Int) {v3 : Value}
    (hown : w3.ownsRow (B + 1) 2 1 v3 (Ss.length + 1) (Ss.map (Value.int .i64) ++ [.int .i64 x])) (hgrow : (wr.alloc (.cells #[.int .i64 x] 2)).grownBy w3 vB.ownBlock)
    (hat : v3.ownBlock = vB.ownBlock ∨ v3.ownBlock = some (wr.alloc (.cells #[.int .i64 x] 2)).heap.size) : RW w (w3.setCell ⟨B, 1, none⟩ v3) B off ys (Ss ++ [x]) vA v3 := by
  have hs := h.sz
  have hB := h.hB
  have hb1 : ∀ g, vB.ownBlock = some g → B + 1 ≤ g := fun g hg => (h.ownB.lt g hg).1
  have hk : ∀ k, k < wr.heap.size → vB.ownBlock ≠ some k → w3.heap[k]? = wr.heap[k]? := fun k hk hn => by
    rw [hgrow.block k (by simp; omega) (by intro e; exact hn e.symm)]
    exact ((Ext.refl wr).alloc #[.int .i64 x] 2).bl.block k (by omega)
  have hlow : ∀ k, k < B + 1 → w3.heap[k]? = wr.heap[k]? := fun k hk' => hk k (by omega) (fun e => by have := hb1 k e; omega)
  have cc : ∀ {b o v}, b < B + 1 → wr.cell? ⟨b, o, none⟩ = some v → w3.cell? ⟨b, o, none⟩ = some v := fun hb hc => (World.cell?_of_block (hlow _ hb)).trans hc
  have ff : ∀ {b}, b < B + 1 → ∀ o, w3.frozen? ⟨b, o, none⟩ = wr.frozen? ⟨b, o, none⟩ := fun hb o => World.frozen?_of_block (hlow _ hb)
  have m : Mut B w3 (w3.setCell ⟨B, 1, none⟩ v3) := (Mut.refl _ _).setCell _ _
  have h3 : v3.ownBlock ≠ some B := fun e => by
    have := (hown.lt B e).1
    omega
  have hsz := hgrow.size
  simp at hsz
  refine ⟨m.box (by omega) (cc (by omega) h.r0), m.box (by omega) (cc (by omega) h.r1), m.box (by omega) (cc (by omega) h.r2), m.box (by omega) (cc (by omega) h.r3), fun o => (m.fz _).trans ((ff (by omega) o).trans (h.rf o)), near (by omega) (cc (by omega) h.o0), World.cell?_setCell_same _ _ _ (cc (by omega) h.o1), near (by omega) (cc (by omega) h.o2), fun o => (m.fz _).trans ((ff (by omega) o).trans (h.bf o)), ?_, ?_, ?_, ?_, hB⟩
  · obtain ⟨g1, g2, g3⟩ := h.gA
    refine ⟨ownsRow_setCell_other ((g1.alloc _).kept hgrow g3) g2 _, g2, ?_⟩
    rcases g3 with g3 | g3
    · exact Or.inl g3
    · rcases hat with q | q
      · rw [q]; exact Or.inr g3
      · refine Or.inr fun e => ?_
        rw [q] at e
        have := (g1.lt _ e).2
        simp at this
        omega
  · have e : (Ss ++ [x]).map (Value.int .i64) = Ss.map (Value.int .i64) ++ [.int .i64 x] := by simp
    rw [e, List.length_append]
    exact ownsRow_setCell_other hown h3 _
  · exact ((h.bl.alloc (Below.size h.bl) _).grown hgrow (by have := Below.size h.bl; simp; omega) (fun j hj => by have := hb1 j hj; omega)).setCell (by show w.heap.size ≤ B; omega) _
  · have : w3.heap.size ≤ (w3.setCell ⟨B, 1, none⟩ v3).heap.size := m.size
    omega
theorem RW.szP {w wr : World} {B : Nat} {off : Int} {ys Ss : List Int} {vA vB : Value} (h : RW w wr B off ys Ss vA vB) (x : Int) : B + 1 ≤ (wr.alloc (.cells #[.int .i64 x] 2)).heap.size := by
  have h1 : wr.heap.size ≤ (wr.alloc (.cells #[.int .i64 x] 2)).heap.size := Below.size ((Ext.refl wr).alloc #[.int .i64 x] 2).bl
  exact Nat.le_trans h.sz h1
/-- The box is made behind the list. -/
theorem RW.late {w wr w3 : World} {off : Int} {ys : List Int} {sg : Option Addr} {cg : Nat} (hb : Bel w wr) (hs : w.heap.size + 1 < wr.heap.size)
    (t0 : wr.cell? ⟨w.heap.size + 1, 0, none⟩ = some (.int .i64 0)) (t1 : wr.cell? ⟨w.heap.size + 1, 1, none⟩ = some (.slice none 0 0)) (t2 : wr.cell? ⟨w.heap.size + 1, 2, none⟩ = some (.slice none 0 0)) (t3 : wr.cell? ⟨w.heap.size + 1, 3, none⟩ = some (.int .i64 0)) (tf : ∀ o, wr.frozen? ⟨w.heap.size + 1, o, none⟩ = false)
    (hO : OwnC w3 wr.drew.heap.size sg cg ys) (x3 : Below wr.drew.heap.size wr.drew w3) : RW w (w3.alloc (.cells #[.slice sg ys.length cg, .slice none 0 0, .int .i64 off] 25)) w3.heap.size off ys [] (.slice sg ys.length cg) (.slice none 0 0) := by
  have hss0 : wr.drew.heap.size ≤ w3.heap.size := Below.size x3
  have hss : wr.heap.size ≤ w3.heap.size := hss0
  have y : Ext w3 (w3.alloc (.cells #[.slice sg ys.length cg, .slice none 0 0, .int .i64 off] 25)) := (Ext.refl w3).alloc _ _
  have n := fun j => new_cell w3 #[.slice sg ys.length cg, .slice none 0 0, .int .i64 off] 25 w3.heap.size rfl j
  have cc : ∀ {b o v}, wr.cell? ⟨b, o, none⟩ = some v → (w3.alloc (.cells #[.slice sg ys.length cg, .slice none 0 0, .int .i64 off] 25)).cell? ⟨b, o, none⟩ = some v := fun hc => y.box (Bel.box x3 hc)
  refine ⟨cc t0, cc t1, cc t2, cc t3, fun o => (y.fz _).trans ((Below.frozen x3 (p := ⟨w.heap.size + 1, o, none⟩) hs).trans (tf o)), n 0, n 1, n 2, fun o => y.unfrozen (Nat.le_refl _) o, ⟨own_keep (own_low hO.2 hs) y.bl, ?_, ?_⟩, World.ownsRow_nil _ _ _ _, Bel.tr (Bel.tr hb (bel_drew wr)) (Bel.tr x3 y.bl), by simp, by omega⟩
  · intro e
    have := (hO.2.lt _ e).2
    omega
  · cases q : (Value.slice sg ys.length cg).ownBlock with
    | none => exact Or.inl rfl
    | some g => exact Or.inr (by simp [Value.ownBlock])
/-- The box is made ahead of the list. -/
theorem RW.early {w wr w3 : World} {off : Int} {ys : List Int} {sg : Option Addr} {cg : Nat} (hb : Bel w wr) (hs : w.heap.size + 1 < wr.heap.size)
    (t0 : wr.cell? ⟨w.heap.size + 1, 0, none⟩ = some (.int .i64 0)) (t1 : wr.cell? ⟨w.heap.size + 1, 1, none⟩ = some (.slice none 0 0)) (t2 : wr.cell? ⟨w.heap.size + 1, 2, none⟩ = some (.slice none 0 0)) (t3 : wr.cell? ⟨w.heap.size + 1, 3, none⟩ = some (.int .i64 0)) (tf : ∀ o, wr.frozen? ⟨w.heap.size + 1, o, none⟩ = false)
    (hO : OwnC w3 (wr.alloc (.cells #[.slice none 0 0, .slice none 0 0, .int .i64 0] 25)).drew.heap.size sg cg ys) (x3 : Below (wr.alloc (.cells #[.slice none 0 0, .slice none 0 0, .int .i64 0] 25)).drew.heap.size (wr.alloc (.cells #[.slice none 0 0, .slice none 0 0, .int .i64 0] 25)).drew w3)
    (e0 : w3.cell? ⟨wr.heap.size, 0, none⟩ = some (.slice none 0 0)) (e1 : w3.cell? ⟨wr.heap.size, 1, none⟩ = some (.slice none 0 0)) (e2 : w3.cell? ⟨wr.heap.size, 2, none⟩ = some (.int .i64 0)) (ef : ∀ o, w3.frozen? ⟨wr.heap.size, o, none⟩ = false) :
    RW w (((w3.setCell ⟨wr.heap.size, 0, none⟩ (.slice sg ys.length cg)).setCell ⟨wr.heap.size, 1, none⟩ (.slice none 0 0)).setCell ⟨wr.heap.size, 2, none⟩ (.int .i64 off)) wr.heap.size off ys [] (.slice sg ys.length cg) (.slice none 0 0) := by
  have z : Ext wr (wr.alloc (.cells #[.slice none 0 0, .slice none 0 0, .int .i64 0] 25)).drew := ((Ext.refl wr).alloc _ _).drew
  have hs1 : (wr.alloc (.cells #[.slice none 0 0, .slice none 0 0, .int .i64 0] 25)).drew.heap.size = wr.heap.size + 1 := by
    show (wr.alloc (.cells #[.slice none 0 0, .slice none 0 0, .int .i64 0] 25)).heap.size = _; simp
  have hss := Below.size x3
  rw [hs1] at hss
  have m : Mut wr.heap.size w3 (((w3.setCell ⟨wr.heap.size, 0, none⟩ (.slice sg ys.length cg)).setCell ⟨wr.heap.size, 1, none⟩ (.slice none 0 0)).setCell ⟨wr.heap.size, 2, none⟩ (.int .i64 off)) := (((Mut.refl _ _).setCell _ _).setCell _ _).setCell _ _
  have cc : ∀ {b o v}, b < wr.heap.size → wr.cell? ⟨b, o, none⟩ = some v → (((w3.setCell ⟨wr.heap.size, 0, none⟩ (.slice sg ys.length cg)).setCell ⟨wr.heap.size, 1, none⟩ (.slice none 0 0)).setCell ⟨wr.heap.size, 2, none⟩ (.int .i64 off)).cell? ⟨b, o, none⟩ = some v := fun hb hc => m.box (by omega) (Bel.box x3 (z.box hc))
  have hb3 : Bel w w3 := Bel.tr (Bel.tr hb z.bl) x3
  refine ⟨cc hs t0, cc hs t1, cc hs t2, cc hs t3, fun o => (m.fz _).trans ((Below.frozen x3 (p := ⟨w.heap.size + 1, o, none⟩) (by rw [hs1]; show w.heap.size + 1 < wr.heap.size + 1; omega)).trans ((z.fz _).trans (tf o))), near (by omega) (near (by omega) (World.cell?_setCell_same _ _ _ e0)), near (by omega) (World.cell?_setCell_same _ _ _ (near (by omega) e1)), World.cell?_setCell_same _ _ _ (near (by omega) (near (by omega) e2)), fun o => (m.fz _).trans (ef o), ⟨?_, ?_, ?_⟩, World.ownsRow_nil _ _ _ _, ((hb3.setCell (by show w.heap.size ≤ wr.heap.size; omega) _).setCell (by show w.heap.size ≤ wr.heap.size; omega) _).setCell (by show w.heap.size ≤ wr.heap.size; omega) _, Nat.le_trans hss m.size, hs⟩
  · refine ownsRow_setCell_other (ownsRow_setCell_other (ownsRow_setCell_other (own_low hO.2 (by rw [hs1]; omega)) ?_ _) ?_ _) ?_ _
    all_goals
      intro e
      have h1 : (Value.slice sg ys.length cg).ownBlock = some wr.heap.size := e
      have := (hO.2.lt _ h1).1
      rw [hs1] at this
      omega
  · intro e
    have := (hO.2.lt _ e).1
    rw [hs1] at this
    omega
  · cases q : (Value.slice sg ys.length cg).ownBlock with
    | none => exact Or.inl rfl
    | some g => exact Or.inr (by simp [Value.ownBlock])
theorem at3R {w wr w3 : World} {B : Nat} {off x : Int} {ys Ss : List Int} {vA vB : Value} (h : RW w wr B off ys Ss vA vB) (hgrow : (wr.alloc (.cells #[.int .i64 x] 2)).grownBy w3 vB.ownBlock) : w3.cell? ⟨B, 1, none⟩ = some vB := by
  have hs := h.sz
  have hk : w3.heap[B]? = wr.heap[B]? := by
    rw [hgrow.block B (by simp; omega) (by intro e; have := (h.ownB.lt B e.symm).1; omega)]
    exact ((Ext.refl wr).alloc #[.int .i64 x] 2).bl.block B (by omega)
  exact (World.cell?_of_block hk).trans h.o1
theorem at3F {w wr w3 : World} {B : Nat} {off x : Int} {ys Ss : List Int} {vA vB : Value} (h : RW w wr B off ys Ss vA vB) (hgrow : (wr.alloc (.cells #[.int .i64 x] 2)).grownBy w3 vB.ownBlock) : ∀ o, w3.frozen? ⟨B, o, none⟩ = false := fun o => by
  have hs := h.sz
  have hk : w3.heap[B]? = wr.heap[B]? := by
    rw [hgrow.block B (by simp; omega) (by intro e; have := (h.ownB.lt B e.symm).1; omega)]
    exact ((Ext.refl wr).alloc #[.int .i64 x] 2).bl.block B (by omega)
  exact (World.frozen?_of_block hk).trans (h.bf o)
def RRel (w : World) (B : Nat) (off : Int) (ys : List Int) (vA i : Value) (W : World) : Prop :=
  ∃ (k : Nat) (vB : Value), i = .int .i64 k ∧ k ≤ ys.length ∧ RW w W B off ys ((rmS ys).take k) vA vB
theorem rs_good {w wr : World} {B : Nat} {off : Int} {ys Ss : List Int} {sa sb : Option Addr} {ca cb nb : Nat} (h : RW w wr B off ys Ss (.slice sa ys.length ca) (.slice sb nb cb)) (hnb : nb = Ss.length) {c : Int} {L S : List Int} {o : Int} (hr : (c, L, S, o) = (0, ys, Ss, off)) {v0 v1 v2 v3 : Value} :
    VSOw w c L S o (.returned (.agg #[.int .i64 0, .slice sa ys.length ca, .slice sb nb cb, .int .i64 off])) ((((wr.setCell ⟨w.heap.size + 1, 0, none⟩ v0).setCell ⟨w.heap.size + 1, 1, none⟩ v1).setCell ⟨w.heap.size + 1, 2, none⟩ v2).setCell ⟨w.heap.size + 1, 3, none⟩ v3) := by
  simp only [Prod.mk.injEq] at hr
  obtain ⟨rfl, rfl, rfl, rfl⟩ := hr
  subst hnb
  have hB := h.hB
  exact ⟨sa, sb, ca, cb, rfl, own_low (own_chain4 h.gA.1 (by omega) _ _ _ _) (by omega), own_low (own_chain4 h.ownB (by omega) _ _ _ _) (by omega), h.gA.2.2, chain4 h.bl⟩

set_option maxRecDepth 100000 in
set_option maxHeartbeats 4000000 in
theorem sRS_own {w : World} {vS vT vP : Value} {xs ss ys : List Int} (hS : Ints w vS xs) (hT : Ints w vT ss) (hP : Ints w vP ys) (off : Int) (lx : xs.length ≤ 1048576) (ls : ss.length ≤ 1048576) (ly : ys.length ≤ 1048576) {c : Int} {L S : List Int} {o : Int} (hr : rsL xs ss off ys = (c, L, S, o)) :
    Calls Try.prog 6 #[.agg #[vS, vT, .int .i64 off], vP] w fun e w' => VSOw w c L S o e w' := by
  obtain ⟨i0, hi0, hz0, hz1, hz2⟩ := info_parts info2
  have Hr := hide hr.symm
  clear hr
  have x0 : Ext w ((w.alloc (.cells #[vS, vT, .int .i64 off] 25)).alloc (.cells #[.int .i64 0, .slice none 0 0, .slice none 0 0, .int .i64 0] 29)) := ((Ext.refl w).alloc _ _).alloc _ _
  have y0 : Ext (w.alloc (.cells #[vS, vT, .int .i64 off] 25)) ((w.alloc (.cells #[vS, vT, .int .i64 off] 25)).alloc (.cells #[.int .i64 0, .slice none 0 0, .slice none 0 0, .int .i64 0] 29)) := (Ext.refl _).alloc _ _
  have n1 := fun j => new_cell w #[vS, vT, .int .i64 off] 25 w.heap.size rfl j
  have n2 := fun j => new_cell (w.alloc (.cells #[vS, vT, .int .i64 off] 25)) #[.int .i64 0, .slice none 0 0, .slice none 0 0, .int .i64 0] 29 (w.heap.size + 1) (by simp) j
  have k0 : ((w.alloc (.cells #[vS, vT, .int .i64 off] 25)).alloc (.cells #[.int .i64 0, .slice none 0 0, .slice none 0 0, .int .i64 0] 29)).cell? ⟨w.heap.size, 0, none⟩ = some vS := y0.box (n1 0)
  have k1 : ((w.alloc (.cells #[vS, vT, .int .i64 off] 25)).alloc (.cells #[.int .i64 0, .slice none 0 0, .slice none 0 0, .int .i64 0] 29)).cell? ⟨w.heap.size, 1, none⟩ = some vT := y0.box (n1 1)
  have k2 : ((w.alloc (.cells #[vS, vT, .int .i64 off] 25)).alloc (.cells #[.int .i64 0, .slice none 0 0, .slice none 0 0, .int .i64 0] 29)).cell? ⟨w.heap.size, 2, none⟩ = some (.int .i64 off) := y0.box (n1 2)
  have q0 : ((w.alloc (.cells #[vS, vT, .int .i64 off] 25)).alloc (.cells #[.int .i64 0, .slice none 0 0, .slice none 0 0, .int .i64 0] 29)).cell? ⟨w.heap.size + 1, 0, none⟩ = some (.int .i64 0) := n2 0
  have q1 : ((w.alloc (.cells #[vS, vT, .int .i64 off] 25)).alloc (.cells #[.int .i64 0, .slice none 0 0, .slice none 0 0, .int .i64 0] 29)).cell? ⟨w.heap.size + 1, 1, none⟩ = some (.slice none 0 0) := n2 1
  have q2 : ((w.alloc (.cells #[vS, vT, .int .i64 off] 25)).alloc (.cells #[.int .i64 0, .slice none 0 0, .slice none 0 0, .int .i64 0] 29)).cell? ⟨w.heap.size + 1, 2, none⟩ = some (.slice none 0 0) := n2 2
  have q3 : ((w.alloc (.cells #[vS, vT, .int .i64 off] 25)).alloc (.cells #[.int .i64 0, .slice none 0 0, .slice none 0 0, .int .i64 0] 29)).cell? ⟨w.heap.size + 1, 3, none⟩ = some (.int .i64 0) := n2 3
  have X0 := hide x0
  have HS := hide (hS.ext x0)
  have HT := hide (hT.ext x0)
  have HP := hide (hP.ext x0)
  have HS0 := hide hS
  have HT0 := hide hT
  have HP0 := hide hP
  obtain ⟨sa, ca, rfl, rS⟩ := hS
  obtain ⟨sb, cb, rfl, rT⟩ := hT
  obtain ⟨sp, cp, rfl, rP⟩ := hP
  have RS0 := hide rS
  have RT0 := hide rT
  have RP0 := hide rP
  clear x0 y0 n1 n2 rS rT rP
  go_enter Try.func6, Try.ntmps6
  go_wp2_with fail
  refine (sVV_any HS.out HT.out off lx ls).mono ?_
  rintro e w1 ⟨rfl, x1⟩
  have l0 := Bel.box x1 k0
  have l1 := Bel.box x1 k1
  have l2 := Bel.box x1 k2
  have r0 := Bel.box x1 q0
  have r1 := Bel.box x1 q1
  have r2 := Bel.box x1 q2
  have r3 := Bel.box x1 q3
  have rf : ∀ o, w1.frozen? ⟨w.heap.size + 1, o, none⟩ = false := fun o => (Below.frozen x1 (p := ⟨w.heap.size + 1, o, none⟩) (cell_lt q0)).trans (X0.out.unfrozen (b := w.heap.size + 1) (by omega) o)
  have B1 := hide (Bel.tr X0.out.bl x1)
  have HS1 := hide (HS.out.below x1)
  have HT1 := hide (HT.out.below x1)
  have HP1 := hide (HP.out.below x1)
  have sz1 : Hid (w.heap.size + 1 < w1.heap.size) := cell_lt r0
  clear x1 k0 k1 k2 q0 q1 q2 q3 X0 HS HT HP
  cases hv : (dcValidV xs ss off)
  · have hn := hide (Hr.out.trans (show rsL xs ss off ys = (12, [], [], 0) from if_neg (of_decide_eq_false hv)))
    clear hv
    go_wp2
    exact bodyPost_ret (v := .agg #[.int .i64 12, .slice none 0 0, .slice none 0 0, .int .i64 0]) (by simp [results, Try.results6, go_sem, set4_0 r0, set4_1 r1, set4_2 r2, set4_3 r3]) rfl (vs_bad hn.out B1.out)
  have gv : ValidV xs ss off := of_decide_eq_true hv
  have hbr : Hid (rsL xs ss off ys = (if Good ys ∧ prod ys = prod xs then (if offsL xs ss off = ups off (offsL xs ss off).length then (0, ys, rmS ys, off) else (13, [], [], 0)) else (6, [], [], 0))) := if_pos gv
  have HGV := hide gv
  have hx4 := gv.1.1
  clear gv
  generalize hvb : (dcValidV xs ss off) = vb at hv
  subst hv
  clear hvb
  go_wp2_with fail
  refine (l2Count_any HP1.out (by omega)).mono ?_
  rintro e wr ⟨rfl, rfl⟩
  by_cases gg : Good ys
  case neg =>
    have hn := hide (Hr.out.trans (hbr.out.trans (if_neg (fun q => gg q.1))))
    have hc : cntL ys = -1 := if_neg gg
    rw [hc]
    clear hc gg
    go_wp2
    exact bodyPost_ret (v := .agg #[.int .i64 6, .slice none 0 0, .slice none 0 0, .int .i64 0]) (by simp [results, Try.results6, go_sem, set4_0 r0, set4_1 r1, set4_2 r2, set4_3 r3]) rfl (vs_bad hn.out B1.out)
  have hc : cntL ys = prod ys := if_pos gg
  have hcx : cntL xs = prod xs := if_pos HGV.out.1
  have HG := hide gg
  have hPY := prod_bd ys ys.length gg.1 (Nat.le_refl _) gg.2.1
  rw [List.take_length] at hPY
  have hPY2 : prod ys ≤ 4096 := gg.2.2
  have HPX := hide (l2Count_any HS1.out (by omega))
  rw [hcx] at HPX
  rw [hc]
  clear hc hcx gg
  have hy4 := HG.out.1
  have hneg : decide (prod ys < 0) = false := decide_eq_false (by omega)
  go_wp2_with fail
  refine HPX.out.mono ?_
  rintro e wr ⟨rfl, rfl⟩
  clear HPX
  by_cases hpe : prod ys = prod xs
  case neg =>
    have hn := hide (Hr.out.trans (hbr.out.trans (if_neg (fun q => hpe q.2))))
    have hpb : (prod ys != prod xs) = true := by simp [hpe]
    generalize prod ys = PY at hpe hpb hPY hPY2 hneg ⊢
    generalize prod xs = PX at hpe hpb ⊢
    go_wp2
    exact bodyPost_ret (v := .agg #[.int .i64 6, .slice none 0 0, .slice none 0 0, .int .i64 0]) (by simp [results, Try.results6, go_sem, set4_0 r0, set4_1 r1, set4_2 r2, set4_3 r3]) rfl (vs_bad hn.out B1.out)
  have hb2 := hide (Hr.out.trans (hbr.out.trans (if_pos ⟨HG.out, hpe⟩)))
  rw [← hpe]
  generalize hPZ : prod ys = PY at hPY hPY2 hneg ⊢
  have HPZ := hide hPZ
  clear hpe hPZ
  go_wp2_with fail
  refine (l2Offsets_any HS1.out HT1.out off HGV.out).mono ?_
  rintro e w2 ⟨sa2, ca2, rfl, hO, x2⟩
  have l0 := Bel.box x2 l0
  have l1 := Bel.box x2 l1
  have l2 := Bel.box x2 l2
  have B2 := hide (Bel.tr B1.out x2)
  have HP2 := hide (HP1.out.below x2)
  have r0' := Bel.box x2 r0
  have r1' := Bel.box x2 r1
  have r2' := Bel.box x2 r2
  have r3' := Bel.box x2 r3
  have rf' : ∀ o, w2.frozen? ⟨w.heap.size + 1, o, none⟩ = false := fun o => (Below.frozen x2 (p := ⟨w.heap.size + 1, o, none⟩) (cell_lt r0)).trans (rf o)
  have sz2 : Hid (w.heap.size + 1 < w2.heap.size) := cell_lt r0'
  have HOL := hide (offs_len HGV.out)
  have HIN := hide (offs_in HGV.out)
  have HUP := hide (goUp_iff (offs_head HGV.out))
  have HO := hide hO
  clear hO x2 B1 HP1 HS1 HT1 r0 r1 r2 r3 rf sz1
  generalize hOL : offsL xs ss off = OL at HOL HIN HUP HO hb2 ⊢
  clear hOL
  have hOL1 : OL.length ≤ 4096 := HOL.out
  go_wp2_with fail
  go_loopw [7] (fun i W => ∃ k : Nat, i = .int .i64 ((k : Int) + 1) ∧ (k + 1 ≤ OL.length ∨ k = 0) ∧ Hid (GoUp OL (k + 1)) ∧ Ext w2 W) (fun i _ => OL.length - (intOf i).toNat)
  case atStart => exact ⟨0, rfl, Or.inr rfl, fun i hi => absurd hi (by omega), Ext.refl w2⟩
  case round =>
    obtain ⟨k, rfl, hk, hup, hX⟩ := hrel
    have HX := hide hX
    clear hX
    by_cases hlt : k + 1 < OL.length
    · obtain ⟨g, rfl, _, hrow, _⟩ := own_get HO.out (by omega)
      have q0 := HX.out.box (hrow (k + 1) hlt)
      have q1 := HX.out.box (hrow k (by omega))
      rw [Nat.zero_add] at q0 q1
      have hk0 : (0 : Int) ≤ (k : Int) := Int.natCast_nonneg _
      have hk2 : (k : Int) < (OL.length : Int) := by omega
      have hk3 : (k : Int) + 1 < (OL.length : Int) := by omega
      have hk4 : (0 : Int) ≤ (k : Int) + 1 := by omega
      have hb := HIN.out (OL.getD k 0) (by rw [List.getD_eq_getElem?_getD, List.getElem?_eq_getElem (by omega)]; exact List.getElem_mem _)
      have hst : Hid (OL.getD (k + 1) 0 = OL.getD k 0 + 1 → GoUp OL (k + 1 + 1)) := fun e => hup.out.step e
      have hno : Hid (OL.getD (k + 1) 0 ≠ OL.getD k 0 + 1 → ¬ GoUp OL OL.length) := fun e g => e (g k hlt)
      clear hrow
      generalize OL.getD (k + 1) 0 = X at q0 hst hno
      generalize OL.getD k 0 = Y at q1 hst hno hb
      have hk5 : (k : Int) + 1 - 1 = (k : Int) := by omega
      by_cases hXY : X = Y + 1
      · subst hXY
        have H2 := hide (hst.out rfl)
        clear hst hno
        go_wp2_with fail
        go_region
        all_goals go_wp2
        all_goals go_roundw
        all_goals first | exact ⟨k + 1, by go_num, Or.inl (by omega), H2, HX.out.drew⟩ | (simp [intOf]; omega)
      · have hne : (X != Y + 1) = true := by simp [hXY]
        have Hno := hide (hno.out hXY)
        have hn := hide (hb2.out.trans (if_neg (fun e => Hno.out (HUP.out.1 e))))
        have t0 := HX.out.box r0'
        have t1 := HX.out.box r1'
        have t2 := HX.out.box r2'
        have t3 := HX.out.box r3'
        have tf : ∀ o, wr.frozen? ⟨w.heap.size + 1, o, none⟩ = false := fun o => (HX.out.fz _).trans (rf' o)
        have B3 := hide (Bel.tr B2.out HX.out.drew.bl)
        clear hst hno hXY
        go_wp2_with fail
        go_region
        all_goals go_wp2
        all_goals exact bodyPost_ret (v := .agg #[.int .i64 13, .slice none 0 0, .slice none 0 0, .int .i64 0]) (by simp [results, Try.results6, go_sem, set4_0 t0, set4_1 t1, set4_2 t2, set4_3 t3]) rfl (vs_bad hn.out B3.out)
    · have hn := hide (hb2.out.trans (if_pos (HUP.out.2 (fun i hi => hup.out i (by omega)))))
      have hlt' : ¬ (k : Int) + 1 < (OL.length : Int) := by omega
      have l0 := HX.out.box l0
      have l1 := HX.out.box l1
      have l2 := HX.out.box l2
      have t0 := HX.out.box r0'
      have t1 := HX.out.box r1'
      have t2 := HX.out.box r2'
      have t3 := HX.out.box r3'
      have tf : ∀ o, wr.frozen? ⟨w.heap.size + 1, o, none⟩ = false := fun o => (HX.out.fz _).trans (rf' o)
      have B3 := hide (Bel.tr B2.out HX.out.bl)
      have HP3 := hide (HP2.out.ext HX.out)
      have sz3 : Hid (w.heap.size + 1 < wr.heap.size) := cell_lt t0
      clear HX HP2 B2 r0' r1' r2' r3' rf' sz2 hup hk HIN HUP HO
      have Z27 : Hid (Ext wr (wr.alloc (.cells #[.slice none 0 0, .slice none 0 0, .int .i64 0] 25))) := (Ext.refl wr).alloc _ _
      have N0 : Hid ((wr.alloc (.cells #[.slice none 0 0, .slice none 0 0, .int .i64 0] 25)).drew.cell? ⟨wr.heap.size, 0, none⟩ = some (.slice none 0 0)) := new_cell wr _ 25 wr.heap.size rfl 0
      have N1 : Hid ((wr.alloc (.cells #[.slice none 0 0, .slice none 0 0, .int .i64 0] 25)).drew.cell? ⟨wr.heap.size, 1, none⟩ = some (.slice none 0 0)) := new_cell wr _ 25 wr.heap.size rfl 1
      have N2 : Hid ((wr.alloc (.cells #[.slice none 0 0, .slice none 0 0, .int .i64 0] 25)).drew.cell? ⟨wr.heap.size, 2, none⟩ = some (.int .i64 0)) := new_cell wr _ 25 wr.heap.size rfl 2
      have HP4 := hide (HP3.out.ext (Ext.refl wr).drew)
      have HP5 := hide (HP3.out.ext Z27.out.drew)
      have SA : Hid ((fun w' => w'.cell? ⟨w.heap.size, 2, none⟩ = some (.int .i64 off)) wr.drew) := l2
      have SA2 : Hid ((fun w' => w'.cell? ⟨w.heap.size, 2, none⟩ = some (.int .i64 off)) (wr.alloc (.cells #[.slice none 0 0, .slice none 0 0, .int .i64 0] 25)).drew) := Z27.out.box l2
      go_wp2_with fail
      refine (fun (hK : Hid (∀ (B : Nat) (sg : Option Addr) (cg : Nat) (W : World), RW w W B off ys [] (.slice sg ys.length cg) (.slice none 0 0) → (?G : Nat → Option Addr → Nat → World → Prop) B sg cg W)) => ?main) ?side
      case main =>
        go_region_held3 (fun w' => w'.cell? ⟨w.heap.size, 2, none⟩ = some (.int .i64 off)) (first | with_reducible exact SA.out | with_reducible exact SA2.out | with_reducible exact SB'.out | with_reducible exact SB2.out | with_reducible exact SC'.out | with_reducible exact SD'.out | with_reducible exact SE'.out | fail) (first | (go_at_call 25; refine (copyList_own HP4.out hy4).mono ?_; rintro e w3 ⟨sg, cg, rfl, hO3, x3⟩; have SB' : Hid ((fun w' => w'.cell? ⟨w.heap.size, 2, none⟩ = some (.int .i64 off)) w3) := Bel.box x3 SA.out; have SC' : Hid ((fun w' => w'.cell? ⟨w.heap.size, 2, none⟩ = some (.int .i64 off)) (w3.alloc (.cells #[.slice none 0 0, .slice none 0 0, .int .i64 0] 25))) := Ext.box ((Ext.refl w3).alloc _ _) SB'.out; have SD' : Hid ((fun w' => w'.cell? ⟨w.heap.size, 2, none⟩ = some (.int .i64 off)) (w3.alloc (.cells #[.slice sg ys.length cg, .slice none 0 0, .int .i64 off] 25))) := Ext.box ((Ext.refl w3).alloc _ _) SB'.out; have HRW := hide (RW.late (off := off) (cg := cg) B3.out sz3.out t0 t1 t2 t3 tf hO3 x3); clear hO3 x3) | (go_at_call 25; refine (copyList_own HP5.out hy4).mono ?_; rintro e w3 ⟨sg, cg, rfl, hO3, x3⟩; have SB2 : Hid ((fun w' => w'.cell? ⟨w.heap.size, 2, none⟩ = some (.int .i64 off)) w3) := Bel.box x3 SA2.out; have e0 := Bel.box x3 N0.out; have e1 := Bel.box x3 N1.out; have e2 := Bel.box x3 N2.out; have ef : ∀ o, w3.frozen? ⟨wr.heap.size, o, none⟩ = false := fun o => (Below.frozen x3 (p := ⟨wr.heap.size, o, none⟩) (cell_lt N0.out)).trans (Z27.out.drew.unfrozen (Nat.le_refl _) o); have SE' : Hid ((fun w' => w'.cell? ⟨w.heap.size, 2, none⟩ = some (.int .i64 off)) (((w3.setCell ⟨wr.heap.size, 0, none⟩ (.slice sg ys.length cg)).setCell ⟨wr.heap.size, 1, none⟩ (.slice none 0 0)).setCell ⟨wr.heap.size, 2, none⟩ (.int .i64 off))) := Mut.box ((((Mut.refl wr.heap.size w3).setCell _ _).setCell _ _).setCell _ _) (by have := sz3.out; omega) SB2.out; have HRW := hide (RW.early (off := off) (cg := cg) B3.out sz3.out t0 t1 t2 t3 tf hO3 x3 e0 e1 e2 ef); clear hO3 x3) | fail)
        · generalize w3.alloc (.cells #[.slice sg ys.length cg, .slice none 0 0, .int .i64 off] 25) = W at HRW ⊢
          generalize w3.heap.size = B at HRW ⊢
          exact hK.out B sg cg W HRW.out
        · generalize ((w3.setCell ⟨wr.heap.size, 0, none⟩ (.slice sg ys.length cg)).setCell ⟨wr.heap.size, 1, none⟩ (.slice none 0 0)).setCell ⟨wr.heap.size, 2, none⟩ (.int .i64 off) = W at HRW ⊢
          generalize wr.heap.size = B at HRW ⊢
          exact hK.out B sg cg W HRW.out
      case side =>
        intro B sg cg W hRW
        have HRW := hide hRW
        clear hRW l0 l1 l2 t0 t1 t2 t3 tf B3 HP3 sz3 HOL
        go_wp2_with fail
        go_loopw [9] (fun i W => RRel w B off ys (.slice sg ys.length cg) i W) (fun i _ => ys.length - (intOf i).toNat)
        case atStart => exact ⟨0, _, rfl, by omega, HRW.out⟩
        case round =>
          obtain ⟨q, vB, rfl, hq, hW⟩ := hrel
          have HW := hide hW
          clear hW
          by_cases hqt : q < ys.length
          · rcases RP0.out with h0 | ⟨bp, op, rfl, hrp⟩
            · rw [h0] at hqt; simp at hqt
            have hq1 : (q : Int) < (ys.length : Int) := by omega
            have HRP : Hid (∀ j, j < ys.length → wr.cell? ⟨bp, op + j, none⟩ = some (.int .i64 (ys.getD j 0))) := fun j hj => Bel.box HW.out.bl (hrp j hj)
            clear hrp
            go_wp2_with fail
            go_loopw [10, 11] (fun m i W => ∃ t : Nat, i = .int .i64 ((q : Int) + 1 + t) ∧ m = .int .i64 (prod ((ys.drop (q + 1)).take t)) ∧ q + 1 + t ≤ ys.length ∧ W = wr) (fun m i _ => ys.length - (intOf i).toNat)
            case atStart => exact ⟨0, by simp, rfl, by omega, rfl⟩
            case round =>
              obtain ⟨t, rfl, rfl, ht, rfl⟩ := hrel
              have hdl : (ys.drop (q + 1)).length = ys.length - (q + 1) := List.length_drop
              have hb0 := drop_bd hy4 HG.out.2.1 (q + 1) t (by omega)
              by_cases htt : q + 1 + t < ys.length
              · have q0 := HRP.out (q + 1 + t) htt
                have hp := prod_take (ys.drop (q + 1)) t (by omega)
                rw [getD_drop] at hp
                have hb1 := drop_bd hy4 HG.out.2.1 (q + 1) (t + 1) (by omega)
                obtain ⟨J, hJ⟩ : ∃ J : Nat, q + 1 + t = J := ⟨_, rfl⟩
                have hJi : (q : Int) + 1 + (t : Int) = (J : Int) := by omega
                rw [hJ] at q0 hp htt
                have hJ0 : (0 : Int) ≤ (J : Int) := Int.natCast_nonneg _
                have hJ1 : (J : Int) < (ys.length : Int) := by omega
                generalize ys.getD J 0 = x at q0 hp
                generalize hP1 : prod ((ys.drop (q + 1)).take (t + 1)) = P1 at hp hb1
                have HP1 := hide hP1
                clear hP1
                generalize prod ((ys.drop (q + 1)).take t) = P0 at hp hb0 ⊢
                have hw1 : wrap64 (P0 * x) = P1 := by rw [← hp]; unfold wrap64; omega
                clear hp hdl
                have HJ := hide hJ
                clear hJ
                go_wp2
                go_roundw
                · exact ⟨t + 1, by first | (congr 1; push_cast; omega) | (congr 1; omega), by first | (rw [HP1.out]; done) | (rw [HP1.out, hw1]), by have := HJ.out; omega, by trivial⟩
                · simp [intOf]; omega
              · have htl : q + 1 + t = ys.length := by omega
                have htk : (ys.drop (q + 1)).take t = ys.drop (q + 1) := List.take_of_length_le (by omega)
                rw [htk] at hb0 ⊢
                have htj : ¬ (q : Int) + 1 + (t : Int) < (ys.length : Int) := by omega
                have hV := rmS_getD ys q
                rw [if_pos hqt, HPZ.out] at hV
                have hlS : ((rmS ys).take q).length = q := by rw [List.length_take, rmS_len]; omega
                have hT1 := take_snoc (rmS ys) q (by rw [rmS_len]; exact hqt)
                generalize hLS : (rmS ys).take q = LS at HW hlS hT1
                have HLS := hide hLS
                clear hLS htk htl hdl
                obtain ⟨s2, c2, rfl⟩ := own_form2 HW.out.ownB
                have o1 := HW.out.o1
                have bf := HW.out.bf
                have hM63 : LS.length + 1 ≤ maxLen := by unfold maxLen; omega
                have hM8 : (LS.length + 1) * 8 ≤ 140737488355328 := by omega
                have HlS := hide hlS
                clear hlS
                generalize prod (ys.drop (q + 1)) = P at hb0 hV ⊢
                by_cases hz : PY = 0
                · have hzb : (PY == 0) = true := by simp [hz]
                  rw [if_pos hz] at hV
                  rw [hV] at hT1
                  have HT1 := hide hT1
                  clear hV hT1 hz
                  go_wp2_with (at_builtin; (refine wpList_append_own_at _ rfl _ _ 23 rfl (B + 1) 2 i0 (.int .i64 0) 1 8 Try.underlying23 hi0 hz0 hz1 hz2 rfl (by decide) _ _ _ rfl (HW.out.ownB.alloc _) ⟨wr.heap.size, 0, none⟩ 1 1 [.int .i64 0] rfl rfl (cell_one_new _ _ _) (one_val _) hM63 hM8 (HW.out.szP _) ?_); intro v5 w5 hown5 hgrow5 hnil5 hat5; obtain ⟨s5, c5, rfl⟩ := own_form2 hown5; have HSt := hide (HW.out.step 0 hown5 hgrow5 hat5); have c1 := at3R HW.out hgrow5; have cf := at3F HW.out hgrow5; clear hown5 hgrow5 hnil5 hat5)
                  go_roundw
                  · exact ⟨q + 1, _, by go_num, by omega, by rw [HT1.out]; exact HSt.out⟩
                  · simp [intOf]; omega
                · have hzb : (PY == 0) = false := by simp [hz]
                  rw [if_neg hz] at hV
                  rw [hV] at hT1
                  have HT1 := hide hT1
                  clear hV hT1 hz
                  go_wp2_with (at_builtin; (refine wpList_append_own_at _ rfl _ _ 23 rfl (B + 1) 2 i0 (.int .i64 0) 1 8 Try.underlying23 hi0 hz0 hz1 hz2 rfl (by decide) _ _ _ rfl (HW.out.ownB.alloc _) ⟨wr.heap.size, 0, none⟩ 1 1 [.int .i64 P] rfl rfl (cell_one_new _ _ _) (one_val _) hM63 hM8 (HW.out.szP _) ?_); intro v5 w5 hown5 hgrow5 hnil5 hat5; obtain ⟨s5, c5, rfl⟩ := own_form2 hown5; have HSt := hide (HW.out.step P hown5 hgrow5 hat5); have c1 := at3R HW.out hgrow5; have cf := at3F HW.out hgrow5; clear hown5 hgrow5 hnil5 hat5)
                  go_roundw
                  · exact ⟨q + 1, _, by go_num, by omega, by rw [HT1.out]; exact HSt.out⟩
                  · simp [intOf]; omega
          · have hqq : q = ys.length := by omega
            subst hqq
            have hW1 := HW.out
            rw [List.take_of_length_le (by rw [rmS_len]; omega)] at hW1
            obtain ⟨s2, c2, rfl⟩ := own_form2 hW1.ownB
            have HW1 := hide hW1
            clear hW1 HW
            generalize hrb : rmS ys = RB at HW1 hn
            have o0 := HW1.out.o0
            have o1 := HW1.out.o1
            have o2 := HW1.out.o2
            have r0 := HW1.out.r0
            have r1 := HW1.out.r1
            have r2 := HW1.out.r2
            have r3 := HW1.out.r3
            have rf := HW1.out.rf
            have hqn : ¬ (ys.length : Int) < (ys.length : Int) := by omega
            go_wp2
            exact bodyPost_ret (v := .agg #[.int .i64 0, .slice sg ys.length cg, .slice s2 RB.length c2, .int .i64 off]) (by simp [results, Try.results6, go_sem, set4_0 r0, set4_1 r1, set4_2 r2, set4_3 r3]) rfl (rs_good HW1.out rfl hn.out)
theorem sRS_any {w : World} {vS vT vP : Value} {xs ss ys : List Int} (hS : Ints w vS xs) (hT : Ints w vT ss) (hP : Ints w vP ys) (off : Int) (lx : xs.length ≤ 1048576) (ls : ss.length ≤ 1048576) (ly : ys.length ≤ 1048576) {c : Int} {L S : List Int} {o : Int} (hr : rsL xs ss off ys = (c, L, S, o)) :
    Calls Try.prog 6 #[.agg #[vS, vT, .int .i64 off], vP] w fun e w' => VSOk w c L S o e w' :=
  (sRS_own hS hT hP off lx ls ly hr).mono fun e w' h => h.old
end Go.Proofs.Ytanbgpmbccianaa
