import Derived.Test.YtanbgpmbccianaaDDa
namespace Go.Proofs.Ytanbgpmbccianaa
open Go.ChangeShapes Go.RowKit
set_option linter.unusedSimpArgs false
set_option linter.unusedVariables false
variable {G : Gh} {s t : SS}

/-- Inside one of the outer draws: the source at b, v in its box at B, the answer's box at w.heap.size; all that is older than K. -/
structure DX (w W : World) (G : Gh) (s : SS) (K b B : Nat) (vA vB : Value) (xs ss : List Int) (off : Int) : Prop where
  src : SX W K b G s
  a : W.ownsRow (w.heap.size + 1) 2 1 vA xs.length (xs.map (Value.int .i64))
  c : W.ownsRow (w.heap.size + 1) 2 1 vB ss.length (ss.map (Value.int .i64))
  bl : Bel w W
  hb : w.heap.size < b
  hK : K ≤ W.heap.size
  c0 : W.cell? ⟨B, 0, none⟩ = some vA
  c1 : W.cell? ⟨B, 1, none⟩ = some vB
  c2 : W.cell? ⟨B, 2, none⟩ = some (.int .i64 off)
  rb : RB3 W w.heap.size
  hB : B ≠ b
  hBK : B < K
  hRB : w.heap.size < B
  cf : ∀ o, W.frozen? ⟨B, o, none⟩ = false
  nA : ∀ g, vA.ownBlock = some g → g < K ∧ g ≠ b
  nB : ∀ g, vB.ownBlock = some g → g < K ∧ g ≠ b
theorem DX.gb {w W W' : World} {K b B : Nat} {vA vB : Value} {xs ss : List Int} {off : Int} (h : DX w W G s K b B vA vB xs ss off) (k : SX W' K b G t) (x : W.grownBy W' (some b)) : DX w W' G t K b B vA vB xs ss off := by
  have hb := h.hb
  have hz := Below.size h.bl
  exact ⟨k, h.a.kept x (Or.inr fun e => (h.nA b e).2 rfl), h.c.kept x (Or.inr fun e => (h.nB b e).2 rfl), Below.trans h.bl ⟨x.os, x.tape, x.output, x.size, fun j hj => x.block j (by omega) (fun e => by injection e with e; omega)⟩, hb, Nat.le_trans h.hK x.size, gb_cell x h.hB h.c0, gb_cell x h.hB h.c1, gb_cell x h.hB h.c2, h.rb.gb x (by omega), h.hB, h.hBK, h.hRB, fun o => (gb_fz x h.hB (cell_lt h.c0) o).trans (h.cf o), h.nA, h.nB⟩
theorem DX.bel {w W W' : World} {K b B : Nat} {vA vB : Value} {xs ss : List Int} {off : Int} (h : DX w W G s K b B vA vB xs ss off) (x : Bel W W') : DX w W' G s K b B vA vB xs ss off := h.gb (h.src.below (Below.mono x h.hK)) (gb_bel b x)
theorem DX.next {w W : World} {K b B : Nat} {vA vB : Value} {xs ss : List Int} {off : Int} (h : DX w W G s K b B vA vB xs ss off) (m : Int) :
    Calls Try.prog 13 #[.pointer (some ⟨b, 0, none⟩), .int .i64 m] W fun e W' => ∃ (v : Int) (t : SS), nextL G.ds s m = (v, t) ∧ e = .returned (.int .i64 v) ∧ (0 ≤ v ∧ (v < m ∨ v = 0)) ∧ DX w W' G t K b B vA vB xs ss off :=
  (next_x h.src m).mono fun e W' hh => by
    obtain ⟨v, t, h0, h1, h2, h3, h4, h5⟩ := hh
    exact ⟨v, t, h0, h1, ⟨h2, h3⟩, h.gb h4 (gb_mut h5)⟩
/-- A row that is younger than K grows. -/
theorem DX.grow {w W W' : World} {K b B : Nat} {vA vB : Value} {xs ss : List Int} {off : Int} {row : Option Nat} (h : DX w W G s K b B vA vB xs ss off) (x : W.grownBy W' row) (hrow : ∀ j, row = some j → K ≤ j) : DX w W' G s K b B vA vB xs ss off := by
  have hz := Below.size h.bl
  have hbK := h.src.hb
  have hb := h.hb
  have hBK := h.hBK
  have hK := h.hK
  have hn : ∀ j, j < K → some j ≠ row := fun j hj e => by have := hrow j e.symm; omega
  have cc : ∀ {B o : Nat} {v : Value}, B < K → W.cell? ⟨B, o, none⟩ = some v → W'.cell? ⟨B, o, none⟩ = some v := fun {B o v} hB hc => x.cell hc (hn B hB)
  have ff : ∀ {B : Nat}, B < K → ∀ o, W'.frozen? ⟨B, o, none⟩ = W.frozen? ⟨B, o, none⟩ := fun {B} hB o => World.frozen?_of_block (x.block B (by omega) (hn B hB))
  have kp : ∀ {v : Value} {n : Nat} {l : List Value}, (∀ g, v.ownBlock = some g → g < K ∧ g ≠ b) → W.ownsRow (w.heap.size + 1) 2 1 v n l → W'.ownsRow (w.heap.size + 1) 2 1 v n l := fun {v n l} hv ho => ho.kept x (by
    cases q : v.ownBlock with
    | none => exact Or.inl rfl
    | some g => exact Or.inr (hn g (hv g q).1))
  exact ⟨h.src.below ⟨x.os, x.tape, x.output, x.size, fun j hj => x.block j (by omega) (hn j hj)⟩, kp h.nA h.a, kp h.nB h.c, Below.trans h.bl ⟨x.os, x.tape, x.output, x.size, fun j hj => x.block j (by omega) (hn j (by omega))⟩, hb, Nat.le_trans hK x.size, cc hBK h.c0, cc hBK h.c1, cc hBK h.c2, ⟨cc (by omega) h.rb.r0, cc (by omega) h.rb.r1, cc (by omega) h.rb.r2, fun o => (ff (by omega) o).trans (h.rb.rf o)⟩, h.hB, hBK, h.hRB, fun o => (ff hBK o).trans (h.cf o), h.nA, h.nB⟩
/-- The view is drawn and lies in its box. -/
theorem DX.make {w V0 W1 W2 : World} {b : Nat} {sa sb : Option Addr} {ca cb : Nat} {xs ss : List Int} (off : Int) (hV : V0 = w.alloc (.cells #[.slice none 0 0, .slice none 0 0, .int .i64 0] 25)) (hb : V0.heap.size ≤ b) (x1 : Below V0.heap.size V0 W1) (hbW : b < W1.heap.size) (ha : W2.ownsRow W1.heap.size 2 1 (.slice sa xs.length ca) xs.length (xs.map (Value.int .i64))) (hc : W2.ownsRow W1.heap.size 2 1 (.slice sb ss.length cb) ss.length (ss.map (Value.int .i64))) (hs : ST W1 W2 W1.heap.size b G s) :
    DX w (W2.alloc (.cells #[.slice sa xs.length ca, .slice sb ss.length cb, .int .i64 off] 25)) G s (W2.heap.size + 1) b W2.heap.size (.slice sa xs.length ca) (.slice sb ss.length cb) xs ss off := by
  have hv0 : V0.heap.size = w.heap.size + 1 := by rw [hV]; simp
  have y0 : Ext w V0 := by rw [hV]; exact (Ext.refl _).alloc _ _
  have r0 : RB3 V0 w.heap.size := by rw [hV]; exact RB3.make w w.heap.size rfl
  have h1 := Below.size x1
  have h2 := hs.gb.size
  have x1' : Bel V0 W1 := x1
  have b1 : Bel w W1 := Bel.tr y0.bl x1'
  have hz1 := Below.size b1
  have b2 : Bel w W2 := Below.trans b1 ⟨hs.gb.os, hs.gb.tape, hs.gb.output, hs.gb.size, fun j hj => hs.gb.block j (by omega) (fun e => by injection e with e; omega)⟩
  have n1 := fun j => new_cell W2 #[.slice sa xs.length ca, .slice sb ss.length cb, .int .i64 off] 25 W2.heap.size rfl j
  have y2 : Ext W2 (W2.alloc (.cells #[.slice sa xs.length ca, .slice sb ss.length cb, .int .i64 off] 25)) := (Ext.refl _).alloc _ _
  refine ⟨(hs.src.below (Below.mono y2.bl h2)).mono (by omega), own_keep (own_low ha (by omega)) y2.bl, own_keep (own_low hc (by omega)) y2.bl, Bel.tr b2 y2.bl, by omega, by simp, n1 0, n1 1, n1 2, ((r0.bel x1').gb hs.gb (by omega)).bel y2.bl, by omega, by omega, by omega, fun o => y2.unfrozen (Nat.le_refl _) o, fun g hg => ?_, fun g hg => ?_⟩
  · have := ha.lt g hg; omega
  · have := hc.lt g hg; omega
/-- The lists behind the stores into the answer's box. -/
theorem DX.ints {w W : World} {K b B : Nat} {vA vB : Value} {xs ss : List Int} {off : Int} (h : DX w W G s K b B vA vB xs ss off) (v0 v1 v2 : Value) : Ints (((W.setCell ⟨w.heap.size, 0, none⟩ v0).setCell ⟨w.heap.size, 1, none⟩ v1).setCell ⟨w.heap.size, 2, none⟩ v2) vA xs ∧ Ints (((W.setCell ⟨w.heap.size, 0, none⟩ v0).setCell ⟨w.heap.size, 1, none⟩ v1).setCell ⟨w.heap.size, 2, none⟩ v2) vB ss ∧ Bel w (((W.setCell ⟨w.heap.size, 0, none⟩ v0).setCell ⟨w.heap.size, 1, none⟩ v1).setCell ⟨w.heap.size, 2, none⟩ v2) :=
  have hl := Nat.lt_succ_self w.heap.size
  ⟨own_ints (ownsRow_setCell_below (ownsRow_setCell_below (ownsRow_setCell_below h.a (a := ⟨w.heap.size, 0, none⟩) hl _) (a := ⟨w.heap.size, 1, none⟩) hl _) (a := ⟨w.heap.size, 2, none⟩) hl _), own_ints (ownsRow_setCell_below (ownsRow_setCell_below (ownsRow_setCell_below h.c (a := ⟨w.heap.size, 0, none⟩) hl _) (a := ⟨w.heap.size, 1, none⟩) hl _) (a := ⟨w.heap.size, 2, none⟩) hl _), ((h.bl.setCell (Nat.le_refl _) _).setCell (Nat.le_refl _) _).setCell (Nat.le_refl _) _⟩
end Go.Proofs.Ytanbgpmbccianaa
namespace Go.Proofs.Ytanbgpmbccianaa
open Go.ChangeShapes Go.RowKit
set_option linter.unusedSimpArgs false
set_option linter.unusedVariables false
variable {G : Gh} {s t : SS}

/-- Inside an outer draw, with a list of its own that is younger than K. -/
structure PX (w W : World) (G : Gh) (s : SS) (K b B : Nat) (vA vB : Value) (xs ss : List Int) (off : Int) (vP : Value) (P : List Int) : Prop where
  dx : DX w W G s K b B vA vB xs ss off
  own : W.ownsRow K 2 1 vP P.length (P.map (Value.int .i64))
theorem PX.bel {w W W' : World} {K b B : Nat} {vA vB vP : Value} {xs ss P : List Int} {off : Int} (h : PX w W G s K b B vA vB xs ss off vP P) (x : Bel W W') : PX w W' G s K b B vA vB xs ss off vP P := ⟨h.dx.bel x, own_keep h.own x⟩
theorem PX.next {w W : World} {K b B : Nat} {vA vB vP : Value} {xs ss P : List Int} {off : Int} (h : PX w W G s K b B vA vB xs ss off vP P) (m : Int) :
    Calls Try.prog 13 #[.pointer (some ⟨b, 0, none⟩), .int .i64 m] W fun e W' => ∃ (v : Int) (t : SS), nextL G.ds s m = (v, t) ∧ e = .returned (.int .i64 v) ∧ (0 ≤ v ∧ (v < m ∨ v = 0)) ∧ PX w W' G t K b B vA vB xs ss off vP P :=
  (next_x h.dx.src m).mono fun e W' hh => by
    obtain ⟨v, t, h0, h1, h2, h3, h4, h5⟩ := hh
    exact ⟨v, t, h0, h1, ⟨h2, h3⟩, h.dx.gb h4 (gb_mut h5), own_mut h.own h5 (fun e => by have := (h.own.lt b e).1; have := h.dx.src.hb; omega)⟩
theorem PX.step {w wr w3 : World} {K b B : Nat} {vA vB vP v3 : Value} {xs ss P : List Int} {off : Int} (h : PX w wr G s K b B vA vB xs ss off vP P) (x : Int)
    (hown : w3.ownsRow K 2 1 v3 (P.length + 1) (P.map (Value.int .i64) ++ [.int .i64 x])) (hgrow : (wr.alloc (.cells #[.int .i64 x] 2)).grownBy w3 vP.ownBlock) : PX w w3 G s K b B vA vB xs ss off v3 (P ++ [x]) := by
  refine ⟨(h.dx.bel ((Ext.refl wr).alloc #[.int .i64 x] 2).bl).grow hgrow (fun j hj => (h.own.lt j hj).1), ?_⟩
  rw [List.length_append, List.map_append]
  exact hown
theorem PX.szP {w wr : World} {K b B : Nat} {vA vB vP : Value} {xs ss P : List Int} {off : Int} (h : PX w wr G s K b B vA vB xs ss off vP P) (x : Int) : K ≤ (wr.alloc (.cells #[.int .i64 x] 2)).heap.size := by
  have h1 : wr.heap.size ≤ (wr.alloc (.cells #[.int .i64 x] 2)).heap.size := Below.size ((Ext.refl wr).alloc #[.int .i64 x] 2).bl
  exact Nat.le_trans h.dx.hK h1
theorem PX.start {w W : World} {K b B : Nat} {vA vB : Value} {xs ss : List Int} {off : Int} (h : DX w W G s K b B vA vB xs ss off) : PX w (W.alloc (.cells #[] 2)) G s K b B vA vB xs ss off (.slice (some ⟨W.heap.size, 0, none⟩) 0 0) [] :=
  ⟨h.bel ((Ext.refl W).alloc #[] 2).bl, World.ownsRow_made (base := K) (e := 2) (size := 1) W #[] 0 h.hK (by unfold maxLen; omega) rfl⟩
theorem PX.row {w W : World} {K b B g n cap : Nat} {vA vB : Value} {xs ss P : List Int} {off : Int} (h : PX w W G s K b B vA vB xs ss off (.slice (some ⟨g, 0, none⟩) n cap) P) : P.length = n ∧ K ≤ g ∧ Row W g 0 P ∧ (∀ o, W.frozen? ⟨g, o, none⟩ = false) ∧
    ∀ (j : Nat) (x : Int), PX w (W.setCell ⟨g, j, none⟩ (.int .i64 x)) G s K b B vA vB xs ss off (.slice (some ⟨g, 0, none⟩) n cap) (P.set j x) := by
  have ho := h.own
  obtain ⟨s', c', e⟩ := own_form2 ho
  injection e with e1 e2 e3
  subst e2
  have hg := (ho.lt g rfl).1
  refine ⟨rfl, hg, (row_of_own ho).1, fun o => ho.frozenAt o, fun j x => ?_⟩
  obtain ⟨s1, s2⟩ := ho.stored j (.int .i64 x)
  refine ⟨h.dx.grow s2 (fun k hk => by injection hk with hk; omega), ?_⟩
  rw [List.length_set, List.map_set]
  exact s1
theorem PX.join {w W w3 : World} {K b B gs cs : Nat} {vA vB v3 : Value} {xs ss P : List Int} {off x : Int} {n : Nat} (h : PX w W G s K b B vA vB xs ss off (.slice (some ⟨gs, 0, none⟩) n cs) P) (hn : n = P.length)
    (hown : w3.ownsRow K 2 1 v3 (1 + n) ([.int .i64 x] ++ P.map (Value.int .i64))) (hgrow : (W.alloc (.cells #[.int .i64 x] 2)).grownBy w3 (some W.heap.size)) : PX w w3 G s K b B vA vB xs ss off v3 (x :: P) := by
  subst hn
  refine ⟨(h.dx.bel ((Ext.refl W).alloc #[.int .i64 x] 2).bl).grow hgrow (fun j hj => by injection hj with hj; have := h.dx.hK; omega), ?_⟩
  have e : 1 + P.length = (x :: P).length := by simp; omega
  rw [← e]
  exact hown
theorem PX.news {w W : World} {K b B gs cs n : Nat} {vA vB : Value} {xs ss P : List Int} {off : Int} (h : PX w W G s K b B vA vB xs ss off (.slice (some ⟨gs, 0, none⟩) n cs) P) (x : Int) : ∀ j u, (P.map (Value.int .i64))[j]? = some u → (W.alloc (.cells #[.int .i64 x] 2)).cell? ((⟨gs, 0, none⟩ : Addr).add j) = some u :=
  fun j u hu => (h.own.alloc _).cells (g := gs) rfl j u hu
theorem own_ib {W : World} {base lo : Nat} {v : Value} {L : List Int} (h : W.ownsRow base 2 1 v L.length (L.map (Value.int .i64))) (hb : lo ≤ base) : IntsB W lo W.heap.size v L := by
  obtain ⟨sa, cap, rfl⟩ := own_form2 h
  exact own_intsB h hb
theorem own_chain3 {W : World} {base n R : Nat} {v : Value} {L : List Value} (h : W.ownsRow base 2 1 v n L) (hb : R < base) (v0 v1 v2 : Value) : (((W.setCell ⟨R, 0, none⟩ v0).setCell ⟨R, 1, none⟩ v1).setCell ⟨R, 2, none⟩ v2).ownsRow base 2 1 v n L :=
  ownsRow_setCell_below (ownsRow_setCell_below (ownsRow_setCell_below h (a := ⟨R, 0, none⟩) hb _) (a := ⟨R, 1, none⟩) hb _) (a := ⟨R, 2, none⟩) hb _
theorem DX.intsB {w W : World} {K b B : Nat} {vA vB : Value} {xs ss : List Int} {off : Int} (h : DX w W G s K b B vA vB xs ss off) (v0 v1 v2 : Value) : IntsB (((W.setCell ⟨w.heap.size, 0, none⟩ v0).setCell ⟨w.heap.size, 1, none⟩ v1).setCell ⟨w.heap.size, 2, none⟩ v2) w.heap.size (((W.setCell ⟨w.heap.size, 0, none⟩ v0).setCell ⟨w.heap.size, 1, none⟩ v1).setCell ⟨w.heap.size, 2, none⟩ v2).heap.size vA xs ∧ IntsB (((W.setCell ⟨w.heap.size, 0, none⟩ v0).setCell ⟨w.heap.size, 1, none⟩ v1).setCell ⟨w.heap.size, 2, none⟩ v2) w.heap.size (((W.setCell ⟨w.heap.size, 0, none⟩ v0).setCell ⟨w.heap.size, 1, none⟩ v1).setCell ⟨w.heap.size, 2, none⟩ v2).heap.size vB ss :=
  have hl := Nat.lt_succ_self w.heap.size
  ⟨own_ib (own_chain3 h.a hl v0 v1 v2) (Nat.le_succ _), own_ib (own_chain3 h.c hl v0 v1 v2) (Nat.le_succ _)⟩
theorem PX.ints {w W : World} {K b B : Nat} {vA vB vP : Value} {xs ss P : List Int} {off : Int} (h : PX w W G s K b B vA vB xs ss off vP P) (v0 v1 v2 : Value) : IntsB (((W.setCell ⟨w.heap.size, 0, none⟩ v0).setCell ⟨w.heap.size, 1, none⟩ v1).setCell ⟨w.heap.size, 2, none⟩ v2) w.heap.size (((W.setCell ⟨w.heap.size, 0, none⟩ v0).setCell ⟨w.heap.size, 1, none⟩ v1).setCell ⟨w.heap.size, 2, none⟩ v2).heap.size vP P := by
  have hl : w.heap.size < K := by have := h.dx.hb; have := h.dx.src.hb; omega
  exact own_ib (own_chain3 h.own hl v0 v1 v2) (by omega)
/-- A view and a list are drawn. -/
def DrawPOk (w : World) (v : V3) (ps : List Int) (e : Ending) (w' : World) : Prop := ∃ (sa sb sp : Option Addr) (ca cb cp : Nat), e = .returned (.tuple #[.agg #[.slice sa v.1.length ca, .slice sb v.2.1.length cb, .int .i64 v.2.2], .slice sp ps.length cp]) ∧ IntsB w' w.heap.size w'.heap.size (.slice sa v.1.length ca) v.1 ∧ IntsB w' w.heap.size w'.heap.size (.slice sb v.2.1.length cb) v.2.1 ∧ IntsB w' w.heap.size w'.heap.size (.slice sp ps.length cp) ps ∧ (v.1.length ≤ 5 ∧ v.2.1.length ≤ 5 ∧ ps.length ≤ 8) ∧ Bel w w'
theorem PX.done {w W : World} {K b B : Nat} {sa sb sp : Option Addr} {ca cb cp n : Nat} {xs ss P : List Int} {off : Int} (h : PX w W G s K b B (.slice sa xs.length ca) (.slice sb ss.length cb) xs ss off (.slice sp n cp) P) (hl : xs.length ≤ 5 ∧ ss.length ≤ 5) (hn : P.length = n) (h8 : n ≤ 8) {v0 v1 v2 : Value} :
    DrawPOk w (xs, ss, off) P (.returned (.tuple #[.agg #[.slice sa xs.length ca, .slice sb ss.length cb, .int .i64 off], .slice sp n cp])) (((W.setCell ⟨w.heap.size, 0, none⟩ v0).setCell ⟨w.heap.size, 1, none⟩ v1).setCell ⟨w.heap.size, 2, none⟩ v2) := by
  subst hn
  obtain ⟨_, _, t3⟩ := h.dx.ints v0 v1 v2
  obtain ⟨t1, t2⟩ := h.dx.intsB v0 v1 v2
  exact ⟨sa, sb, sp, ca, cb, cp, rfl, t1, t2, h.ints v0 v1 v2, ⟨hl.1, hl.2, h8⟩, t3⟩
end Go.Proofs.Ytanbgpmbccianaa
