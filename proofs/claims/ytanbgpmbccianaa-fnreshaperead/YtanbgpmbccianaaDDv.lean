import Derived.Test.YtanbgpmbccianaaDTb
namespace Go.Proofs.Ytanbgpmbccianaa
open Go.ChangeShapes Go.RowKit
set_option linter.unusedSimpArgs false
set_option linter.unusedVariables false
variable {G : Gh} {s t : SS}

/-- A block that holds a view. -/
def Ty (W : World) (B : Nat) : Prop := ∃ cur, W.heap[B]? = some (.cells cur 25 (0, 0))
theorem Ty.lt {W : World} {B : Nat} (h : Ty W B) : B < W.heap.size := by
  obtain ⟨cur, h⟩ := h
  rcases Nat.lt_or_ge B W.heap.size with q | q
  · exact q
  · rw [Array.getElem?_eq_none q] at h; cases h
theorem Ty.gb {W W' : World} {B b : Nat} (h : Ty W B) (x : W.grownBy W' (some b)) (hb : B ≠ b) : Ty W' B := by
  have hl := h.lt
  obtain ⟨cur, h⟩ := h
  exact ⟨cur, (x.block B hl (fun e => hb (by injection e))).trans h⟩
theorem Ty.set {W : World} {B g o : Nat} {v : Value} (h : Ty W B) : Ty (W.setCell ⟨g, o, none⟩ v) B := by
  have hl := h.lt
  by_cases e : B = g
  · subst e
    obtain ⟨cur, h⟩ := h
    exact ⟨_, heap_setCell_same W B o cur _ v h⟩
  · have m : Mut g W (W.setCell ⟨g, o, none⟩ v) := (Mut.refl _ _).setCell _ _
    obtain ⟨cur, h⟩ := h
    exact ⟨cur, (m.block B hl e).trans h⟩
theorem Ty.new (W : World) (cs : Array Value) (B : Nat) (hB : B = W.heap.size) : Ty (W.alloc (.cells cs 25)) B := by
  subst hB
  exact ⟨cs, heap_alloc_new W _⟩
theorem own_ty {W : World} {H B n : Nat} {v : Value} {L : List Value} (h : W.ownsRow H 2 1 v n L) (t : Ty W B) : v.ownBlock ≠ some B := fun e => by
  obtain ⟨c2, ht⟩ := t
  rcases h.2 with ⟨rfl, _⟩ | ⟨g, cap, cur, rfl, _, h3, _⟩
  · cases e
  · injection e with e
    have e' : g = B := e
    subst e'
    rw [ht] at h3
    simp at h3
theorem DV.sl {W : World} {H : Nat} {vA vB : Value} {xs ss : List Int} (h : DV W H vA vB xs ss) : ∃ (sa sb : Option Addr) (ca cb : Nat), vA = .slice sa xs.length ca ∧ vB = .slice sb ss.length cb := by
  obtain ⟨sa, ca, h1⟩ := own_form2 h.a
  obtain ⟨sb, cb, h2⟩ := own_form2 h.c
  exact ⟨sa, sb, ca, cb, h1, h2⟩
/-- A view in a box at B, the answer's box at R. -/
structure VB2 (w W : World) (G : Gh) (s : SS) (H b R B : Nat) (vA vB : Value) (xs ss : List Int) (off : Int) : Prop where
  st : ST w W H b G s
  dv : DV W H vA vB xs ss
  c0 : W.cell? ⟨B, 0, none⟩ = some vA
  c1 : W.cell? ⟨B, 1, none⟩ = some vB
  c2 : W.cell? ⟨B, 2, none⟩ = some (.int .i64 off)
  cf : ∀ o, W.frozen? ⟨B, o, none⟩ = false
  rb : RB3 W R
  hR : w.heap.size ≤ R
  hB : R < B
  tB : Ty W B
  tR : Ty W R
theorem VB2.gb {w W W' : World} {H b R B : Nat} {vA vB vA' vB' : Value} {xs ss xs' ss' : List Int} {off : Int} (h : VB2 w W G s H b R B vA vB xs ss off) (k : ST w W' H b G t) (x : W.grownBy W' (some b)) (hd : DV W' H vA' vB' xs' ss') (e1 : vA' = vA) (e2 : vB' = vB) : VB2 w W' G t H b R B vA vB xs' ss' off := by
  subst e1; subst e2
  have hb := h.st.bH
  have hH := h.st.hH
  have h1 := h.hR
  have h2 := h.hB
  exact ⟨k, hd, gb_cell x (by omega) h.c0, gb_cell x (by omega) h.c1, gb_cell x (by omega) h.c2, fun o => (gb_fz x (by omega) (cell_lt h.c0) o).trans (h.cf o), h.rb.gb x (by omega), h1, h2, h.tB.gb x (by omega), h.tR.gb x (by omega)⟩
theorem VB2.keep {w W W' : World} {H b R B : Nat} {vA vB : Value} {xs ss : List Int} {off : Int} (h : VB2 w W G s H b R B vA vB xs ss off) (k : ST w W' H b G t) (x : W.grownBy W' (some b)) : VB2 w W' G t H b R B vA vB xs ss off :=
  h.gb k x (h.dv.keep x h.st.bH) rfl rfl
theorem VB2.next {w W : World} {H b R B : Nat} {vA vB : Value} {xs ss : List Int} {off : Int} (h : VB2 w W G s H b R B vA vB xs ss off) (m : Int) :
    Calls Try.prog 13 #[.pointer (some ⟨b, 0, none⟩), .int .i64 m] W fun e W' => ∃ (v : Int) (t : SS), nextL G.ds s m = (v, t) ∧ e = .returned (.int .i64 v) ∧ (0 ≤ v ∧ (v < m ∨ v = 0)) ∧ VB2 w W' G t H b R B vA vB xs ss off :=
  (h.st.next m).mono fun e W' hh => by
    obtain ⟨v, t, h0, h1, h2, h3, h4, h5⟩ := hh
    exact ⟨v, t, h0, h1, ⟨h2, h3⟩, h.keep h4 (gb_mut h5)⟩
/-- The view in the box is another one. -/
theorem VB2.set {w W W' : World} {H b R B : Nat} {vA vB vA' vB' : Value} {xs ss xs' ss' : List Int} {off off' : Int} (h : VB2 w W G s H b R B vA vB xs ss off) (k : ST w W' H b G t) (x : W.grownBy W' (some b)) (hd : DV W' H vA' vB' xs' ss') :
    W'.cell? ⟨B, 0, none⟩ = some vA ∧ W'.cell? ⟨B, 1, none⟩ = some vB ∧ W'.cell? ⟨B, 2, none⟩ = some (.int .i64 off) ∧ (∀ o, W'.frozen? ⟨B, o, none⟩ = false) ∧
    VB2 w (((W'.setCell ⟨B, 0, none⟩ vA').setCell ⟨B, 1, none⟩ vB').setCell ⟨B, 2, none⟩ (.int .i64 off')) G t H b R B vA' vB' xs' ss' off' := by
  have hb := h.st.bH
  have hH := h.st.hH
  have h1 := h.hR
  have h2 := h.hB
  have q0 := gb_cell (o := 0) x (show B ≠ b by omega) h.c0
  have q1 := gb_cell (o := 1) x (show B ≠ b by omega) h.c1
  have q2 := gb_cell (o := 2) x (show B ≠ b by omega) h.c2
  have qf : ∀ o, W'.frozen? ⟨B, o, none⟩ = false := fun o => (gb_fz x (by omega) (cell_lt h.c0) o).trans (h.cf o)
  have tB := h.tB.gb x (show B ≠ b by omega)
  have tR := h.tR.gb x (show R ≠ b by omega)
  have rb := h.rb.gb x (show R ≠ b by omega)
  have m : Mut B W' (((W'.setCell ⟨B, 0, none⟩ vA').setCell ⟨B, 1, none⟩ vB').setCell ⟨B, 2, none⟩ (.int .i64 off')) := (((Mut.refl _ _).setCell _ _).setCell _ _).setCell _ _
  have n1 := own_ty hd.a tB
  have n2 := own_ty hd.c tB
  have hle : w.heap.size ≤ B := by omega
  exact ⟨q0, q1, q2, qf, ((k.setCell hle).setCell hle).setCell hle, ((hd.other n1 n2).other n1 n2).other n1 n2, set3_0 q0, set3_1 q1, set3_2 q2, fun o => (m.fz _).trans (qf o), rb.mut m (by omega), h1, h2, tB.set.set.set, tR.set.set.set⟩
theorem VB2.make {w W : World} {H b R : Nat} {vA vB : Value} {xs ss : List Int} (off : Int) (hs : ST w W H b G s) (hd : DV W H vA vB xs ss) (rb : RB3 W R) (hR : w.heap.size ≤ R) (tR : Ty W R) : VB2 w (W.alloc (.cells #[vA, vB, .int .i64 off] 25)) G s H b R W.heap.size vA vB xs ss off := by
  have n1 := fun j => new_cell W #[vA, vB, .int .i64 off] 25 W.heap.size rfl j
  have y : Ext W (W.alloc (.cells #[vA, vB, .int .i64 off] 25)) := (Ext.refl _).alloc _ _
  exact ⟨hs.alloc _ _, hd.bel y.bl, n1 0, n1 1, n1 2, fun o => y.unfrozen (Nat.le_refl _) o, rb.bel y.bl, hR, tR.lt, Ty.new _ _ _ rfl, tR.gb (gb_bel W.heap.size y.bl) (by have := tR.lt; omega)⟩
theorem VB2.done {w W : World} {H b R B : Nat} {vA vB : Value} {xs ss : List Int} {off : Int} (h : VB2 w W G s H b R B vA vB xs ss off) (hi : VI xs ss) {v0 v1 v2 : Value} : DrawV w H b G ((xs, ss, off), s) (.returned (.agg #[vA, vB, .int .i64 off])) (((W.setCell ⟨R, 0, none⟩ v0).setCell ⟨R, 1, none⟩ v1).setCell ⟨R, 2, none⟩ v2) :=
  DrawV.done h.st h.hR h.dv (own_ty h.dv.a h.tR) (own_ty h.dv.c h.tR) hi

/-- l2DrawView, as numbers. -/
def viewN (ds : List Int) (v : V3) (s : SS) : Nat → V3 × SS
  | 0 => (v, s)
  | k + 1 => turnD ds (viewN ds v s k).2 (viewN ds v s k).1
def viewD (ds : List Int) (s : SS) : V3 × SS :=
  match shapeD ds s with
  | (ys, s1) => match nextL ds s1 5 with
    | (o, s2) => match nextL ds s2 4 with
      | (n, s3) => viewN ds (denseV ys o) s3 n.toNat

set_option maxRecDepth 100000 in
set_option maxHeartbeats 1000000 in
theorem drawVw_any {w : World} {H b : Nat} (hs : ST w w H b G s) {r : V3 × SS} (hr : viewD G.ds s = r) : Calls Try.prog 29 #[.pointer (some ⟨b, 0, none⟩)] w fun e w' => DrawV w H b G r e w' := by
  have HR := hide hr
  clear hr
  have R0 := hide (RB3.make w w.heap.size rfl)
  have Y0 := hide (Ty.new w #[.slice none 0 0, .slice none 0 0, .int .i64 0] w.heap.size rfl)
  have S0 := hide (hs.alloc #[.slice none 0 0, .slice none 0 0, .int .i64 0] 25)
  have hbw : b < w.heap.size := Nat.lt_of_lt_of_le hs.bH hs.hH
  clear hs
  go_enter Try.func29, Try.ntmps29
  go_wp2_with fail
  generalize w.alloc (.cells #[.slice none 0 0, .slice none 0 0, .int .i64 0] 25) = V0 at R0 Y0 S0 ⊢
  have hsh := drawSh_any (ST.start S0.out.src (Nat.le_trans S0.out.hH S0.out.sz))
  rcases hX : shapeD G.ds s with ⟨Lx, s1⟩
  rw [hX] at hsh
  refine hsh.mono ?_
  clear hsh
  rintro e W1 ⟨sx, cx, rfl, hlx, hL⟩
  dsimp only at hlx hL ⊢
  have HX := hide hX
  clear hX
  have L1 := hide hL
  clear hL
  go_wp2_with fail
  refine (L1.out.next 5).mono ?_
  rintro e W2 ⟨v2, s2, Q2, rfl, b2, l2⟩
  have L2 := hide l2
  have N2 := hide Q2
  clear Q2
  have S2 := hide (S0.out.trans l2.st)
  have R2 := hide (R0.out.gb l2.st.gb (by omega))
  have Y2 := hide (Y0.out.gb l2.st.gb (by omega))
  clear l2 S0 R0 Y0 L1
  go_wp2_with fail
  rcases hDn : denseV Lx v2 with ⟨xs, ss, of⟩
  refine (dense_any v2 (own_ints L2.out.own) hlx hDn).mono ?_
  rintro e W3 ⟨sa, sb, ca, cb, rfl, hd, hvi, hB⟩
  obtain rfl : of = v2 := by have := congrArg (fun x : V3 => x.2.2) hDn; exact this.symm
  dsimp only at hd hvi ⊢
  have HDn := hide hDn
  clear hDn
  have A3 := hide (VB2.make of (S2.out.bel hB) (hd.low (Nat.le_trans S2.out.hH S2.out.sz)) (R2.out.bel hB) (Nat.le_refl _) (Y2.out.gb (gb_bel b hB) (by omega)))
  have HI3 := hide hvi
  clear hd hvi hB S2 R2 Y2 L2
  go_wp2_with fail
  generalize hB3 : W3.heap.size = B at A3 ⊢
  generalize W3.alloc (.cells #[.slice sa xs.length ca, .slice sb ss.length cb, .int .i64 of] 25) = V3 at A3 ⊢
  clear hB3
  refine (A3.out.next 4).mono ?_
  rintro e W4 ⟨v4, s4, Q4, rfl, b4, a4⟩
  have A4 := hide a4
  have R4 := hide Q4
  clear a4 A3 Q4
  obtain ⟨n, hn⟩ : ∃ n : Nat, v4 = (n : Int) := ⟨v4.toNat, by omega⟩
  subst hn
  go_wp2_with fail
  go_loopw [4] (fun i wr => ∃ (k : Nat) (vA vB : Value) (xs' ss' : List Int) (off : Int) (sk : SS), i = .int .i64 ((n : Int) - k) ∧ k ≤ n ∧ Hid (viewN G.ds (xs, ss, of) s4 k = ((xs', ss', off), sk)) ∧ VI xs' ss' ∧ VB2 w wr G sk H b w.heap.size B vA vB xs' ss' off) (fun i _ => (intOf i).toNat)
  case atStart => exact ⟨0, _, _, xs, ss, of, s4, by simp, by omega, (show viewN _ _ _ 0 = _ from rfl), HI3.out, A4.out⟩
  case round =>
    obtain ⟨k, vA, vB, xs', ss', off, sk, rfl, hd, HO, hi, hA⟩ := hrel
    obtain ⟨sp, sq, cp, cq, rfl, rfl⟩ := hA.dv.sl
    have A5 := hide hA
    have HI := hide hi
    clear hA hi A4 HI3
    by_cases hp : k < n
    · have hp1 : (0 : Int) < (n : Int) - (k : Int) := by omega
      have c0 := A5.out.c0
      have c1 := A5.out.c1
      have c2 := A5.out.c2
      go_wp2_with fail
      rcases hT : turnD G.ds sk (xs', ss', off) with ⟨⟨xs6, ss6, off6⟩, s6⟩
      refine (turn_any off A5.out.dv HI.out (ST.start A5.out.st.src (Nat.le_trans A5.out.st.hH A5.out.st.sz)) hT).mono ?_
      rintro e W6 ⟨vA', vB', rfl, hd6, hi6, hst⟩
      dsimp only at hd6 hi6 hst ⊢
      have HO6 : Hid (viewN G.ds (xs, ss, of) s4 (k + 1) = ((xs6, ss6, off6), s6)) := by
        show viewN _ _ _ (k + 1) = _
        rw [viewN, HO.out]
        exact hT
      clear hT
      obtain ⟨sp', sq', cp', cq', rfl, rfl⟩ := hd6.sl
      obtain ⟨q0, q1, q2, qf, h6⟩ := A5.out.set (A5.out.st.trans hst) hst.gb hd6 (off' := off6)
      have A6 := hide h6
      have HI6 := hide hi6
      clear h6 hi6 hd6 hst c0 c1 c2
      go_wp2
      go_roundw
      · exact ⟨k + 1, _, _, xs6, ss6, off6, s6, by go_num, by omega, HO6, HI6.out, A6.out⟩
      · simp [intOf]; omega
    · have hp1 : ¬ (0 : Int) < (n : Int) - (k : Int) := by omega
      have er : r = ((xs', ss', off), sk) := by
        rw [← HR.out]
        simp only [viewD, HX.out, N2.out, R4.out, HDn.out, Int.toNat_natCast]
        rw [show n = k by omega]
        exact HO.out
      subst er
      have c0 := A5.out.c0
      have c1 := A5.out.c1
      have c2 := A5.out.c2
      have r0 := A5.out.rb.r0
      have r1 := A5.out.rb.r1
      have r2 := A5.out.rb.r2
      have rf := A5.out.rb.rf
      go_wp2
      exact bodyPost_ret (v := .agg #[.slice sp xs'.length cp, .slice sq ss'.length cq, .int .i64 off]) (by simp [results, Try.results29, go_sem, set3_0 r0, set3_1 r1, set3_2 r2]) rfl (A5.out.done HI.out)
end Go.Proofs.Ytanbgpmbccianaa
