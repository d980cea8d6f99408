import Derived.Test.YtjbbodfdpbcnhaaGreatTpR
import Derived.Test.YtjbbodfdpbcnhaaGreatM7
import Derived.Deep.AppendLies
import Derived.Test.YtjbbodfdpbcnhaaGreatM8
import Derived.Test.YtjbbodfdpbcnhaaGreatM5
import Derived.Deep.RegionHeld3
import Derived.Test.YtjbbodfdpbcnhaaGreatM9
import Derived.Test.YtjbbodfdpbcnhaaGreatM6
set_option linter.unusedSimpArgs false
set_option linter.unusedVariables false
set_option maxRecDepth 100000
set_option maxHeartbeats 8000000
namespace Go.Proofs.YtjbbodfdpbcnhaaGreat
open List renaming setIfInBounds_toArray → sT, set_cons_zero → sZ, set_cons_succ → sS
open Go.Value renaming int → O, slice → σ, pointer → π, agg → γ
open Go.IntKind renaming i64 → ι
open Go.Obj renaming cells → χ
open Go.Act renaming put → aP
section
open Go.ChangeShapes Go.RowKit FL
structure EL (W : World) (H : Nat) (sv : Value) (L : List Dst) (vA vB : Value) (xs ss : List Int) : Prop where
 dh : DH W H sv L
 dg : DG L
 a : AD W H vA vB xs ss
theorem EL.set {W : World} {H : Nat} {sv : Value} {L : List Dst} {vA vB : Value} {xs ss : List Int} (h : EL W H sv L vA vB xs ss) {k : Nat} (hk : k < H) (o : Nat) (u : Value) : EL (W.setCell ⟨k, o, none⟩ u) H sv L vA vB xs ss :=
 ⟨h.dh.keep (zh1 W k o u) (fun j e => by injection e with e; omega), h.dg, ⟨h.a.dv.keep (zh1 W k o u) hk, h.a.lx, h.a.ls⟩⟩
theorem EL.low {W : World} {H lo : Nat} {sv : Value} {L : List Dst} {vA vB : Value} {xs ss : List Int} (h : EL W H sv L vA vB xs ss) (hl : lo ≤ H) : EL W lo sv L vA vB xs ss := ⟨h.dh.low hl, h.dg, h.a.low hl⟩
def ElOk (w : World) (e : Ending) (W : World) : Prop := ∃ (sq : Option Addr) (cq : Nat) (L : List Dst) (op st sa sb o1 o2 off : Int) (sA zp23 aA aB bA bB : Option Addr) (n1 n2 n3 n4 n5 n6 c1 c2 c3 c4 c5 c6 : Nat) (xs ss : List Int), e = .returned (.tuple #[γ #[σ sq L.length cq], O ι op, γ #[O ι sa, σ aA n3 c3, σ aB n4 c4, O ι o1], γ #[O ι sb, σ bA n5 c5, σ bB n6 c6, O ι o2], γ #[O ι st, σ sA n1 c1, σ zp23 n2 c2, O ι off]]) ∧ EL W w.heap.size (σ sq L.length cq) L (σ sA n1 c1) (σ zp23 n2 c2) xs ss ∧ Bel w W
theorem SX.ofSrc {w : World} {b : Nat} {sv : Value} {n : Nat} {a m z : Int} (h : Src w b sv n a m z) : SX w w.heap.size b := ⟨sv, n, a, m, z, h, zl h.c0, fun g hn e => by
 rcases h.code with ⟨h0, _⟩ | ⟨g', cap, h1, _, h3⟩
 ·omega
 ·rw [h1] at e
  simp only [Value.ownBlock, Option.some.injEq] at e
  subst e
  obtain ⟨x, hx, _⟩ := h3 0 hn
  exact zl hx⟩
theorem zh15 {w : World} {v : Value} {len : Nat} (h : Code w v len) : Calls Tryz.prog 4 #[v] w fun e W => ElOk w e W := by
 have X0 : Ext w ((((w.alloc (χ #[σ none 0 0] 25)).alloc (χ #[O ι 0, σ none 0 0, σ none 0 0, O ι 0] 30)).alloc (χ #[O ι 0, σ none 0 0, σ none 0 0, O ι 0] 30)).alloc (χ #[O ι 0, σ none 0 0, σ none 0 0, O ι 0] 30)) := ((((Ext.refl w).alloc _ _).alloc _ _).alloc _ _).alloc _ _
 have HC := hide (h.ext X0)
 have B0 : Hid (Bx ((((w.alloc (χ #[σ none 0 0] 25)).alloc (χ #[O ι 0, σ none 0 0, σ none 0 0, O ι 0] 30)).alloc (χ #[O ι 0, σ none 0 0, σ none 0 0, O ι 0] 30)).alloc (χ #[O ι 0, σ none 0 0, σ none 0 0, O ι 0] 30)) w.heap.size 25 [σ none 0 0]) := (((Bx.new w 25 #[σ none 0 0] _ rfl).alloc _).alloc _).alloc _
 have B1 : Hid (Bx ((((w.alloc (χ #[σ none 0 0] 25)).alloc (χ #[O ι 0, σ none 0 0, σ none 0 0, O ι 0] 30)).alloc (χ #[O ι 0, σ none 0 0, σ none 0 0, O ι 0] 30)).alloc (χ #[O ι 0, σ none 0 0, σ none 0 0, O ι 0] 30)) (w.heap.size + 1) 30 [O ι 0, σ none 0 0, σ none 0 0, O ι 0]) := ((Bx.new (w.alloc (χ #[σ none 0 0] 25)) 30 #[O ι 0, σ none 0 0, σ none 0 0, O ι 0] _ (by simp)).alloc _).alloc _
 have B2 : Hid (Bx ((((w.alloc (χ #[σ none 0 0] 25)).alloc (χ #[O ι 0, σ none 0 0, σ none 0 0, O ι 0] 30)).alloc (χ #[O ι 0, σ none 0 0, σ none 0 0, O ι 0] 30)).alloc (χ #[O ι 0, σ none 0 0, σ none 0 0, O ι 0] 30)) (w.heap.size + 1 + 1) 30 [O ι 0, σ none 0 0, σ none 0 0, O ι 0]) := (Bx.new ((w.alloc (χ #[σ none 0 0] 25)).alloc (χ #[O ι 0, σ none 0 0, σ none 0 0, O ι 0] 30)) 30 #[O ι 0, σ none 0 0, σ none 0 0, O ι 0] _ (by simp)).alloc _
 have B3 : Hid (Bx ((((w.alloc (χ #[σ none 0 0] 25)).alloc (χ #[O ι 0, σ none 0 0, σ none 0 0, O ι 0] 30)).alloc (χ #[O ι 0, σ none 0 0, σ none 0 0, O ι 0] 30)).alloc (χ #[O ι 0, σ none 0 0, σ none 0 0, O ι 0] 30)) (w.heap.size + 1 + 1 + 1) 30 [O ι 0, σ none 0 0, σ none 0 0, O ι 0]) := Bx.new (((w.alloc (χ #[σ none 0 0] 25)).alloc (χ #[O ι 0, σ none 0 0, σ none 0 0, O ι 0] 30)).alloc (χ #[O ι 0, σ none 0 0, σ none 0 0, O ι 0] 30)) 30 #[O ι 0, σ none 0 0, σ none 0 0, O ι 0] _ (by simp)
 have HX := hide X0
 clear X0 h
 go_enter Tryz.func4, Tryz.ntmps4
 go_wp2_with fail
 generalize (((w.alloc (χ #[σ none 0 0] 25)).alloc (χ #[O ι 0, σ none 0 0, σ none 0 0, O ι 0] 30)).alloc (χ #[O ι 0, σ none 0 0, σ none 0 0, O ι 0] 30)).alloc (χ #[O ι 0, σ none 0 0, σ none 0 0, O ι 0] 30) = W0 at HC B0 B1 B2 B3 HX ⊢
 refine (zy11 HC.out).mono ?_
 rintro e W1 ⟨b, sv0, n0, mx, sz, rfl, hsrc, hb0, hbl⟩
 have S1 := hide (SX.ofSrc hsrc)
 have hw0 := B3.out.lt
 have hw1 := Below.size hbl
 have HB1 := hide hbl
 clear hsrc hbl HC
 go_wp2_with fail
 refine (zj15 S1.out rfl).mono ?_
 rintro e W2 ⟨sq, cq, L, op, st, sa, sb, o1, o2, off, sA, zp23, aA, aB, bA, bB, n1, n2, n3, n4, n5, n6, c1, c2, c3, c4, c5, c6, xs, ss, rfl, hG, hA, hP⟩
 have E0 : EL W2 W1.heap.size (σ sq L.length cq) L (σ sA n1 c1) (σ zp23 n2 c2) xs ss := ⟨hP.dh, hG, hA⟩
 have kb : ∀ k, k < W0.heap.size → W2.heap[k]? = W0.heap[k]? := fun k hk => (hP.kb k (by omega) (by omega)).trans (Below.block HB1.out k hk)
 have D0 := B0.out.keep (kb _ B0.out.lt)
 have D1 := B1.out.keep (kb _ B1.out.lt)
 have D2 := B2.out.keep (kb _ B2.out.lt)
 have D3 := B3.out.keep (kb _ B3.out.lt)
 have BL : Hid (Bel w W2) := by
  show Below _ _ _
  have hx := HX.out.bl
  exact ⟨hP.os.trans (HB1.out.os.trans hx.os), hP.tape.trans (HB1.out.tape.trans hx.tape), hP.output.trans (HB1.out.output.trans hx.output), by have := hx.size; have := hP.size; omega, fun k hk => (kb k (by have := hx.size; omega)).trans (hx.block k hk)⟩
 have E1 := E0.set (k := w.heap.size) (by omega) 0 (σ sq L.length cq)
 have E2 := E1.set (k := w.heap.size + 1) (by omega) 0 (O ι sa)
 have E3 := E2.set (k := w.heap.size + 1) (by omega) 1 (σ aA n3 c3)
 have E4 := E3.set (k := w.heap.size + 1) (by omega) 2 (σ aB n4 c4)
 have E5 := E4.set (k := w.heap.size + 1) (by omega) 3 (O ι o1)
 have E6 := E5.set (k := w.heap.size + 1 + 1) (by omega) 0 (O ι sb)
 have E7 := E6.set (k := w.heap.size + 1 + 1) (by omega) 1 (σ bA n5 c5)
 have E8 := E7.set (k := w.heap.size + 1 + 1) (by omega) 2 (σ bB n6 c6)
 have E9 := E8.set (k := w.heap.size + 1 + 1) (by omega) 3 (O ι o2)
 have E10 := E9.set (k := w.heap.size + 1 + 1 + 1) (by omega) 0 (O ι st)
 have E11 := E10.set (k := w.heap.size + 1 + 1 + 1) (by omega) 1 (σ sA n1 c1)
 have E12 := E11.set (k := w.heap.size + 1 + 1 + 1) (by omega) 2 (σ zp23 n2 c2)
 have E13 := E12.set (k := w.heap.size + 1 + 1 + 1) (by omega) 3 (O ι off)
 have HE := hide (EL.low E13 (lo := w.heap.size) (by omega))
 have r0_0 := D0.cell 0 rfl
 have r0_f := D0.fz 0
 have r1_0 := D1.cell 0 rfl
 have r1_1 := D1.cell 1 rfl
 have r1_2 := D1.cell 2 rfl
 have r1_3 := D1.cell 3 rfl
 have r1_f := fun o => D1.fz o
 have r2_0 := D2.cell 0 rfl
 have r2_1 := D2.cell 1 rfl
 have r2_2 := D2.cell 2 rfl
 have r2_3 := D2.cell 3 rfl
 have r2_f := fun o => D2.fz o
 have r3_0 := D3.cell 0 rfl
 have r3_1 := D3.cell 1 rfl
 have r3_2 := D3.cell 2 rfl
 have r3_3 := D3.cell 3 rfl
 have r3_f := fun o => D3.fz o
 clear E1 E2 E3 E4 E5 E6 E7 E8 E9 E10 E11 E12 E13 D0 D1 D2 D3 E0 kb hA hP
 go_wp2
 refine bodyPost_ret (v := .tuple #[γ #[σ sq L.length cq], O ι op, γ #[O ι sa, σ aA n3 c3, σ aB n4 c4, O ι o1], γ #[O ι sb, σ bA n5 c5, σ bB n6 c6, O ι o2], γ #[O ι st, σ sA n1 c1, σ zp23 n2 c2, O ι off]]) (by simp [results, Tryz.results4, go_sem, r0_0, r1_0, r1_1, r1_2, r1_3, r2_0, r2_1, r2_2, r2_3, r3_0, r3_1, r3_2, r3_3]) rfl ?_
 exact ⟨sq, cq, L, op, st, sa, sb, o1, o2, off, sA, zp23, aA, aB, bA, bB, n1, n2, n3, n4, n5, n6, c1, c2, c3, c4, c5, c6, xs, ss, rfl, HE.out, (((((((((((((BL.out).setCell (p := ⟨w.heap.size, 0, none⟩) (by show w.heap.size ≤ w.heap.size; omega) (σ sq L.length cq)).setCell (p := ⟨w.heap.size + 1, 0, none⟩) (by show w.heap.size ≤ w.heap.size + 1; omega) (O ι sa)).setCell (p := ⟨w.heap.size + 1, 1, none⟩) (by show w.heap.size ≤ w.heap.size + 1; omega) (σ aA n3 c3)).setCell (p := ⟨w.heap.size + 1, 2, none⟩) (by show w.heap.size ≤ w.heap.size + 1; omega) (σ aB n4 c4)).setCell (p := ⟨w.heap.size + 1, 3, none⟩) (by show w.heap.size ≤ w.heap.size + 1; omega) (O ι o1)).setCell (p := ⟨w.heap.size + 1 + 1, 0, none⟩) (by show w.heap.size ≤ w.heap.size + 1 + 1; omega) (O ι sb)).setCell (p := ⟨w.heap.size + 1 + 1, 1, none⟩) (by show w.heap.size ≤ w.heap.size + 1 + 1; omega) (σ bA n5 c5)).setCell (p := ⟨w.heap.size + 1 + 1, 2, none⟩) (by show w.heap.size ≤ w.heap.size + 1 + 1; omega) (σ bB n6 c6)).setCell (p := ⟨w.heap.size + 1 + 1, 3, none⟩) (by show w.heap.size ≤ w.heap.size + 1 + 1; omega) (O ι o2)).setCell (p := ⟨w.heap.size + 1 + 1 + 1, 0, none⟩) (by show w.heap.size ≤ w.heap.size + 1 + 1 + 1; omega) (O ι st)).setCell (p := ⟨w.heap.size + 1 + 1 + 1, 1, none⟩) (by show w.heap.size ≤ w.heap.size + 1 + 1 + 1; omega) (σ sA n1 c1)).setCell (p := ⟨w.heap.size + 1 + 1 + 1, 2, none⟩) (by show w.heap.size ≤ w.heap.size + 1 + 1 + 1; omega) (σ zp23 n2 c2)).setCell (p := ⟨w.heap.size + 1 + 1 + 1, 3, none⟩) (by show w.heap.size ≤ w.heap.size + 1 + 1 + 1; omega) (O ι off)⟩
end
section
open Go.ChangeShapes Go.RowKit
def Two (lo : Nat) (W : World) (v u : Value) (xs ss : List Int) : Prop :=
 ∃ g h, lo ≤ g ∧ lo ≤ h ∧ g ≠ h ∧ g < W.heap.size ∧ h < W.heap.size ∧ IntsB W g (g + 1) v xs ∧ IntsB W h (h + 1) u ss ∧ FZ W v xs ∧ FZ W u ss
end
section
open Go.ChangeShapes Go.RowKit FL
theorem zi10 {ss : List St} {st : Int} {xs sv : List Int} {off : Int} (h : vHeap ss = true) (g : GoodA ss st xs sv off) : readA ss st xs sv off = readL ss st xs sv off := if_pos ⟨h, g⟩
theorem zm13 {ss : List St} {st : Int} {xs sv : List Int} {off : Int} (h : ¬ (vHeap ss = true ∧ GoodA ss st xs sv off)) : readA ss st xs sv off = [] := if_neg h
theorem zx20 {w : World} {v vS vT : Value} {ss : List St} {xs sv : List Int} (h : SV w v ss) (hg : SG ss) (hl : SL ss 1048576) (st : Int) (hS : Ints w vS xs) (hT : Ints w vT sv) (off : Int) (lx : xs.length ≤ 1048576) (ls : sv.length ≤ 1048576) :
  Calls Tryz.prog 14 #[γ #[v], γ #[O ι st, vS, vT, O ι off]] w fun e w' => CellsOk w (readA ss st xs sv off) e w' := by
 obtain ⟨sa, cap, rfl, hx⟩ := h
 have h : SV w (σ sa ss.length cap) ss := ⟨sa, cap, rfl, hx⟩
 have x0 : Ext w (((w.alloc (χ #[σ sa ss.length cap] 25)).alloc (χ #[O ι st, vS, vT, O ι off] 30)).alloc (χ #[O ι st, vS, vT, O ι off] 30)) := (((Ext.refl w).alloc _ _).alloc _ _).alloc _ _
 have n3 := fun j => zg ((w.alloc (χ #[σ sa ss.length cap] 25)).alloc (χ #[O ι st, vS, vT, O ι off] 30)) #[O ι st, vS, vT, O ι off] 30 (w.heap.size + 1 + 1) (by simp) j
 have ho := hide (zc18 (ga := w.heap.size + 1 + 1) (oa := 0) (h.keep x0.bl) hg hl st (hS.ext x0) (hT.ext x0) off lx ls (n3 0) (n3 1) (n3 2) (n3 3))
 have X0 := hide x0
 clear hx h x0 n3
 obtain ⟨s1, d1, rfl, _⟩ := hS
 obtain ⟨s2, d2, rfl, _⟩ := hT
 go_enter Tryz.func14, Tryz.ntmps14
 go_wp2_with fail
 refine ho.out.mono ?_
 rintro e w1 ⟨v1, rfl, x1, hv⟩
 have X1 := hide (Bel.tr X0.out.bl x1)
 clear ho X0 x1
 rcases hv with ⟨hne, rfl⟩ | ⟨he, g, gcap, u, rfl, hcv, hcell⟩
 ·have HR : Hid (readA ss st xs sv off = []) := zm13 (fun q => hne (by unfold openL; rw [if_pos q.1, if_pos q.2]))
  generalize openL ss st xs sv off = C at hne ⊢
  have hne' : (C == 0) = false := by simp [hne]
  have hne2 : (C != 0) = true := by simp [hne]
  go_wp2
  go_ret
  exact zq11 HR.out _ _ (Bel.tr X1.out ((Ext.refl w1).alloc _ _).bl)
 ·have hV : vHeap ss = true ∧ GoodA ss st xs sv off := by
   unfold openL at he
   by_cases h1 : vHeap ss = true
   ·rw [if_pos h1] at he
    by_cases h2 : GoodA ss st xs sv off
    ·exact ⟨h1, h2⟩
    ·rw [if_neg h2] at he; omega
   ·rw [if_neg h1] at he; omega
  have HR := hide (zi10 hV.1 hV.2)
  rw [he]
  obtain ⟨su, cu, rfl, hcx⟩ := hcv
  have hlc := hl.at st.toNat (by have := hV.2.1; omega)
  have Hrd := hide (callsIn_wide.1 (zb20 3 (Nat.le_refl _) xs sv off st (ss.getD st.toNat s0).1 (w := w1) (su := su) (cu := cu) (cs := (ss.getD st.toNat s0).2) ⟨su, cu, rfl, hcx⟩ hlc hV.2.2.1 hV.2.2.2))
  have f0 := hcell 0 _ rfl
  have f1 := hcell 1 _ rfl
  have f2 := hcell 2 _ rfl
  have f3 := hcell 3 _ rfl
  have f4 := hcell 4 _ rfl
  have f5 := hcell 5 _ rfl
  have f6 := hcell 6 _ rfl
  have f7 := hcell 7 _ rfl
  have f8 := hcell 8 _ rfl
  have f9 := hcell 9 _ rfl
  have f10 := hcell 10 _ rfl
  have f11 := hcell 11 _ rfl
  have f12 := hcell 12 _ rfl
  clear hcell hV he hcx
  have HL : Hid (readL ss st xs sv off = (offsL xs sv off).map fun p => (ss.getD st.toNat s0).2.getD p.toNat k0) := rfl
  generalize (ss.getD st.toNat s0).1 = DT at *
  generalize (ss.getD st.toNat s0).2 = cs at *
  generalize xs.getD 0 0 = a0 at *
  generalize xs.getD 1 0 = a1 at *
  generalize xs.getD 2 0 = a2 at *
  generalize xs.getD 3 0 = a3 at *
  generalize sv.getD 0 0 = b0 at *
  generalize sv.getD 1 0 = b1 at *
  generalize sv.getD 2 0 = b2 at *
  generalize sv.getD 3 0 = b3 at *
  go_wp2_with fail
  refine Hrd.out.mono ?_
  intro e w2 hok
  obtain ⟨sa2, cap2, rfl, hok2⟩ := hok
  go_wp2
  go_ret
  rw [HR.out, HL.out]
  exact CellsOk.from X1.out ⟨sa2, cap2, by rw [List.length_map]; rfl, hok2⟩
def AtOk (w : World) (n : Int) (e : Ending) (w' : World) : Prop := ∃ r : Int, e = .returned (O ι r) ∧ (0 ≤ r ∧ r < n) ∧ Ext w w'
theorem zd5 {w : World} {v : Value} {len : Nat} (h : Code w v len) (hl : len ≤ 1048576) (i : Nat) (hi : i ≤ 100000) (n : Int) (hn : 2 ≤ n ∧ n ≤ 90) :
  Calls Tryz.prog 10 #[v, O ι i, O ι n] w fun e w' => AtOk w n e w' := by
 obtain ⟨hn1, hn2⟩ := hn
 have hle : decide (n ≤ 1) = false := decide_eq_false (by omega)
 have hi0 : (0 : Int) ≤ (i : Int) := Int.natCast_nonneg _
 have hi1 : (i : Int) ≤ 100000 := by omega
 by_cases h0 : len = 0
 ·have hv : ∃ sa cap, v = σ sa 0 cap := by
   rcases h with ⟨rfl, _⟩ | ⟨cb, off, cap, rfl, _⟩
   ·exact ⟨_, _, rfl⟩
   ·exact ⟨_, _, by rw [h0]⟩
  obtain ⟨sa, cap, rfl⟩ := hv
  clear h
  go_enter Tryz.func10, Tryz.ntmps10
  go_wp2
  go_ret
  exact ⟨_, rfl, ⟨Int.emod_nonneg _ (by omega), Int.emod_lt_of_pos _ (by omega)⟩, Ext.refl _⟩
 ·rcases h with ⟨_, q⟩ | ⟨cb, off, cap, rfl, h2, h3, h4⟩
  ·exact absurd q h0
  obtain ⟨x, hx, hx0, hx1⟩ := h4 (i % len) (Nat.mod_lt _ (by omega))
  have hl0 : ((len : Int) == 0) = false := beq_eq_false_iff_ne.2 (by omega)
  have hl1 : (0 : Int) < (len : Int) := by omega
  have hl2 : (len : Int) ≤ 1048576 := by omega
  have hmod : Int.tmod (i : Int) (len : Int) = ((i % len : Nat) : Int) := by rw [Int.tmod_eq_emod_of_nonneg hi0]; rfl
  have hm0 : (0 : Int) ≤ ((i % len : Nat) : Int) := Int.natCast_nonneg _
  have hm1 : ((i % len : Nat) : Int) < (len : Int) := by have := Nat.mod_lt i (show 0 < len by omega); omega
  have hq : Int.tdiv (i : Int) (len : Int) = ((i / len : Nat) : Int) := by rw [Int.tdiv_eq_ediv_of_nonneg hi0]; rfl
  have hq0 : ((i / len : Nat) : Int) ≤ 100000 := by have := Nat.div_le_self i len; omega
  have hq1 : (0 : Int) ≤ ((i / len : Nat) : Int) := Int.natCast_nonneg _
  generalize i % len = m at hx hmod hm0 hm1
  generalize i / len = d at hq hq0 hq1
  clear h4 h2 h3
  go_enter Tryz.func10, Tryz.ntmps10
  go_upto_region 5 with fail
  go_region
  go_wp2
  go_ret
  exact ⟨_, rfl, ⟨Int.emod_nonneg _ (by omega), Int.emod_lt_of_pos _ (by omega)⟩, (Ext.refl w).drew⟩
theorem zx15 {w : World} {v vS vT : Value} {ss : List St} {xs sv : List Int} (h : SV w v ss) (hg : SG ss) (hl : SL ss 1048576) (st : Int) (hS : Ints w vS xs) (hT : Ints w vT sv) (off : Int) (lx : xs.length ≤ 1048576) (ls : sv.length ≤ 1048576) :
  Calls Tryz.prog 5 #[γ #[v], γ #[O ι st, vS, vT, O ι off]] w fun e w' => e = .returned (.bool (vHeap ss && (dcGoodA ss st xs sv off))) ∧ Bel w w' := by
 obtain ⟨sa, cap, rfl, hx⟩ := h
 have h : SV w (σ sa ss.length cap) ss := ⟨sa, cap, rfl, hx⟩
 have x0 : Ext w ((w.alloc (χ #[σ sa ss.length cap] 25)).alloc (χ #[O ι st, vS, vT, O ι off] 30)) := ((Ext.refl w).alloc _ _).alloc _ _
 have y0 : Ext (w.alloc (χ #[σ sa ss.length cap] 25)) ((w.alloc (χ #[σ sa ss.length cap] 25)).alloc (χ #[O ι st, vS, vT, O ι off] 30)) := (Ext.refl _).alloc _ _
 have n1 := fun j => zg w #[σ sa ss.length cap] 25 w.heap.size rfl j
 have n2 := fun j => zg (w.alloc (χ #[σ sa ss.length cap] 25)) #[O ι st, vS, vT, O ι off] 30 (w.heap.size + 1) (by simp) j
 have C0 : Hid (((w.alloc (χ #[σ sa ss.length cap] 25)).alloc (χ #[O ι st, vS, vT, O ι off] 30)).cell? ⟨w.heap.size, 0, none⟩ = some (σ sa ss.length cap)) := y0.box (n1 0)
 have A0 : Hid (((w.alloc (χ #[σ sa ss.length cap] 25)).alloc (χ #[O ι st, vS, vT, O ι off] 30)).cell? ⟨w.heap.size + 1, 0, none⟩ = some (O ι st)) := n2 0
 have A1 : Hid (((w.alloc (χ #[σ sa ss.length cap] 25)).alloc (χ #[O ι st, vS, vT, O ι off] 30)).cell? ⟨w.heap.size + 1, 1, none⟩ = some vS) := n2 1
 have A2 : Hid (((w.alloc (χ #[σ sa ss.length cap] 25)).alloc (χ #[O ι st, vS, vT, O ι off] 30)).cell? ⟨w.heap.size + 1, 2, none⟩ = some vT) := n2 2
 have A3 : Hid (((w.alloc (χ #[σ sa ss.length cap] 25)).alloc (χ #[O ι st, vS, vT, O ι off] 30)).cell? ⟨w.heap.size + 1, 3, none⟩ = some (O ι off)) := n2 3
 have X0 := hide x0
 have HH := hide (h.keep x0.bl)
 have HS := hide (hS.ext x0)
 have HT := hide (hT.ext x0)
 have hvh := hide (zw15 HH.out hg hl)
 clear hx h x0 y0 n1 n2
 obtain ⟨s1, d1, rfl, _⟩ := hS
 obtain ⟨s2, d2, rfl, _⟩ := hT
 generalize hW0 : (w.alloc (χ #[σ sa ss.length cap] 25)).alloc (χ #[O ι st, σ s1 xs.length d1, σ s2 sv.length d2, O ι off] 30) = W0 at C0 A0 A1 A2 A3 X0 HH HS HT hvh
 have HW0 := hide hW0
 clear hW0
 cases hV : vHeap ss with
 | false =>
  rw [hV] at hvh
  go_enter Tryz.func5, Tryz.ntmps5
  go_wp2_with (go_at_call 18; rw [HW0.out]; refine hvh.out.mono ?_; rintro e w1 ⟨rfl, x1⟩)
  go_ret
  exact ⟨rfl, (X0.out.trans x1).bl⟩
 | true =>
  rw [hV] at hvh
  go_enter Tryz.func5, Tryz.ntmps5
  go_wp2_with (first | (go_at_call 18; rw [HW0.out]; refine hvh.out.mono ?_; rintro e w1 ⟨rfl, x1⟩; have c0' := x1.box C0.out; have a0' := x1.box A0.out; have a1' := x1.box A1.out; have a2' := x1.box A2.out; have a3' := x1.box A3.out; have HG := hide (zb6 (HH.out.keep x1.bl) hl st (HS.out.ext x1) (HT.out.ext x1) off lx ls); have X1 := hide (X0.out.trans x1); clear x1) | (go_at_call 19; refine HG.out.mono ?_; rintro e w2 ⟨rfl, x2⟩))
  go_ret
  exact ⟨rfl, Bel.tr X1.out.bl x2⟩
theorem zu19 {w : World} {v vS vT : Value} {ss : List St} {xs sv : List Int} (h : SV w v ss) (hg : SG ss) (hl : SL ss 1048576) (st : Int) (hS : Ints w vS xs) (hT : Ints w vT sv) (off : Int) (lx : xs.length ≤ 1048576) (ls : sv.length ≤ 1048576) :
  Calls Tryz.prog 15 #[γ #[v], γ #[O ι st, vS, vT, O ι off]] w fun e w' => CellsOk w (readA ss st xs sv off) e w' := by
 obtain ⟨sa, cap, rfl, hx⟩ := h
 have h : SV w (σ sa ss.length cap) ss := ⟨sa, cap, rfl, hx⟩
 have x0 : Ext w ((w.alloc (χ #[σ sa ss.length cap] 25)).alloc (χ #[O ι st, vS, vT, O ι off] 30)) := ((Ext.refl w).alloc _ _).alloc _ _
 have y0 : Ext (w.alloc (χ #[σ sa ss.length cap] 25)) ((w.alloc (χ #[σ sa ss.length cap] 25)).alloc (χ #[O ι st, vS, vT, O ι off] 30)) := (Ext.refl _).alloc _ _
 have n1 := fun j => zg w #[σ sa ss.length cap] 25 w.heap.size rfl j
 have n2 := fun j => zg (w.alloc (χ #[σ sa ss.length cap] 25)) #[O ι st, vS, vT, O ι off] 30 (w.heap.size + 1) (by simp) j
 have C0 : Hid (((w.alloc (χ #[σ sa ss.length cap] 25)).alloc (χ #[O ι st, vS, vT, O ι off] 30)).cell? ⟨w.heap.size, 0, none⟩ = some (σ sa ss.length cap)) := y0.box (n1 0)
 have A0 : Hid (((w.alloc (χ #[σ sa ss.length cap] 25)).alloc (χ #[O ι st, vS, vT, O ι off] 30)).cell? ⟨w.heap.size + 1, 0, none⟩ = some (O ι st)) := n2 0
 have A1 : Hid (((w.alloc (χ #[σ sa ss.length cap] 25)).alloc (χ #[O ι st, vS, vT, O ι off] 30)).cell? ⟨w.heap.size + 1, 1, none⟩ = some vS) := n2 1
 have A2 : Hid (((w.alloc (χ #[σ sa ss.length cap] 25)).alloc (χ #[O ι st, vS, vT, O ι off] 30)).cell? ⟨w.heap.size + 1, 2, none⟩ = some vT) := n2 2
 have A3 : Hid (((w.alloc (χ #[σ sa ss.length cap] 25)).alloc (χ #[O ι st, vS, vT, O ι off] 30)).cell? ⟨w.heap.size + 1, 3, none⟩ = some (O ι off)) := n2 3
 have X0 := hide x0
 have HH := hide (h.keep x0.bl)
 have HS := hide (hS.ext x0)
 have HT := hide (hT.ext x0)
 have hva := hide (zx15 HH.out hg hl st HS.out HT.out off lx ls)
 clear hx h x0 y0 n1 n2
 obtain ⟨s1, d1, rfl, _⟩ := hS
 obtain ⟨s2, d2, rfl, _⟩ := hT
 generalize hW0 : (w.alloc (χ #[σ sa ss.length cap] 25)).alloc (χ #[O ι st, σ s1 xs.length d1, σ s2 sv.length d2, O ι off] 30) = W0 at C0 A0 A1 A2 A3 X0 HH HS HT hva
 have HW0 := hide hW0
 clear hW0
 by_cases hV : vHeap ss = true ∧ GoodA ss st xs sv off
 ·have hb : (vHeap ss && (dcGoodA ss st xs sv off)) = true := by rw [hV.1, dcGoodA_t hV.2]; rfl
  rw [hb] at hva
  have HR := hide (zi10 hV.1 hV.2)
  have HV := hide hV.2
  clear hV hb
  go_enter Tryz.func15, Tryz.ntmps15
  go_wp2_with (first | (go_at_call 5; rw [HW0.out]; refine hva.out.mono ?_; rintro e w1 ⟨rfl, x1⟩; have c0' := Bel.box x1 C0.out; have a0' := Bel.box x1 A0.out; have a1' := Bel.box x1 A1.out; have a2' := Bel.box x1 A2.out; have a3' := Bel.box x1 A3.out; have HG := hide (zr8 (HH.out.keep x1) hl st (HS.out.below x1) (HT.out.below x1) off HV.out); have X1 := hide (Bel.tr X0.out.bl x1); clear x1) | (go_at_call 35; refine HG.out.mono ?_; intro e w2 hok; obtain ⟨sa2, cap2, rfl, hok2⟩ := hok))
  go_ret
  rw [HR.out]
  exact CellsOk.from X1.out ⟨sa2, cap2, rfl, hok2⟩
 ·have hb : (vHeap ss && (dcGoodA ss st xs sv off)) = false := by
   cases h1 : vHeap ss with
   | false => rfl
   | true => rw [Bool.true_and]; exact decide_eq_false (fun q => hV ⟨h1, q⟩)
  rw [hb] at hva
  have HR := hide (zm13 hV)
  clear hV hb
  go_enter Tryz.func15, Tryz.ntmps15
  go_wp2_with (go_at_call 5; rw [HW0.out]; refine hva.out.mono ?_; rintro e w1 ⟨rfl, x1⟩)
  go_ret
  exact zq11 HR.out _ _ (Bel.tr X0.out.bl (Bel.tr x1 ((Ext.refl w1).alloc _ _).bl))
end
section
open Go.ChangeShapes Go.RowKit
theorem zn7 {w : World} {v : Value} {xs : List Int} (h : Ints w v xs) (h4 : xs.length ≤ 4) (hr : InR xs xs.length) :
  Calls Tryz.prog 9 #[v] w fun e w' => e = .returned (O ι (prod xs)) ∧ w' = w := by
 obtain ⟨sa, cap, rfl, hx⟩ := h
 have HX := hide hx
 have HR := hide hr
 clear hx hr
 have h4' : (xs.length : Int) ≤ 4 := by omega
 go_enter Tryz.func9, Tryz.ntmps9
 go_wp2
 go_loopw [3, 4] (fun m i wr => ∃ k : Nat, i = O ι k ∧ m = O ι (prod (xs.take k)) ∧ k ≤ xs.length ∧ wr = w) (fun m i _ => xs.length - (intOf i).toNat)
 case atStart => exact ⟨0, rfl, rfl, by omega, rfl⟩
 case round =>
  obtain ⟨k, rfl, rfl, hk, rfl⟩ := hrel
  have hb := zh2 xs k (by omega) hk (fun j hj => HR.out j (by omega))
  have hb2 := zx9 k
  by_cases hlt : k < xs.length
  ·rcases HX.out with h0 | ⟨b, off, rfl, hrow⟩
   ·rw [h0] at hlt; simp at hlt
   have q0 := hrow k hlt
   clear hrow
   have hk0 : (0 : Int) ≤ (k : Int) := Int.natCast_nonneg _
   have hk1 : (k : Int) < (xs.length : Int) := by omega
   have hp := za3 xs k hlt
   have hB := zh2 xs (k + 1) (by omega) (by omega) (fun j hj => HR.out j (by omega))
   have hB2 := zx9 (k + 1)
   generalize bd (k + 1) = B1 at hB hB2
   generalize bd k = B0 at hb hb2
   generalize hP1 : prod (xs.take (k + 1)) = P1 at hp hB
   have HP1 := hide hP1
   clear hP1
   generalize prod (xs.take k) = P0 at hp hb ⊢
   generalize xs.getD k 0 = x at q0 hp
   have hw1 : wrap64 (P0 * x) = P1 := by rw [← hp]; unfold wrap64; omega
   clear hp
   go_wp2
   go_roundw
   ·exact ⟨k + 1, by go_num, by first | (rw [HP1.out]; done) | (rw [HP1.out, hw1]), by omega, by trivial⟩
   ·simp [intOf]; omega
  ·have hkk : k = xs.length := by omega
   subst hkk
   rw [List.take_length]
   go_wp2
   go_ret
   exact ⟨rfl, rfl⟩
end
section
open Go.RowKit FL
theorem zm7 (a b : Nat) (ha : B64 a) (hb : B64 b) (w : World) :
  Calls Tryz.prog 75 #[.float .f64 a, .float .f64 b] w fun e w' => e = .returned (.bool (sameB a b)) ∧ w' = w := by
 have ea := zn3 a
 have eb := zn3 b
 cases na : nanD a <;> cases nb : nanD b <;> rw [na] at ea <;> rw [nb] at eb <;> simp only [Bool.not_true, Bool.not_false] at ea eb
 ·cases za : feq a 0 <;> cases zb : feq b 0
  case true.true =>
   have l1 : flt 9218868437227405312 0 = false := by decide
   have l2 : flt 18442240474082181120 0 = true := by decide
   have z1 : feq 0 9223372036854775808 = true := by decide
   have z2 : feq 9223372036854775808 0 = true := by decide
   have q1 := fun w => run_float_arith (P := Tryz.prog) w .quo 45 .f64 4607182418800017408 0 9218868437227405312 (by decide)
   have q2 := fun w => run_float_arith (P := Tryz.prog) w .quo 45 .f64 4607182418800017408 9223372036854775808 18442240474082181120 (by decide)
   rcases za8 a ha za with rfl | rfl <;> rcases za8 b hb zb with rfl | rfl
   all_goals
    go_enter Tryz.func75, Tryz.ntmps75
    go_wp2
    go_ret
    exact ⟨zn (by decide), rfl⟩
  all_goals
   have hs := zs19 a b ha hb na nb (by rw [za, zb]; simp)
   cases fab : feq a b
   ·have Hs := hide (fab.symm.trans hs)
    clear hs
    go_enter Tryz.func75, Tryz.ntmps75
    go_wp2
    go_ret
    exact ⟨zn Hs.out, rfl⟩
   ·have Hs := hide (fab.symm.trans hs)
    clear hs
    have hk : keyD a = keyD b := by unfold feq at fab; rw [na, nb] at fab; simpa using fab
    have hz : feq a 0 = feq b 0 := by unfold feq; rw [na, nb, hk]
    rw [za, zb] at hz
    have Hk := hide hk
    clear hk
    first
     | (cases hz; done)
     | (clear hz
        go_enter Tryz.func75, Tryz.ntmps75
        go_wp2
        go_ret
        exact ⟨zn Hs.out, rfl⟩)
 all_goals
  go_enter Tryz.func75, Tryz.ntmps75
  go_wp2
  go_ret
  exact ⟨zn (by unfold sameB; rw [na, nb]; rfl), rfl⟩
/-! ### float32(x), float64(u) -/
def smB (ia : Int) (fa ga : Nat) (ib : Int) (fb gb : Nat) : Bool := (ia == ib) && (sameB fa fb && sameB ga gb)
theorem zy14 (ia ib : Int) (fa ga fb gb : Nat) (hfa : B64 fa) (hga : B64 ga) (hfb : B64 fb) (hgb : B64 gb) (w : World) :
  Calls Tryz.prog 44 #[γ #[O ι ia, .float .f64 fa, .float .f64 ga], γ #[O ι ib, .float .f64 fb, .float .f64 gb]] w fun e w' => e = .returned (.bool (smB ia fa ga ib fb gb)) ∧ Ext w w' := by
 unfold smB
 cases h1 : (ia == ib) <;> cases h2 : sameB fa fb
 all_goals
  go_enter Tryz.func44, Tryz.ntmps44
  go_wp2_with (go_at_call 75; refine (zm7 _ _ ?_ ?_ _).mono ?_; assumption; assumption; rintro e w' ⟨rfl, rfl⟩)
  go_ret
  exact ⟨rfl, by repeat (first | with_reducible exact Ext.refl _ | with_reducible refine Ext.setCell ?_ (by simp; try omega) _ | with_reducible apply Ext.drewN | with_reducible apply Ext.drew | with_reducible apply Ext.alloc | refine Ext.trans ?_ (by assumption))⟩
end
section
open Go.ChangeShapes Go.RowKit FL
theorem zm12 (a : Int) (f g : Nat) (hf : B64 f) (hg : B64 g) (w : World) :
  Calls Tryz.prog 44 #[γ #[O ι a, .float .f64 f, .float .f64 g], γ #[O ι a, .float .f64 f, .float .f64 g]] w fun e w' => e = .returned (.bool true) ∧ Ext w w' := by
 refine (zy14 a a f g f g hf hg hf hg w).mono ?_
 rintro e w' ⟨rfl, x⟩
 refine ⟨?_, x⟩
 unfold smB
 rw [zr4, zr4]
 simp
theorem zu10 {w : World} {v u : Value} {cs : List C3} (h : CV w v cs) (g : CV w u cs) (hg : CG cs) (hl : cs.length ≤ 1048576) :
  Calls Tryz.prog 13 #[v, u] w fun e w' => e = .returned (.bool true) ∧ Ext w w' := by
 obtain ⟨sa, cap, rfl, hx⟩ := h
 obtain ⟨ta, dap, rfl, hy⟩ := g
 have HX := hide hx
 have HY := hide hy
 have HG := hide hg
 clear hx hy hg
 go_enter Tryz.func13, Tryz.ntmps13
 go_wp2
 go_loopw [5] (fun i wr => ∃ k : Nat, i = O ι k ∧ k ≤ cs.length ∧ Ext w wr) (fun i _ => cs.length - (intOf i).toNat)
 case atStart => exact ⟨0, rfl, by omega, Ext.refl w⟩
 case round =>
  obtain ⟨k, rfl, hk, hw⟩ := hrel
  have HW := hide hw
  clear hw
  by_cases hlt : k < cs.length
  ·rcases HX.out with h0 | ⟨b, off, rfl, hrow⟩
   ·rw [h0] at hlt; simp at hlt
   rcases HY.out with h0 | ⟨b2, off2, rfl, hrow2⟩
   ·rw [h0] at hlt; simp at hlt
   have hgk := HG.out.at k hlt
   have q0 := HW.out.box (hrow k hlt).1
   have q1 := HW.out.box (hrow k hlt).2.1
   have q2 := HW.out.box (hrow k hlt).2.2
   have r0 := HW.out.box (hrow2 k hlt).1
   have r1 := HW.out.box (hrow2 k hlt).2.1
   have r2 := HW.out.box (hrow2 k hlt).2.2
   have hk0 : (0 : Int) ≤ (k : Int) := Int.natCast_nonneg _
   have hk1 : (k : Int) < (cs.length : Int) := by omega
   generalize (cs.getD k k0).1 = A at q0 r0 hgk
   generalize (cs.getD k k0).2.1 = Y at q1 r1 hgk
   generalize (cs.getD k k0).2.2 = Z at q2 r2 hgk
   have HSA := hide (fun W => zm12 A Y Z hgk.2.1 hgk.2.2 W)
   clear hrow hrow2 hgk
   have SA : Hid ((fun w' => w'.cell? ⟨b, off + k * 3, none⟩ = some (O ι A) ∧ w'.cell? ⟨b, off + k * 3 + 1, none⟩ = some (.float .f64 Y) ∧ w'.cell? ⟨b, off + k * 3 + 2, none⟩ = some (.float .f64 Z) ∧ w'.cell? ⟨b2, off2 + k * 3, none⟩ = some (O ι A) ∧ w'.cell? ⟨b2, off2 + k * 3 + 1, none⟩ = some (.float .f64 Y) ∧ w'.cell? ⟨b2, off2 + k * 3 + 2, none⟩ = some (.float .f64 Z)) wr.drew) := ⟨q0, q1, q2, r0, r1, r2⟩
   go_wp2_with fail
   go_region_held3 (fun w' => w'.cell? ⟨b, off + k * 3, none⟩ = some (O ι A) ∧ w'.cell? ⟨b, off + k * 3 + 1, none⟩ = some (.float .f64 Y) ∧ w'.cell? ⟨b, off + k * 3 + 2, none⟩ = some (.float .f64 Z) ∧ w'.cell? ⟨b2, off2 + k * 3, none⟩ = some (O ι A) ∧ w'.cell? ⟨b2, off2 + k * 3 + 1, none⟩ = some (.float .f64 Y) ∧ w'.cell? ⟨b2, off2 + k * 3 + 2, none⟩ = some (.float .f64 Z)) (first | with_reducible exact SA.out | with_reducible exact SB'.out | exact SA.out | exact SB'.out | fail) (first | (go_at_call 44; refine (HSA.out _).mono ?_; rintro e w2 ⟨rfl, x2⟩; have HW2 := hide (HW.out.drew.trans x2); have SB' : Hid ((fun w' => w'.cell? ⟨b, off + k * 3, none⟩ = some (O ι A) ∧ w'.cell? ⟨b, off + k * 3 + 1, none⟩ = some (.float .f64 Y) ∧ w'.cell? ⟨b, off + k * 3 + 2, none⟩ = some (.float .f64 Z) ∧ w'.cell? ⟨b2, off2 + k * 3, none⟩ = some (O ι A) ∧ w'.cell? ⟨b2, off2 + k * 3 + 1, none⟩ = some (.float .f64 Y) ∧ w'.cell? ⟨b2, off2 + k * 3 + 2, none⟩ = some (.float .f64 Z)) w2) := ⟨x2.box q0, x2.box q1, x2.box q2, x2.box r0, x2.box r1, x2.box r2⟩; clear x2) | fail)
   go_wp2
   go_roundw
   ·exact ⟨k + 1, by go_num, by omega, HW2.out⟩
   ·simp [intOf]; omega
  ·have hkk : k = cs.length := by omega
   subst hkk
   go_wp2
   go_ret
   exact ⟨rfl, HW.out⟩
theorem zs16 (W : World) (m : Nat) (h1 : m ≤ 4096) : (Instr.makeSlice 39 (O ι m) (O ι m)).run Tryz.prog W = .ok (σ (some ⟨W.heap.size, 0, none⟩) m m) (W.alloc (χ (madeCells #[O ι 0, .float .f64 0, .float .f64 0] (m * 3)) 47)) := by
 obtain ⟨i0, hi0, hz0, hz1, hz2⟩ := info_parts zk4
 have h := run_make (P := Tryz.prog) W 39 47 i0 (γ #[O ι 0, .float .f64 0, .float .f64 0]) Tryz.underlying39 hi0 hz0 .i64 .i64 m m (by omega) (by omega) (by rw [hz2]; omega) (by omega)
 rw [hz1] at h
 simp only [Int.toNat_natCast] at h
 exact h
theorem zj18 (W : World) (m base : Nat) (h1 : m ≤ 4096) (hb : base ≤ W.heap.size) : (W.alloc (χ (madeCells #[O ι 0, .float .f64 0, .float .f64 0] (m * 3)) 47)).ownsRow base 47 3 (σ (some ⟨W.heap.size, 0, none⟩) m m) (List.replicate m k0).length (flat (List.replicate m k0)) := by
 have hc := zu18 W m 47
 have hlen : (List.replicate m k0).length = m := by simp
 rw [hlen]
 refine ⟨by rw [za4, hlen], Or.inr ⟨W.heap.size, m, (madeCells #[O ι 0, .float .f64 0, .float .f64 0] (m * 3)), rfl, hb, heap_alloc_new W _, Nat.le_refl _, by unfold maxLen; omega, by simp [madeCells], ?_⟩⟩
 apply List.ext_getElem?
 intro j
 rw [List.getElem?_take]
 split
 ·next hj =>
  have e1 : (madeCells #[O ι 0, .float .f64 0, .float .f64 0] (m * 3)).toList[j]? = (W.alloc (χ (madeCells #[O ι 0, .float .f64 0, .float .f64 0] (m * 3)) 47)).cell? ⟨W.heap.size, j, none⟩ := by
   rw [zg W (madeCells #[O ι 0, .float .f64 0, .float .f64 0] (m * 3)) 47 _ rfl j]
   simp
  rw [e1]
  have hq := hc (j / 3) (by rw [hlen]; omega)
  have hf := zh4 (List.replicate m k0) (j / 3) (by rw [hlen]; omega)
  rcases (show j = j / 3 * 3 ∨ j = j / 3 * 3 + 1 ∨ j = j / 3 * 3 + 2 by omega) with e | e | e
  ·rw [e]
   rw [Nat.zero_add] at hq
   rw [hf.1]; exact hq.1
  ·rw [e]
   rw [Nat.zero_add] at hq
   rw [hf.2.1]; exact hq.2.1
  ·rw [e]
   rw [Nat.zero_add] at hq
   rw [hf.2.2]; exact hq.2.2
 ·next hj =>
  symm
  rw [List.getElem?_eq_none_iff, za4, hlen]
  omega
end
section
open Go.ChangeShapes Go.RowKit FL
structure LD (w W : World) (H : Nat) (r0 : Option Nat) (sv : Value) (L : List Dst) : Prop where
 dh : DH W H sv L
 b3 : Bx W w.heap.size 25 [sv]
 b6 : Bx W (w.heap.size + 1) 25 [σ none 0 0]
 b7 : Bx W (w.heap.size + 1 + 1) 30 [O ι 0, σ none 0 0, σ none 0 0, O ι 0]
 gb : w.grownBy W r0
theorem LD.bel {w W W' : World} {H : Nat} {r0 : Option Nat} {sv : Value} {L : List Dst} (h : LD w W H r0 sv L) (x : Bel W W') : LD w W' H r0 sv L :=
 ⟨h.dh.bel x, h.b3.bel x, h.b6.bel x, h.b7.bel x, ⟨x.os.trans h.gb.os, x.tape.trans h.gb.tape, x.output.trans h.gb.output, Nat.le_trans h.gb.size (Below.size x), fun k hk hn => (Below.block x k (Nat.lt_of_lt_of_le hk h.gb.size)).trans (h.gb.block k hk hn)⟩⟩
theorem LD.alloc {w W : World} {H : Nat} {r0 : Option Nat} {sv : Value} {L : List Dst} (h : LD w W H r0 sv L) (o : Obj) : LD w (W.alloc o) H r0 sv L := h.bel ((Below.refl W.heap.size W).alloc (Nat.le_refl _) o)
theorem LD.drew {w W : World} {H : Nat} {r0 : Option Nat} {sv : Value} {L : List Dst} (h : LD w W H r0 sv L) : LD w W.drew H r0 sv L := h.bel (zz W)
theorem zw21 {r : Option Nat} {u w w' : World} (h : u.grownBy w r) (k : w.grownBy w' r) : u.grownBy w' r :=
 ⟨k.os.trans h.os, k.tape.trans h.tape, k.output.trans h.output, Nat.le_trans h.size k.size, fun j hj hne => (k.block j (Nat.lt_of_lt_of_le hj h.size) hne).trans (h.block j hj hne)⟩
theorem zm3 {r row : Option Nat} {u w w' : World} (h : u.grownBy w r) (k : w.grownBy w' row) (hr : ∀ j, row = some j → u.heap.size ≤ j) : u.grownBy w' r :=
 ⟨k.os.trans h.os, k.tape.trans h.tape, k.output.trans h.output, Nat.le_trans h.size k.size, fun j hj hne => (k.block j (Nat.lt_of_lt_of_le hj h.size) (fun e => by have := hr j e.symm; omega)).trans (h.block j hj hne)⟩
def DenOk (w : World) (H : Nat) (sv : Value) (L : List Dst) (dt : Int) (m : Nat) (e : Ending) (W : World) : Prop := ∃ (sq sA zp23 : Option Addr) (cq cA cB k8 : Nat), e = .returned (.tuple #[γ #[σ sq (L.length + 1) cq], γ #[O ι L.length, σ sA 1 cA, σ zp23 1 cB, O ι 0]]) ∧ DH W H (σ sq (L.length + 1) cq) (L ++ [(dt, σ (some ⟨k8, 0, none⟩) m m, List.replicate m k0)]) ∧ DV W w.heap.size (σ sA 1 cA) (σ zp23 1 cB) [(m : Int)] [if m = 0 then 0 else 1] ∧ w.grownBy W sv.ownBlock
def LRel (w : World) (H : Nat) (r0 : Option Nat) (sv : Value) (L : List Dst) (ty : Option Addr) (cy kv m : Nat) (i : Value) (wr : World) : Prop := ∃ q : Nat, i = O ι q ∧ LD w wr H r0 sv L ∧ IJ wr 0 (σ ty ([(m : Int)] : List Int).length cy) [(m : Int)] ∧ w.heap.size + 1 + 1 < kv ∧ ((q = 0 ∧ Bx wr kv 28 [σ none 0 0, σ none 0 0, O ι 0]) ∨ (q = 1 ∧ ∃ vA vB, Bx wr kv 28 [vA, vB, O ι 0] ∧ DV wr kv vA vB [(m : Int)] [if m = 0 then 0 else 1]))
theorem zz8 {w : World} {H m : Nat} {sv : Value} {L : List Dst} (hD : DH w H sv L) (hH : H ≤ w.heap.size) (hL : L.length ≤ 70) {vS : Value} (hS : IJ w 0 vS [(m : Int)]) (hm : m ≤ 4096) (dt : Int) :
  Calls Tryz.prog 11 #[γ #[sv], O ι dt, vS] w fun e W => DenOk w H sv L dt m e W := by
 obtain ⟨i0, hi0, hz0, hz1, hz2⟩ := info_parts zy10
 obtain ⟨j0, hj0, hy0, hy1, hy2⟩ := info_parts zy7
 obtain ⟨sa, cap, rfl⟩ := hD.form
 obtain ⟨ty, cy, rfl, hIo⟩ := hS
 have hS : IJ w 0 (σ ty ([(m : Int)] : List Int).length cy) [(m : Int)] := ⟨ty, cy, rfl, hIo⟩
 obtain ⟨gy, oy, rfl, _⟩ := hIo.resolve_left (by simp)
 have x3 : Bel w (((w.alloc (χ #[σ sa L.length cap] 25)).alloc (χ #[σ none 0 0] 25)).alloc (χ #[O ι 0, σ none 0 0, σ none 0 0, O ι 0] 30)) := ((((Ext.refl w).alloc _ _).alloc _ _).alloc _ _).bl
 have F0 : Hid (LD w (((w.alloc (χ #[σ sa L.length cap] 25)).alloc (χ #[σ none 0 0] 25)).alloc (χ #[O ι 0, σ none 0 0, σ none 0 0, O ι 0] 30)) H (Value.slice sa L.length cap).ownBlock (σ sa L.length cap) L) :=
  ⟨hD.bel x3, ((Bx.new w 25 #[σ sa L.length cap] _ rfl).alloc _).alloc _, (Bx.new (w.alloc (χ #[σ sa L.length cap] 25)) 25 #[σ none 0 0] _ (by simp)).alloc _, Bx.new ((w.alloc (χ #[σ sa L.length cap] 25)).alloc (χ #[σ none 0 0] 25)) 30 #[O ι 0, σ none 0 0, σ none 0 0, O ι 0] _ (by simp), ⟨x3.os, x3.tape, x3.output, x3.size, fun k hk _ => x3.block k hk⟩⟩
 have I0 := hide (hS.bel x3)
 clear hD hS x3 hIo
 go_enter Tryz.func11, Tryz.ntmps11
 go_wp2_with fail
 generalize ((w.alloc (χ #[σ sa L.length cap] 25)).alloc (χ #[σ none 0 0] 25)).alloc (χ #[O ι 0, σ none 0 0, σ none 0 0, O ι 0] 30) = W0 at F0 I0 ⊢
 have hpr : prod [(m : Int)] = (m : Int) := by simp [prod]
 refine (zn7 I0.out.ik.ints (by simp) (fun j hj => by
  obtain rfl : j = 0 := by simp at hj; omega
  simp; omega)).mono ?_
 rintro e w1 ⟨rfl, rfl⟩
 rw [hpr]
 clear hpr
 have F0d := hide F0.out.drew
 have I0d := hide (I0.out.bel (zz w1))
 go_wp2_with fail
 have SA : Hid ((fun w' : World => w'.cell? ⟨w.heap.size, 0, none⟩ = some (σ sa L.length cap)) w1.drew) := F0d.out.b3.cell 0 rfl
 refine zv (S := (fun w' : World => w'.cell? ⟨w.heap.size, 0, none⟩ = some (σ sa L.length cap))) (late := [9]) (by kernel_rfl) ?_
 generalize w1.drew = V0 at SA F0d I0d ⊢
 have hmk := zs16 V0 m hm
 refine zd (i := 0) (v := π (some ⟨w.heap.size, 0, none⟩)) rfl (by kernel_rfl) (by kernel_rfl) (fun _ _ _ h => by cases h.1) _ (by kernel_rfl) (by kernel_rfl) (Or.inl ⟨by rfl, ?_⟩) SA.out ?_
 ·intro w' z0
  go_simp
 simp only [aP, sT, sZ, sS]
 refine zd (i := 1) (v := σ sa L.length cap) rfl (by kernel_rfl) (by kernel_rfl) (fun _ _ _ h => by cases h.1) _ (by kernel_rfl) (by kernel_rfl) (Or.inl ⟨by rfl, ?_⟩) SA.out ?_
 ·intro w' z0
  go_simp
 simp only [aP, sT, sZ, sS]
 refine zd (i := 2) (v := O ι dt) rfl (by kernel_rfl) (by kernel_rfl) (fun _ _ _ h => by cases h.1) _ (by kernel_rfl) (by kernel_rfl) (Or.inl ⟨by rfl, ?_⟩) SA.out ?_
 ·intro w' z0
  go_simp
 simp only [aP, sT, sZ, sS]
 refine zd (i := 3) (v := O ι m) rfl (by kernel_rfl) (by kernel_rfl) (fun _ _ _ h => by cases h.1) _ (by kernel_rfl) (by kernel_rfl) (Or.inl ⟨by rfl, ?_⟩) SA.out ?_
 ·intro w' z0
  go_simp
 simp only [aP, sT, sZ, sS]
 refine ze (i := 4) (by kernel_rfl) rfl (fun K hK => ?_)
 go_simp
 have F1 := hide (F0d.out.alloc (χ (madeCells #[O ι 0, .float .f64 0, .float .f64 0] (m * 3)) 47))
 have S1 : Hid ((fun w' : World => w'.cell? ⟨w.heap.size, 0, none⟩ = some (σ sa L.length cap)) (V0.alloc (χ (madeCells #[O ι 0, .float .f64 0, .float .f64 0] (m * 3)) 47))) := F1.out.b3.cell 0 rfl
 refine hK.out _ _ (fun _ => S1.out) ?_
 clear hK K
 try simp only [aP, sT, sZ, sS]
 have MO := hide (zj18 V0 m V0.heap.size hm (Nat.le_refl _))
 have I1 := hide (I0d.out.bel ((Below.refl V0.heap.size V0).alloc (Nat.le_refl _) (χ (madeCells #[O ι 0, .float .f64 0, .float .f64 0] (m * 3)) 47)))
 generalize hk8 : V0.heap.size = k8 at MO ⊢
 have hsz1 : (V0.alloc (χ (madeCells #[O ι 0, .float .f64 0, .float .f64 0] (m * 3)) 47)).heap.size = V0.heap.size + 1 := by simp
 have XA := hide (World.grownBy_alloc V0 (χ (madeCells #[O ι 0, .float .f64 0, .float .f64 0] (m * 3)) 47) none)
 generalize V0.alloc (χ (madeCells #[O ι 0, .float .f64 0, .float .f64 0] (m * 3)) 47) = V1 at F1 MO I1 S1 hsz1 XA ⊢
 have HSZ := hide hsz1
 have HK8 := hide hk8
 clear hsz1 hk8
 refine ze (i := 5) (by kernel_rfl) rfl (fun K hK => ?_)
 go_simp
 refine hK.out _ _ (fun _ => S1.out) ?_
 clear hK K
 try simp only [aP, sT, sZ, sS]
 refine ze (i := 6) (by kernel_rfl) rfl (fun K hK => ?_)
 go_simp
 have F2 := hide (F1.out.alloc (χ #[O ι dt, σ (some ⟨k8, 0, none⟩) m m] 41))
 have S2 : Hid ((fun w' : World => w'.cell? ⟨w.heap.size, 0, none⟩ = some (σ sa L.length cap)) (V1.alloc (χ #[O ι dt, σ (some ⟨k8, 0, none⟩) m m] 41))) := F2.out.b3.cell 0 rfl
 refine hK.out _ _ (fun _ => S2.out) ?_
 clear hK K
 try simp only [aP, sT, sZ, sS]
 have Hnew : Hid (∀ q x, ([O ι dt, σ (some ⟨k8, 0, none⟩) m m] : List Value)[q]? = some x → (V1.alloc (χ #[O ι dt, σ (some ⟨k8, 0, none⟩) m m] 41)).cell? ((⟨V1.heap.size, 0, none⟩ : Addr).add q) = some x) := fun q x hq => by
  rw [Addr.add_lit, Nat.zero_add, zg V1 _ 41 _ rfl q]
  simpa using hq
 have HNO : Hid (∀ u ∈ ([O ι dt, σ (some ⟨k8, 0, none⟩) m m] : List Value), u.oneCell' = true) := fun u hu => by
  simp at hu
  rcases hu with rfl | rfl <;> rfl
 have hHr : H ≤ V1.heap.size := by have := F1.out.gb.size; omega
 have HGA : Hid (V0.grownBy (V1.alloc (χ #[O ι dt, σ (some ⟨k8, 0, none⟩) m m] 41)) none) := zw21 XA.out (World.grownBy_alloc V1 _ none)
 have X2 := hide ((Below.refl V1.heap.size V1).alloc (Nat.le_refl _) (χ #[O ι dt, σ (some ⟨k8, 0, none⟩) m m] 41))
 refine ze (i := 7) (by kernel_rfl) rfl (fun K hK => ?_)
 refine step_append_lies _ (by rfl) (.tmp 16) (.tmp 21) 23 (by rfl) H 41 i0 (γ #[O ι 0, σ none 0 0]) 2 32 Tryz.underlying23 hi0 hz0 hz1 hz2 rfl (by decide) (σ sa L.length cap) L.length (flatD L) (by rfl) F2.out.dh.own ⟨V1.heap.size, 0, none⟩ 1 1 [O ι dt, σ (some ⟨k8, 0, none⟩) m m] (by rfl) (by rfl) Hnew.out HNO.out (by omega) (by unfold maxLen; omega) (by omega) (by simp; omega) (V1.heap.size + 1) (by simp) ?_
 intro g5 cap5 w5 hown5 hgrow5 hat5 hlt5
 have B35 := hide (F2.out.b3.gb hgrow5 (F2.out.b3.ne F2.out.dh.own (by decide)))
 have c35 := B35.out.cell 0 rfl
 have f35 := B35.out.fz 0
 have S3 : Hid ((fun w' : World => w'.cell? ⟨w.heap.size, 0, none⟩ = some (σ sa L.length cap)) w5) := B35.out.cell 0 rfl
 refine hK.out _ _ (fun _ => S3.out) ?_
 clear hK K
 try simp only [aP, sT, sZ, sS]
 have HDN : Hid (DH w5 H (σ (some ⟨g5, 0, none⟩) (L.length + 1) cap5) (L ++ [(dt, σ (some ⟨k8, 0, none⟩) m m, List.replicate m k0)])) := F0d.out.dh.app (row := none) (w' := V1.alloc (χ #[O ι dt, σ (some ⟨k8, 0, none⟩) m m] 41)) HGA.out (fun b e => by cases e) (by
   have := MO.out.alloc (χ #[O ι dt, σ (some ⟨k8, 0, none⟩) m m] 41)
   rw [HK8.out]; exact this) (by have := F0d.out.gb.size; omega) hown5 hgrow5
 have HB6 := hide (F2.out.b6.gb hgrow5 (F2.out.b6.ne F2.out.dh.own (by decide)))
 have HB7 := hide (F2.out.b7.gb hgrow5 (F2.out.b7.ne F2.out.dh.own (by decide)))
 have HGB : Hid (w.grownBy w5 (Value.slice sa L.length cap).ownBlock) := ⟨hgrow5.os.trans F2.out.gb.os, hgrow5.tape.trans F2.out.gb.tape, hgrow5.output.trans F2.out.gb.output, Nat.le_trans F2.out.gb.size hgrow5.size, fun k hk hn => (hgrow5.block k (Nat.lt_of_lt_of_le hk F2.out.gb.size) hn).trans (F2.out.gb.block k hk hn)⟩
 have I5 : Hid (IJ w5 0 (σ (some ⟨gy, oy, none⟩) ([(m : Int)] : List Int).length cy) [(m : Int)]) := (I1.out.bel X2.out).keep (fun gg c f _ e => hgrow5.block gg (Array.getElem?_eq_some_iff.1 e).1 (fun q => by
   obtain ⟨c', f', h'⟩ := Lib.ownsRow_kind F2.out.dh.own gg q.symm
   rw [h'] at e
   simp at e))
 clear hown5 hgrow5 hat5 hlt5 hmk
 refine ze (i := 8) (by kernel_rfl) rfl (fun K hK => ?_)
 go_simp
 refine hK.out _ _ (fun _ => S3.out) ?_
 clear hK K
 try simp only [aP, sT, sZ, sS]
 refine ze (i := 9) (by kernel_rfl) rfl (fun K hK => ?_)
 go_simp
 refine hK.out _ _ (fun h => absurd h (by decide)) ?_
 clear hK K
 try simp only [aP, sT, sZ, sS]
 refine zm (by kernel_rfl) ?_ _
 refine ⟨rfl, ?_⟩
 clear SA S1 S2 S3 F0 I0 Hnew HNO
 have F6 : Hid (LD w (w5.setCell ⟨w.heap.size, 0, none⟩ (σ (some ⟨g5, 0, none⟩) (L.length + 1) cap5)) H (Value.slice sa L.length cap).ownBlock (σ (some ⟨g5, 0, none⟩) (L.length + 1) cap5) (L ++ [(dt, σ (some ⟨k8, 0, none⟩) m m, List.replicate m k0)])) :=
  ⟨HDN.out.box B35.out (by decide) (by decide), by simpa using B35.out.set 0 (σ (some ⟨g5, 0, none⟩) (L.length + 1) cap5), HB6.out.far (by omega) _, HB7.out.far (by omega) _, zm3 HGB.out (zh1 _ _ _ _) (fun k e => by injection e with e; omega)⟩
 have I6 := hide (I5.out.box (o := 0) (u := σ (some ⟨g5, 0, none⟩) (L.length + 1) cap5) B35.out (by decide))
 clear c35 f35 HDN HB6 HB7 HGB I5 B35 F1 F2 MO I1 I0d F0d X2 HGA
 generalize w5.setCell ⟨w.heap.size, 0, none⟩ (σ (some ⟨g5, 0, none⟩) (L.length + 1) cap5) = W6 at F6 I6 ⊢
 obtain ⟨sv2, hsv2⟩ : ∃ v : Value, v = σ (some ⟨g5, 0, none⟩) (L.length + 1) cap5 := ⟨_, rfl⟩
 rw [← hsv2] at F6
 have HSV2 := hide hsv2
 clear hsv2
 generalize hL2 : L ++ [(dt, Value.slice (some ⟨k8, 0, none⟩) m m, List.replicate m k0)] = L2 at F6
 have HL2 := hide hL2
 clear hL2
 have B9 : Hid (Bx (W6.alloc (χ #[σ none 0 0, σ none 0 0, O ι 0] 28)) W6.heap.size 28 [σ none 0 0, σ none 0 0, O ι 0]) := Bx.new W6 28 #[σ none 0 0, σ none 0 0, O ι 0] _ rfl
 have F7 := hide (F6.out.alloc (χ #[σ none 0 0, σ none 0 0, O ι 0] 28))
 have I7 := hide (I6.out.bel ((Below.refl W6.heap.size W6).alloc (Nat.le_refl _) (χ #[σ none 0 0, σ none 0 0, O ι 0] 28)))
 have hkw := F6.out.b7.lt
 clear F6 I6
 go_wp2_with fail
 generalize hkv : W6.heap.size = kv at B9 hkw ⊢
 generalize W6.alloc (χ #[σ none 0 0, σ none 0 0, O ι 0] 28) = W7 at F7 I7 B9 ⊢
 clear hkv
 go_loopw [10, 11, 12] (fun i s j wr => LRel w H (Value.slice sa L.length cap).ownBlock sv2 L2 (some ⟨gy, oy, none⟩) cy kv m i wr) (fun i _ _ _ => 1 - (intOf i).toNat)
 case atStart => exact ⟨0, rfl, F7.out, I7.out, hkw, Or.inl ⟨rfl, B9.out⟩⟩
 case round =>
  obtain ⟨q, rfl, hF, hI, _, hq⟩ := hrel
  have HF := hide hF
  have HI := hide hI
  clear hF hI F7 I7 B9
  rcases hq with ⟨rfl, hB⟩ | ⟨rfl, vA, vB, hB, hV⟩
  ·have HB := hide hB
   clear hB
   obtain ⟨_, _, hse, hor⟩ := HI.out
   simp only [Value.slice.injEq] at hse
   obtain ⟨gy2, oy2, hgo, hrw, _⟩ := hor.resolve_left (by simp)
   have cy0 := hrw 0 (by simp)
   have hgo2 := hse.1.trans hgo
   simp only [Option.some.injEq, Addr.mk.injEq, and_true] at hgo2
   obtain ⟨rfl, rfl⟩ := hgo2
   simp only [Nat.add_zero, List.getD_cons_zero] at cy0
   clear hse hor hgo hrw
   go_wp2_with fail
   have SA : Hid ((fun w' : World => w'.cell? ⟨kv, 0, none⟩ = some (σ none 0 0) ∧ w'.cell? ⟨gy, oy, none⟩ = some (O ι m)) wr.drew) := ⟨HB.out.cell 0 rfl, cy0⟩
   refine zv (S := (fun w' : World => w'.cell? ⟨kv, 0, none⟩ = some (σ none 0 0) ∧ w'.cell? ⟨gy, oy, none⟩ = some (O ι m))) (late := [9]) (by kernel_rfl) ?_
   have HFd := hide HF.out.drew
   have HId := hide (HI.out.bel (zz wr))
   have HBd := hide HB.out.drew
   generalize wr.drew = V0 at SA HFd HId HBd ⊢
   refine zd (i := 0) (v := π (some ⟨kv, 0, none⟩)) rfl (by kernel_rfl) (by kernel_rfl) (fun _ _ _ h => by cases h.1) _ (by kernel_rfl) (by kernel_rfl) (Or.inl ⟨by rfl, ?_⟩) SA.out ?_
   ·rintro w' ⟨z0, z1⟩
    go_simp
   simp only [aP, sT, sZ, sS]
   refine zd (i := 1) (v := σ none 0 0) rfl (by kernel_rfl) (by kernel_rfl) (fun _ _ _ h => by cases h.1) _ (by kernel_rfl) (by kernel_rfl) (Or.inl ⟨by rfl, ?_⟩) SA.out ?_
   ·rintro w' ⟨z0, z1⟩
    go_simp
   simp only [aP, sT, sZ, sS]
   refine zd (i := 2) (v := σ (some ⟨gy, oy, none⟩) 1 cy) rfl (by kernel_rfl) (by kernel_rfl) (fun _ _ _ h => by cases h.1) _ (by kernel_rfl) (by kernel_rfl) (Or.inl ⟨by rfl, ?_⟩) SA.out ?_
   ·rintro w' ⟨z0, z1⟩
    go_simp
   simp only [aP, sT, sZ, sS]
   refine zd (i := 3) (v := O ι 0) rfl (by kernel_rfl) (by kernel_rfl) (fun _ _ _ h => by cases h.1) _ (by kernel_rfl) (by kernel_rfl) (Or.inl ⟨by rfl, ?_⟩) SA.out ?_
   ·rintro w' ⟨z0, z1⟩
    go_simp
   simp only [aP, sT, sZ, sS]
   refine zd (i := 4) (v := π (some ⟨gy, oy, none⟩)) rfl (by kernel_rfl) (by kernel_rfl) (fun _ _ _ h => by cases h.1) _ (by kernel_rfl) (by kernel_rfl) (Or.inl ⟨by rfl, ?_⟩) SA.out ?_
   ·rintro w' ⟨z0, z1⟩
    go_simp
   simp only [aP, sT, sZ, sS]
   refine zd (i := 5) (v := O ι m) rfl (by kernel_rfl) (by kernel_rfl) (fun _ _ _ h => by cases h.1) _ (by kernel_rfl) (by kernel_rfl) (Or.inl ⟨by rfl, ?_⟩) SA.out ?_
   ·rintro w' ⟨z0, z1⟩
    go_simp
   simp only [aP, sT, sZ, sS]
   refine ze (i := 6) (by kernel_rfl) rfl (fun K hK => ?_)
   go_simp
   have F1 := hide (HFd.out.alloc (χ #[O ι m] 2))
   have I1 := hide (HId.out.bel ((Below.refl V0.heap.size V0).alloc (Nat.le_refl _) (χ #[O ι m] 2)))
   have Q1 := hide (HBd.out.alloc (χ #[O ι m] 2))
   have cy1 : (V0.alloc (χ #[O ι m] 2)).cell? ⟨gy, oy, none⟩ = some (O ι m) := ((Ext.refl V0).alloc #[O ι m] 2).box SA.out.2
   have S1 : Hid ((fun w' : World => w'.cell? ⟨kv, 0, none⟩ = some (σ none 0 0) ∧ w'.cell? ⟨gy, oy, none⟩ = some (O ι m)) (V0.alloc (χ #[O ι m] 2))) := ⟨Q1.out.cell 0 rfl, cy1⟩
   refine hK.out _ _ (fun _ => S1.out) ?_
   clear hK K
   try simp only [aP, sT, sZ, sS]
   clear cy1
   have hkV := HBd.out.lt
   refine ze (i := 7) (by kernel_rfl) rfl (fun K hK => ?_)
   refine step_append_lies _ (by rfl) (.tmp 32) (.tmp 37) 26 (by rfl) (kv + 1) 2 j0 (O ι 0) 1 8 Tryz.underlying26 hj0 hy0 hy1 hy2 rfl (by decide) (σ none 0 0) 0 [] (by rfl) (World.ownsRow_nil _ _ _ _) ⟨V0.heap.size, 0, none⟩ 1 1 [O ι m] (by rfl) (by rfl) (zq _ _ _) (zt1 _) (by omega) (by unfold maxLen; omega) (by omega) (by simp; omega) (V0.heap.size + 1) (by simp) ?_
   intro g5 cap5 w5 hown5 hgrow5 hat5 hlt5
   have x5 : Bel (V0.alloc (χ #[O ι m] 2)) w5 := ⟨hgrow5.os, hgrow5.tape, hgrow5.output, hgrow5.size, fun k hk => hgrow5.block k hk (by simp [Value.ownBlock])⟩
   have F5 := hide (F1.out.bel x5)
   have I5 := hide (I1.out.bel x5)
   have Q5 := hide (Q1.out.bel x5)
   have O5 := hide hown5
   have HLT := hide hlt5
   have c50 := Q5.out.cell 0 rfl
   have f50 := Q5.out.fz 0
   have S2 : Hid ((fun w' : World => w'.cell? ⟨kv, 0, none⟩ = some (σ none 0 0) ∧ w'.cell? ⟨gy, oy, none⟩ = some (O ι m)) w5) := ⟨Q5.out.cell 0 rfl, x5.box S1.out.2⟩
   refine hK.out _ _ (fun _ => S2.out) ?_
   clear hK K
   try simp only [aP, sT, sZ, sS]
   clear hown5 hgrow5 hat5 hlt5 x5
   refine ze (i := 8) (by kernel_rfl) rfl (fun K hK => ?_)
   go_simp
   refine hK.out _ _ (fun _ => S2.out) ?_
   clear hK K
   try simp only [aP, sT, sZ, sS]
   refine ze (i := 9) (by kernel_rfl) rfl (fun K hK => ?_)
   go_simp
   refine hK.out _ _ (fun h => absurd h (by decide)) ?_
   clear hK K
   try simp only [aP, sT, sZ, sS]
   refine zm (by kernel_rfl) ?_ _
   refine ⟨rfl, ?_⟩
   clear SA S1 S2 HF HI HB F1 I1 Q1 HFd HId HBd cy0
   have Q6 : Hid (Bx (w5.setCell ⟨kv, 0, none⟩ (σ (some ⟨g5, 0, none⟩) 1 cap5)) kv 28 [σ (some ⟨g5, 0, none⟩) 1 cap5, σ none 0 0, O ι 0]) := by
    show Bx _ _ _ _
    simpa using Q5.out.set 0 (σ (some ⟨g5, 0, none⟩) 1 cap5)
   have F6 : Hid (LD w (w5.setCell ⟨kv, 0, none⟩ (σ (some ⟨g5, 0, none⟩) 1 cap5)) H (Value.slice sa L.length cap).ownBlock sv2 L2) := ⟨F5.out.dh.box Q5.out (by decide) (by decide), F5.out.b3.far (by omega) _, F5.out.b6.far (by omega) _, F5.out.b7.far (by omega) _, zm3 F5.out.gb (zh1 _ _ _ _) (fun k e => by injection e with e; omega)⟩
   have I6 := hide (I5.out.box (o := 0) (u := σ (some ⟨g5, 0, none⟩) 1 cap5) Q5.out (by decide))
   have O6 : Hid ((w5.setCell ⟨kv, 0, none⟩ (σ (some ⟨g5, 0, none⟩) 1 cap5)).ownsRow (kv + 1) 2 1 (σ (some ⟨g5, 0, none⟩) 1 cap5) 1 [O ι m]) := zu O5.out (fun e => by have := (O5.out.lt _ e).1; omega)
   have hg5 : g5 < (w5.setCell ⟨kv, 0, none⟩ (σ (some ⟨g5, 0, none⟩) 1 cap5)).heap.size := by simpa [World.setCell] using HLT.out
   clear c50 f50 F5 I5 Q5 O5 HLT
   generalize w5.setCell ⟨kv, 0, none⟩ (σ (some ⟨g5, 0, none⟩) 1 cap5) = W8 at Q6 F6 I6 O6 hg5 ⊢
   go_wp2_with fail
   refine wp_loop_rounds 1 ?_
   rw [rounds_succ]
   have d1 := Q6.out.cell 1 rfl
   have hone : 0 < 1 := Nat.one_pos
   have hkW := Q6.out.lt
   rcases Classical.em (m = 0) with hm0 | hm0
   ·skip
    have HM0 := hide hm0
    have db : ((m : Int) == 0) = true := by simpa using hm0
    clear hm0
    go_wp2_with (at_builtin; go_loud ((refine wpList_append_lies _ rfl (.tmp 57) (.tmp 59) 26 rfl (kv + 1) 2 j0 (O ι 0) 1 8 Tryz.underlying26 hj0 hy0 hy1 hy2 rfl hone (σ none 0 0) 0 [] rfl (World.ownsRow_nil _ _ _ _) ⟨W8.heap.size, 0, none⟩ 1 1 [O ι 0] rfl rfl (zq _ _ _) (zt1 _) (by omega) (by unfold maxLen; omega) (by omega) (by simp; omega) (W8.heap.size + 1) (by simp) ?_); intro g7 cap7 w7 hown7 hgrow7 hat7 hlt7; have x7 : Bel (W8.alloc (χ #[O ι 0] 2)) w7 := ⟨hgrow7.os, hgrow7.tape, hgrow7.output, hgrow7.size, fun k hk => hgrow7.block k hk (by simp [Value.ownBlock])⟩; have HX7 := hide (Bel.tr ((Ext.refl W8).alloc #[O ι 0] 2).bl x7); have O7 := hide hown7; have HAT := hide hat7; have Q7 := hide (Q6.out.bel HX7.out); have c71 := Q7.out.cell 1 rfl; have f71 := Q7.out.fz 1; clear hown7 hgrow7 hat7 hlt7 x7))
    have F7 := hide (F6.out.bel HX7.out)
    have I7 := hide (I6.out.bel HX7.out)
    have O67 := hide (zi3 O6.out HX7.out)
    have HEND : Hid (LRel w H (Value.slice sa L.length cap).ownBlock sv2 L2 (some ⟨gy, oy, none⟩) cy kv m (O ι ((1 : Nat) : Int)) (w7.setCell ⟨kv, 1, none⟩ (σ (some ⟨g7, 0, none⟩) 1 cap7))) := by
     refine ⟨1, rfl, ⟨F7.out.dh.box Q7.out (by decide) (by decide), F7.out.b3.far (by omega) _, F7.out.b6.far (by omega) _, F7.out.b7.far (by omega) _, zm3 F7.out.gb (zh1 _ _ _ _) (fun k e => by injection e with e; omega)⟩, I7.out.box Q7.out (by decide), hkw, Or.inr ⟨rfl, _, _, by simpa using Q7.out.set 1 (σ (some ⟨g7, 0, none⟩) 1 cap7), ?_⟩⟩
     rw [if_pos HM0.out]
     refine ⟨zq3 (zu O67.out (fun e => by have := (O67.out.lt _ e).1; omega)) (by omega), zq3 (zu O7.out (fun e => by have := (O7.out.lt _ e).1; omega)) (by omega), Or.inr ?_⟩
     intro e
     simp only [Value.ownBlock, Option.some.injEq] at e
     rcases HAT.out with q | q
     ·cases q
     ·omega
    go_roundw
    ·exact HEND.out
    ·simp [intOf]
   ·skip
    have HM0 := hide hm0
    have db : ((m : Int) == 0) = false := by simpa using hm0
    clear hm0
    go_wp2_with (at_builtin; go_loud ((refine wpList_append_lies _ rfl (.tmp 57) (.tmp 59) 26 rfl (kv + 1) 2 j0 (O ι 0) 1 8 Tryz.underlying26 hj0 hy0 hy1 hy2 rfl hone (σ none 0 0) 0 [] rfl (World.ownsRow_nil _ _ _ _) ⟨W8.heap.size, 0, none⟩ 1 1 [O ι 1] rfl rfl (zq _ _ _) (zt1 _) (by omega) (by unfold maxLen; omega) (by omega) (by simp; omega) (W8.heap.size + 1) (by simp) ?_); intro g7 cap7 w7 hown7 hgrow7 hat7 hlt7; have x7 : Bel (W8.alloc (χ #[O ι 1] 2)) w7 := ⟨hgrow7.os, hgrow7.tape, hgrow7.output, hgrow7.size, fun k hk => hgrow7.block k hk (by simp [Value.ownBlock])⟩; have HX7 := hide (Bel.tr ((Ext.refl W8).alloc #[O ι 1] 2).bl x7); have O7 := hide hown7; have HAT := hide hat7; have Q7 := hide (Q6.out.bel HX7.out); have c71 := Q7.out.cell 1 rfl; have f71 := Q7.out.fz 1; clear hown7 hgrow7 hat7 hlt7 x7))
    have F7 := hide (F6.out.bel HX7.out)
    have I7 := hide (I6.out.bel HX7.out)
    have O67 := hide (zi3 O6.out HX7.out)
    have HEND : Hid (LRel w H (Value.slice sa L.length cap).ownBlock sv2 L2 (some ⟨gy, oy, none⟩) cy kv m (O ι ((1 : Nat) : Int)) (w7.setCell ⟨kv, 1, none⟩ (σ (some ⟨g7, 0, none⟩) 1 cap7))) := by
     refine ⟨1, rfl, ⟨F7.out.dh.box Q7.out (by decide) (by decide), F7.out.b3.far (by omega) _, F7.out.b6.far (by omega) _, F7.out.b7.far (by omega) _, zm3 F7.out.gb (zh1 _ _ _ _) (fun k e => by injection e with e; omega)⟩, I7.out.box Q7.out (by decide), hkw, Or.inr ⟨rfl, _, _, by simpa using Q7.out.set 1 (σ (some ⟨g7, 0, none⟩) 1 cap7), ?_⟩⟩
     rw [if_neg HM0.out]
     refine ⟨zq3 (zu O67.out (fun e => by have := (O67.out.lt _ e).1; omega)) (by omega), zq3 (zu O7.out (fun e => by have := (O7.out.lt _ e).1; omega)) (by omega), Or.inr ?_⟩
     intro e
     simp only [Value.ownBlock, Option.some.injEq] at e
     rcases HAT.out with q | q
     ·cases q
     ·omega
    go_roundw
    ·exact HEND.out
    ·simp [intOf]
  ·obtain ⟨ta, ca, rfl, _⟩ := zh hV.a
   obtain ⟨tb, cb, rfl, _⟩ := zh hV.c
   have HB := hide hB
   have HV := hide hV
   clear hV hB
   have hsv := HSV2.out
   subst hsv
   have hl1 : (((L.length + 1 : Nat) : Int)) = (L.length : Int) + 1 := by simp
   have d3 := HF.out.b3.cell 0 rfl
   have d6 := HF.out.b6.cell 0 rfl
   have d6f := HF.out.b6.fz 0
   have d70 := HF.out.b7.cell 0 rfl
   have d71 := HF.out.b7.cell 1 rfl
   have d72 := HF.out.b7.cell 2 rfl
   have d73 := HF.out.b7.cell 3 rfl
   have d7f := fun o => HF.out.b7.fz o
   have e0 := HB.out.cell 0 rfl
   have e1 := HB.out.cell 1 rfl
   have e2 := HB.out.cell 2 rfl
   go_upto_region 16 with fail
   go_region
   have hkb := HB.out.lt
   have r1 := zs2 HV.out.a (k1 := w.heap.size + 1) (k2 := w.heap.size + 1 + 1) (fun e => by have := (HV.out.a.lt _ e).1; omega) (fun e => by have := (HV.out.a.lt _ e).1; omega) (σ (some ⟨g5, 0, none⟩) (L.length + 1) cap5) (O ι L.length) (σ ta 1 ca) (σ tb 1 cb) (O ι 0) 0 0 1 2 3
   have r2 := zs2 HV.out.c (k1 := w.heap.size + 1) (k2 := w.heap.size + 1 + 1) (fun e => by have := (HV.out.c.lt _ e).1; omega) (fun e => by have := (HV.out.c.lt _ e).1; omega) (σ (some ⟨g5, 0, none⟩) (L.length + 1) cap5) (O ι L.length) (σ ta 1 ca) (σ tb 1 cb) (O ι 0) 0 0 1 2 3
   have r3 := HF.out.dh.set5 HF.out.b6 HF.out.b7 (by decide) (by decide) (by decide) (by decide) (σ (some ⟨g5, 0, none⟩) (L.length + 1) cap5) (O ι L.length) (σ ta 1 ca) (σ tb 1 cb) (O ι 0) 0 0 1 2 3
   have g1 := zm3 HF.out.gb (zh1 wr (w.heap.size + 1) 0 (σ (some ⟨g5, 0, none⟩) (L.length + 1) cap5)) (fun k e => by injection e with e; omega)
   have g2 := zm3 g1 (zh1 _ (w.heap.size + 1 + 1) 0 (O ι L.length)) (fun k e => by injection e with e; omega)
   have g3 := zm3 g2 (zh1 _ (w.heap.size + 1 + 1) 1 (σ ta 1 ca)) (fun k e => by injection e with e; omega)
   have g4 := zm3 g3 (zh1 _ (w.heap.size + 1 + 1) 2 (σ tb 1 cb)) (fun k e => by injection e with e; omega)
   have g5' := zm3 g4 (zh1 _ (w.heap.size + 1 + 1) 3 (O ι 0)) (fun k e => by injection e with e; omega)
   rw [← HL2.out] at r3
   have R1 := hide (zq3 r1.drew (show w.heap.size ≤ kv by omega))
   have R2 := hide (zq3 r2.drew (show w.heap.size ≤ kv by omega))
   have R3 := hide r3.drew
   have R4 := hide (zb17 g5')
   have DJ := hide HV.out.dj
   clear r1 r2 r3 g1 g2 g3 g4 g5'
   go_wp2
   refine bodyPost_ret (v := .tuple #[γ #[σ (some ⟨g5, 0, none⟩) (L.length + 1) cap5], γ #[O ι L.length, σ ta 1 ca, σ tb 1 cb, O ι 0]]) (by simp [results, Tryz.results11, go_sem, d6, d70, d71, d72, d73]) rfl ?_
   exact ⟨_, ta, tb, _, ca, cb, k8, rfl, R3.out, ⟨R1.out, R2.out, DJ.out⟩, R4.out⟩
end
section
open Go.ChangeShapes Go.RowKit FL
structure LS (w W : World) (L : List Dst) (sv vA vB : Value) (st off : Int) (xs ss : List Int) (k5 k9 : Nat) : Prop where
 dh : DH W w.heap.size sv L
 dg : DG L
 ad : AD W w.heap.size vA vB xs ss
 b5 : Bx W k5 25 [sv]
 b9 : Bx W k9 30 [O ι st, vA, vB, O ι off]
 bl : Bel w W
 l5 : w.heap.size ≤ k5
 n5 : k5 ≠ k9
theorem LS.bel {w W W' : World} {L : List Dst} {sv vA vB : Value} {st off : Int} {xs ss : List Int} {k5 k9 : Nat} (h : LS w W L sv vA vB st off xs ss k5 k9) (x : Bel W W') : LS w W' L sv vA vB st off xs ss k5 k9 :=
 ⟨h.dh.bel x, h.dg, h.ad.bel x, h.b5.bel x, h.b9.bel x, Bel.tr h.bl x, h.l5, h.n5⟩
theorem LS.av {w W : World} {L : List Dst} {sv : Value} {sA zp23 : Option Addr} {cA cB : Nat} {st off : Int} {xs ss : List Int} {k5 k9 : Nat} (h : LS w W L sv (σ sA xs.length cA) (σ zp23 ss.length cB) st off xs ss k5 k9) : AV W (γ #[O ι st, σ sA xs.length cA, σ zp23 ss.length cB, O ι off]) ⟨st, xs, ss, off⟩ :=
 ⟨sA, cA, zp23, cB, rfl, zy h.ad.dv.a, zy h.ad.dv.c, by have := h.ad.lx; show xs.length ≤ _; omega, by have := h.ad.ls; show ss.length ≤ _; omega⟩
theorem zm5 {w w' : World} {v : Value} {len : Nat} (h : Code w v len) (x : Bel w w') : Code w' v len := by
 rcases h with h | ⟨cb, off, cap, h1, h2, h3, h4⟩
 ·exact Or.inl h
 ·refine Or.inr ⟨cb, off, cap, h1, Nat.lt_of_lt_of_le h2 x.size, h3, fun j hj => ?_⟩
  obtain ⟨y, hy, hb⟩ := h4 j hj
  exact ⟨y, Bel.box x hy, hb⟩
theorem zc20 {S : List St} {a : Ar} (h : putCd S a a [] = 0) : vHeap S = true ∧ a.Good S ∧ WrV a.xs a.sv a.off ∧ ((offsL a.xs a.sv a.off).length = 1 ∨ (offsL a.xs a.sv a.off).length = 0) ∧ castL (S.getD a.st.toNat s0).1 (S.getD a.st.toNat s0).1 1 = true := by
 obtain ⟨h1, h2, _, h4⟩ := zi8 h
 obtain ⟨hv, hg, _⟩ := zg17 h1
 have hn : (offsL a.xs a.sv a.off).Nodup := by
  by_cases q : (offsL a.xs a.sv a.off).Nodup
  ·exact q
  ·rw [decide_eq_false q] at h4
   cases hq : castL (dtA S a) (dtA S a) 1 <;> rw [hq] at h4 <;> exact absurd h4 (by decide)
 have hc : castL (dtA S a) (dtA S a) 1 = true := by
  cases hq : castL (dtA S a) (dtA S a) 1 with
  | true => rfl
  | false =>
   rw [hq, decide_eq_true hn] at h4
   exact absurd h4 (by decide)
 refine ⟨hv, hg, ⟨hg.2.1, hn⟩, ?_, hc⟩
 rw [zd3 hg.2.1]
 unfold fitB at h2
 rw [Bool.or_eq_true, decide_eq_true_eq, decide_eq_true_eq] at h2
 rcases h2 with q | q
 ·exact Or.inl (by rw [q]; rfl)
 ·exact Or.inr (by rw [q]; rfl)
structure IxI (ix : List Int) (i : Nat) (n : Int) : Prop where
 len : ix.length ≤ i
 inr : ∀ j, j < ix.length → -n ≤ ix.getD j 0 ∧ ix.getD j 0 < n ∧ frS (ix.getD j 0) n < (i : Int)
 up : ∀ j k, j < k → k < ix.length → frS (ix.getD j 0) n < frS (ix.getD k 0) n
theorem IxI.nil (i : Nat) (n : Int) : IxI [] i n := ⟨by simp, fun j hj => by simp at hj, fun j k _ hk => by simp at hk⟩
theorem IxI.app {ix : List Int} {i : Nat} {n c : Int} (h : IxI ix i n) (hi : (i : Int) < n) (hc : c = (i : Int) ∨ c = (i : Int) - n) (s : Nat) (hs : 1 ≤ s) : IxI (ix ++ [c]) (i + s) n := by
 have hf : frS c n = (i : Int) := by unfold frS; rcases hc with rfl | rfl <;> split <;> omega
 have old : ∀ j, j < ix.length → (ix ++ [c]).getD j 0 = ix.getD j 0 := fun j hj => by simp [List.getD_eq_getElem?_getD, List.getElem?_append_left hj]
 have new : (ix ++ [c]).getD ix.length 0 = c := by simp [List.getD_eq_getElem?_getD]
 refine ⟨by have := h.len; simp; omega, fun j hj => ?_, fun j k hjk hk => ?_⟩
 ·simp at hj
  by_cases e : j < ix.length
  ·rw [old j e]; have := h.inr j e; omega
  ·have e : j = ix.length := by omega
   rw [e, new, hf]; rcases hc with rfl | rfl <;> omega
 ·simp at hk
  rw [old j (by omega)]
  by_cases e : k < ix.length
  ·rw [old k e]; exact h.up j k hjk e
  ·have e : k = ix.length := by omega
   rw [e, new, hf]; exact (h.inr j (by omega)).2.2
theorem IxI.more {ix : List Int} {i : Nat} {n : Int} (h : IxI ix i n) {k : Nat} (hk : i ≤ k) : IxI ix k n := ⟨Nat.le_trans h.len hk, fun j hj => by have := h.inr j hj; omega, h.up⟩
theorem IxI.id {ix : List Int} {i : Nat} {n : Int} (h : IxI ix i n) (j k : Nat) (hj : j < ix.length) (hk : k < ix.length) (e : frS (ix.getD j 0) n = frS (ix.getD k 0) n) : j = k := by
 rcases Nat.lt_trichotomy j k with q | q | q
 ·have := h.up j k q hk; omega
 ·exact q
 ·have := h.up k j q hj; omega
theorem zt2 (v : Value) : v.ownBlock = none ∨ v.ownBlock ≠ none := Classical.em _
structure LX (w W : World) (L : List Dst) (sv sb vA vB : Value) (st off : Int) (xs ss : List Int) (k5 k9 : Nat) (vI : Value) (ix : List Int) (ks : Nat) (AR : List (Nat × Value × Value × Int)) : Prop where
 dh : DH W w.heap.size sv L
 dg : DG L
 a : W.ownsRow w.heap.size 2 1 vA xs.length (xs.map (Value.int .i64))
 c : W.ownsRow w.heap.size 2 1 vB ss.length (ss.map (Value.int .i64))
 b5 : Bx W k5 25 [sb]
 b9 : Bx W k9 30 [O ι st, vA, vB, O ι off]
 bl : Bel w W
 l5 : w.heap.size ≤ k5
 n5 : k9 ≠ k5
 ixo : W.ownsRow w.heap.size 2 1 vI ix.length (ix.map (Value.int .i64))
 sh : Bx W ks 2 [O ι ix.length]
 n6 : ks ≠ k5
 ar : ∀ r ∈ AR, r.1 ≠ k5 ∧ Bx W r.1 30 [O ι r.2.2.2, r.2.1, r.2.2.1, O ι 0] ∧ W.ownsRow w.heap.size 2 1 r.2.1 ([(ix.length : Int)] : List Int).length (([(ix.length : Int)] : List Int).map (Value.int .i64)) ∧ W.ownsRow w.heap.size 2 1 r.2.2.1 ([if ix.length = 0 then (0 : Int) else 1] : List Int).length (([if ix.length = 0 then (0 : Int) else 1] : List Int).map (Value.int .i64))
section
variable {w W : World} {L : List Dst} {sv sb vA vB : Value} {st off : Int} {xs ss : List Int} {k5 k9 : Nat} {vI : Value} {ix : List Int} {ks : Nat} {AR : List (Nat × Value × Value × Int)}
theorem LX.bel (h : LX w W L sv sb vA vB st off xs ss k5 k9 vI ix ks AR) {W' : World} (x : Bel W W') : LX w W' L sv sb vA vB st off xs ss k5 k9 vI ix ks AR :=
 ⟨h.dh.bel x, h.dg, h.a.kept (row := none) ⟨Below.os x, Below.tape x, Below.output x, Below.size x, fun k hk _ => Below.block x k hk⟩ (zt2 _), h.c.kept (row := none) ⟨Below.os x, Below.tape x, Below.output x, Below.size x, fun k hk _ => Below.block x k hk⟩ (zt2 _), h.b5.bel x, h.b9.bel x, Bel.tr h.bl x, h.l5, h.n5, h.ixo.kept (row := none) ⟨Below.os x, Below.tape x, Below.output x, Below.size x, fun k hk _ => Below.block x k hk⟩ (zt2 _), h.sh.bel x, h.n6, fun r hr => ⟨(h.ar r hr).1, (h.ar r hr).2.1.bel x, (h.ar r hr).2.2.1.kept (row := none) ⟨Below.os x, Below.tape x, Below.output x, Below.size x, fun k hk _ => Below.block x k hk⟩ (zt2 _), (h.ar r hr).2.2.2.kept (row := none) ⟨Below.os x, Below.tape x, Below.output x, Below.size x, fun k hk _ => Below.block x k hk⟩ (zt2 _)⟩⟩
theorem LX.kf (h : LX w W L sv sb vA vB st off xs ss k5 k9 vI ix ks AR) {W' : World} {L' : List Dst} {sv' sb' : Value} (x : KF w.heap.size k5 W W') (hd : DH W' w.heap.size sv' L') (hg : DG L') (hb : Bx W' k5 25 [sb']) : LX w W' L' sv' sb' vA vB st off xs ss k5 k9 vI ix ks AR := by
 have ne : ∀ {v : Value} {n : Nat} {l : List Value}, W.ownsRow w.heap.size 2 1 v n l → v.ownBlock ≠ some k5 := fun r e => h.b5.ne r (by decide) e.symm
 exact ⟨hd, hg, x.own h.a (by decide) (by decide) (ne h.a), x.own h.c (by decide) (by decide) (ne h.c), hb, h.b9.kf x h.n5 (by decide) (by decide), ⟨x.os.trans h.bl.os, x.tape.trans h.bl.tape, x.output.trans h.bl.output, Nat.le_trans h.bl.size x.size, fun k hk => (x.blk k (Nat.lt_of_lt_of_le hk h.bl.size) (by have := h.l5; omega) (Or.inl hk)).trans (Below.block h.bl k hk)⟩, h.l5, h.n5, x.own h.ixo (by decide) (by decide) (ne h.ixo), h.sh.kf x h.n6 (by decide) (by decide), h.n6, fun r hr => ⟨(h.ar r hr).1, (h.ar r hr).2.1.kf x (h.ar r hr).1 (by decide) (by decide), x.own (h.ar r hr).2.2.1 (by decide) (by decide) (ne (h.ar r hr).2.2.1), x.own (h.ar r hr).2.2.2 (by decide) (by decide) (ne (h.ar r hr).2.2.2)⟩⟩
theorem LX.set5 (h : LX w W L sv sb vA vB st off xs ss k5 k9 vI ix ks AR) (u : Value) : LX w (W.setCell ⟨k5, 0, none⟩ u) L sv u vA vB st off xs ss k5 k9 vI ix ks AR :=
 h.kf (KF.mut ((Mut.refl k5 W).setCell 0 u)) (h.dh.box h.b5 (by decide) (by decide)) h.dg (by have := h.b5.set 0 u; simpa using this)
theorem LX.dense (h : LX w W L sv sb vA vB st off xs ss k5 k9 vI ix ks AR) {W' : World} {L' : List Dst} {sv' : Value} (hd : DH W' w.heap.size sv' L') (hg : DG L') (hgb : W.grownBy W' sv.ownBlock) : LX w W' L' sv' sb vA vB st off xs ss k5 k9 vI ix ks AR :=
 h.kf (KF.row hgb h.dh.own (Nat.le_refl _) (Or.inl rfl)) hd hg (h.b5.gb hgb (h.b5.ne h.dh.own (by decide)))
theorem LX.arr (h : LX w W L sv sb vA vB st off xs ss k5 k9 vI ix ks AR) {k : Nat} {a b : Value} {s : Int} (hk : k ≠ k5) (hb : Bx W k 30 [O ι s, a, b, O ι 0]) {lo : Nat} (hlo : w.heap.size ≤ lo) (hv : DV W lo a b [(ix.length : Int)] [if ix.length = 0 then 0 else 1]) : LX w W L sv sb vA vB st off xs ss k5 k9 vI ix ks (AR ++ [(k, a, b, s)]) :=
 ⟨h.dh, h.dg, h.a, h.c, h.b5, h.b9, h.bl, h.l5, h.n5, h.ixo, h.sh, h.n6, fun r hr => by
  rcases List.mem_append.1 hr with q | q
  ·exact h.ar r q
  ·simp at q
   subst q
   exact ⟨hk, hb, zc2 hv.a hlo, zc2 hv.c hlo⟩⟩
theorem LX.cell (h : LX w W L sv sb vA vB st off xs ss k5 k9 vI ix ks AR) {i q gc cc : Nat} {d : Int} {cs : List C3} (ht : L[i]? = some (d, σ (some ⟨gc, 0, none⟩) cs.length cc, cs)) (hq : q < cs.length) {x : C3} (hx : I64 x.1 ∧ B64 x.2.1 ∧ B64 x.2.2) :
  LX w (((W.setCell ⟨gc, q * 3, none⟩ (O ι x.1)).setCell ⟨gc, q * 3 + 1, none⟩ (.float .f64 x.2.1)).setCell ⟨gc, q * 3 + 2, none⟩ (.float .f64 x.2.2)) (L.set i (d, σ (some ⟨gc, 0, none⟩) cs.length cc, cs.set q x)) sv sb vA vB st off xs ss k5 k9 vI ix ks AR := by
 have hm := List.mem_of_getElem? ht
 have r := h.dh.cel i _ ht
 have s1 := r.stored (q * 3) (O ι x.1)
 have s2 := s1.1.stored (q * 3 + 1) (.float .f64 x.2.1)
 have s3 := s2.1.stored (q * 3 + 2) (.float .f64 x.2.2)
 have hgb : W.grownBy (((W.setCell ⟨gc, q * 3, none⟩ (O ι x.1)).setCell ⟨gc, q * 3 + 1, none⟩ (.float .f64 x.2.1)).setCell ⟨gc, q * 3 + 2, none⟩ (.float .f64 x.2.2)) (some gc) := zf6 (zf6 s1.2 s2.2) s3.2
 have hown : (((W.setCell ⟨gc, q * 3, none⟩ (O ι x.1)).setCell ⟨gc, q * 3 + 1, none⟩ (.float .f64 x.2.1)).setCell ⟨gc, q * 3 + 2, none⟩ (.float .f64 x.2.2)).ownsRow w.heap.size 47 3 (σ (some ⟨gc, 0, none⟩) cs.length cc) (cs.set q x).length (flat (cs.set q x)) := by
  rw [List.length_set, ← zh14 cs q hq x]
  exact s3.1
 exact h.kf (KF.row (v := σ (some ⟨gc, 0, none⟩) cs.length cc) hgb r (Nat.le_refl _) (Or.inr rfl)) (h.dh.put ht hown hgb) (h.dg.set i (by
  intro c hc
  rcases List.mem_or_eq_of_mem_set hc with q | q
  ·exact (h.dg.cg _ hm) c q
  ·subst q; exact hx) (by have := h.dg.few _ hm; simpa using this)) (h.b5.gb hgb (h.b5.ne r (by decide)))
theorem LX.step (h : LX w W L sv sb vA vB st off xs ss k5 k9 vI ix ks AR) (u : Value) {a b : Value} {s : Int} {lo : Nat} (hlo : w.heap.size ≤ lo) (hv : DV W lo a b [(ix.length : Int)] [if ix.length = 0 then 0 else 1]) :
  LX w ((((((W.alloc (χ #[O ι 0, σ none 0 0, σ none 0 0, O ι 0] 30)).setCell ⟨k5, 0, none⟩ u).setCell ⟨W.heap.size, 0, none⟩ (O ι s)).setCell ⟨W.heap.size, 1, none⟩ a).setCell ⟨W.heap.size, 2, none⟩ b).setCell ⟨W.heap.size, 3, none⟩ (O ι 0)) L sv u vA vB st off xs ss k5 k9 vI ix ks (AR ++ [(W.heap.size, a, b, s)]) := by
 have hlt := h.b5.lt
 have hne : W.heap.size ≠ k5 := by omega
 have h1 := (h.bel ((Ext.refl W).alloc #[O ι 0, σ none 0 0, σ none 0 0, O ι 0] 30).bl).set5 u
 have bn : Bx ((W.alloc (χ #[O ι 0, σ none 0 0, σ none 0 0, O ι 0] 30)).setCell ⟨k5, 0, none⟩ u) W.heap.size 30 [O ι 0, σ none 0 0, σ none 0 0, O ι 0] := (Bx.new W 30 #[O ι 0, σ none 0 0, σ none 0 0, O ι 0] _ rfl).far hne u
 have dv1 := hv.bel ((Ext.refl W).alloc #[O ι 0, σ none 0 0, σ none 0 0, O ι 0] 30).bl
 have n2 : ∀ {v : Value} {n base : Nat} {l : List Value}, W.ownsRow base 2 1 v n l → v.ownBlock ≠ some W.heap.size := fun r e => by have := (r.lt _ e).2; omega
 have kf0 : KF w.heap.size k5 W ((((((W.alloc (χ #[O ι 0, σ none 0 0, σ none 0 0, O ι 0] 30)).setCell ⟨k5, 0, none⟩ u).setCell ⟨W.heap.size, 0, none⟩ (O ι s)).setCell ⟨W.heap.size, 1, none⟩ a).setCell ⟨W.heap.size, 2, none⟩ b).setCell ⟨W.heap.size, 3, none⟩ (O ι 0)) :=
  ((((((KF.refl w.heap.size k5 W).alloc _).tr (KF.mut ((Mut.refl k5 _).setCell 0 u))).set (Nat.le_refl _) 0 _).set (Nat.le_refl _) 1 _).set (Nat.le_refl _) 2 _).set (Nat.le_refl _) 3 _
 have b1 := bn.set 0 (O ι s)
 have b2 := b1.set 1 a
 have b3 := b2.set 2 b
 have b4 := b3.set 3 (O ι 0)
 simp only [List.set_cons_zero, List.set_cons_succ] at b1 b2 b3 b4
 have d1 := h1.dh.box (o := 0) (u := O ι s) bn (by decide) (by decide)
 have d2 := d1.box (o := 1) (u := a) b1 (by decide) (by decide)
 have d3 := d2.box (o := 2) (u := b) b2 (by decide) (by decide)
 have d4 := d3.box (o := 3) (u := O ι 0) b3 (by decide) (by decide)
 have hb5 := ((((h1.b5.far (o := 0) (Ne.symm hne) (O ι s)).far (o := 1) (Ne.symm hne) a).far (o := 2) (Ne.symm hne) b).far (o := 3) (Ne.symm hne) (O ι 0))
 have ne5 : ∀ {v : Value} {n base : Nat} {l : List Value}, W.ownsRow base 2 1 v n l → v.ownBlock ≠ some k5 := fun r e => h.b5.ne r (by decide) e.symm
 exact (h.kf kf0 d4 h.dg hb5).arr hne b4 hlo ⟨kf0.own hv.a (by decide) (by decide) (ne5 hv.a), kf0.own hv.c (by decide) (by decide) (ne5 hv.c), hv.dj⟩
theorem LX.new5 (h : LX w W L sv sb vA vB st off xs ss k5 k9 vI ix ks AR) (u : Value) : Bx ((W.alloc (χ #[O ι 0, σ none 0 0, σ none 0 0, O ι 0] 30)).setCell ⟨k5, 0, none⟩ u) W.heap.size 30 [O ι 0, σ none 0 0, σ none 0 0, O ι 0] :=
 (Bx.new W 30 #[O ι 0, σ none 0 0, σ none 0 0, O ι 0] _ rfl).far (by have := h.b5.lt; omega) u
theorem LX.ij (h : LX w W L sv sb vA vB st off xs ss k5 k9 vI ix ks AR) : IJ W 0 (σ (some ⟨ks, 0, none⟩) ([(ix.length : Int)] : List Int).length 1) [(ix.length : Int)] :=
 ⟨_, 1, rfl, Or.inr ⟨ks, 0, rfl, fun j hj => by
  simp at hj
  subst hj
  exact h.sh.cell 0 rfl, Nat.zero_le _, _, _, h.sh⟩⟩
end
theorem LX.of {w wc wr : World} {L : List Dst} {sv vA vB vI : Value} {st off : Int} {xs ss ix : List Int} {k5 k9 : Nat} (h : LS w wc L sv vA vB st off xs ss k5 k9) (x : Bel wc wr) (o : wr.ownsRow wc.heap.size 2 1 vI ix.length (ix.map (Value.int .i64))) :
  LX w (wr.alloc (χ #[O ι ix.length] 2)) L sv sv vA vB st off xs ss k5 k9 vI ix wr.heap.size [] := by
 have f := h.bel (Bel.tr x ((Ext.refl wr).alloc #[O ι ix.length] 2).bl)
 exact ⟨f.dh, f.dg, f.ad.dv.a, f.ad.dv.c, f.b5, f.b9, f.bl, f.l5, fun e => f.n5 e.symm, zc2 (o.alloc _) h.bl.size, Bx.new wr 2 #[O ι ix.length] _ rfl, fun e => by
  have := (h.bel x).b5.lt
  omega, fun r hr => by simp at hr⟩
end
section
open Go.ChangeShapes Go.RowKit FL
def flR (r : Int) : Nat := (floatBits .sub .f64 (floatOfInt .f64 r) 4630826316843712512).getD 0
theorem ze19 : ∀ r : Nat, r < 90 → floatBits .sub .f64 (floatOfInt .f64 (r : Int)) 4630826316843712512 = some (flR r) ∧ flR r < 18446744073709551616 ∧ sngB (flR r) = true := by decide +kernel
theorem zw19 (P : Program) (w : World) (r : Nat) (h : r < 90) : (binOp .sub 45 (.float .f64 (floatOfInt .f64 (r : Int))) (.float .f64 4630826316843712512)).run P w = .ok (.float .f64 (flR r)) w := run_float_arith w .sub 45 .f64 _ _ _ (ze19 r h).1
theorem zb21 {dt : Int} (h7 : 7 ≤ dt) (hd : isDtB dt = true) (r : Nat) (h : r < 90) : OkC dt (0, flR r, 0) := by
 have q := ze19 r h
 have hd := of_decide_eq_true hd
 refine ⟨⟨by omega, by omega⟩, q.2.1, by show (0:Nat) < _; decide, ?_⟩
 rcases (show dt = 7 ∨ dt = 8 ∨ dt = 9 by omega) with rfl | rfl | rfl
 ·show validB 7 0 (flR r) 0 = true
  unfold validB
  simp [q.2.2, pzB]
 ·show validB 8 0 (flR r) 0 = true
  unfold validB
  simp [pzB]
 ·show validB 9 0 (flR r) 0 = true
  unfold validB
  simp
theorem zw20 {dt : Int} (h7 : ¬ 7 ≤ dt) (hd : isDtB dt = true) (r : Int) (h : 0 ≤ r ∧ r < 2) : OkC dt (r, 0, 0) := by
 have hd := of_decide_eq_true hd
 refine ⟨⟨by omega, by omega⟩, by show (0:Nat) < _; decide, by show (0:Nat) < _; decide, ?_⟩
 rcases (show r = 0 ∨ r = 1 by omega) with rfl | rfl <;> rcases (show dt = 1 ∨ dt = 2 ∨ dt = 3 ∨ dt = 4 ∨ dt = 5 ∨ dt = 6 by omega) with rfl | rfl | rfl | rfl | rfl | rfl <;> decide
theorem zi20 {dt : Int} {X : List C3} {m q : Nat} {c : C3} (hl : X.length = m) (h : ∀ j, j < m → OkC dt (X.getD j k0)) (hc : OkC dt c) : ∀ j, j < m → OkC dt ((X.set q c).getD j k0) := fun j hj => by
 by_cases e : q = j
 ·subst e
  rw [List.getD_eq_getElem?_getD, List.getElem?_set_self (by omega)]
  exact hc
 ·rw [List.getD_eq_getElem?_getD, List.getElem?_set_ne e, ← List.getD_eq_getElem?_getD]
  exact h j hj
theorem zp19 {L : List Dst} {a b c : Dst} : ((L ++ [a]) ++ [b]).set L.length c = (L ++ [c]) ++ [b] := by
 rw [List.append_assoc, List.set_append_right _ _ (Nat.le_refl _), Nat.sub_self, List.append_assoc]
 rfl
theorem zv12 {L : List Dst} {a b : Dst} : ((L ++ [a]) ++ [b])[L.length]? = some a := by simp
theorem zb18 {w : World} {H g cap : Nat} {cs : List C3} (h : w.ownsRow H 47 3 (σ (some ⟨g, 0, none⟩) cs.length cap) cs.length (flat cs)) (q : Nat) (hq : q < cs.length) : (∃ y0, w.cell? ⟨g, q * 3, none⟩ = some y0) ∧ (∃ y1, w.cell? ⟨g, q * 3 + 1, none⟩ = some y1) ∧ (∃ y2, w.cell? ⟨g, q * 3 + 2, none⟩ = some y2) ∧ ∀ o, w.frozen? ⟨g, o, none⟩ = false := by
 have r := zo3 h rfl q hq
 simp only [Nat.zero_add] at r
 refine ⟨⟨_, r.1⟩, ⟨_, r.2.1⟩, ⟨_, r.2.2⟩, fun o => ?_⟩
 rcases h.2 with ⟨e, _⟩ | ⟨g', cap', cur, e, _, hh, _⟩
 ·cases e
 ·injection e with e1 _ _
  injection e1 with e1
  injection e1 with e1 _ _
  subst e1
  exact frozen_of_row w g o _ 47 hh
end
end Go.Proofs.YtjbbodfdpbcnhaaGreat
