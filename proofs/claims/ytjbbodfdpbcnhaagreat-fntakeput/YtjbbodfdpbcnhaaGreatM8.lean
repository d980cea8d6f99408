import Derived.Test.YtjbbodfdpbcnhaaGreatM7
import Derived.Lib.OwnKind
import Derived.Laws.OwnMore
import Derived.Test.YtjbbodfdpbcnhaaGreatM4
import Derived.Test.YtjbbodfdpbcnhaaGreatM5
import Derived.RegionTactic
import Derived.ChangeAlike
import Derived.OwnWalk
import Derived.Laws.Pointers
import Derived.Deep.RegionHeld3
import Derived.Deep.AppendLies
import Derived.Deep.RegionLaw
import Derived.Test.YtjbbodfdpbcnhaaGreatM2
import Derived.Test.YtjbbodfdpbcnhaaGreatM6
set_option linter.unusedSimpArgs false
set_option linter.unusedVariables false
set_option maxRecDepth 100000
set_option maxHeartbeats 8000000
namespace Go.Proofs.YtjbbodfdpbcnhaaGreat
open Go.Value renaming int → O, slice → σ, pointer → π, agg → γ
open Go.IntKind renaming i64 → ι
open Go.Obj renaming cells → χ
section
open Go.ChangeShapes Go.RowKit
theorem BW.al1 {w wr : World} {B : Nat} {vS vT : Value} {off : Int} {Ls Ss : List Int} {vA vB : Value} (h : BW w wr B vS vT off Ls Ss vA vB) (x : Int) : (wr.alloc (χ #[O ι x] 2)).drew.cell? ⟨B, 1, none⟩ = some vB := ((Ext.refl wr).alloc #[O ι x] 2).box h.o1
def TSRel (w : World) (B : Nat) (vS vT : Value) (off : Int) (xs ss ys : List Int) (i : Value) (wr : World) : Prop :=
 ∃ (k : Nat) (vA vB : Value), i = O ι k ∧ k ≤ ys.length ∧ Hid (PN ys xs.length k) ∧ BW w wr B vS vT off ((trx xs ys).take k) ((trx ss ys).take k) vA vB
def JRel (w : World) (B : Nat) (vS vT : Value) (off : Int) (ys : List Int) (k : Nat) (LA LB : List Int) (vA vB : Value) (j : Value) (wr : World) : Prop :=
 ∃ jj : Nat, j = O ι jj ∧ jj ≤ k ∧ Hid (∀ i, i < jj → ys.getD i 0 ≠ ys.getD k 0) ∧ BW w wr B vS vT off LA LB vA vB
theorem zn14 {w W : World} {B : Nat} {vS vT : Value} {off : Int} {xs ss ys : List Int} {k : Nat} {vA vB : Value} {LA LB : List Int} {X Z : Int} (hk : k < ys.length)
  (hpn : PN ys xs.length (k + 1)) (hLA : (trx xs ys).take k = LA) (hLB : (trx ss ys).take k = LB) (hX : (trx xs ys).getD k 0 = X) (hZ : (trx ss ys).getD k 0 = Z)
  (h : BW w W B vS vT off (LA ++ [X]) (LB ++ [Z]) vA vB) : TSRel w B vS vT off xs ss ys (O ι ((k : Int) + 1)) W := by
 refine ⟨k + 1, vA, vB, by simp, by omega, hpn, ?_⟩
 rw [ze1 (trx xs ys) k (by rw [zt3]; exact hk), ze1 (trx ss ys) k (by rw [zt3]; exact hk), hX, hZ, hLA, hLB]
 exact h
theorem zt19 {w : World} {vS vT vP : Value} {xs ss ys : List Int} (hS : Ints w vS xs) (hT : Ints w vT ss) (hP : Ints w vP ys) (off : Int) (lx : xs.length ≤ 1048576) (ls : ss.length ≤ 1048576) (ly : ys.length ≤ 1048576) {c : Int} {L S : List Int} {o : Int} (hr : trL xs ss off ys = (c, L, S, o)) :
  Calls Tryz.prog 79 #[γ #[vS, vT, O ι off], vP] w fun e w' => VSOw w c L S o e w' := by
 obtain ⟨i0, hi0, hz0, hz1, hz2⟩ := info_parts zy7
 have Hr := hide hr.symm
 clear hr
 have x0 : Ext w ((w.alloc (χ #[vS, vT, O ι off] 28)).alloc (χ #[O ι 0, σ none 0 0, σ none 0 0, O ι 0] 123)) := ((Ext.refl w).alloc _ _).alloc _ _
 have y0 : Ext (w.alloc (χ #[vS, vT, O ι off] 28)) ((w.alloc (χ #[vS, vT, O ι off] 28)).alloc (χ #[O ι 0, σ none 0 0, σ none 0 0, O ι 0] 123)) := (Ext.refl _).alloc _ _
 have n1 := fun j => zg w #[vS, vT, O ι off] 28 w.heap.size rfl j
 have n2 := fun j => zg (w.alloc (χ #[vS, vT, O ι off] 28)) #[O ι 0, σ none 0 0, σ none 0 0, O ι 0] 123 (w.heap.size + 1) (by simp) j
 have k0 : ((w.alloc (χ #[vS, vT, O ι off] 28)).alloc (χ #[O ι 0, σ none 0 0, σ none 0 0, O ι 0] 123)).cell? ⟨w.heap.size, 0, none⟩ = some vS := y0.box (n1 0)
 have k1 : ((w.alloc (χ #[vS, vT, O ι off] 28)).alloc (χ #[O ι 0, σ none 0 0, σ none 0 0, O ι 0] 123)).cell? ⟨w.heap.size, 1, none⟩ = some vT := y0.box (n1 1)
 have k2 : ((w.alloc (χ #[vS, vT, O ι off] 28)).alloc (χ #[O ι 0, σ none 0 0, σ none 0 0, O ι 0] 123)).cell? ⟨w.heap.size, 2, none⟩ = some (O ι off) := y0.box (n1 2)
 have q0 : ((w.alloc (χ #[vS, vT, O ι off] 28)).alloc (χ #[O ι 0, σ none 0 0, σ none 0 0, O ι 0] 123)).cell? ⟨w.heap.size + 1, 0, none⟩ = some (O ι 0) := n2 0
 have q1 : ((w.alloc (χ #[vS, vT, O ι off] 28)).alloc (χ #[O ι 0, σ none 0 0, σ none 0 0, O ι 0] 123)).cell? ⟨w.heap.size + 1, 1, none⟩ = some (σ none 0 0) := n2 1
 have q2 : ((w.alloc (χ #[vS, vT, O ι off] 28)).alloc (χ #[O ι 0, σ none 0 0, σ none 0 0, O ι 0] 123)).cell? ⟨w.heap.size + 1, 2, none⟩ = some (σ none 0 0) := n2 2
 have q3 : ((w.alloc (χ #[vS, vT, O ι off] 28)).alloc (χ #[O ι 0, σ none 0 0, σ none 0 0, O ι 0] 123)).cell? ⟨w.heap.size + 1, 3, none⟩ = some (O ι 0) := n2 3
 have X0 := hide x0
 have HS := hide (hS.ext x0)
 have HT := hide (hT.ext x0)
 have HP := hide (hP.ext x0)
 have HS0 := hide hS
 have HT0 := hide hT
 have HP0 := hide hP
 obtain ⟨sa, ca, rfl, rS⟩ := hS
 obtain ⟨sb, cb, rfl, rT⟩ := hT
 obtain ⟨sp, cp, rfl, rP⟩ := hP
 have RS0 := hide rS
 have RT0 := hide rT
 have RP0 := hide rP
 clear x0 y0 n1 n2 rS rT rP
 go_enter Tryz.func79, Tryz.ntmps79
 go_wp2_with fail
 refine (zh9 HS.out HT.out off lx ls).mono ?_
 rintro e w1 ⟨rfl, x1⟩
 have l0 := Bel.box x1 k0
 have l1 := Bel.box x1 k1
 have l2 := Bel.box x1 k2
 have r0 := Bel.box x1 q0
 have r1 := Bel.box x1 q1
 have r2 := Bel.box x1 q2
 have r3 := Bel.box x1 q3
 have rf : ∀ o, w1.frozen? ⟨w.heap.size + 1, o, none⟩ = false := fun o => (Below.frozen x1 (p := ⟨w.heap.size + 1, o, none⟩) (zl q0)).trans (X0.out.unfrozen (b := w.heap.size + 1) (by omega) o)
 have B1 := hide (Bel.tr X0.out.bl x1)
 have HP1 := hide (HP.out.below x1)
 have sz1 : Hid (w.heap.size + 1 < w1.heap.size) := zl r0
 clear x1 k0 k1 k2 q0 q1 q2 q3 X0 HS HT HP
 cases hv : (dcValidV xs ss off)
 ·have hn := hide (Hr.out.trans (show trL xs ss off ys = (12, [], [], 0) from if_neg (of_decide_eq_false hv)))
  clear hv
  go_wp2
  exact bodyPost_ret (v := γ #[O ι 12, σ none 0 0, σ none 0 0, O ι 0]) (by simp [results, Tryz.results79, go_sem, zx3 r0, zw3 r1, zv3 r2, zu3 r3]) rfl (zp4 hn.out B1.out)
 have gv : ValidV xs ss off := of_decide_eq_true hv
 have hbr : Hid (trL xs ss off ys = (if PermOk ys xs.length then (0, trx xs ys, trx ss ys, off) else (5, [], [], 0))) := if_pos gv
 have hx4 := gv.1.1
 have Hl := hide gv.2.1
 clear gv
 generalize hvb : (dcValidV xs ss off) = vb at hv
 subst hv
 clear hvb
 by_cases hlen : ¬ ys.length = xs.length
 ·have hn := hide (Hr.out.trans (hbr.out.trans (if_neg (fun q => hlen q.1))))
  have hne : ((ys.length : Int) != (xs.length : Int)) = true := by simp; omega
  go_wp2
  exact bodyPost_ret (v := γ #[O ι 5, σ none 0 0, σ none 0 0, O ι 0]) (by simp [results, Tryz.results79, go_sem, zx3 r0, zw3 r1, zv3 r2, zu3 r3]) rfl (zp4 hn.out B1.out)
 have hlen := Classical.not_not.1 hlen
 have hne : ((ys.length : Int) != (xs.length : Int)) = false := by simp; omega
 have Hlen := hide hlen
 clear hlen
 have S0 := hide (BW.start (off := off) sz1.out B1.out l0 l1 r0 r1 r2 r3 rf)
 go_wp2_with fail
 have t0 := S0.out.p0
 have t1 := S0.out.p1
 clear l0 l1 l2 r0 r1 r2 r3 rf t0 t1 hne
 have hone : 0 < 1 := Nat.one_pos
 generalize hB : w1.heap.size = B at S0 ⊢
 clear hB
 go_loopw [6] (fun i wr => TSRel w B (σ sa xs.length ca) (σ sb ss.length cb) off xs ss ys i wr) (fun i _ => ys.length - (intOf i).toNat)
 case atStart => exact ⟨0, _, _, rfl, by omega, PN.zero _ _, by simpa using S0.out⟩
 case round =>
  obtain ⟨k, vA, vB, rfl, hk, hpn, hW⟩ := hrel
  have HW := hide hW
  clear hW
  by_cases hlt : k < ys.length
  ·rcases RP0.out with h0 | ⟨bp, op, rfl, hrp⟩
   ·rw [h0] at hlt; simp at hlt
   have qp := Bel.box HW.out.bl (hrp k hlt)
   have hk0 : (0 : Int) ≤ (k : Int) := Int.natCast_nonneg _
   have hk1 : (k : Int) < (ys.length : Int) := by omega
   have hno1 : Hid (¬ (0 ≤ ys.getD k 0 ∧ ys.getD k 0 < xs.length) → (c, L, S, o) = (5, [], [], 0)) := fun q => Hr.out.trans (hbr.out.trans (if_neg (fun g => q (g.2.1 k hlt))))
   have r0 := HW.out.r0
   have r1 := HW.out.r1
   have r2 := HW.out.r2
   have r3 := HW.out.r3
   have rf := HW.out.rf
   by_cases h1 : ys.getD k 0 < 0
   ·have hn := hide (hno1.out (by omega))
    generalize ys.getD k 0 = x at qp h1
    clear hrp hno1
    go_wp2
    exact bodyPost_ret (v := γ #[O ι 5, σ none 0 0, σ none 0 0, O ι 0]) (by simp [results, Tryz.results79, go_sem, zx3 r0, zw3 r1, zv3 r2, zu3 r3]) rfl (zp4 hn.out HW.out.bl)
   by_cases h2 : (ys.length : Int) ≤ ys.getD k 0
   ·have hn := hide (hno1.out (by have := Hlen.out; omega))
    generalize ys.getD k 0 = x at qp h1 h2
    clear hrp hno1
    go_wp2
    exact bodyPost_ret (v := γ #[O ι 5, σ none 0 0, σ none 0 0, O ι 0]) (by simp [results, Tryz.results79, go_sem, zx3 r0, zw3 r1, zv3 r2, zu3 r3]) rfl (zp4 hn.out HW.out.bl)
   obtain ⟨a, hxa⟩ : ∃ a : Nat, ys.getD k 0 = (a : Int) := ⟨(ys.getD k 0).toNat, by omega⟩
   have hax : a < xs.length := by have := Hlen.out; omega
   have haxi : (a : Int) < (xs.length : Int) := by omega
   have has : a < ss.length := by have := Hl.out; omega
   have hasi : (a : Int) < (ss.length : Int) := by omega
   have ha0 : (0 : Int) ≤ (a : Int) := Int.natCast_nonneg _
   rcases RS0.out with h0 | ⟨bx, ox, rfl, hrx⟩
   ·rw [h0] at hax; simp at hax
   rcases RT0.out with h0 | ⟨bs, os, rfl, hrs⟩
   ·rw [h0] at has; simp at has
   have hlA : ((trx xs ys).take k).length = k := by rw [List.length_take, zt3]; omega
   have hlB : ((trx ss ys).take k).length = k := by rw [List.length_take, zt3]; omega
   generalize hLA : (trx xs ys).take k = LA at HW hlA
   generalize hLB : (trx ss ys).take k = LB at HW hlB
   have HLA := hide hLA
   have HLB := hide hLB
   have hMa : LA.length + 1 ≤ maxLen := by unfold maxLen; omega
   have hMb : LB.length + 1 ≤ maxLen := by unfold maxLen; omega
   have hMc : (LA.length + 1) * 8 ≤ 140737488355328 := by omega
   have hMd : (LB.length + 1) * 8 ≤ 140737488355328 := by omega
   clear hLA hLB hlA hlB
   obtain ⟨s1, c1, rfl⟩ := zq6 HW.out.ownA
   obtain ⟨s2, c2, rfl⟩ := zq6 HW.out.ownB
   have hXt : Hid ((trx xs ys).getD k 0 = xs.getD a 0) := by show (trx xs ys).getD k 0 = xs.getD a 0; rw [ze13, if_pos hlt, hxa, Int.toNat_natCast]
   have hZt : Hid ((trx ss ys).getD k 0 = ss.getD a 0) := by show (trx ss ys).getD k 0 = ss.getD a 0; rw [ze13, if_pos hlt, hxa, Int.toNat_natCast]
   have hxin : Hid (0 ≤ ys.getD k 0 ∧ ys.getD k 0 < xs.length) := ⟨by omega, by omega⟩
   have hdup : Hid (∀ i, i < k → ys.getD i 0 = ys.getD k 0 → (c, L, S, o) = (5, [], [], 0)) := fun i hi e => Hr.out.trans (hbr.out.trans (if_neg (fun g => g.2.2 k hlt i hi e)))
   have Hxa := hide hxa
   rw [hxa] at qp h1 h2
   have h3 : ¬ (a : Int) < 0 := by omega
   have h4 : ¬ (ys.length : Int) ≤ (a : Int) := h2
   clear hno1 hxa h1 h2 r0 r1 r2 r3 rf
   go_wp2_with fail
   try simp only [show decide ((a : Int) < 0) = false from decide_eq_false h3, show decide ((ys.length : Int) ≤ (a : Int)) = false from decide_eq_false h4, Bool.or_self, Bool.or_false]
   clear qp
   have H3 := hide h3
   have H4 := hide h4
   clear h3 h4
   go_loopw [7] (fun j wr2 => JRel w B (σ (some ⟨bx, ox, none⟩) xs.length ca) (σ (some ⟨bs, os, none⟩) ss.length cb) off ys k LA LB (σ s1 LA.length c1) (σ s2 LB.length c2) j wr2) (fun j _ => k - (intOf j).toNat)
   case atStart => exact ⟨0, rfl, by omega, fun j hj => absurd hj (Nat.not_lt_zero _), HW.out⟩
   case round =>
    obtain ⟨jj, rfl, hjk, hnd, hW2⟩ := hrel
    have HD := hide hW2
    clear hW2
    have qk := Bel.box HD.out.bl (hrp k hlt)
    rw [Hxa.out] at qk
    by_cases hjl : jj < k
    ·have qj := Bel.box HD.out.bl (hrp jj (by omega))
     have hj0 : (0 : Int) ≤ (jj : Int) := Int.natCast_nonneg _
     have hj1 : (jj : Int) < (k : Int) := by omega
     have hj2 : (jj : Int) < (ys.length : Int) := by omega
     have hdp : Hid (ys.getD jj 0 = (a : Int) → (c, L, S, o) = (5, [], [], 0)) := fun e => hdup.out jj hjl (e.trans Hxa.out.symm)
     have hnd2 : Hid (¬ ys.getD jj 0 = (a : Int) → ∀ i, i < jj + 1 → ys.getD i 0 ≠ ys.getD k 0) := fun q i hi => by
      by_cases e : i = jj
      ·subst e; rw [Hxa.out]; exact q
      ·exact hnd.out i (by omega)
     generalize ys.getD jj 0 = y at qj hdp hnd2
     by_cases hy : y = (a : Int)
     ·have hn := hide (hdp.out hy)
      subst hy
      have r0 := HD.out.r0
      have r1 := HD.out.r1
      have r2 := HD.out.r2
      have r3 := HD.out.r3
      have rf := HD.out.rf
      clear hdp hnd2
      go_wp2_with fail
      go_region
      all_goals go_wp2
      all_goals exact bodyPost_ret (v := γ #[O ι 5, σ none 0 0, σ none 0 0, O ι 0]) (by simp [results, Tryz.results79, go_sem, zx3 r0, zw3 r1, zv3 r2, zu3 r3]) rfl (zl19 (zp4 hn.out HD.out.bl))
     ·have hne : (y == (a : Int)) = false := by simp [hy]
      have hnd3 := hide (hnd2.out hy)
      have HD2 := hide (HD.out.keep (zz _))
      clear hdp hnd2 hy
      go_wp2_with fail
      go_region
      all_goals go_wp2
      all_goals
       go_roundw
       ·exact ⟨jj + 1, by go_num, by omega, hnd3, HD2.out⟩
       ·simp [intOf]; omega
    ·have hjj : jj = k := by omega
     subst hjj
     have hpn2 : Hid (PN ys xs.length (jj + 1)) := hpn.out.step hxin.out hnd.out
     have qx := Bel.box HD.out.bl (hrx a hax)
     have qs := Bel.box HD.out.bl (hrs a has)
     have cx := hrx a hax
     have cs := hrs a has
     have cp' := hrp jj hlt
     rw [Hxa.out] at cp'
     have HX := hXt
     have HZ := hZt
     generalize xs.getD a 0 = X at qx HX cx
     generalize ss.getD a 0 = Z at qs HZ cs
     have CX := hide cx
     have CS := hide cs
     have CP := hide cp'
     clear cx cs cp' hXt hZt
     have p0 := HD.out.p0
     have p1 := HD.out.p1
     have o0 := HD.out.o0
     have bf := HD.out.bf
     generalize hwd : wr = wd at HD qk qx qs p0 p1 o0 bf ⊢
     have d0 : (wd.alloc (χ #[O ι X] 2)).drew.cell? ⟨B, 0, none⟩ = some (σ s1 LA.length c1) := HD.out.al0 X
     go_wp2_with fail
     refine (fun (hK : Hid (∀ (s3 : Option Addr) (c3 : Nat) (W' : World), BW w W' B (σ (some ⟨bx, ox, none⟩) xs.length ca) (σ (some ⟨bs, os, none⟩) ss.length cb) off (LA ++ [X]) LB (σ s3 (LA.length + 1) c3) (σ s2 LB.length c2) → (?G : Option Addr → Nat → World → Prop) s3 c3 W')) => ?main) ?side
     case main =>
      go_region_law (first | (refine zj4 _ (by rfl) (.tmp 59) (.tmp 68) 26 (by rfl) (B + 1) 2 i0 (O ι 0) 1 8 Tryz.underlying26 hi0 hz0 hz1 hz2 rfl hone (σ s1 LA.length c1) LA.length (LA.map (Value.int .i64)) (by rfl) (zr6 (HD.out.ownA.alloc _)) ⟨wd.heap.size, 0, none⟩ 1 1 [O ι X] (by rfl) rfl (zy13 (zq _ _ _)) (zt1 _) hMa hMc (HD.out.szD X) ?_; intro v3 w3 hown3 hgrow3 hat3; obtain ⟨s3, c3, rfl⟩ := zg2 hown3; obtain ⟨b30, b31, b3f⟩ := HD.out.at3 (zv2 hgrow3); have HSt := hide (HD.out.stepA X hown3 (zv2 hgrow3) hat3); clear hown3 hgrow3 hat3) | fail)
      all_goals
       generalize w3.setCell ⟨B, 0, none⟩ (σ s3 (LA.length + 1) c3) = W' at HSt ⊢
       exact hK.out s3 c3 W' HSt.out
     case side =>
      intro s3 c3 wd2 hE
      have HE := hide hE
      clear hE qk qx qs p0 p1 o0 bf d0 HD
      have p0 := HE.out.p0
      have p1 := HE.out.p1
      have o1 := HE.out.o1
      have bf := HE.out.bf
      have qk := Bel.box HE.out.bl CP.out
      have qs := Bel.box HE.out.bl CS.out
      have d1 : (wd2.alloc (χ #[O ι Z] 2)).drew.cell? ⟨B, 1, none⟩ = some (σ s2 LB.length c2) := HE.out.al1 Z
      go_wp2_with fail
      refine (fun (hK : Hid (∀ (s5 : Option Addr) (c5 : Nat) (W' : World), BW w W' B (σ (some ⟨bx, ox, none⟩) xs.length ca) (σ (some ⟨bs, os, none⟩) ss.length cb) off (LA ++ [X]) (LB ++ [Z]) (σ s3 (LA.length + 1) c3) (σ s5 (LB.length + 1) c5) → (?G2 : Option Addr → Nat → World → Prop) s5 c5 W')) => ?main2) ?side2
      case main2 =>
       go_region_law (first | (refine zj4 _ (by rfl) (.tmp 72) (.tmp 81) 26 (by rfl) (B + 1) 2 i0 (O ι 0) 1 8 Tryz.underlying26 hi0 hz0 hz1 hz2 rfl hone (σ s2 LB.length c2) LB.length (LB.map (Value.int .i64)) (by rfl) (zr6 (HE.out.ownB.alloc _)) ⟨wd2.heap.size, 0, none⟩ 1 1 [O ι Z] (by rfl) rfl (zy13 (zq _ _ _)) (zt1 _) hMb hMd (HE.out.szD Z) ?_; intro v5 w5 hown5 hgrow5 hat5; obtain ⟨s5, c5, rfl⟩ := zg2 hown5; obtain ⟨b50, b51, b5f⟩ := HE.out.at3B (zv2 hgrow5); have HSt := hide (HE.out.stepB Z hown5 (zv2 hgrow5) hat5); clear hown5 hgrow5 hat5) | fail)
       all_goals
        generalize w5.setCell ⟨B, 1, none⟩ (σ s5 (LB.length + 1) c5) = W' at HSt ⊢
        exact hK.out s5 c5 W' HSt.out
      case side2 =>
       intro s5 c5 W' hE2
       have HE2 := hide hE2
       clear hE2 HE p0 p1 o1 bf qk qs d1
       go_wp2
       go_roundw
       ·exact zn14 hlt hpn2.out HLA.out HLB.out HX.out HZ.out HE2.out
       ·simp [intOf]; omega
  ·have hkk : k = ys.length := by omega
   subst hkk
   have hok : PermOk ys xs.length := ⟨Hlen.out, hpn.out⟩
   have hn := hide (Hr.out.trans (hbr.out.trans (if_pos hok)))
   have hW1 := HW.out
   rw [List.take_of_length_le (by rw [zt3]; omega), List.take_of_length_le (by rw [zt3]; omega)] at hW1
   obtain ⟨s1, c1, rfl⟩ := zq6 hW1.ownA
   obtain ⟨s2, c2, rfl⟩ := zq6 hW1.ownB
   have HW1 := hide hW1
   clear hW1 HW hok
   generalize hb1 : trx xs ys = TX at HW1 hn
   generalize hb2 : trx ss ys = TS at HW1 hn
   clear hb1 hb2
   have o0 := HW1.out.o0
   have o1 := HW1.out.o1
   have o2 := HW1.out.o2
   have r0 := HW1.out.r0
   have r1 := HW1.out.r1
   have r2 := HW1.out.r2
   have r3 := HW1.out.r3
   have rf := HW1.out.rf
   go_wp2
   exact bodyPost_ret (v := γ #[O ι 0, σ s1 TX.length c1, σ s2 TS.length c2, O ι off]) (by simp [results, Tryz.results79, go_sem, zx3 r0, zw3 r1, zv3 r2, zu3 r3]) rfl (zk19 HW1.out rfl rfl hn.out)
structure DV (w : World) (H : Nat) (vA vB : Value) (xs ss : List Int) : Prop where
 a : w.ownsRow H 2 1 vA xs.length (xs.map (Value.int .i64))
 c : w.ownsRow H 2 1 vB ss.length (ss.map (Value.int .i64))
 dj : vA.ownBlock = none ∨ vA.ownBlock ≠ vB.ownBlock
def VI (xs ss : List Int) : Prop := Good xs ∧ ss.length = xs.length ∧ InS ss ss.length
theorem VI.nil : VI [] [] := ⟨⟨by simp, fun j hj => by simp at hj, by simp [prod]⟩, rfl, fun j hj => by simp at hj⟩
theorem zy {W : World} {base n : Nat} {v : Value} {L : List Int} (h : W.ownsRow base 2 1 v n (L.map (Value.int .i64))) : Ints W v L := by
 have hl : n = L.length := by have := h.1; simp at this; omega
 obtain ⟨sa, cap, rfl⟩ := zg2 h
 subst hl
 exact (zd16 (lo := base) h (Nat.le_refl _)).ints
theorem DV.keep {w w' : World} {H b : Nat} {vA vB : Value} {xs ss : List Int} (h : DV w H vA vB xs ss) (x : w.grownBy w' (some b)) (hb : b < H) : DV w' H vA vB xs ss :=
 ⟨h.a.kept x (Or.inr fun e => by have := (h.a.lt b e).1; omega), h.c.kept x (Or.inr fun e => by have := (h.c.lt b e).1; omega), h.dj⟩
theorem zy3 {b : Nat} {w w' : World} (m : Mut b w w') : w.grownBy w' (some b) := ⟨m.os, m.tape, m.output, m.size, fun k hk hne => m.block k hk (fun e => hne (by rw [e]))⟩
theorem DV.mut {w w' : World} {H b : Nat} {vA vB : Value} {xs ss : List Int} (h : DV w H vA vB xs ss) (m : Mut b w w') (hb : b < H) : DV w' H vA vB xs ss := h.keep (zy3 m) hb
theorem DV.bel {w w' : World} {H : Nat} {vA vB : Value} {xs ss : List Int} (h : DV w H vA vB xs ss) (x : Bel w w') : DV w' H vA vB xs ss :=
 ⟨zi3 h.a x, zi3 h.c x, h.dj⟩
theorem DV.low {w : World} {H lo : Nat} {vA vB : Value} {xs ss : List Int} (h : DV w H vA vB xs ss) (hl : lo ≤ H) : DV w lo vA vB xs ss := ⟨zc2 h.a hl, zc2 h.c hl, h.dj⟩
theorem VSOw.dv {w W : World} {H : Nat} {c : Int} {L S : List Int} {o : Int} {e : Ending} (h : VSOw w c L S o e W) (hH : H ≤ w.heap.size) : ∃ (sa sb : Option Addr) (ca cb : Nat), e = .returned (γ #[O ι c, σ sa L.length ca, σ sb S.length cb, O ι o]) ∧ DV W H (σ sa L.length ca) (σ sb S.length cb) L S ∧ Bel w W := by
 obtain ⟨sa, sb, ca, cb, h1, h2, h3, h4, h5⟩ := h
 exact ⟨sa, sb, ca, cb, h1, ⟨zc2 h2 hH, zc2 h3 hH, h4⟩, h5⟩
theorem ze6 : ∀ (xs : List Int) (k : Nat), (∀ n ∈ xs, 1 ≤ n) → plen (xs.drop k) ≤ plen xs
 | [], k, _ => by simp
 | n :: ns, 0, _ => by simp
 | n :: ns, k + 1, h => by
  have h1 : 1 ≤ n := h n (by simp)
  have ih := ze6 ns k (fun m hm => h m (by simp [hm]))
  simp only [List.drop_succ_cons, plen]
  have : 1 * plen ns ≤ n.toNat * plen ns := Nat.mul_le_mul_right _ (by omega)
  omega
theorem zz19 {ys : List Int} (hg : Good ys) : InS (rmS ys) (rmS ys).length := fun j hj => by
 rw [zt5] at hj
 rw [zk13, if_pos hj]
 split
 ·omega
 ·next h0 =>
  have hp : ∀ n ∈ ys, 1 ≤ n := fun n hn => (zh5 hg h0 n hn).1
  have h1 := ze6 ys (j + 1) hp
  rw [zc1 (fun n hn => by have := hp n (List.mem_of_mem_drop hn); omega)]
  have h2 := hg.2.2
  rw [zc1 (fun n hn => by have := hp n hn; omega)] at h2
  omega
theorem zk21 {xs ss ys : List Int} {off c : Int} {L S : List Int} {o : Int} (h : rsL xs ss off ys = (c, L, S, o)) : VI L S := by
 unfold rsL at h
 split at h
 ·next hv =>
  split at h
  ·next ha =>
   split at h
   ·simp only [Prod.mk.injEq] at h
    obtain ⟨rfl, rfl, rfl, rfl⟩ := h
    exact ⟨ha.1, zt5 _, zz19 ha.1⟩
   ·simp only [Prod.mk.injEq] at h
    obtain ⟨rfl, rfl, rfl, rfl⟩ := h
    exact VI.nil
  ·simp only [Prod.mk.injEq] at h
   obtain ⟨rfl, rfl, rfl, rfl⟩ := h
   exact VI.nil
 ·simp only [Prod.mk.injEq] at h
  obtain ⟨rfl, rfl, rfl, rfl⟩ := h
  exact VI.nil
end
section
open Go.ChangeShapes Go.RowKit FL
theorem zq3 {w : World} {base base' size n : Nat} {e : TypeId} {v : Value} {xs : List Value} (h : w.ownsRow base e size v n xs) (hb : base' ≤ base) : w.ownsRow base' e size v n xs :=
 ⟨h.1, h.2.imp id fun ⟨g, cap, cur, a, b, c⟩ => ⟨g, cap, cur, a, Nat.le_trans hb b, c⟩⟩
abbrev Dst := Int × Value × List C3
def flatD : List Dst → List Value
 | [] => []
 | t :: ts => O ι t.1 :: t.2.1 :: flatD ts
theorem zf11 : ∀ (L : List Dst) (t : Dst), flatD (L ++ [t]) = flatD L ++ [O ι t.1, t.2.1]
 | [], t => rfl
 | u :: us, t => by simp [flatD, zf11 us t]
theorem zz3 : ∀ (L : List Dst) (i : Nat) (t : Dst), L[i]? = some t → (flatD L)[i * 2]? = some (O ι t.1) ∧ (flatD L)[i * 2 + 1]? = some t.2.1
 | [], i, t, h => by simp at h
 | u :: us, 0, t, h => by simp at h; subst h; simp [flatD]
 | u :: us, i + 1, t, h => by
  simp at h
  have := zz3 us i t h
  rw [show (i + 1) * 2 = i * 2 + 1 + 1 from by omega]
  simpa [flatD] using this
theorem zw8 : ∀ (L : List Dst) (i : Nat) (t : Dst) (d : Int), L[i]? = some t → (flatD L).set (i * 2) (O ι d) = flatD (L.set i (d, t.2))
 | [], i, t, d, h => by simp at h
 | u :: us, 0, t, d, h => by simp at h; subst h; simp [flatD]
 | u :: us, i + 1, t, d, h => by
  simp at h
  have := zw8 us i t d h
  rw [show (i + 1) * 2 = i * 2 + 1 + 1 from by omega]
  simpa [flatD] using this
theorem zv8 : ∀ (L : List Dst) (i : Nat) (t : Dst) (v : Value) (cs : List C3), L[i]? = some t → (flatD L).set (i * 2 + 1) v = flatD (L.set i (t.1, v, cs))
 | [], i, t, v, cs, h => by simp at h
 | u :: us, 0, t, v, cs, h => by simp at h; subst h; simp [flatD]
 | u :: us, i + 1, t, v, cs, h => by
  simp at h
  have := zv8 us i t v cs h
  rw [show (i + 1) * 2 + 1 = i * 2 + 1 + 1 + 1 from by omega]
  simpa [flatD] using this
theorem zx8 : ∀ (L : List Dst) (i : Nat) (t : Dst) (cs : List C3), L[i]? = some t → flatD (L.set i (t.1, t.2.1, cs)) = flatD L
 | [], i, t, cs, h => by simp at h
 | u :: us, 0, t, cs, h => by simp at h; subst h; simp [flatD]
 | u :: us, i + 1, t, cs, h => by
  simp at h
  have := zx8 us i t cs h
  simpa [flatD] using this
structure DG (L : List Dst) : Prop where
 cg : ∀ t ∈ L, CG t.2.2
 few : ∀ t ∈ L, t.2.2.length ≤ 5000
 cnt : L.length ≤ 70
structure DH (w : World) (H : Nat) (sv : Value) (L : List Dst) : Prop where
 own : w.ownsRow H 41 2 sv L.length (flatD L)
 cel : ∀ (i : Nat) (t : Dst), L[i]? = some t → w.ownsRow H 47 3 t.2.1 t.2.2.length (flat t.2.2)
 dj : ∀ (i j : Nat) (t u : Dst), L[i]? = some t → L[j]? = some u → i ≠ j → t.2.1.ownBlock = none ∨ t.2.1.ownBlock ≠ u.2.1.ownBlock
def ssOf (L : List Dst) : List St := L.map fun t => (t.1, t.2.2)
theorem ze2 (L : List Dst) : (ssOf L).length = L.length := by simp [ssOf]
theorem zg9 (L : List Dst) (i : Nat) (t : Dst) (h : L[i]? = some t) : (ssOf L).getD i s0 = (t.1, t.2.2) := by
 simp [ssOf, List.getD_eq_getElem?_getD, h]
theorem DG.sg {L : List Dst} (h : DG L) : SG (ssOf L) := fun s hs => by
 simp only [ssOf, List.mem_map] at hs
 obtain ⟨t, ht, rfl⟩ := hs
 exact h.cg t ht
theorem DG.sl {L : List Dst} (h : DG L) : SL (ssOf L) 1048576 := ⟨by rw [ze2]; have := h.cnt; omega, fun s hs => by
 simp only [ssOf, List.mem_map] at hs
 obtain ⟨t, ht, rfl⟩ := hs
 have := h.few t ht
 show t.2.2.length ≤ 1048576
 omega⟩
theorem zg1 {w : World} {b1 b2 e1 e2 s1 s2 n1 n2 : Nat} {v1 v2 : Value} {x1 x2 : List Value} (h : w.ownsRow b1 e1 s1 v1 n1 x1) (k : w.ownsRow b2 e2 s2 v2 n2 x2) (he : e1 ≠ e2) : v1.ownBlock = none ∨ v1.ownBlock ≠ v2.ownBlock := by
 by_cases e : v1.ownBlock = none
 ·exact Or.inl e
 ·refine Or.inr fun q => ?_
  obtain ⟨g, hg⟩ := Option.ne_none_iff_exists'.1 e
  obtain ⟨c, f, h1⟩ := Lib.ownsRow_kind h g hg
  obtain ⟨c', f', h2⟩ := Lib.ownsRow_kind k g (q ▸ hg)
  rw [h1] at h2
  simp at h2
  exact he h2.2.1
theorem DH.keep {w w' : World} {H : Nat} {sv : Value} {L : List Dst} {row : Option Nat} (h : DH w H sv L) (x : w.grownBy w' row) (hb : ∀ b, row = some b → b < H) : DH w' H sv L :=
 ⟨h.own.kept x (by
   cases hr : row with
   | none => cases hv : sv.ownBlock <;> simp
   | some b => exact Or.inr fun e => by have := (h.own.lt b e).1; have := hb b hr; omega),
  fun i t ht => (h.cel i t ht).kept x (by
   cases hr : row with
   | none => cases hv : t.2.1.ownBlock <;> simp
   | some b => exact Or.inr fun e => by have := ((h.cel i t ht).lt b e).1; have := hb b hr; omega), h.dj⟩
theorem DH.keepK {w w' : World} {H B E S N : Nat} {sv v : Value} {L : List Dst} {X : List Value} (h : DH w H sv L) (k : w.ownsRow B E S v N X) (h1 : E ≠ 41) (h2 : E ≠ 47) (x : w.grownBy w' v.ownBlock) : DH w' H sv L :=
 ⟨h.own.kept x (zg1 h.own k (Ne.symm h1)), fun i t ht => (h.cel i t ht).kept x (zg1 (h.cel i t ht) k (Ne.symm h2)), h.dj⟩
theorem DH.low {w : World} {H lo : Nat} {sv : Value} {L : List Dst} (h : DH w H sv L) (hl : lo ≤ H) : DH w lo sv L :=
 ⟨zq3 h.own hl, fun i t ht => zq3 (h.cel i t ht) hl, h.dj⟩
theorem DH.nil (w : World) (H : Nat) : DH w H (σ none 0 0) [] := ⟨World.ownsRow_nil w H 41 2, fun i t h => by simp at h, fun i j t u h => by simp at h⟩
theorem DG.nil : DG [] := ⟨fun t h => by simp at h, fun t h => by simp at h, by simp⟩
theorem DH.sv {w : World} {H : Nat} {v : Value} {L : List Dst} (h : DH w H v L) : SV w v (ssOf L) := by
 rcases h.own.2 with ⟨rfl, h0⟩ | ⟨g, cap, cur, rfl, _⟩
 ·obtain rfl : L = [] := List.length_eq_zero_iff.1 h0
  exact ⟨none, 0, rfl, Or.inl rfl⟩
 ·refine ⟨_, cap, by rw [ze2], Or.inr ⟨g, 0, rfl, fun j hj => ?_⟩⟩
  rw [ze2] at hj
  have ht : L[j]? = some (L[j]'hj) := List.getElem?_eq_getElem hj
  rw [zg9 L j _ ht, Nat.zero_add]
  have hf := zz3 L j _ ht
  refine ⟨(h.own.cellAt _ (by omega)).trans hf.1, _, (h.own.cellAt _ (by omega)).trans hf.2, ?_⟩
  obtain ⟨sa, cp, e1, e2⟩ := zx4 (Nat.le_refl _) (h.cel j _ ht)
  refine ⟨sa, cp, e1, e2.imp id fun ⟨b, q1, q2, q3, q4⟩ => ⟨b, 0, q1, q3⟩⟩
theorem DH.app {w w' w7 : World} {H : Nat} {sv v7 : Value} {L : List Dst} (h : DH w H sv L) {row : Option Nat} (x : w.grownBy w' row) (hr : ∀ b, row = some b → b < H ∨ w.heap.size ≤ b) {d : Int} {c : Value} {cs : List C3}
  (hc : w'.ownsRow w.heap.size 47 3 c cs.length (flat cs)) (hH : H ≤ w.heap.size)
  (hown : w7.ownsRow H 41 2 v7 (L.length + 1) (flatD L ++ [O ι d, c])) (hg : w'.grownBy w7 sv.ownBlock) : DH w7 H v7 (L ++ [(d, c, cs)]) := by
 have hk : DH w' H sv L := by
  refine ⟨h.own.kept x ?_, fun i t ht => (h.cel i t ht).kept x ?_, h.dj⟩
  ·cases hr' : row with
   | none => cases hv : sv.ownBlock <;> simp
   | some b => exact Or.inr fun e => by have := h.own.lt b e; have := hr b hr'; omega
  ·cases hr' : row with
   | none => cases hv : t.2.1.ownBlock <;> simp
   | some b => exact Or.inr fun e => by have := (h.cel i t ht).lt b e; have := hr b hr'; omega
 have hc' := zq3 hc hH
 have hnew : ∀ (i : Nat) (t : Dst), L[i]? = some t → t.2.1.ownBlock = none ∨ t.2.1.ownBlock ≠ c.ownBlock := fun i t ht => by
  by_cases e : t.2.1.ownBlock = none
  ·exact Or.inl e
  ·refine Or.inr fun q => ?_
   obtain ⟨g, hg⟩ := Option.ne_none_iff_exists'.1 e
   have := (h.cel i t ht).lt g hg
   have := hc.lt g (q ▸ hg)
   omega
 refine ⟨?_, fun i t ht => ?_, fun i j t u ht hu hij => ?_⟩
 ·rw [List.length_append, zf11]; exact hown
 ·rw [List.getElem?_append] at ht
  split at ht
  ·exact (hk.cel i t ht).kept hg (zg1 (hk.cel i t ht) hk.own (by decide))
  ·obtain ⟨q, rfl⟩ : i - L.length = 0 ∧ (d, c, cs) = t := by
    cases hi : i - L.length with
    | zero => rw [hi] at ht; simpa using ht
    | succ m => rw [hi] at ht; simp at ht
   exact hc'.kept hg (zg1 hc' hk.own (by decide))
 ·rw [List.getElem?_append] at ht hu
  split at ht
  ·split at hu
   ·exact h.dj i j t u ht hu hij
   ·obtain ⟨q, rfl⟩ : j - L.length = 0 ∧ (d, c, cs) = u := by
     cases hi : j - L.length with
     | zero => rw [hi] at hu; simpa using hu
     | succ m => rw [hi] at hu; simp at hu
    exact hnew i t ht
  ·obtain ⟨q, rfl⟩ : i - L.length = 0 ∧ (d, c, cs) = t := by
    cases hi : i - L.length with
    | zero => rw [hi] at ht; simpa using ht
    | succ m => rw [hi] at ht; simp at ht
   split at hu
   ·rcases hnew j u hu with e | e
    ·by_cases e2 : c.ownBlock = none
     ·exact Or.inl e2
     ·exact Or.inr (by rw [e]; exact e2)
    ·exact Or.inr (Ne.symm e)
   ·exfalso
    cases hi : j - L.length with
    | zero => omega
    | succ m => rw [hi] at hu; simp at hu
theorem DG.app {L : List Dst} (h : DG L) {d : Int} {c : Value} {cs : List C3} (hc : CG cs) (hl : cs.length ≤ 5000) (hn : L.length < 70) : DG (L ++ [(d, c, cs)]) := by
 refine ⟨fun t ht => ?_, fun t ht => ?_, by simp; omega⟩
 ·rcases List.mem_append.1 ht with h1 | h1
  ·exact h.cg t h1
  ·simp at h1; subst h1; exact hc
 ·rcases List.mem_append.1 ht with h1 | h1
  ·exact h.few t h1
  ·simp at h1; subst h1; exact hl
theorem za12 {L : List Dst} {i : Nat} {t u : Dst} (h : u ∈ L.set i t) : u = t ∨ u ∈ L := (List.mem_or_eq_of_mem_set h).symm
theorem DG.set {L : List Dst} (h : DG L) (i : Nat) {t : Dst} (hc : CG t.2.2) (hl : t.2.2.length ≤ 5000) : DG (L.set i t) := by
 refine ⟨fun u hu => ?_, fun u hu => ?_, by simpa using h.cnt⟩
 ·rcases za12 hu with rfl | q
  ·exact hc
  ·exact h.cg u q
 ·rcases za12 hu with rfl | q
  ·exact hl
  ·exact h.few u q
theorem zr3 {L : List Dst} {i j : Nat} {t u : Dst} (h : (L.set i t)[j]? = some u) : (i = j ∧ u = t ∧ i < L.length) ∨ (i ≠ j ∧ L[j]? = some u) := by
 rw [List.getElem?_set] at h
 split at h
 ·next e =>
  split at h
  ·next q => simp at h; exact Or.inl ⟨e, h.symm, q⟩
  ·simp at h
 ·next e => exact Or.inr ⟨e, h⟩
theorem DH.setDt {w : World} {H g n cap i : Nat} {L : List Dst} {t : Dst} (h : DH w H (σ (some ⟨g, 0, none⟩) n cap) L) (hi : L[i]? = some t) (d : Int) : DH (w.setCell ⟨g, i * 2, none⟩ (O ι d)) H (σ (some ⟨g, 0, none⟩) n cap) (L.set i (d, t.2)) := by
 have hn : n = L.length := by
  rcases h.own.2 with ⟨e, _⟩ | ⟨_, _, _, e, _⟩
  ·simp at e
  ·simp at e; exact e.2.1
 subst hn
 have hs := h.own.stored (i * 2) (O ι d)
 have hcc : ∀ (j : Nat) (u : Dst), L[j]? = some u → (w.setCell ⟨g, i * 2, none⟩ (O ι d)).ownsRow H 47 3 u.2.1 u.2.2.length (flat u.2.2) := fun j u hu => (h.cel j u hu).kept hs.2 (zg1 (h.cel j u hu) h.own (by decide))
 refine ⟨?_, fun j u hu => ?_, fun j k u v hu hv hjk => ?_⟩
 ·rw [List.length_set, ← zw8 L i t d hi]; exact hs.1
 ·rcases zr3 hu with ⟨_, rfl, _⟩ | ⟨_, q⟩
  ·exact hcc i t hi
  ·exact hcc j u q
 ·rcases zr3 hu with ⟨e1, rfl, _⟩ | ⟨e1, q⟩
  ·rcases zr3 hv with ⟨e2, rfl, _⟩ | ⟨e2, q2⟩
   ·omega
   ·exact h.dj i k t v hi q2 (by omega)
  ·rcases zr3 hv with ⟨e2, rfl, _⟩ | ⟨e2, q2⟩
   ·exact h.dj j i u t q hi (by omega)
   ·exact h.dj j k u v q q2 hjk
theorem DH.setC {w w5 : World} {H g n cap i : Nat} {L : List Dst} {t : Dst} (h : DH w H (σ (some ⟨g, 0, none⟩) n cap) L) (hi : L[i]? = some t) {v : Value} {cs : List C3}
  (hown : w5.ownsRow H 47 3 v cs.length (flat cs)) (hg : w.grownBy w5 t.2.1.ownBlock) (hat : ∀ b, v.ownBlock = some b → t.2.1.ownBlock = some b ∨ w.heap.size ≤ b) : DH (w5.setCell ⟨g, i * 2 + 1, none⟩ v) H (σ (some ⟨g, 0, none⟩) n cap) (L.set i (t.1, v, cs)) := by
 have hn : n = L.length := by
  rcases h.own.2 with ⟨e, _⟩ | ⟨_, _, _, e, _⟩
  ·simp at e
  ·simp at e; exact e.2.1
 subst hn
 have ho5 : w5.ownsRow H 41 2 (σ (some ⟨g, 0, none⟩) L.length cap) L.length (flatD L) := h.own.kept hg (zg1 h.own (h.cel i t hi) (by decide))
 have hs := ho5.stored (i * 2 + 1) v
 have hcc : ∀ (j : Nat) (u : Dst), j ≠ i → L[j]? = some u → (w5.setCell ⟨g, i * 2 + 1, none⟩ v).ownsRow H 47 3 u.2.1 u.2.2.length (flat u.2.2) := fun j u hj hu => by
  have h5 := (h.cel j u hu).kept hg (h.dj j i u t hu hi hj)
  exact h5.kept hs.2 (zg1 h5 ho5 (by decide))
 have hvv : ∀ (j : Nat) (u : Dst), j ≠ i → L[j]? = some u → u.2.1.ownBlock = none ∨ u.2.1.ownBlock ≠ v.ownBlock := fun j u hj hu => by
  by_cases e : u.2.1.ownBlock = none
  ·exact Or.inl e
  ·refine Or.inr fun q => ?_
   obtain ⟨b, hb⟩ := Option.ne_none_iff_exists'.1 e
   have h1 := (h.cel j u hu).lt b hb
   rcases hat b (q ▸ hb) with h2 | h2
   ·rcases h.dj j i u t hu hi hj with h3 | h3
    ·exact e h3
    ·exact h3 (hb.trans h2.symm)
   ·omega
 refine ⟨?_, fun j u hu => ?_, fun j k u z hu hz hjk => ?_⟩
 ·rw [List.length_set, ← zv8 L i t v cs hi]; exact hs.1
 ·rcases zr3 hu with ⟨_, rfl, _⟩ | ⟨e, q⟩
  ·exact hown.kept hs.2 (zg1 hown ho5 (by decide))
  ·exact hcc j u (Ne.symm e) q
 ·rcases zr3 hu with ⟨e1, rfl, _⟩ | ⟨e1, q⟩
  ·rcases zr3 hz with ⟨e2, rfl, _⟩ | ⟨e2, q2⟩
   ·omega
   ·rcases hvv k z (by omega) q2 with e | e
    ·by_cases e3 : v.ownBlock = none
     ·exact Or.inl e3
     ·exact Or.inr (by rw [e]; exact e3)
    ·exact Or.inr (Ne.symm e)
  ·rcases zr3 hz with ⟨e2, rfl, _⟩ | ⟨e2, q2⟩
   ·exact hvv j u (by omega) q
   ·exact h.dj j k u z q q2 hjk
theorem DH.put {w w5 : World} {H i : Nat} {sv : Value} {L : List Dst} {t : Dst} (h : DH w H sv L) (hi : L[i]? = some t) {cs : List C3}
  (hown : w5.ownsRow H 47 3 t.2.1 cs.length (flat cs)) (hg : w.grownBy w5 t.2.1.ownBlock) : DH w5 H sv (L.set i (t.1, t.2.1, cs)) := by
 refine ⟨?_, fun j u hu => ?_, fun j k u z hu hz hjk => ?_⟩
 ·rw [List.length_set, zx8 L i t cs hi]; exact h.own.kept hg (zg1 h.own (h.cel i t hi) (by decide))
 ·rcases zr3 hu with ⟨_, rfl, _⟩ | ⟨e, q⟩
  ·exact hown
  ·exact (h.cel j u q).kept hg (h.dj j i u t q hi (Ne.symm e))
 ·rcases zr3 hu with ⟨e1, rfl, _⟩ | ⟨e1, q⟩
  ·rcases zr3 hz with ⟨e2, rfl, _⟩ | ⟨e2, q2⟩
   ·omega
   ·exact h.dj i k t z hi q2 (by omega)
  ·rcases zr3 hz with ⟨e2, rfl, _⟩ | ⟨e2, q2⟩
   ·exact h.dj j i u t q hi (by omega)
   ·exact h.dj j k u z q q2 hjk
attribute [local go_sem] Oper.semAt_some
theorem zv21 {n : Nat} {w : World} (W : World) (l : Nat) (o o' : Obj) (_ : w.heap.size ≤ l) (h : W.heap[l]? = some o) (hc : o.isCells = false) (_ : o.isWalk = false) : KD n W (W.putObj l o') := by
 have g := grownBy_putObj' W l o'
 refine ⟨g.size, fun k c f hb h2 => ?_⟩
 have hk : k < W.heap.size := (Array.getElem?_eq_some_iff.1 h2).1
 have hne : k ≠ l := fun e => by
  subst e
  rw [h] at h2
  cases h2
  cases hc
 exact (g.block k hk (fun e => hne (by cases e; rfl))).trans h2
theorem KD.others {n : Nat} {A B : World} {row : Option Nat} (x : A.grownBy B row) (hr : ∀ k c f, row = some k → A.heap[k]? = some (χ c 65 f) → False) : KD n A B := ⟨x.size, fun k c f _ h => (x.block k (Array.getElem?_eq_some_iff.1 h).1 (fun e => hr k c f e.symm h)).trans h⟩
def SeqOk (w : World) (OL : List Int) (e : Ending) (w' : World) : Prop := ∃ v, e = .returned v ∧ w'.ownsRow w.heap.size 2 1 v OL.length (OL.map (Value.int .i64)) ∧ Below w.heap.size w w'
theorem zv11 (n : Nat) (hn : 3 ≤ n) (xs ss : List Int) (off : Int) {w : World} {Bf : Nat} (hv : ValidV xs ss off) (hBf : Bf < w.heap.size) (hc : ∀ j, j < 10 → w.cell? ⟨Bf, j, none⟩ = (vw xs ss off)[j]?) :
  CallsIn Fence.wide n Tryz.prog 64 #[σ none 0 0, .func (.func 65) #[] #[π (some ⟨Bf, 0, none⟩)]] w fun e w' => SeqOk w (offsL xs ss off) e w' := by
 have hol : (offsL xs ss off).length ≤ 4096 := by have := zx13 hv; have := hv.1.2.2; omega
 have x1 : Ext w (w.alloc (χ #[σ none 0 0] 26)) := (Ext.refl w).alloc _ _
 have hst := hide (zx7 (4096 : Int) (n - 1) Bf (w.alloc (χ #[σ none 0 0] 26)).heap.size xs ss off hv.1.1 hv.2.1 hv.1.2.1 hv.1.2.2 hv.2.2.2.1 hv.2.2.1 (fun x hx => zj3 hv x hx) (w.alloc (χ #[σ none 0 0] 26)) (Nat.le_refl _) (fun j hj => (x1.bl.cell (p := ⟨Bf, j, none⟩) hBf).trans (hc j hj)) (by simp; omega))
 have O0 := hide (Boxed.new w 26 (σ none 0 0))
 have X1 := hide x1.bl
 clear hv hc x1
 generalize hOL : offsL xs ss off = OL at hst hol
 have HOL := hide hOL
 clear hOL
 have h1 : 1 ≤ n := by omega
 obtain ⟨i0, hi0, hz0, hz1, hz2⟩ := info_parts zy7
 refine callsIn_of_wp_marks Tryz.func64 rfl trivial ?_ rfl
 simp only [Tryz.ntmps64, List.size_toArray, List.length_cons, List.length_nil, Nat.reduceAdd, Nat.reduceSub, Array.replicate_succ, Array.replicate_zero, List.push_toArray, List.append_toArray, List.nil_append, List.cons_append]
 gi_wp2
 generalize hW0 : w.alloc (χ #[σ none 0 0] 26) = W0 at O0 hst X1 ⊢
 have hsz : W0.heap.size = w.heap.size + 1 := by rw [← hW0]; simp
 clear hW0
 refine wpIn_rangeFunc_ownF rfl h1 (gf := 65) (lb := #[π (some ⟨Bf, 0, none⟩)]) rfl trivial (enters_of Tryz.func65 (by kernel_rfl) rfl)
  hst.out (fun h k => KD.trans h k) (fun W l o o' h1 h2 h3 h4 => zv21 W l o o' h1 h2 h3 h4) (Below.refl _ _) (fun _ => rfl)
  (fun pre W => (∃ v, Boxed W w.heap.size 26 v ∧ W.ownsRow w.heap.size 2 1 v pre.length ((pnv pre).map (Value.int .i64)) ∧ True) ∧ Below w.heap.size w W)
  (fun _ _ _ => False)
  (OwnFrom.and (Own.from (holdsRow_own w.heap.size w.heap.size 26 2 1 (fun pre : List (PlN 4096) => pre.length) (fun pre => (pnv pre).map (Value.int .i64)) (fun pre v => True)) _) (ownFrom_below (Nat.le_refl _) (by omega)))
  (fun _ _ _ _ _ hs _ _ => hs)
  ⟨⟨_, O0.out, World.ownsRow_nil _ _ _ _, trivial⟩, X1.out⟩
  (fun x => { tmps := #[σ none 0 0, .func (.func 65) #[] #[π (some ⟨Bf, 0, none⟩)], π (some ⟨w.heap.size, 0, none⟩), undef, σ none 0 0, O ι x.1, .func (.func 65) #[] #[π (some ⟨Bf, 0, none⟩)], O ι x.1, undef, undef, undef, undef, undef], defers := [] }) ?assign ?body ?done ?stop
 case assign =>
  intro l x W K hK
  gi_wp2
  exact hK
 case body =>
  rintro l pre ⟨x, hx⟩ W ⟨⟨v, hbox, hrow, _⟩, hB⟩ hlen
  have hc0 := hbox.cell
  have hf0 := hbox.frozen
  have hWs := hbox.lt
  have hwW := hB.size
  have hlen2 : pre.length < 4096 := by omega
  gi_wp2_with (refine wpListIn_append_own _ rfl _ _ 26 rfl w.heap.size 2 i0 (O ι 0) 1 8 Tryz.underlying26 hi0 hz0 hz1 hz2 rfl (by decide) v pre.length ((pnv pre).map (Value.int .i64)) rfl (hrow.alloc _) ⟨W.heap.size, 0, none⟩ 1 1 [O ι x] rfl rfl (zq _ _ _) (zt1 _) (by unfold maxLen; omega) (by omega) (by simp; omega) ?_)
  intro v3 w3 hown3 hgrow3 _
  obtain ⟨g3, c3, rfl⟩ := ownsRow_succ hown3
  obtain ⟨hv1, hv2, hr2, hk2, hb2⟩ := hbox.appended (by decide) hrow (by omega) (by omega) hown3 hgrow3
  have hc1 := hv1.cell
  have hf1 := hv1.frozen
  have HB4 := hide (hB.trans hb2)
  have HKD : Hid (KD W0.heap.size W (w3.setCell ⟨w.heap.size, 0, none⟩ (σ (some ⟨g3, 0, none⟩) (pre.length + 1) c3))) := ((KD.alloc _ W _).trans (KD.others hgrow3 (fun k c f e h => by
    obtain ⟨c', f', h'⟩ := Lib.ownsRow_kind (hrow.alloc (χ #[O ι x] 2)) k e
    rw [h] at h'
    simp at h'))).trans (KD.others (zy3 ((Mut.refl w.heap.size w3).setCell 0 _)) (fun k c f e h => by
    injection e with e
    subst e
    have h9 : w3.heap[w.heap.size]? = _ := hv1
    rw [h] at h9
    simp at h9))
  gi_wp2
  refine ⟨hk2, HKD.out, ⟨_, hv2, ?_, trivial⟩, HB4.out⟩
  rw [zw1, List.map_append, List.length_append]
  exact hr2
 case done =>
  rintro D ys W hD hS ⟨⟨v, hbox, hrow, _⟩, hB⟩ hK
  have hc0 := hbox.cell
  gi_wp2
  refine ⟨by simp, .inl ⟨_, _, rfl, run_takeDeferred hK, ?_⟩⟩
  refine ⟨_, results_tmp rfl _ _ _, ?_⟩
  have hrow2 := hrow.kept (grownBy_putObj' W D (.deferred none)) (by
   rcases hrow.2 with ⟨rfl, _⟩ | ⟨g, cap, cur, rfl, _, hgb, _⟩
   ·exact .inl rfl
   ·refine .inr (fun e => ?_)
    have e2 : g = D := by simpa [Value.ownBlock] using e
    subst e2
    rw [hgb] at hK
    cases hK)
  have hS2 : pnv ys = OL := hS
  refine ⟨v, rfl, ?_, hB.trans (belowK_b (w := w) (Nat.le_refl _) W D _ _ (by omega) hK rfl rfl)⟩
  rw [← hS2, zu5]
  exact hrow2
 case stop =>
  rintro D c pre W _ _ h _
  exact h.elim
theorem za13 (xs ss : List Int) (off : Int) {w : World} {Bf : Nat} (hv : ValidV xs ss off) (hBf : Bf < w.heap.size) (hc : ∀ j, j < 10 → w.cell? ⟨Bf, j, none⟩ = (vw xs ss off)[j]?) :
  Calls Tryz.prog 29 #[.func (.func 65) #[] #[π (some ⟨Bf, 0, none⟩)]] w fun e w' => SeqOk w (offsL xs ss off) e w' := by
 have h := hide (callsIn_wide.1 (zv11 3 (Nat.le_refl _) xs ss off hv hBf hc))
 clear hv hc
 go_enter Tryz.func29, Tryz.ntmps29
 go_wp2_with fail
 refine h.out.mono ?_
 rintro e w1 ⟨v, rfl, h1, h2⟩
 have H1 := hide h1
 have H2 := hide h2
 clear h1 h2 h
 go_wp2
 go_ret
 exact ⟨v, rfl, H1.out, H2.out⟩
theorem zg12 (xs ss : List Int) (off : Int) (w : World) : Calls Tryz.prog 30 #[γ (vw xs ss off)] w fun e w' => e = .returned (.func (.func 65) #[] #[π (some ⟨w.heap.size, 0, none⟩)]) ∧ w' = w.alloc (χ (vw xs ss off) 65) := callsIn_wide.1 (zb4 3 xs ss off w)
end
section
open Go.RowKit FL
structure Src (w : World) (b : Nat) (sv : Value) (n : Nat) (at_ mix size : Int) : Prop where
 c0 : w.cell? ⟨b, 0, none⟩ = some sv
 c1 : w.cell? ⟨b, 1, none⟩ = some (O ι at_)
 c2 : w.cell? ⟨b, 2, none⟩ = some (O ι mix)
 c3 : w.cell? ⟨b, 3, none⟩ = some (O ι size)
 fz : ∀ o, w.frozen? ⟨b, o, none⟩ = false
 at0 : 0 ≤ at_
 atn : at_ ≤ n
 nle : n ≤ 4000
 mix0 : 0 ≤ mix
 mix1 : mix < 1000003
 size0 : 1 ≤ size
 size1 : size ≤ 7
 code : (n = 0 ∧ sv = σ none 0 0) ∨ ∃ g cap, sv = σ (some ⟨g, 0, none⟩) n cap ∧ g ≠ b ∧ ∀ j, j < n → ∃ x : Int, w.cell? ⟨g, j, none⟩ = some (.int .u8 x) ∧ 0 ≤ x ∧ x < 256
theorem Src.keep {w w' : World} {b : Nat} {sv : Value} {n : Nat} {at_ mix size : Int} (h : Src w b sv n at_ mix size) (x : Ext w w') : Src w' b sv n at_ mix size := by
 refine ⟨x.box h.c0, x.box h.c1, x.box h.c2, x.box h.c3, fun o => (x.fz _).trans (h.fz o), h.at0, h.atn, h.nle, h.mix0, h.mix1, h.size0, h.size1, ?_⟩
 rcases h.code with hc | ⟨g, cap, h1, h2, h3⟩
 ·exact Or.inl hc
 ·refine Or.inr ⟨g, cap, h1, h2, fun j hj => ?_⟩
  obtain ⟨y, hy, hr⟩ := h3 j hj
  exact ⟨y, x.box hy, hr⟩
theorem Src.upd {w w' : World} {b : Nat} {sv : Value} {n : Nat} {at_ mix size : Int} (h : Src w b sv n at_ mix size) (m : Mut b w w') (at2 mix2 : Int)
  (c0 : w'.cell? ⟨b, 0, none⟩ = some sv) (c1 : w'.cell? ⟨b, 1, none⟩ = some (O ι at2)) (c2 : w'.cell? ⟨b, 2, none⟩ = some (O ι mix2)) (c3 : w'.cell? ⟨b, 3, none⟩ = some (O ι size))
  (ha : 0 ≤ at2) (hb : at2 ≤ n) (hm : 0 ≤ mix2) (hm2 : mix2 < 1000003) : Src w' b sv n at2 mix2 size := by
 refine ⟨c0, c1, c2, c3, fun o => (m.fz _).trans (h.fz o), ha, hb, h.nle, hm, hm2, h.size0, h.size1, ?_⟩
 rcases h.code with hc | ⟨g, cap, h1, h2, h3⟩
 ·exact Or.inl hc
 ·refine Or.inr ⟨g, cap, h1, h2, fun j hj => ?_⟩
  obtain ⟨y, hy, hr⟩ := h3 j hj
  exact ⟨y, m.box h2 hy, hr⟩
theorem ze18 (b : Nat) (m : Int) (hm : m ≤ 1) (w : World) :
  Calls Tryz.prog 46 #[π (some ⟨b, 0, none⟩), O ι m] w fun e w' => e = .returned (O ι 0) ∧ w' = w := by
 go_enter Tryz.func46, Tryz.ntmps46
 go_wp2
 go_ret
 exact ⟨rfl, rfl⟩
theorem zn16 (b : Nat) (m : Int) (hm : 1 < m) (hm2 : m ≤ 256) (g cap n : Nat) (at_ mix size x : Int) (w : World) (hn : n ≤ 4000) (hx0 : 0 ≤ x) (hx1 : x < 256)
  (c0 : w.cell? ⟨b, 0, none⟩ = some (σ (some ⟨g, 0, none⟩) n cap)) (c1 : w.cell? ⟨b, 1, none⟩ = some (O ι at_)) (fz : ∀ o, w.frozen? ⟨b, o, none⟩ = false)
  (ha : 0 ≤ at_) (hlt : at_ < n) (hc : w.cell? ⟨g, at_.toNat, none⟩ = some (.int .u8 x)) :
  Calls Tryz.prog 46 #[π (some ⟨b, 0, none⟩), O ι m] w fun e w' => e = .returned (O ι (x % m)) ∧ ∃ k, w' = (w.setCell ⟨b, 1, none⟩ (O ι (at_ + 1))).drewN k := by
 have d1 : decide (at_ < (n : Int)) = true := decide_eq_true hlt
 have d2 : decide (m ≤ 256) = true := decide_eq_true hm2
 go_enter Tryz.func46, Tryz.ntmps46
 go_wp2_with fail
 go_quiet (fail)
 go_wp2_with fail
 go_quiet (fail)
 go_wp2
 go_ret
 exact ⟨rfl, _, rfl⟩
theorem zf18 (b : Nat) (m : Int) (hm : 1 < m) (sv : Value) (n : Nat) (at_ mix size : Int) (w : World)
  (hs : (n = 0 ∧ sv = σ none 0 0) ∨ ∃ g cap, sv = σ (some ⟨g, 0, none⟩) n cap) (hn : n ≤ 4000)
  (c0 : w.cell? ⟨b, 0, none⟩ = some sv) (c1 : w.cell? ⟨b, 1, none⟩ = some (O ι at_)) (c2 : w.cell? ⟨b, 2, none⟩ = some (O ι mix)) (fz : ∀ o, w.frozen? ⟨b, o, none⟩ = false)
  (hor : ¬ (at_ < n ∧ m ≤ 256)) (hx0 : 0 ≤ mix) (hx1 : mix < 1000003) :
  Calls Tryz.prog 46 #[π (some ⟨b, 0, none⟩), O ι m] w fun e w' => e = .returned (O ι ((mix * 1103 + 12347) % 1000003 / 3 % m)) ∧ ∃ k, w' = (w.setCell ⟨b, 2, none⟩ (O ι ((mix * 1103 + 12347) % 1000003))).drewN k := by
 have hsl : ∃ a cap, sv = σ a n cap := by
  rcases hs with ⟨h1, h2⟩ | ⟨g, cap, h⟩
  ·exact ⟨none, 0, by rw [h2, h1]⟩
  ·exact ⟨_, _, h⟩
 obtain ⟨a, cap, rfl⟩ := hsl
 clear hs
 by_cases h1 : at_ < (n : Int)
 ·have h2 : ¬ m ≤ 256 := fun h => hor ⟨h1, h⟩
  have d1 : decide (at_ < (n : Int)) = true := decide_eq_true h1
  have d2 : decide (m ≤ 256) = false := decide_eq_false h2
  clear hor
  go_enter Tryz.func46, Tryz.ntmps46
  go_wp2_with fail
  go_quiet (fail)
  go_wp2
  go_ret
  exact ⟨rfl, _, rfl⟩
 ·have d1 : decide (at_ < (n : Int)) = false := decide_eq_false h1
  clear hor
  go_enter Tryz.func46, Tryz.ntmps46
  go_wp2_with fail
  go_quiet (fail)
  go_wp2
  go_ret
  exact ⟨rfl, _, rfl⟩
theorem zz1 {w : World} {b : Nat} {sv : Value} {n : Nat} {at_ mix size : Int} (h : Src w b sv n at_ mix size) (m : Int) :
  Calls Tryz.prog 46 #[π (some ⟨b, 0, none⟩), O ι m] w fun e w' => ∃ (v at2 mix2 : Int), e = .returned (O ι v) ∧ (0 ≤ v ∧ (1 < m → v < m) ∧ (m ≤ 1 → v = 0)) ∧ Src w' b sv n at2 mix2 size ∧ Mut b w w' := by
 by_cases hm : m ≤ 1
 ·refine (ze18 b m hm w).mono ?_
  rintro e w' ⟨rfl, rfl⟩
  exact ⟨0, at_, mix, rfl, ⟨by omega, by omega, by omega⟩, h, Mut.refl _ _⟩
 by_cases hc : at_ < n ∧ m ≤ 256
 ·rcases h.code with ⟨hn0, _⟩ | ⟨g, cap, hsv, hg, hb⟩
  ·have := h.at0; omega
  ·obtain ⟨x, hx, hx0, hx1⟩ := hb at_.toNat (by have := h.at0; omega)
   subst hsv
   refine (zn16 b m (by omega) hc.2 g cap n at_ mix size x w h.nle hx0 hx1 h.c0 h.c1 h.fz h.at0 hc.1 hx).mono ?_
   rintro e w' ⟨rfl, k, rfl⟩
   have hmm : Mut b w ((w.setCell ⟨b, 1, none⟩ (O ι (at_ + 1))).drewN k) := ((Mut.refl b w).setCell 1 _).drewN k
   refine ⟨_, at_ + 1, mix, rfl, ⟨Int.emod_nonneg _ (by omega), fun h => Int.emod_lt_of_pos _ (by omega), fun h => by omega⟩, h.upd hmm _ _ ?_ ?_ ?_ ?_ (by have := h.at0; omega) (by omega) h.mix0 h.mix1, hmm⟩
   ·simp [go_sem, h.c0]
   ·simp [go_sem, h.c1]
   ·simp [go_sem, h.c2]
   ·simp [go_sem, h.c3]
 ·refine (zf18 b m (by omega) sv n at_ mix size w (h.code.imp id fun ⟨g, cap, h1, _⟩ => ⟨g, cap, h1⟩) h.nle h.c0 h.c1 h.c2 h.fz hc h.mix0 h.mix1).mono ?_
  rintro e w' ⟨rfl, k, rfl⟩
  have hmm : Mut b w ((w.setCell ⟨b, 2, none⟩ (O ι ((mix * 1103 + 12347) % 1000003))).drewN k) := ((Mut.refl b w).setCell 2 _).drewN k
  refine ⟨_, at_, (mix * 1103 + 12347) % 1000003, rfl, ⟨Int.emod_nonneg _ (by omega), fun h => Int.emod_lt_of_pos _ (by omega), fun h => by omega⟩, h.upd hmm _ _ ?_ ?_ ?_ ?_ h.at0 h.atn (by omega) (by omega), hmm⟩
  ·simp [go_sem, h.c0]
  ·simp [go_sem, h.c1]
  ·simp [go_sem, h.c2]
  ·simp [go_sem, h.c3]
theorem zs9 {w : World} {b : Nat} {sv : Value} {n : Nat} {at_ mix size : Int} (h : Src w b sv n at_ mix size) :
  Calls Tryz.prog 76 #[π (some ⟨b, 0, none⟩)] w fun e w' => ∃ (v at2 mix2 : Int), e = .returned (O ι v) ∧ (1 ≤ v ∧ v ≤ 9) ∧ Src w' b sv n at2 mix2 size ∧ Mut b w w' := by
 have H := hide h
 clear h
 go_enter Tryz.func76, Tryz.ntmps76
 go_wp2_with fail
 refine (zz1 H.out 9).mono ?_
 rintro e w1 ⟨v, at2, mix2, rfl, ⟨hv0, hv1, _⟩, hs, hm⟩
 have hv2 := hv1 (by omega)
 have Hs := hide hs
 have Hm := hide hm
 clear hs hm hv1
 go_wp2
 go_ret
 exact ⟨1 + v, at2, mix2, rfl, ⟨by omega, by omega⟩, Hs.out, Hm.out⟩
section
attribute [local go_sem] zs5 zp5 zr5 zq5
theorem zj2 {w : World} {b : Nat} {sv : Value} {n : Nat} {at_ mix size : Int} (h : Src w b sv n at_ mix size) :
  Calls Tryz.prog 98 #[π (some ⟨b, 0, none⟩)] w fun e w' => ∃ (r : Nat) (at2 mix2 : Int), e = .returned (.float .f64 r) ∧ B64 r ∧ Src w' b sv n at2 mix2 size ∧ Mut b w w' := by
 have H := hide h
 clear h
 go_enter Tryz.func98, Tryz.ntmps98
 go_wp2_with fail
 refine (zz1 H.out 24).mono ?_
 rintro e w1 ⟨k, at2, mix2, rfl, ⟨hv0, hv1, _⟩, hs, hm⟩
 have Hs := hide hs
 have Hm := hide hm
 clear hs hm hv1 hv0
 go_wp2_with fail
 refine (zz1 Hs.out 40).mono ?_
 rintro e w2 ⟨j, at3, mix3, rfl, ⟨hv0, hv1, _⟩, hs, hm⟩
 have Hs2 := hide hs
 have Hm2 := hide hm
 clear hs hm hv1 hv0
 go_wp2
 all_goals go_ret
 all_goals go_light
 all_goals refine ⟨_, at3, mix3, rfl, ?_, ?_, ?_⟩
 all_goals first | exact za22 _ _ _ _ | exact zs3 | (apply Mut.drewN; exact Hm.out.trans Hm2.out) | exact Hm.out.trans Hm2.out | exact Hs2.out | exact Hs2.out.keep ((Ext.refl _).drewN _) | trace_state
end
end
section
open Go.RowKit FL
theorem Src.lt {w : World} {b : Nat} {sv : Value} {n : Nat} {at_ mix size : Int} (h : Src w b sv n at_ mix size) : b < w.heap.size := by
 by_cases e : b < w.heap.size
 ·exact e
 ·have e2 : w.heap[b]? = none := by simp; omega
  have := h.c0
  simp [World.cell?, e2] at this
theorem zd21 (dt v : Int) (h : I64 v) : I64 (cutL dt v) := by
 unfold I64 cutL at *
 omega
theorem zo4 (v : Int) : I64 (wrap64 v) := by
 unfold I64
 simp only [wrap64, IntKind.wrap_i64]
 omega
theorem zp20 (dt : Int) : -9223372036854775808 ≤ lowL dt ∧ lowL dt ≤ 0 := by unfold lowL; omega
theorem zn18 (dt : Int) : 1 ≤ highL dt ∧ highL dt ≤ 9223372036854775807 := by unfold highL; omega
theorem ze5 (dt v : Int) (h : 2 ≤ dt ∧ dt ≤ 6) (hv : I64 v) (w : World) :
  Calls Tryz.prog 72 #[O ι dt, O ι v] w fun e w' => ∃ c, e = .returned (O ι c) ∧ I64 c ∧ w' = w := by
 refine (zv16 dt v h hv w).mono ?_
 rintro e w' ⟨rfl, rfl⟩
 exact ⟨_, rfl, zd21 _ _ hv, rfl⟩
def CellOk (i : Int) (f g : Nat) : Prop := I64 i ∧ B64 f ∧ B64 g
theorem Mut.setNew {b : Nat} {a c : World} (h : Mut b a c) {k : Nat} (hk : a.heap.size ≤ k) (o : Nat) (v : Value) : Mut b a (c.setCell ⟨k, o, none⟩ v) :=
 ⟨h.os, h.tape, h.output, by simpa [World.setCell] using h.size, fun i hi hn => by rw [Below.heap_setCell _ _ _ _ (by show i ≠ k; omega)]; exact h.block i hi hn, fun x => (World.frozen?_setCell _ _ _ _).trans (h.fz x)⟩
theorem zh3 (w : World) (k o k' o' : Nat) (v : Value) (h : k' ≠ k) : (w.setCell ⟨k, o, none⟩ v).cell? ⟨k', o', none⟩ = w.cell? ⟨k', o', none⟩ :=
 World.cell?_of_block (w := w) (a := ⟨k', o', none⟩) (Below.heap_setCell _ _ _ _ h)
theorem Src.setNew {w0 W : World} {b : Nat} {sv : Value} {n : Nat} {a0 x0 z0 a x z : Int} (h0 : Src w0 b sv n a0 x0 z0) (h : Src W b sv n a x z) {k : Nat} (hk : w0.heap.size ≤ k) (o : Nat) (v : Value) : Src (W.setCell ⟨k, o, none⟩ v) b sv n a x z := by
 have hb := h0.lt
 have hne : b ≠ k := by omega
 refine ⟨(zh3 _ _ _ _ _ _ hne).trans h.c0, (zh3 _ _ _ _ _ _ hne).trans h.c1, (zh3 _ _ _ _ _ _ hne).trans h.c2, (zh3 _ _ _ _ _ _ hne).trans h.c3, fun q => (World.frozen?_setCell _ _ _ _).trans (h.fz q), h.at0, h.atn, h.nle, h.mix0, h.mix1, h.size0, h.size1, ?_⟩
 rcases h.code with hc | ⟨g, cap, h1, h2, h3⟩
 ·exact Or.inl hc
 ·refine Or.inr ⟨g, cap, h1, h2, fun j hj => ?_⟩
  obtain ⟨y, hy, hr⟩ := h3 j hj
  refine ⟨y, ?_, hr⟩
  have hg : g < w0.heap.size := by
   rcases h0.code with ⟨hc, _⟩ | ⟨g', cap', h1', h2', h3'⟩
   ·omega
   ·have e : g' = g := by rw [h1] at h1'; cases h1'; rfl
    obtain ⟨y', hy', _⟩ := h3' j hj
    rw [e] at hy'
    by_cases e2 : g < w0.heap.size
    ·exact e2
    ·have e3 : w0.heap[g]? = none := by simp; omega
     simp [World.cell?, e3] at hy'
  rw [zh3 _ _ _ _ _ _ (by omega), hy]
structure At (w W : World) (b : Nat) (sv : Value) (n : Nat) (size : Int) : Prop where
 z0 : W.cell? ⟨w.heap.size, 0, none⟩ = some (O ι 0)
 z1 : W.cell? ⟨w.heap.size, 1, none⟩ = some (.float .f64 0)
 z2 : W.cell? ⟨w.heap.size, 2, none⟩ = some (.float .f64 0)
 zf : ∀ o, W.frozen? ⟨w.heap.size, o, none⟩ = false
 src : ∃ a x, Src W b sv n a x size
 mt : Mut b w W
theorem At.start {w : World} {b : Nat} {sv : Value} {n : Nat} {a x z : Int} (h : Src w b sv n a x z) : At w (w.alloc (χ #[O ι 0, .float .f64 0, .float .f64 0] 47)) b sv n z :=
 ⟨by simp, by simp, by simp, fun o => ((Ext.refl w).alloc _ _).unfrozen (Nat.le_refl _) o, ⟨a, x, h.keep ((Ext.refl w).alloc _ _)⟩, ((Ext.refl w).alloc _ _).mut b⟩
theorem At.next {w W W' : World} {b : Nat} {sv : Value} {n : Nat} {a x z : Int} (h0 : b < w.heap.size) (h : At w W b sv n z) (s : Src W' b sv n a x z) (m : Mut b W W') : At w W' b sv n z :=
 ⟨m.box (by omega) h.z0, m.box (by omega) h.z1, m.box (by omega) h.z2, fun o => (m.fz _).trans (h.zf o), ⟨a, x, s⟩, h.mt.trans m⟩
theorem At.drewN {w W : World} {b : Nat} {sv : Value} {n : Nat} {z : Int} (h : At w W b sv n z) (k : Nat) : At w (W.drewN k) b sv n z := by
 obtain ⟨a, x, s⟩ := h.src
 exact ⟨h.z0, h.z1, h.z2, h.zf, ⟨a, x, s.keep ((Ext.refl _).drewN k)⟩, h.mt.drewN k⟩
theorem At.fin {w W : World} {b : Nat} {sv : Value} {n : Nat} {a x z : Int} (h0 : Src w b sv n a x z) (h : At w W b sv n z) (u0 u1 u2 : Value) :
  (∃ a x, Src (((W.setCell ⟨w.heap.size, 0, none⟩ u0).setCell ⟨w.heap.size, 1, none⟩ u1).setCell ⟨w.heap.size, 2, none⟩ u2) b sv n a x z) ∧ Mut b w (((W.setCell ⟨w.heap.size, 0, none⟩ u0).setCell ⟨w.heap.size, 1, none⟩ u1).setCell ⟨w.heap.size, 2, none⟩ u2) := by
 obtain ⟨a, x, s⟩ := h.src
 exact ⟨⟨a, x, h0.setNew (h0.setNew (h0.setNew s (Nat.le_refl _) _ _) (Nat.le_refl _) _ _) (Nat.le_refl _) _ _⟩, ((h.mt.setNew (Nat.le_refl _) _ _).setNew (Nat.le_refl _) _ _).setNew (Nat.le_refl _) _ _⟩
theorem zu9 {w : World} {b : Nat} {sv : Value} {n : Nat} {at_ mix size : Int} (h : Src w b sv n at_ mix size)  :
  Calls Tryz.prog 77 #[π (some ⟨b, 0, none⟩), O ι 1] w fun e w' => ∃ (i : Int) (f g : Nat) (at2 mix2 : Int), e = .returned (γ #[O ι i, .float .f64 f, .float .f64 g]) ∧ CellOk i f g ∧ Src w' b sv n at2 mix2 size ∧ Mut b w w' := by
 have hb := h.lt
 have hk : skindL 1 = 0 := by decide
 have H0 := hide h
 have A0 := hide (At.start h)
 clear h
 go_enter Tryz.func77, Tryz.ntmps77
 go_wp2_with (go_at_call 71; refine (zo _ _).mono ?_; rintro e w' ⟨rfl, rfl⟩)
 obtain ⟨ax, xx, sx⟩ := A0.out.src
 refine (zz1 sx 2).mono ?_
 clear sx
 rintro e w1 ⟨v1, at1, mix1, rfl, ⟨p1, q1', _⟩, s1, m1⟩
 have q1 := q1' (by decide)
 have A1 := hide (A0.out.next hb s1 m1)
 clear q1' s1 m1
 have z0 := A1.out.z0
 have z1 := A1.out.z1
 have z2 := A1.out.z2
 have zf := A1.out.zf
 go_wp2
 obtain ⟨⟨ax, xx, sx⟩, mx⟩ := At.fin H0.out A1.out (O ι v1) (.float .f64 0) (.float .f64 0)
 exact bodyPost_ret (v := γ #[O ι v1, .float .f64 0, .float .f64 0]) (by simp [results, Tryz.results77, go_sem, z0, z1, z2]) rfl ⟨v1, 0, 0, ax, xx, rfl, ⟨by unfold I64; omega, zs3, zs3⟩, sx, mx⟩
theorem zk11 {w : World} {b : Nat} {sv : Value} {n : Nat} {at_ mix size : Int} (h : Src w b sv n at_ mix size)  :
  Calls Tryz.prog 77 #[π (some ⟨b, 0, none⟩), O ι 8] w fun e w' => ∃ (i : Int) (f g : Nat) (at2 mix2 : Int), e = .returned (γ #[O ι i, .float .f64 f, .float .f64 g]) ∧ CellOk i f g ∧ Src w' b sv n at2 mix2 size ∧ Mut b w w' := by
 have hb := h.lt
 have hk : skindL 8 = 2 := by decide
 have H0 := hide h
 have A0 := hide (At.start h)
 clear h
 go_enter Tryz.func77, Tryz.ntmps77
 go_wp2_with (go_at_call 71; refine (zo _ _).mono ?_; rintro e w' ⟨rfl, rfl⟩)
 obtain ⟨ax, xx, sx⟩ := A0.out.src
 refine (zj2 sx).mono ?_
 clear sx
 rintro e w1 ⟨r1, at1, mix1, rfl, b1, s1, m1⟩
 have A1 := hide (A0.out.next hb s1 m1)
 clear s1 m1
 go_wp2_with (go_at_call 74; refine (zb14 _ (by decide) _ _).mono ?_; rintro e w' ⟨rfl, rfl⟩; have z0 := A1.out.z0; have z1 := A1.out.z1; have z2 := A1.out.z2; have zf := A1.out.zf)
 obtain ⟨⟨ax, xx, sx⟩, mx⟩ := At.fin H0.out A1.out (O ι 0) (.float .f64 r1) (.float .f64 0)
 exact bodyPost_ret (v := γ #[O ι 0, .float .f64 r1, .float .f64 0]) (by simp [results, Tryz.results77, go_sem, z0, z1, z2]) rfl ⟨0, r1, 0, ax, xx, rfl, ⟨by unfold I64; omega, b1, zs3⟩, sx, mx⟩
theorem zl11 {w : World} {b : Nat} {sv : Value} {n : Nat} {at_ mix size : Int} (h : Src w b sv n at_ mix size)  :
  Calls Tryz.prog 77 #[π (some ⟨b, 0, none⟩), O ι 7] w fun e w' => ∃ (i : Int) (f g : Nat) (at2 mix2 : Int), e = .returned (γ #[O ι i, .float .f64 f, .float .f64 g]) ∧ CellOk i f g ∧ Src w' b sv n at2 mix2 size ∧ Mut b w w' := by
 have hb := h.lt
 have hk : skindL 7 = 2 := by decide
 have H0 := hide h
 have A0 := hide (At.start h)
 clear h
 go_enter Tryz.func77, Tryz.ntmps77
 go_wp2_with (go_at_call 71; refine (zo _ _).mono ?_; rintro e w' ⟨rfl, rfl⟩)
 obtain ⟨ax, xx, sx⟩ := A0.out.src
 refine (zj2 sx).mono ?_
 clear sx
 rintro e w1 ⟨r1, at1, mix1, rfl, b1, s1, m1⟩
 have A1 := hide (A0.out.next hb s1 m1)
 clear s1 m1
 go_wp2_with (go_at_call 74; refine (zc14 _ b1 _).mono ?_; rintro e w2 ⟨r, k, rfl, hr, rfl⟩; have A2 := hide (A1.out.drewN k); have z0 := A2.out.z0; have z1 := A2.out.z1; have z2 := A2.out.z2; have zf := A2.out.zf)
 obtain ⟨⟨ax, xx, sx⟩, mx⟩ := At.fin H0.out A2.out (O ι 0) (.float .f64 r) (.float .f64 0)
 exact bodyPost_ret (v := γ #[O ι 0, .float .f64 r, .float .f64 0]) (by simp [results, Tryz.results77, go_sem, z0, z1, z2]) rfl ⟨0, r, 0, ax, xx, rfl, ⟨by unfold I64; omega, hr.1, zs3⟩, sx, mx⟩
theorem zt9 {w : World} {b : Nat} {sv : Value} {n : Nat} {at_ mix size : Int} (h : Src w b sv n at_ mix size)  :
  Calls Tryz.prog 77 #[π (some ⟨b, 0, none⟩), O ι 9] w fun e w' => ∃ (i : Int) (f g : Nat) (at2 mix2 : Int), e = .returned (γ #[O ι i, .float .f64 f, .float .f64 g]) ∧ CellOk i f g ∧ Src w' b sv n at2 mix2 size ∧ Mut b w w' := by
 have hb := h.lt
 have hk : skindL 9 = 3 := by decide
 have H0 := hide h
 have A0 := hide (At.start h)
 clear h
 go_enter Tryz.func77, Tryz.ntmps77
 go_wp2_with (go_at_call 71; refine (zo _ _).mono ?_; rintro e w' ⟨rfl, rfl⟩)
 obtain ⟨ax, xx, sx⟩ := A0.out.src
 refine (zj2 sx).mono ?_
 clear sx
 rintro e w1 ⟨r1, at1, mix1, rfl, b1, s1, m1⟩
 have A1 := hide (A0.out.next hb s1 m1)
 clear s1 m1
 go_wp2_with fail
 obtain ⟨ax, xx, sx⟩ := A1.out.src
 refine (zj2 sx).mono ?_
 clear sx
 rintro e w2 ⟨r2, at2, mix2, rfl, b2, s2, m2⟩
 have A2 := hide (A1.out.next hb s2 m2)
 clear s2 m2
 have z0 := A2.out.z0
 have z1 := A2.out.z1
 have z2 := A2.out.z2
 have zf := A2.out.zf
 go_wp2
 obtain ⟨⟨ax, xx, sx⟩, mx⟩ := At.fin H0.out A2.out (O ι 0) (.float .f64 r1) (.float .f64 r2)
 exact bodyPost_ret (v := γ #[O ι 0, .float .f64 r1, .float .f64 r2]) (by simp [results, Tryz.results77, go_sem, z0, z1, z2]) rfl ⟨0, r1, r2, ax, xx, rfl, ⟨by unfold I64; omega, b1, b2⟩, sx, mx⟩
theorem zj11 {w : World} {b : Nat} {sv : Value} {n : Nat} {at_ mix size : Int} (h : Src w b sv n at_ mix size) {dt : Int} (hd : 2 ≤ dt ∧ dt ≤ 6) :
  Calls Tryz.prog 77 #[π (some ⟨b, 0, none⟩), O ι dt] w fun e w' => ∃ (i : Int) (f g : Nat) (at2 mix2 : Int), e = .returned (γ #[O ι i, .float .f64 f, .float .f64 g]) ∧ CellOk i f g ∧ Src w' b sv n at2 mix2 size ∧ Mut b w w' := by
 have Hd := hide hd
 have hlo := zp20 dt
 have hhi := zn18 dt
 have hb := h.lt
 have hk : skindL dt = 1 := by unfold skindL; omega
 have H0 := hide h
 have A0 := hide (At.start h)
 clear h
 go_enter Tryz.func77, Tryz.ntmps77
 go_wp2_with (go_at_call 71; refine (zo _ _).mono ?_; rintro e w' ⟨rfl, rfl⟩)
 skip
 obtain ⟨ax, xx, sx⟩ := A0.out.src
 refine (zz1 sx 12).mono ?_
 clear sx
 rintro e w1 ⟨v1, at1, mix1, rfl, ⟨p1, q1', _⟩, s1, m1⟩
 have q1 := q1' (by decide)
 have A1 := hide (A0.out.next hb s1 m1)
 clear q1' s1 m1
 go_wp2_with fail
 obtain ⟨ax, xx, sx⟩ := A1.out.src
 refine (zz1 sx 40).mono ?_
 clear sx
 rintro e w2 ⟨v2, at2, mix2, rfl, ⟨p2, q2', _⟩, s2, m2⟩
 have q2 := q2' (by decide)
 have A2 := hide (A1.out.next hb s2 m2)
 clear q2' s2 m2
 by_cases c0 : v1 = 0
 ·subst c0
  go_wp2_with (first | (go_at_call 82; refine (zw10 _ _).mono ?_; rintro e w' ⟨rfl, rfl⟩))
  obtain ⟨ax, xx, sx⟩ := A2.out.src
  refine (zz1 sx 3).mono ?_
  clear sx
  rintro e w3 ⟨v3, at3, mix3, rfl, ⟨p3, q3', _⟩, s3, m3⟩
  have q3 := q3' (by decide)
  have A3 := hide (A2.out.next hb s3 m3)
  clear q3' s3 m3
  have z0 := A3.out.z0
  have z1 := A3.out.z1
  have z2 := A3.out.z2
  have zf := A3.out.zf
  go_wp2_with (go_at_call 72; refine (ze5 _ _ Hd.out ?_ _).mono ?_; (first | exact zo4 _ | (unfold I64; omega)); rintro e w' ⟨c, rfl, hcc, rfl⟩)
  obtain ⟨⟨ax, xx, sx⟩, mx⟩ := At.fin H0.out A3.out (O ι c) (.float .f64 0) (.float .f64 0)
  exact bodyPost_ret (v := γ #[O ι c, .float .f64 0, .float .f64 0]) (by simp [results, Tryz.results77, go_sem, z0, z1, z2]) rfl ⟨c, 0, 0, ax, xx, rfl, ⟨hcc, zs3, zs3⟩, sx, mx⟩
 by_cases c1 : v1 = 1
 ·subst c1
  go_wp2_with (first | (go_at_call 83; refine (zm2 _ _).mono ?_; rintro e w' ⟨rfl, rfl⟩))
  obtain ⟨ax, xx, sx⟩ := A2.out.src
  refine (zz1 sx 3).mono ?_
  clear sx
  rintro e w3 ⟨v3, at3, mix3, rfl, ⟨p3, q3', _⟩, s3, m3⟩
  have q3 := q3' (by decide)
  have A3 := hide (A2.out.next hb s3 m3)
  clear q3' s3 m3
  have z0 := A3.out.z0
  have z1 := A3.out.z1
  have z2 := A3.out.z2
  have zf := A3.out.zf
  go_wp2_with (go_at_call 72; refine (ze5 _ _ Hd.out ?_ _).mono ?_; (first | exact zo4 _ | (unfold I64; omega)); rintro e w' ⟨c, rfl, hcc, rfl⟩)
  obtain ⟨⟨ax, xx, sx⟩, mx⟩ := At.fin H0.out A3.out (O ι c) (.float .f64 0) (.float .f64 0)
  exact bodyPost_ret (v := γ #[O ι c, .float .f64 0, .float .f64 0]) (by simp [results, Tryz.results77, go_sem, z0, z1, z2]) rfl ⟨c, 0, 0, ax, xx, rfl, ⟨hcc, zs3, zs3⟩, sx, mx⟩
 by_cases c2 : v1 = 2
 ·subst c2
  go_wp2_with fail
  obtain ⟨ax, xx, sx⟩ := A2.out.src
  refine (zz1 sx 1000).mono ?_
  clear sx
  rintro e w3 ⟨v3, at3, mix3, rfl, ⟨p3, q3', _⟩, s3, m3⟩
  have q3 := q3' (by decide)
  have A3 := hide (A2.out.next hb s3 m3)
  clear q3' s3 m3
  go_wp2_with fail
  obtain ⟨ax, xx, sx⟩ := A3.out.src
  refine (zz1 sx 100000).mono ?_
  clear sx
  rintro e w4 ⟨v4, at4, mix4, rfl, ⟨p4, q4', _⟩, s4, m4⟩
  have q4 := q4' (by decide)
  have A4 := hide (A3.out.next hb s4 m4)
  clear q4' s4 m4
  have z0 := A4.out.z0
  have z1 := A4.out.z1
  have z2 := A4.out.z2
  have zf := A4.out.zf
  go_wp2_with (go_at_call 72; refine (ze5 _ _ Hd.out ?_ _).mono ?_; (first | exact zo4 _ | (unfold I64; omega)); rintro e w' ⟨c, rfl, hcc, rfl⟩)
  obtain ⟨⟨ax, xx, sx⟩, mx⟩ := At.fin H0.out A4.out (O ι c) (.float .f64 0) (.float .f64 0)
  exact bodyPost_ret (v := γ #[O ι c, .float .f64 0, .float .f64 0]) (by simp [results, Tryz.results77, go_sem, z0, z1, z2]) rfl ⟨c, 0, 0, ax, xx, rfl, ⟨hcc, zs3, zs3⟩, sx, mx⟩
 by_cases c3 : v1 = 3
 ·subst c3
  have z0 := A2.out.z0
  have z1 := A2.out.z1
  have z2 := A2.out.z2
  have zf := A2.out.zf
  go_wp2_with (go_at_call 72; refine (ze5 _ _ Hd.out ?_ _).mono ?_; (first | exact zo4 _ | (unfold I64; omega)); rintro e w' ⟨c, rfl, hcc, rfl⟩)
  obtain ⟨⟨ax, xx, sx⟩, mx⟩ := At.fin H0.out A2.out (O ι c) (.float .f64 0) (.float .f64 0)
  exact bodyPost_ret (v := γ #[O ι c, .float .f64 0, .float .f64 0]) (by simp [results, Tryz.results77, go_sem, z0, z1, z2]) rfl ⟨c, 0, 0, ax, xx, rfl, ⟨hcc, zs3, zs3⟩, sx, mx⟩
 ·have d0 : (v1 == 0) = false := by simpa using c0
  have d1 : (v1 == 1) = false := by simpa using c1
  have d2 : (v1 == 2) = false := by simpa using c2
  have d3 : (v1 == 3) = false := by simpa using c3
  have z0 := A2.out.z0
  have z1 := A2.out.z1
  have z2 := A2.out.z2
  have zf := A2.out.zf
  go_wp2_with (go_at_call 72; refine (ze5 _ _ Hd.out ?_ _).mono ?_; (first | exact zo4 _ | (unfold I64; omega)); rintro e w' ⟨c, rfl, hcc, rfl⟩)
  obtain ⟨⟨ax, xx, sx⟩, mx⟩ := At.fin H0.out A2.out (O ι c) (.float .f64 0) (.float .f64 0)
  exact bodyPost_ret (v := γ #[O ι c, .float .f64 0, .float .f64 0]) (by simp [results, Tryz.results77, go_sem, z0, z1, z2]) rfl ⟨c, 0, 0, ax, xx, rfl, ⟨hcc, zs3, zs3⟩, sx, mx⟩
theorem zm11 {w : World} {b : Nat} {sv : Value} {n : Nat} {at_ mix size : Int} (h : Src w b sv n at_ mix size) {dt : Int} (hd : 1 ≤ dt ∧ dt ≤ 9) :
  Calls Tryz.prog 77 #[π (some ⟨b, 0, none⟩), O ι dt] w fun e w' => ∃ (i : Int) (f g : Nat) (at2 mix2 : Int), e = .returned (γ #[O ι i, .float .f64 f, .float .f64 g]) ∧ CellOk i f g ∧ Src w' b sv n at2 mix2 size ∧ Mut b w w' := by
 by_cases h1 : dt = 1
 ·subst h1; exact zu9 h
 by_cases h6 : dt ≤ 6
 ·exact zj11 h (by omega)
 have : dt = 7 ∨ dt = 8 ∨ dt = 9 := by omega
 rcases this with rfl | rfl | rfl
 ·exact zl11 h
 ·exact zk11 h
 ·exact zt9 h
structure Loc (w W : World) (b k : Nat) (i : Int) (f g : Nat) : Prop where
 c0 : W.cell? ⟨k, 0, none⟩ = some (O ι i)
 c1 : W.cell? ⟨k, 1, none⟩ = some (.float .f64 f)
 c2 : W.cell? ⟨k, 2, none⟩ = some (.float .f64 g)
 fz : ∀ o, W.frozen? ⟨k, o, none⟩ = false
 gt : w.heap.size < k
theorem zg22 : (Tryz.prog.info? 5).map (fun i => (i.zero, i.size, i.bytes)) = some (some (.int .u8 0), 1, 1) := by kernel_rfl
structure L1 (w wr : World) (k : Nat) (v : Value) (xs : List Value) (mix size : Int) : Prop where
 c0 : wr.cell? ⟨w.heap.size, 0, none⟩ = some v
 c1 : wr.cell? ⟨w.heap.size, 1, none⟩ = some (O ι 0)
 c2 : wr.cell? ⟨w.heap.size, 2, none⟩ = some (O ι mix)
 c3 : wr.cell? ⟨w.heap.size, 3, none⟩ = some (O ι size)
 fz : ∀ o, wr.frozen? ⟨w.heap.size, o, none⟩ = false
 own : wr.ownsRow (w.heap.size + 1) 5 1 v k xs
 byt : ∀ u ∈ xs, ∃ x : Int, u = .int .u8 x ∧ 0 ≤ x ∧ x < 256
 bl : Below w.heap.size w wr
 sz : w.heap.size + 1 ≤ wr.heap.size
theorem zb19 {w : World} {base e size : Nat} {v : Value} {n : Nat} {xs : List Value} (h : w.ownsRow base e size v n xs) {k : Nat} (hk : k < base) : some k ≠ v.ownBlock := by
 rcases h.2 with ⟨rfl, _⟩ | ⟨g, cap, cur, rfl, hg, _⟩
 ·simp [Value.ownBlock]
 ·simp [Value.ownBlock]; omega
theorem zo21 {w : World} {base e size : Nat} {v : Value} {n : Nat} {xs : List Value} (h : w.ownsRow base e size v n xs) : ∀ k, v.ownBlock = some k → base ≤ k := by
 intro k hk
 rcases h.2 with ⟨rfl, _⟩ | ⟨g, cap, cur, rfl, hg, _⟩
 ·simp [Value.ownBlock] at hk
 ·simp [Value.ownBlock] at hk; omega
theorem L1.step {w wr w1 : World} {k : Nat} {v : Value} {xs : List Value} {mix size : Int} (h : L1 w wr k v xs mix size) (x : Int) (hx : 0 ≤ x ∧ x < 256) (g cap : Nat)
  (hown : w1.ownsRow (w.heap.size + 1) 5 1 (σ (some ⟨g, 0, none⟩) (k + 1) cap) (k + 1) (xs ++ [.int .u8 x])) (hgrow : World.grownBy (wr.alloc (χ #[.int .u8 x] 5)).drew w1 v.ownBlock) :
  L1 w (w1.setCell ⟨w.heap.size, 0, none⟩ (σ (some ⟨g, 0, none⟩) (k + 1) cap)) (k + 1) (σ (some ⟨g, 0, none⟩) (k + 1) cap) (xs ++ [.int .u8 x]) mix size := by
 have hs := h.sz
 have hne := zb19 h.own (k := w.heap.size) (by omega)
 have hcell : ∀ o, w1.cell? ⟨w.heap.size, o, none⟩ = wr.cell? ⟨w.heap.size, o, none⟩ := fun o => by
  rw [hgrow.cell_far ⟨w.heap.size, o, none⟩ (by simp; omega) hne]
  show (wr.alloc (χ #[.int .u8 x] 5)).cell? _ = _
  exact (Below.refl wr.heap.size wr |>.alloc (Nat.le_refl _) _).cell (by show w.heap.size < wr.heap.size; omega)
 have hfz : ∀ o, w1.frozen? ⟨w.heap.size, o, none⟩ = wr.frozen? ⟨w.heap.size, o, none⟩ := fun o => by
  rw [hgrow.frozen_far ⟨w.heap.size, o, none⟩ (by simp; omega) hne]
  show (wr.alloc (χ #[.int .u8 x] 5)).frozen? _ = _
  exact (Below.refl wr.heap.size wr |>.alloc (Nat.le_refl _) _).frozen (by show w.heap.size < wr.heap.size; omega)
 have hbl : Below w.heap.size w w1 := (((h.bl.alloc h.bl.size (χ #[.int .u8 x] 5)).drew).grown hgrow (by simp; omega) (fun k hk => by have := zo21 h.own k hk; omega))
 have hsz : w.heap.size + 1 ≤ w1.heap.size := by
  have := hgrow.size
  simp at this; omega
 refine ⟨?_, ?_, ?_, ?_, fun o => ?_, ?_, ?_, hbl.setCell (Nat.le_refl _) _, by simpa [World.setCell] using hsz⟩
 ·have := (hcell 0).trans h.c0; simp [go_sem, this]
 ·have := (hcell 1).trans h.c1; simp [go_sem, this]
 ·have := (hcell 2).trans h.c2; simp [go_sem, this]
 ·have := (hcell 3).trans h.c3; simp [go_sem, this]
 ·rw [World.frozen?_setCell, hfz, h.fz]
 ·exact ownsRow_setCell_below hown (by show w.heap.size < _; omega) _
 ·intro u hu
  rcases List.mem_append.1 hu with hu | hu
  ·exact h.byt u hu
  ·simp at hu; exact ⟨x, hu, hx⟩
theorem L1.far {w wr w1 : World} {k : Nat} {v : Value} {xs : List Value} {mix size : Int} (h : L1 w wr k v xs mix size) (x : Int) (hgrow : World.grownBy (wr.alloc (χ #[.int .u8 x] 5)).drew w1 v.ownBlock) :
  w1.cell? ⟨w.heap.size, 0, none⟩ = some v ∧ (∀ o, w1.frozen? ⟨w.heap.size, o, none⟩ = false) := by
 have hs := h.sz
 have hne := zb19 h.own (k := w.heap.size) (by omega)
 refine ⟨?_, fun o => ?_⟩
 ·rw [hgrow.cell_far ⟨w.heap.size, 0, none⟩ (by simp; omega) hne]
  show (wr.alloc (χ #[.int .u8 x] 5)).cell? _ = _
  exact ((Below.refl wr.heap.size wr |>.alloc (Nat.le_refl _) _).cell (by show w.heap.size < wr.heap.size; omega)).trans h.c0
 ·rw [hgrow.frozen_far ⟨w.heap.size, o, none⟩ (by simp; omega) hne]
  show (wr.alloc (χ #[.int .u8 x] 5)).frozen? _ = _
  exact ((Below.refl wr.heap.size wr |>.alloc (Nat.le_refl _) _).frozen (by show w.heap.size < wr.heap.size; omega)).trans (h.fz o)
theorem L1.start (w : World) : L1 w (w.alloc (χ #[σ none 0 0, O ι 0, O ι 0, O ι 0] 104)) 0 (σ none 0 0) [] 0 0 :=
 ⟨by simp, by simp, by simp, by simp, fun o => ((Ext.refl w).alloc _ _).unfrozen (Nat.le_refl _) o, World.ownsRow_nil _ _ _ _, by simp, (Below.refl _ _).alloc (Nat.le_refl _) _, by simp⟩
theorem L1.setMix {w wr : World} {k : Nat} {v : Value} {xs : List Value} {mix size : Int} (h : L1 w wr k v xs mix size) (m2 : Int) : L1 w (wr.setCell ⟨w.heap.size, 2, none⟩ (O ι m2)) k v xs m2 size := by
 refine ⟨?_, ?_, ?_, ?_, fun o => (World.frozen?_setCell _ _ _ _).trans (h.fz o), ownsRow_setCell_below h.own (by show w.heap.size < _; omega) _, h.byt, h.bl.setCell (Nat.le_refl _) _, by simpa [World.setCell] using h.sz⟩
 ·simp [go_sem, h.c0]
 ·simp [go_sem, h.c1]
 ·simp [go_sem, h.c2]
 ·simp [go_sem, h.c3]
theorem L1.setSize {w wr : World} {k : Nat} {v : Value} {xs : List Value} {mix size : Int} (h : L1 w wr k v xs mix size) (m2 : Int) : L1 w (wr.setCell ⟨w.heap.size, 3, none⟩ (O ι m2)) k v xs mix m2 := by
 refine ⟨?_, ?_, ?_, ?_, fun o => (World.frozen?_setCell _ _ _ _).trans (h.fz o), ownsRow_setCell_below h.own (by show w.heap.size < _; omega) _, h.byt, h.bl.setCell (Nat.le_refl _) _, by simpa [World.setCell] using h.sz⟩
 ·simp [go_sem, h.c0]
 ·simp [go_sem, h.c1]
 ·simp [go_sem, h.c2]
 ·simp [go_sem, h.c3]
theorem L1.drewN {w wr : World} {k : Nat} {v : Value} {xs : List Value} {mix size : Int} (h : L1 w wr k v xs mix size) (n : Nat) : L1 w (wr.drewN n) k v xs mix size :=
 ⟨h.c0, h.c1, h.c2, h.c3, h.fz, h.own, h.byt, below_drewN h.bl n, h.sz⟩
theorem L1.drew {w wr : World} {k : Nat} {v : Value} {xs : List Value} {mix size : Int} (h : L1 w wr k v xs mix size) : L1 w wr.drew k v xs mix size := h.drewN 1
theorem L1.byte {w wr : World} {k : Nat} {v : Value} {xs : List Value} {mix size : Int} (h : L1 w wr k v xs mix size) {j : Nat} (hj : j < k) :
  ∃ (g cap : Nat) (x : Int), v = σ (some ⟨g, 0, none⟩) k cap ∧ wr.cell? ⟨g, j, none⟩ = some (.int .u8 x) ∧ (0 ≤ x ∧ x < 256) ∧ w.heap.size + 1 ≤ g := by
 rcases h.own with ⟨hl, ⟨_, h0⟩ | ⟨g, cap, cur, rfl, hg, hh, hn, hc, hcs, ht⟩⟩
 ·omega
 ·have hlen : j < xs.length := by omega
  have hm : xs[j] ∈ xs := List.getElem_mem hlen
  obtain ⟨x, hx, hx0, hx1⟩ := h.byt _ hm
  refine ⟨g, cap, x, rfl, ?_, ⟨hx0, hx1⟩, hg⟩
  rw [cell_of_row wr g j cur 5 (0, 0) hh]
  have h1 : (cur.toList.take (k * 1))[j]? = cur.toList[j]? := by
   rw [List.getElem?_take]; simp; omega
  rw [ht] at h1
  have h2 : cur[j]? = cur.toList[j]? := by simp
  rw [h2, ← h1, List.getElem?_eq_getElem hlen, hx]
theorem L1.src {w wr : World} {k : Nat} {v : Value} {xs : List Value} {mix size : Int} (h : L1 w wr k v xs mix size) (hk : k ≤ 4000) (hm : 0 ≤ mix ∧ mix < 1000003) (hs : 1 ≤ size ∧ size ≤ 7) : Src wr w.heap.size v k 0 mix size := by
 refine ⟨h.c0, h.c1, h.c2, h.c3, h.fz, by omega, by omega, hk, hm.1, hm.2, hs.1, hs.2, ?_⟩
 rcases h.own.2 with ⟨h1, h2⟩ | ⟨g, cap, cur, h1, hg, _⟩
 ·exact Or.inl ⟨h2, h1⟩
 ·refine Or.inr ⟨g, cap, h1, by omega, fun j hj => ?_⟩
  obtain ⟨g', cap', x, e, hc, hx, _⟩ := h.byte hj
  rw [h1] at e
  cases e
  exact ⟨x, hc, hx⟩
def SourceOk (w : World) (e : Ending) (w' : World) : Prop := ∃ (b : Nat) (sv : Value) (n : Nat) (mix size : Int), e = .returned (π (some ⟨b, 0, none⟩)) ∧ Src w' b sv n 0 mix size ∧ w.heap.size ≤ b ∧ Below w.heap.size w w'
theorem zp14 (cb off len cap : Nat) (w : World) (hlen : len ≤ maxLen) (hcb : cb < w.heap.size)
  (hc : ∀ j, j < len → ∃ x : Int, w.cell? ⟨cb, off + j, none⟩ = some (.int .u8 x) ∧ 0 ≤ x ∧ x < 256) :
  Calls Tryz.prog 17 #[σ (some ⟨cb, off, none⟩) len cap] w fun e w' => SourceOk w e w' := by
 obtain ⟨i0, hi0, hz0, hz1, hz2⟩ := info_parts zg22
 unfold maxLen at hlen
 have Hc := hide hc
 clear hc
 have S0 := hide (L1.start w)
 go_enter Tryz.func17, Tryz.ntmps17
 go_wp2
 go_loopw [4] (fun i wr => ∃ (k : Nat) (v : Value) (xs : List Value), i = O ι k ∧ (k ≤ len ∧ k ≤ 4000) ∧ L1 w wr k v xs 0 0) (fun i _ => 4000 - (intOf i).toNat)
 case atStart => exact ⟨0, _, _, rfl, ⟨by omega, by omega⟩, S0.out⟩
 case round =>
  obtain ⟨k, v, xs, rfl, ⟨hk1, hk2⟩, hL⟩ := hrel
  have HL := hide hL
  clear hL
  by_cases hboth : k < len ∧ k < 4000
  ·obtain ⟨hlt, h4⟩ := hboth
   obtain ⟨x, hx, hx0, hx1⟩ := Hc.out k hlt
   have hxr := (HL.out.bl.cell (p := ⟨cb, off + k, none⟩) hcb).trans hx
   clear hx
   have c0 := HL.out.c0
   have cf := HL.out.fz
   have hszr : w.heap.size < wr.heap.size := HL.out.sz
   have hi0' : (0 : Int) ≤ (k : Int) := Int.natCast_nonneg _
   have hi1 : (k : Int) < (len : Int) := by omega
   have d1 : decide ((k : Int) < (len : Int)) = true := decide_eq_true hi1
   have d2 : decide ((k : Int) < 4000) = true := decide_eq_true (by omega)
   go_wp2_with fail
   go_region_law (refine step_append_lies _ (by rfl) (.tmp 18) (.tmp 23) 22 (by rfl) (w.heap.size + 1) 5 i0 (.int .u8 0) 1 1 Tryz.underlying22 hi0 hz0 hz1 hz2 rfl (by omega) v k xs (by rfl) ((HL.out.own.alloc _).drew) ⟨wr.heap.size, 0, none⟩ 1 1 [.int .u8 x] (by rfl) (by rfl) (World.news_of_block (cs := #[.int .u8 x]) (t := 5) (fr := (0, 0)) (heap_alloc_new wr _)) (by simp [Value.oneCell']) (by omega) (by unfold maxLen; omega) (by omega) (by have := HL.out.sz; simp; omega) (wr.heap.size + 1) (by simp) ?_; intro g cap2 w1 hown1 hgrow hat hlt2; have e0 := (HL.out.far x hgrow).1; have ef := (HL.out.far x hgrow).2)
   all_goals (have St := hide (HL.out.step x ⟨hx0, hx1⟩ g cap2 hown1 hgrow); clear hown1 hgrow hat hlt2)
   all_goals go_wp2
   all_goals go_roundw
   all_goals first | exact ⟨k + 1, _, _, by go_num, ⟨by omega, by omega⟩, St.out⟩ | (simp [intOf]; omega)
  ·have c0 := HL.out.c0
   have c2 := HL.out.c2
   have cf := HL.out.fz
   have hszr : w.heap.size < wr.heap.size := HL.out.sz
   have M0 := hide (HL.out.setMix ((len : Int) % 1000 + 41))
   have hsl : ∃ a cp, v = σ a k cp := by
    rcases HL.out.own.2 with ⟨h1, h2⟩ | ⟨g, cp, cur, h1, _⟩
    ·exact ⟨none, 0, by rw [h1, h2]⟩
    ·exact ⟨_, _, h1⟩
   obtain ⟨sa, sc, rfl⟩ := hsl
   have hdd : ((k : Int) < (len : Int) ∧ ¬ (k : Int) < 4000) ∨ ¬ (k : Int) < (len : Int) := by omega
   have hdd2 : ((k : Int) < (len : Int) ∧ ¬ (k : Int) < 4000 ∧ decide ((k : Int) < (len : Int)) = true ∧ decide ((k : Int) < 4000) = false) ∨ (¬ (k : Int) < (len : Int) ∧ decide ((k : Int) < (len : Int)) = false) := by
    rcases hdd with ⟨h1, h2⟩ | h1
    ·exact Or.inl ⟨h1, h2, decide_eq_true h1, decide_eq_false h2⟩
    ·exact Or.inr ⟨h1, decide_eq_false h1⟩
   clear hboth hdd
   rcases hdd2 with ⟨hq1, hq2, d1, d2⟩ | ⟨hq1, d1⟩
   all_goals
    go_wp2
    go_loopw [5] (fun i wr2 => ∃ (j : Nat) (mix : Int), i = O ι j ∧ j ≤ k ∧ (0 ≤ mix ∧ mix < 1000003) ∧ L1 w wr2 k (σ sa k sc) xs mix 0) (fun i _ => k - (intOf i).toNat)
    case atStart => exact ⟨0, _, rfl, by omega, ⟨by omega, by omega⟩, M0.out⟩
    case round =>
     obtain ⟨j, mix, rfl, hj, hm, hL2⟩ := hrel
     have H2 := hide hL2
     clear hL2
     have e0 := H2.out.c0
     have e2 := H2.out.c2
     have e3 := H2.out.c3
     have ef := H2.out.fz
     by_cases hjk : j < k
     ·obtain ⟨g, cp, x, hv, hx, hx01, hg⟩ := H2.out.byte hjk
      have hsa : sa = some ⟨g, 0, none⟩ := by cases hv; rfl
      subst hsa
      have hj0 : (0 : Int) ≤ (j : Int) := Int.natCast_nonneg _
      have hj1 : (j : Int) < (k : Int) := by omega
      clear hv
      go_wp2_with fail
      go_region
      all_goals go_wp2
      all_goals go_roundw
      all_goals first | exact ⟨j + 1, (mix * 257 + x + 1) % 1000003, by go_num, by omega, ⟨by omega, by omega⟩, (H2.out.setMix _).drew⟩ | (simp [intOf]; omega)
     ·have hb : 1 ≤ 1 + (k : Int) / 50 := by omega
      by_cases h7 : 7 < 1 + (k : Int) / 50
      ·go_wp2
       go_ret
       have Z := (H2.out.setSize (1 + (k : Int) / 50)).setSize 7
       exact ⟨w.heap.size, σ sa k sc, k, mix, 7, rfl, Z.src hk2 hm ⟨by omega, by omega⟩, Nat.le_refl _, Z.bl⟩
      ·first
        | (exfalso; omega)
        | (go_wp2
           go_ret
           have Z := H2.out.setSize (1 + (k : Int) / 50)
           exact ⟨w.heap.size, σ sa k sc, k, mix, 1 + (k : Int) / 50, rfl, Z.src hk2 hm ⟨by omega, by omega⟩, Nat.le_refl _, Z.bl⟩)
theorem zo14 (w : World) : Calls Tryz.prog 17 #[σ none 0 0] w fun e w' => SourceOk w e w' := by
 have S0 := hide (L1.start w)
 go_enter Tryz.func17, Tryz.ntmps17
 go_wp2
 go_loopw [4] (fun i wr => i = O ι 0 ∧ L1 w wr 0 (σ none 0 0) [] 0 0) (fun _ _ => 0)
 case atStart => exact ⟨rfl, S0.out⟩
 case round =>
  obtain ⟨rfl, hL⟩ := hrel
  have HL := hide hL
  clear hL
  have c0 := HL.out.c0
  have c2 := HL.out.c2
  have cf := HL.out.fz
  have M0 := hide (HL.out.setMix 41)
  go_wp2
  go_loopw [5] (fun i wr2 => i = O ι 0 ∧ L1 w wr2 0 (σ none 0 0) [] 41 0) (fun _ _ => 0)
  case atStart => exact ⟨rfl, M0.out⟩
  case round =>
   obtain ⟨rfl, hL2⟩ := hrel
   have H2 := hide hL2
   clear hL2
   have e0 := H2.out.c0
   have e2 := H2.out.c2
   have e3 := H2.out.c3
   have ef := H2.out.fz
   go_wp2
   go_ret
   have Z := H2.out.setSize 1
   exact ⟨w.heap.size, σ none 0 0, 0, 41, 1, rfl, Z.src (by omega) ⟨by omega, by omega⟩ ⟨by omega, by omega⟩, Nat.le_refl _, Z.bl⟩
def Code (w : World) (v : Value) (len : Nat) : Prop :=
 (v = σ none 0 0 ∧ len = 0) ∨ ∃ cb off cap, v = σ (some ⟨cb, off, none⟩) len cap ∧ cb < w.heap.size ∧ len ≤ maxLen ∧ ∀ j, j < len → ∃ x : Int, w.cell? ⟨cb, off + j, none⟩ = some (.int .u8 x) ∧ 0 ≤ x ∧ x < 256
theorem Code.ext {w w' : World} {v : Value} {len : Nat} (h : Code w v len) (x : Ext w w') : Code w' v len := by
 rcases h with h | ⟨cb, off, cap, h1, h2, h3, h4⟩
 ·exact Or.inl h
 ·refine Or.inr ⟨cb, off, cap, h1, Nat.lt_of_lt_of_le h2 x.bl.size, h3, fun j hj => ?_⟩
  obtain ⟨y, hy, hr⟩ := h4 j hj
  exact ⟨y, x.box hy, hr⟩
theorem zy11 {w : World} {v : Value} {len : Nat} (h : Code w v len) : Calls Tryz.prog 17 #[v] w fun e w' => SourceOk w e w' := by
 rcases h with ⟨rfl, rfl⟩ | ⟨cb, off, cap, rfl, h2, h3, h4⟩
 ·exact zo14 w
 ·exact zp14 cb off len cap w h3 h2 h4
end
section
open Go.ChangeShapes Go.RowKit
def ListOs (w : World) (L : List Int) (e : Ending) (w' : World) : Prop :=
 ∃ (g cap : Nat), e = .returned (σ (some ⟨g, 0, none⟩) L.length cap) ∧ w'.ownsRow w.heap.size 2 1 (σ (some ⟨g, 0, none⟩) L.length cap) L.length (L.map (Value.int .i64)) ∧ Below w.heap.size w w'
def CRelS (w : World) (xs : List Int) (o i : Value) (wr : World) : Prop := ∃ k : Nat, i = O ι k ∧ k ≤ xs.length ∧ (∃ g c, o = σ (some ⟨g, 0, none⟩) k c) ∧ CL w wr (xs.take k) o
theorem zg20 {w : World} {base n : Nat} {v : Value} {L : List Value} (h : w.ownsRow base 2 1 v n L) (hn : ¬ v = σ none 0 0) : ∃ g c, v = σ (some ⟨g, 0, none⟩) n c := by
 rcases h.2 with ⟨h1, _⟩ | ⟨g, cap, cur, h1, _⟩
 ·exact absurd h1 hn
 ·exact ⟨g, cap, h1⟩
theorem zw9 {w : World} {v : Value} {xs : List Int} (h : Ints w v xs) (hl : xs.length ≤ 5) :
  Calls Tryz.prog 80 #[v] w fun e w' => ListOs w xs e w' := by
 obtain ⟨i0, hi0, hz0, hz1, hz2⟩ := info_parts zy7
 obtain ⟨sa, cap, rfl, hx⟩ := h
 have HX := hide hx
 clear hx
 have hone : 0 < 1 := Nat.one_pos
 have S0 := hide (CL.start w)
 go_enter Tryz.func80, Tryz.ntmps80
 go_wp2_with fail
 go_loopw [3, 4] (fun o i wr => CRelS w xs o i wr) (fun o i _ => xs.length - (intOf i).toNat)
 case atStart => exact ⟨0, rfl, by omega, ⟨_, _, rfl⟩, by simpa using S0.out⟩
 case round =>
  obtain ⟨k, rfl, hk, ⟨g, c, rfl⟩, hC⟩ := hrel
  have HC := hide hC
  clear hC
  by_cases hlt : k < xs.length
  ·rcases HX.out with h0 | ⟨b, off, rfl, hrow⟩
   ·rw [h0] at hlt; simp at hlt
   have q0 := Bel.box HC.out.bl (hrow k hlt)
   have hk0 : (0 : Int) ≤ (k : Int) := Int.natCast_nonneg _
   have hk1 : (k : Int) < (xs.length : Int) := by omega
   have hlT : (xs.take k).length = k := by rw [List.length_take]; omega
   have hsn := hide (ze1 xs k hlt)
   generalize xs.getD k 0 = x at q0 hsn
   generalize hT : xs.take k = T at HC hlT hsn
   subst hlT
   go_wp2_with (at_builtin; (refine wpList_append_own _ rfl _ _ 26 rfl w.heap.size 2 i0 (O ι 0) 1 8 Tryz.underlying26 hi0 hz0 hz1 hz2 rfl (by decide) _ _ _ rfl (HC.out.own.alloc _) ⟨wr.heap.size, 0, none⟩ 1 1 [O ι x] rfl rfl (zq _ _ _) (zt1 _) (by unfold maxLen; omega) (by omega) (HC.out.szP x) ?_); intro v3 w3 hown3 hgrow3 hnil3)
   have St := HC.out.step x hown3 hgrow3
   have hnn : ¬ v3 = σ none 0 0 := fun e => by have := (hnil3.1 e).2; omega
   obtain ⟨s3, c3, rfl⟩ := zg20 hown3 hnn
   have HSt := hide St
   clear St hown3 hgrow3 hnil3 hnn
   go_wp2
   go_roundw
   ·exact ⟨T.length + 1, by go_num, by omega, ⟨_, _, rfl⟩, by rw [hsn.out]; exact HSt.out⟩
   ·simp [intOf]; omega
  ·have hkk : k = xs.length := by omega
   subst hkk
   have hC := HC.out
   rw [List.take_length] at hC
   have HC2 := hide hC
   clear hC HC
   go_wp2
   go_ret
   exact ⟨g, c, rfl, HC2.out.own, HC2.out.bl⟩
end
section
open Go.ChangeShapes Go.RowKit FL
def Bx (w : World) (k : Nat) (t : TypeId) (vs : List Value) : Prop := w.heap[k]? = some (χ vs.toArray t (0, 0))
theorem Bx.lt {w : World} {k : Nat} {t : TypeId} {vs : List Value} (h : Bx w k t vs) : k < w.heap.size := (Array.getElem?_eq_some_iff.1 h).1
theorem Bx.cell {w : World} {k : Nat} {t : TypeId} {vs : List Value} (h : Bx w k t vs) (o : Nat) {v : Value} (hv : vs[o]? = some v) : w.cell? ⟨k, o, none⟩ = some v := by
 rw [cell_of_row w k o _ t (0, 0) h]
 simpa using hv
theorem Bx.fz {w : World} {k : Nat} {t : TypeId} {vs : List Value} (h : Bx w k t vs) (o : Nat) : w.frozen? ⟨k, o, none⟩ = false := frozen_of_row w k o _ t h
theorem Bx.new (w : World) (t : TypeId) (cs : Array Value) (k : Nat) (hk : k = w.heap.size) : Bx (w.alloc (χ cs t)) k t cs.toList := by
 subst hk
 exact heap_alloc_new w _
theorem Bx.keep {w w' : World} {k : Nat} {t : TypeId} {vs : List Value} (h : Bx w k t vs) (e : w'.heap[k]? = w.heap[k]?) : Bx w' k t vs := e.trans h
theorem Bx.bel {w w' : World} {k : Nat} {t : TypeId} {vs : List Value} (h : Bx w k t vs) (x : Bel w w') : Bx w' k t vs := h.keep (Below.block x k h.lt)
theorem Bx.alloc {w : World} {k : Nat} {t : TypeId} {vs : List Value} (h : Bx w k t vs) (o : Obj) : Bx (w.alloc o) k t vs := h.keep (heap_alloc_old w o h.lt)
theorem Bx.drew {w : World} {k : Nat} {t : TypeId} {vs : List Value} (h : Bx w k t vs) : Bx w.drew k t vs := h
theorem Bx.mut {b : Nat} {w w' : World} {k : Nat} {t : TypeId} {vs : List Value} (h : Bx w k t vs) (m : Mut b w w') (hb : k ≠ b) : Bx w' k t vs := h.keep (m.block k h.lt hb)
theorem Bx.gb {row : Option Nat} {w w' : World} {k : Nat} {t : TypeId} {vs : List Value} (h : Bx w k t vs) (m : w.grownBy w' row) (hb : some k ≠ row) : Bx w' k t vs := h.keep (m.block k h.lt hb)
theorem Bx.set {w : World} {k : Nat} {t : TypeId} {vs : List Value} (h : Bx w k t vs) (o : Nat) (u : Value) : Bx (w.setCell ⟨k, o, none⟩ u) k t (vs.set o u) := by
 have := heap_setCell_same w k o _ t u h
 unfold Bx
 rw [this]
 simp
theorem Bx.far {w : World} {k j o : Nat} {t : TypeId} {vs : List Value} (h : Bx w k t vs) (hb : k ≠ j) (u : Value) : Bx (w.setCell ⟨j, o, none⟩ u) k t vs := h.keep (Below.heap_setCell _ _ _ _ hb)
theorem Bx.ne {w : World} {k base e size n : Nat} {t : TypeId} {vs : List Value} {v : Value} {xs : List Value} (h : Bx w k t vs) (r : w.ownsRow base e size v n xs) (he : t ≠ e) : some k ≠ v.ownBlock := fun q => by
 obtain ⟨c, f, h1⟩ := Lib.ownsRow_kind r k q.symm
 unfold Bx at h
 rw [h] at h1
 simp at h1
 exact he h1.2.1
def SX (w : World) (H b : Nat) : Prop := ∃ (sv : Value) (n : Nat) (a m z : Int), Src w b sv n a m z ∧ b < H ∧ ∀ g, 0 < n → sv.ownBlock = some g → g < H
theorem SX.hb {w : World} {H b : Nat} (h : SX w H b) : b < H := by obtain ⟨_, _, _, _, _, _, h, _⟩ := h; exact h
theorem SX.keep {w w' : World} {H b : Nat} (h : SX w H b) (x : ∀ k, k < H → w'.heap[k]? = w.heap[k]?) : SX w' H b := by
 obtain ⟨sv, n, a, m, z, h, hb, hg⟩ := h
 have hc : ∀ {g o v}, g < H → w.cell? ⟨g, o, none⟩ = some v → w'.cell? ⟨g, o, none⟩ = some v := fun {g o v} hg hv => (World.cell?_of_block (w := w) (a := ⟨g, o, none⟩) (x g hg)).trans hv
 refine ⟨sv, n, a, m, z, ⟨hc hb h.c0, hc hb h.c1, hc hb h.c2, hc hb h.c3, fun o => (World.frozen?_of_block (w := w) (a := ⟨b, o, none⟩) (x b hb)).trans (h.fz o), h.at0, h.atn, h.nle, h.mix0, h.mix1, h.size0, h.size1, ?_⟩, hb, hg⟩
 rcases h.code with q | ⟨g, cap, h1, h2, h3⟩
 ·exact Or.inl q
 ·refine Or.inr ⟨g, cap, h1, h2, fun j hj => ?_⟩
  obtain ⟨y, hy, hr⟩ := h3 j hj
  exact ⟨y, hc (hg g (by omega) (by rw [h1]; rfl)) hy, hr⟩
theorem SX.size {w : World} {H b : Nat} (h : SX w H b) : ∃ z : Int, w.cell? ⟨b, 3, none⟩ = some (O ι z) ∧ 1 ≤ z ∧ z ≤ 7 := by
 obtain ⟨sv, n, a, m, z, h, hb, hg⟩ := h
 exact ⟨z, h.c3, h.size0, h.size1⟩
def NK (w : World) (k : Nat) : Prop := ∀ (c : Array Value) (t : TypeId) (f : Nat × Nat), w.heap[k]? = some (χ c t f) → t ≠ 41 ∧ t ≠ 47
theorem Bx.nk {w : World} {k : Nat} {t : TypeId} {vs : List Value} (h : Bx w k t vs) (h1 : t ≠ 41) (h2 : t ≠ 47) : NK w k := fun c t' f e => by
 unfold Bx at h
 rw [h] at e
 simp at e
 rw [← e.2.1]
 exact ⟨h1, h2⟩
theorem zu13 {w : World} {base e size n g : Nat} {v : Value} {xs : List Value} (r : w.ownsRow base e size v n xs) (h1 : e ≠ 41) (h2 : e ≠ 47) (hg : v.ownBlock = some g) : NK w g := fun c t f q => by
 obtain ⟨c', f', h⟩ := Lib.ownsRow_kind r g hg
 rw [h] at q
 simp at q
 rw [← q.2.1]
 exact ⟨h1, h2⟩
structure KF (H b : Nat) (w W : World) : Prop where
 os : W.os = w.os
 tape : W.tape = w.tape
 output : W.output = w.output
 size : w.heap.size ≤ W.heap.size
 blk : ∀ k, k < w.heap.size → k ≠ b → (k < H ∨ NK w k) → W.heap[k]? = w.heap[k]?
theorem KF.refl (H b : Nat) (w : World) : KF H b w w := ⟨rfl, rfl, rfl, Nat.le_refl _, fun _ _ _ _ => rfl⟩
theorem KF.tr {H b : Nat} {u w W : World} (h : KF H b u w) (k : KF H b w W) : KF H b u W :=
 ⟨k.os.trans h.os, k.tape.trans h.tape, k.output.trans h.output, Nat.le_trans h.size k.size, fun j hj hb hk => by
  have h1 := h.blk j hj hb hk
  refine (k.blk j (Nat.lt_of_lt_of_le hj h.size) hb ?_).trans h1
  exact hk.imp id fun q c t f e => q c t f (h1 ▸ e)⟩
theorem KF.mut {H b : Nat} {w W : World} (m : Mut b w W) : KF H b w W := ⟨m.os, m.tape, m.output, m.size, fun k hk hb _ => m.block k hk hb⟩
theorem KF.bel {H b : Nat} {w W : World} (x : Bel w W) : KF H b w W := ⟨Below.os x, Below.tape x, Below.output x, Below.size x, fun k hk _ _ => Below.block x k hk⟩
theorem KF.new {H b : Nat} {u w W : World} {row : Option Nat} (h : KF H b u w) (x : w.grownBy W row) (hr : ∀ k, row = some k → u.heap.size ≤ k) : KF H b u W :=
 ⟨x.os.trans h.os, x.tape.trans h.tape, x.output.trans h.output, Nat.le_trans h.size x.size, fun j hj hb hk => (x.block j (Nat.lt_of_lt_of_le hj h.size) (fun e => by have := hr j e.symm; omega)).trans (h.blk j hj hb hk)⟩
theorem KF.row {H b E : Nat} {w W : World} {base size n : Nat} {v : Value} {xs : List Value} (x : w.grownBy W v.ownBlock) (r : w.ownsRow base E size v n xs) (hH : H ≤ base) (hE : E = 41 ∨ E = 47) : KF H b w W :=
 ⟨x.os, x.tape, x.output, x.size, fun j hj hb hk => x.block j hj (fun e => by
  have := (r.lt j e.symm).1
  obtain ⟨c, f, q⟩ := Lib.ownsRow_kind r j e.symm
  rcases hk with h | h
  ·omega
  ·have q2 := h c E f q; rcases hE with e2 | e2; exact q2.1 e2; exact q2.2 e2)⟩
theorem zh1 (w : World) (k o : Nat) (u : Value) : w.grownBy (w.setCell ⟨k, o, none⟩ u) (some k) := zy3 ((Mut.refl k w).setCell o u)
theorem KF.set {H b : Nat} {u w : World} (h : KF H b u w) {k : Nat} (hk : u.heap.size ≤ k) (o : Nat) (v : Value) : KF H b u (w.setCell ⟨k, o, none⟩ v) :=
 h.new (zh1 w k o v) (fun j e => by injection e with e; omega)
theorem KF.alloc {H b : Nat} {u w : World} (h : KF H b u w) (o : Obj) : KF H b u (w.alloc o) := h.new (World.grownBy_alloc w o none) (fun j e => by cases e)
theorem KF.own {H b base e size n : Nat} {w W : World} {v : Value} {xs : List Value} (x : KF H b w W) (r : w.ownsRow base e size v n xs) (h1 : e ≠ 41) (h2 : e ≠ 47) (hb : v.ownBlock ≠ some b) : W.ownsRow base e size v n xs := by
 refine ⟨r.1, ?_⟩
 rcases r.2 with hn | ⟨g, cap, cur, rfl, hg, hgg, rest⟩
 ·exact Or.inl hn
 ·exact Or.inr ⟨g, cap, cur, rfl, hg, (x.blk g (Array.getElem?_eq_some_iff.1 hgg).1 (fun q => hb (by rw [← q]; rfl)) (Or.inr (zu13 r h1 h2 rfl))).trans hgg, rest⟩
theorem Bx.kf {H b : Nat} {w W : World} {k : Nat} {t : TypeId} {vs : List Value} (h : Bx w k t vs) (x : KF H b w W) (hb : k ≠ b) (h1 : t ≠ 41) (h2 : t ≠ 47) : Bx W k t vs := h.keep (x.blk k h.lt hb (Or.inr (h.nk h1 h2)))
theorem DV.kf {H b lo : Nat} {w W : World} {vA vB : Value} {xs ss : List Int} (h : DV w lo vA vB xs ss) (x : KF H b w W) (hb : b < lo) : DV W lo vA vB xs ss :=
 ⟨x.own h.a (by decide) (by decide) (fun e => by have := (h.a.lt b e).1; omega), x.own h.c (by decide) (by decide) (fun e => by have := (h.c.lt b e).1; omega), h.dj⟩
structure SF (w W : World) (H b : Nat) : Prop where
 src : SX W H b
 kf : KF H b w W
 hH : H ≤ w.heap.size
theorem SF.hb {w W : World} {H b : Nat} (h : SF w W H b) : b < H := h.src.hb
theorem SF.sz {w W : World} {H b : Nat} (h : SF w W H b) : w.heap.size ≤ W.heap.size := h.kf.size
theorem SF.start {w : World} {H b : Nat} (h : SX w H b) (hH : H ≤ w.heap.size) : SF w w H b := ⟨h, KF.refl _ _ _, hH⟩
theorem SF.mut {w W W' : World} {H b : Nat} (h : SF w W H b) (s : SX W' H b) (m : Mut b W W') : SF w W' H b := ⟨s, h.kf.tr (KF.mut m), h.hH⟩
theorem SF.bel {w W W' : World} {H b : Nat} (h : SF w W H b) (x : Bel W W') : SF w W' H b :=
 ⟨h.src.keep fun k hk => Below.block x k (by have := h.hH; have := h.sz; omega), h.kf.tr (KF.bel x), h.hH⟩
theorem SF.alloc {w W : World} {H b : Nat} (h : SF w W H b) (o : Obj) : SF w (W.alloc o) H b := h.bel ((Below.refl W.heap.size W).alloc (Nat.le_refl _) o)
theorem SF.drew {w W : World} {H b : Nat} (h : SF w W H b) : SF w W.drew H b := ⟨h.src.keep fun _ _ => rfl, ⟨h.kf.os, h.kf.tape, h.kf.output, h.kf.size, h.kf.blk⟩, h.hH⟩
theorem SF.new {w W W' : World} {H b : Nat} {row : Option Nat} (h : SF w W H b) (x : W.grownBy W' row) (hr : ∀ k, row = some k → w.heap.size ≤ k) : SF w W' H b :=
 ⟨h.src.keep fun k hk => x.block k (by have := h.hH; have := h.sz; omega) (fun e => by have := hr k e.symm; have := h.hH; omega), h.kf.new x hr, h.hH⟩
theorem SF.set {w W : World} {H b k : Nat} (h : SF w W H b) (hk : w.heap.size ≤ k) (o : Nat) (v : Value) : SF w (W.setCell ⟨k, o, none⟩ v) H b :=
 h.new (zh1 W k o v) (fun j e => by injection e with e; omega)
theorem SF.row {w W W' : World} {H b E base size n : Nat} {v : Value} {xs : List Value} (h : SF w W H b) (x : W.grownBy W' v.ownBlock) (r : W.ownsRow base E size v n xs) (hH : H ≤ base) (hE : E = 41 ∨ E = 47) : SF w W' H b :=
 ⟨h.src.keep fun k hk => x.block k (by have := h.hH; have := h.sz; omega) (fun e => by have := (r.lt k e.symm).1; omega), h.kf.tr (KF.row x r hH hE), h.hH⟩
theorem SF.next {w W : World} {H b : Nat} (h : SF w W H b) (m : Int) :
  Calls Tryz.prog 46 #[π (some ⟨b, 0, none⟩), O ι m] W fun e W' => ∃ v : Int, e = .returned (O ι v) ∧ (0 ≤ v ∧ (1 < m → v < m) ∧ (m ≤ 1 → v = 0)) ∧ SF w W' H b ∧ Mut b W W' := by
 obtain ⟨sv, n, a, m0, z, hs, hb, hg⟩ := h.src
 refine (zz1 hs m).mono ?_
 rintro e W' ⟨v, a2, m2, rfl, hv, hs2, hm⟩
 exact ⟨v, rfl, hv, h.mut ⟨sv, n, a2, m2, z, hs2, hb, hg⟩ hm, hm⟩
theorem SF.dtype {w W : World} {H b : Nat} (h : SF w W H b) :
  Calls Tryz.prog 76 #[π (some ⟨b, 0, none⟩)] W fun e W' => ∃ v : Int, e = .returned (O ι v) ∧ (1 ≤ v ∧ v ≤ 9) ∧ SF w W' H b ∧ Mut b W W' := by
 obtain ⟨sv, n, a, m0, z, hs, hb, hg⟩ := h.src
 refine (zs9 hs).mono ?_
 rintro e W' ⟨v, a2, m2, rfl, hv, hs2, hm⟩
 exact ⟨v, rfl, hv, h.mut ⟨sv, n, a2, m2, z, hs2, hb, hg⟩ hm, hm⟩
theorem SF.cell {w W : World} {H b : Nat} (h : SF w W H b) {dt : Int} (hd : 1 ≤ dt ∧ dt ≤ 9) :
  Calls Tryz.prog 77 #[π (some ⟨b, 0, none⟩), O ι dt] W fun e W' => ∃ (i : Int) (f g : Nat), e = .returned (γ #[O ι i, .float .f64 f, .float .f64 g]) ∧ CellOk i f g ∧ SF w W' H b ∧ Mut b W W' := by
 obtain ⟨sv, n, a, m0, z, hs, hb, hg⟩ := h.src
 refine (zm11 hs hd).mono ?_
 rintro e W' ⟨i, f, g, a2, m2, rfl, hv, hs2, hm⟩
 exact ⟨i, f, g, rfl, hv, h.mut ⟨sv, n, a2, m2, z, hs2, hb, hg⟩ hm, hm⟩
theorem DH.mut {w w' : World} {H b : Nat} {sv : Value} {L : List Dst} (h : DH w H sv L) (m : Mut b w w') (hb : b < H) : DH w' H sv L := h.keep (zy3 m) (fun j e => by injection e with e; omega)
theorem DH.bel {w w' : World} {H : Nat} {sv : Value} {L : List Dst} (h : DH w H sv L) (x : Bel w w') : DH w' H sv L := h.keep (row := none) ⟨Below.os x, Below.tape x, Below.output x, Below.size x, fun k hk _ => Below.block x k hk⟩ (fun j e => by cases e)
theorem DH.alloc {w : World} {H : Nat} {sv : Value} {L : List Dst} (h : DH w H sv L) (o : Obj) : DH (w.alloc o) H sv L := h.bel ((Below.refl w.heap.size w).alloc (Nat.le_refl _) o)
theorem DH.drew {w : World} {H : Nat} {sv : Value} {L : List Dst} (h : DH w H sv L) : DH w.drew H sv L := ⟨h.own, h.cel, h.dj⟩
theorem DH.box {w : World} {H k o : Nat} {t : TypeId} {vs : List Value} {sv u : Value} {L : List Dst} (h : DH w H sv L) (x : Bx w k t vs) (h1 : t ≠ 41) (h2 : t ≠ 47) : DH (w.setCell ⟨k, o, none⟩ u) H sv L :=
 ⟨h.own.kept (zh1 w k o u) (Or.inr (Ne.symm (x.ne h.own h1))), fun i d hd => (h.cel i d hd).kept (zh1 w k o u) (Or.inr (Ne.symm (x.ne (h.cel i d hd) h2))), h.dj⟩
def DtOk (L : List Dst) : Prop := ∀ t ∈ L, 1 ≤ t.1 ∧ t.1 ≤ 9
end
section
open Go.ChangeShapes Go.RowKit FL Ieee
theorem zj20 (n : Int) : feq (floatOfInt FloatKind.f64 n) (floatOfInt FloatKind.f64 n) = true := by
 rw [zn3]
 have h : nanD (floatOfInt FloatKind.f64 n) = false := by
  show nanW double (double.nearest (decide (n < 0)) n.natAbs 0) = false
  unfold nanW
  rw [decide_eq_false_iff_not]
  have e : ∃ r, r ≤ double.infRung ∧ double.nearest (decide (n < 0)) n.natAbs 0 = double.word (decide (n < 0)) r := by
   unfold Format.nearest
   split
   ·exact ⟨0, Nat.zero_le _, rfl⟩
   ·exact ⟨_, Nat.min_le_right _ _, rfl⟩
  obtain ⟨r, h1, h2⟩ := e
  rw [h2]
  unfold Format.word
  rw [zk23] at *
  rw [zj23]
  split <;> omega
 rw [h]; rfl
attribute [local go_sem] zj20
def cmk (k : Int) (j : Nat) : C3 := (k + 3 * j, floatOfInt FloatKind.f64 (k + 3 * j + 1), floatOfInt FloatKind.f64 (k + 3 * j + 1 + 1))
def ccount (n : Nat) (k : Int) : List C3 := (List.range n).map (cmk k)
def Ex (w : World) (g off n : Nat) : Prop := ∀ o, o < 3 * n → ∃ x, w.cell? ⟨g, off + o, none⟩ = some x
def KE (w w' : World) : Prop := ∀ b o x, w.cell? ⟨b, o, none⟩ = some x → ∃ y, w'.cell? ⟨b, o, none⟩ = some y
end
section
open Go.ChangeShapes Go.RowKit FL
def WRow (w : World) (lo hi b off : Nat) (ss : List St) : Prop := ∀ j, j < ss.length → (∃ x, w.cell? ⟨b, off + j * 2, none⟩ = some x) ∧ ∃ sa cap, w.cell? ⟨b, off + j * 2 + 1, none⟩ = some (σ sa (ss.getD j s0).2.length cap) ∧ ((ss.getD j s0).2 = [] ∨ ∃ c o, sa = some ⟨c, o, none⟩ ∧ lo ≤ c ∧ c < hi ∧ Ex w c o (ss.getD j s0).2.length)

theorem OwnC.cv {w : World} {lo cap : Nat} {sa : Option Addr} {cs : List C3} (h : OwnC w lo sa cs) : CV w (σ sa cs.length cap) cs := by
 refine ⟨sa, cap, rfl, ?_⟩
 rcases h with h | ⟨g, h1, h2, h3, _⟩
 ·exact Or.inl h
 ·exact Or.inr ⟨g, 0, h1, h3⟩
def AV (w : World) (v : Value) (a : Ar) : Prop := ∃ p c q d, v = γ #[O ι a.st, σ p a.xs.length c, σ q a.sv.length d, O ι a.off] ∧ Ints w (σ p a.xs.length c) a.xs ∧ Ints w (σ q a.sv.length d) a.sv ∧ a.Len
structure PT (w : World) (hv : Value) (A1 A2 : List Value) (W : World) : Prop where
 b4 : Bx W w.heap.size 25 [hv]
 b5 : Bx W (w.heap.size + 1) 30 A1
 b7 : Bx W (w.heap.size + 1 + 1) 30 A2
 b8 : Bx W (w.heap.size + 1 + 1 + 1) 36 [O ι 0, σ none 0 0]
 bl : Bel w W
theorem PT.bel {w : World} {hv : Value} {A1 A2 : List Value} {W W' : World} (h : PT w hv A1 A2 W) (x : Bel W W') : PT w hv A1 A2 W' := ⟨h.b4.bel x, h.b5.bel x, h.b7.bel x, h.b8.bel x, Bel.tr h.bl x⟩
theorem PT.start (w : World) (hv : Value) (A1 A2 : List Value) : PT w hv A1 A2 ((((w.alloc (χ #[hv] 25)).alloc (.cells A1.toArray 30)).alloc (.cells A2.toArray 30)).alloc (χ #[O ι 0, σ none 0 0] 36)) :=
 ⟨(((Bx.new w 25 #[hv] _ rfl).alloc _).alloc _).alloc _, ((Bx.new (w.alloc (χ #[hv] 25)) 30 A1.toArray _ (by simp)).alloc _).alloc _, (Bx.new ((w.alloc (χ #[hv] 25)).alloc (.cells A1.toArray 30)) 30 A2.toArray _ (by simp)).alloc _, Bx.new (((w.alloc (χ #[hv] 25)).alloc (.cells A1.toArray 30)).alloc (.cells A2.toArray 30)) 36 #[O ι 0, σ none 0 0] _ (by simp), (((((Ext.refl w).alloc _ _).alloc _ _).alloc _ _).alloc _ _).bl⟩
structure PU (w w1 : World) (hv : Value) (C1 C2 : List Value) (B1 B2 : Nat) (W : World) : Prop where
 b4 : Bx W w.heap.size 25 [hv]
 b8 : Bx W (w.heap.size + 1 + 1 + 1) 36 [O ι 0, σ none 0 0]
 c1 : Bx W B1 67 C1
 c2 : Bx W B2 67 C2
 bl : Bel w W
 b1 : Bel w1 W
 sz : w.heap.size + 4 ≤ w1.heap.size
theorem PU.bel {w w1 : World} {hv : Value} {C1 C2 : List Value} {B1 B2 : Nat} {W W' : World} (h : PU w w1 hv C1 C2 B1 B2 W) (x : Bel W W') : PU w w1 hv C1 C2 B1 B2 W' := ⟨h.b4.bel x, h.b8.bel x, h.c1.bel x, h.c2.bel x, Bel.tr h.bl x, Bel.tr h.b1 x, h.sz⟩
theorem zz21 {w W : World} {B : Nat} {a b : Ar} {p1 q1 p2 q2 : Option Addr} {c1 d1 c2 d2 : Nat} (hB : B = W.heap.size) (i1 : Ints w (σ p1 a.xs.length c1) a.xs) (i2 : Ints w (σ q1 a.sv.length d1) a.sv) (i3 : Ints w (σ p2 b.xs.length c2) b.xs) (i4 : Ints w (σ q2 b.sv.length d2) b.sv) (x : Bel w W) :
  ARow (W.alloc (χ #[O ι a.st, σ p1 a.xs.length c1, σ q1 a.sv.length d1, O ι a.off, O ι b.st, σ p2 b.xs.length c2, σ q2 b.sv.length d2, O ι b.off] 30)) B 0 [a, b] := by
 have n1 := fun j => zg W #[O ι a.st, σ p1 a.xs.length c1, σ q1 a.sv.length d1, O ι a.off, O ι b.st, σ p2 b.xs.length c2, σ q2 b.sv.length d2, O ι b.off] 30 B hB j
 have xx : Bel w (W.alloc (χ #[O ι a.st, σ p1 a.xs.length c1, σ q1 a.sv.length d1, O ι a.off, O ι b.st, σ p2 b.xs.length c2, σ q2 b.sv.length d2, O ι b.off] 30)) := Bel.tr x ((Ext.refl W).alloc _ _).bl
 intro j hj
 match j, hj with
 | 0, _ => exact ⟨_, _, n1 0, n1 1, n1 2, n1 3, i1.below xx, i2.below xx⟩
 | 1, _ => exact ⟨_, _, n1 4, n1 5, n1 6, n1 7, i3.below xx, i4.below xx⟩
 | j + 2, hj => simp at hj; omega
theorem HOwn.low {W : World} {lo g b q : Nat} {cb : Nat → Nat} {ts : List St} {v : Value} (h : HOwn W lo g cb ts) (hb : b < lo) : HOwn (W.setCell ⟨b, q, none⟩ v) lo g cb ts :=
 HOwn.far h (by have := h.lo_g; omega) (fun j hj hne => by have a1 := h.g_cb j hj hne; have a2 := h.lo_g; omega)
theorem Bx.setC {w : World} {k b o : Nat} {t : TypeId} {vs : List Value} {c : C3} (h : Bx w k t vs) (hb : k ≠ b) : Bx (setC w b o c) k t vs := ((h.far hb _).far hb _).far hb _
theorem zj13 (W : World) (a b c : Int) (t : TypeId) : Row (W.alloc (χ #[O ι a, O ι b, O ι c] t)) W.heap.size 0 [a, b, c] := fun j hj => by
 have n1 := fun j => zg W #[O ι a, O ι b, O ι c] t W.heap.size rfl j
 match j, hj with
 | 0, _ => exact n1 0
 | 1, _ => exact n1 1
 | 2, _ => exact n1 2
 | j + 3, hj => simp at hj; omega
theorem zg17 {ss : List St} {a b : Ar} (h : firstL ss [a, b] = 0) : vHeap ss = true ∧ a.Good ss ∧ b.Good ss := by
 unfold firstL at h
 split at h
 ·next hv =>
  split at h
  ·next ha => exact ⟨hv, ha a (by simp), ha b (by simp)⟩
  ·omega
 ·omega
theorem zd3 {xs sv : List Int} {off : Int} (hv : ValidV xs sv off) : (offsL xs sv off).length = (prod xs).toNat := by
 unfold offsL
 split
 ·next h => rw [h]; rfl
 ·rw [zl2 xs sv off hv.2.1.symm]
  have := zc1 (fun n hn => (zx hv.1 n hn).1)
  omega
def dtA (ss : List St) (a : Ar) : Int := (ss.getD a.st.toNat s0).1
def rdA (ss : List St) (a : Ar) : List C3 := (offsL a.xs a.sv a.off).map fun p => (ss.getD a.st.toNat s0).2.getD p.toNat k0
def fitB (b : Ar) (ix : List Int) : Bool := decide (prod b.xs = 1) || decide (prod b.xs = (ix.length : Int))
def putCd (ss : List St) (a b : Ar) (ix : List Int) : Int := if firstL ss [a, b] ≠ 0 then firstL ss [a, b] else smallL [if !(fitB b ix) then 6 else 0, ixCd ix (prod a.xs), wrC (decide (offsL a.xs a.sv a.off).Nodup) (castL (dtA ss b) (dtA ss a) 1)]
def putL (a : Ar) (ix : List Int) : List Int := ix.map fun k => (offsL a.xs a.sv a.off).getD (frS k (prod a.xs)).toNat 0
def lnB (o : Ar) (ix : List Int) : Bool := decide ((o.xs.length : Int) = 1 ∧ o.xs.getD 0 0 = (ix.length : Int) ∧ o.xs.getD 1 0 = 0 ∧ o.xs.getD 2 0 = 0 ∧ o.xs.getD 3 0 = 0)
def takeCd (ss : List St) (a o : Ar) (ix : List Int) : Int := if firstL ss [a, o] ≠ 0 then firstL ss [a, o] else smallL [if !(lnB o ix) then 6 else 0, ixCd ix (prod a.xs), wrC (decide (offsL o.xs o.sv o.off).Nodup) (castL (dtA ss a) (dtA ss o) 1)]
theorem zd7 {a b c : Int} (h : smallL [a, b, c] = 0) : a = 0 ∧ b = 0 ∧ c = 0 := by
 have e : smallL [a, b, c] = smN [a, b, c] 3 := rfl
 rw [e] at h
 have s3 : smN [a, b, c] 3 = if c ≠ 0 ∧ (smN [a, b, c] 2 = 0 ∨ c < smN [a, b, c] 2) then c else smN [a, b, c] 2 := rfl
 have s2 : smN [a, b, c] 2 = if b ≠ 0 ∧ (smN [a, b, c] 1 = 0 ∨ b < smN [a, b, c] 1) then b else smN [a, b, c] 1 := rfl
 have s1 : smN [a, b, c] 1 = if a ≠ 0 ∧ (smN [a, b, c] 0 = 0 ∨ a < smN [a, b, c] 0) then a else smN [a, b, c] 0 := rfl
 have s0 : smN [a, b, c] 0 = 0 := rfl
 generalize smN [a, b, c] 3 = y3 at *
 generalize smN [a, b, c] 2 = y2 at *
 generalize smN [a, b, c] 1 = y1 at *
 generalize smN [a, b, c] 0 = y0 at *
 split at s3 <;> split at s2 <;> split at s1 <;> omega
def takeX (ss : List St) (a : Ar) (ix : List Int) : List C3 := ix.map fun k => (rdA ss a).getD (frS k (prod a.xs)).toNat k0
theorem zi8 {ss : List St} {a b : Ar} {ix : List Int} (h : putCd ss a b ix = 0) : firstL ss [a, b] = 0 ∧ fitB b ix = true ∧ ixCd ix (prod a.xs) = 0 ∧ wrC (decide (offsL a.xs a.sv a.off).Nodup) (castL (dtA ss b) (dtA ss a) 1) = 0 := by
 unfold putCd at h
 by_cases hf : firstL ss [a, b] = 0
 ·rw [if_neg (by rw [hf]; simp)] at h
  obtain ⟨h1, h2, h3⟩ := zd7 h
  refine ⟨hf, ?_, h2, h3⟩
  cases hq : fitB b ix with
  | true => rfl
  | false => rw [hq] at h1; simp at h1
 ·rw [if_pos hf] at h; exact absurd h hf
theorem zv20 {ix : List Int} {n : Int} (h : ixCd ix n = 0) (j : Nat) (hj : j < ix.length) : -n ≤ ix.getD j 0 ∧ ix.getD j 0 < n := by
 unfold ixCd at h
 split at h
 ·next q =>
  have := q (ix.getD j 0) (by rw [List.getD_eq_getElem?_getD, List.getElem?_eq_getElem hj]; exact List.getElem_mem hj)
  exact this
 ·omega
theorem zb16 (a : Ar) (ix : List Int) (k : Nat) (hk : k < ix.length) : putL a (ix.take (k + 1)) = putL a (ix.take k) ++ [(offsL a.xs a.sv a.off).getD (frS (ix.getD k 0) (prod a.xs)).toNat 0] := by
 unfold putL
 rw [List.take_add_one, List.map_append, List.getD_eq_getElem?_getD (l := ix), List.getElem?_eq_getElem hk]
 rfl
theorem zx17 (a : Ar) (ix : List Int) (k : Nat) (hk : k ≤ ix.length) : (putL a (ix.take k)).length = k := by
 unfold putL
 rw [List.length_map, List.length_take]
 omega
theorem zy22 (a b c d e f g h : Int) (w : World) : (Op.equalIn 9999 61 (γ #[O ι a, O ι b, O ι c, O ι d]) (γ #[O ι e, O ι f, O ι g, O ι h])).run Tryz.prog w = .ok (decide (a = e ∧ b = f ∧ c = g ∧ d = h)) w := by
 rw [show (9999 : Nat) = 9998 + 1 from rfl, Op.equalIn]
 simp only [Sem.run_bind, run_underlying Tryz.underlying61, Result.andThen_ok]
 simp only [Std.Legacy.Range.forIn_eq_forIn_range', Std.Legacy.Range.size, Nat.sub_zero, Nat.add_sub_cancel, Nat.div_one, List.range'_succ, List.range'_zero, List.forIn_cons, List.forIn_nil]
 go_simp
 by_cases h1 : a = e <;> by_cases h2 : b = f <;> by_cases h3 : c = g <;> by_cases h4 : d = h <;> simp [h1, h2, h3, h4]
theorem zb7 {ss : List St} {a o : Ar} {ix : List Int} (h : takeCd ss a o ix = 0) : firstL ss [a, o] = 0 ∧ lnB o ix = true ∧ ixCd ix (prod a.xs) = 0 := by
 unfold takeCd at h
 by_cases hf : firstL ss [a, o] = 0
 ·rw [if_neg (by rw [hf]; simp)] at h
  obtain ⟨h1, h2, h3⟩ := zd7 h
  refine ⟨hf, ?_, h2⟩
  cases hq : lnB o ix with
  | true => rfl
  | false => rw [hq] at h1; simp at h1
 ·rw [if_pos hf] at h; exact absurd h hf
theorem zc11 {l : List Int} {i : Nat} (h : i < l.length) : l.getD i 0 = l[i] := by rw [List.getD_eq_getElem?_getD, List.getElem?_eq_getElem h]; rfl
theorem za18 {w : World} {H : Nat} {v : Value} {cs : List C3} (h : w.ownsRow H 47 3 v cs.length (flat cs)) : CV w v cs := by
 rcases h.2 with ⟨rfl, h0⟩ | ⟨g, cap, cur, rfl, _⟩
 ·have e : cs = [] := List.length_eq_zero_iff.1 h0
  subst e
  exact ⟨none, 0, rfl, Or.inl rfl⟩
 ·exact ⟨_, cap, rfl, Or.inr ⟨g, 0, rfl, zo3 h rfl⟩⟩
end
end Go.Proofs.YtjbbodfdpbcnhaaGreat
