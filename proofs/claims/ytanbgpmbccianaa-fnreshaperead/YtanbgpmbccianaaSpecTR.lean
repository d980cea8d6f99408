import Derived.Test.YtanbgpmbccianaaM7
import Derived.Test.YtanbgpmbccianaaSpecBR
namespace Go.Proofs.Ytanbgpmbccianaa
open Go.ChangeShapes Go.RowKit
set_option linter.unusedSimpArgs false
set_option linter.unusedVariables false

theorem BW.al1 {w wr : World} {B : Nat} {vS vT : Value} {off : Int} {Ls Ss : List Int} {vA vB : Value} (h : BW w wr B vS vT off Ls Ss vA vB) (x : Int) : (wr.alloc (.cells #[.int .i64 x] 2)).drew.cell? ⟨B, 1, none⟩ = some vB := ((Ext.refl wr).alloc #[.int .i64 x] 2).box h.o1
/-- The rounds of the outer loop. -/
def TSRel (w : World) (B : Nat) (vS vT : Value) (off : Int) (xs ss ys : List Int) (i : Value) (wr : World) : Prop :=
  ∃ (k : Nat) (vA vB : Value), i = .int .i64 k ∧ k ≤ ys.length ∧ Hid (PN ys xs.length k) ∧ BW w wr B vS vT off ((trx xs ys).take k) ((trx ss ys).take k) vA vB
/-- The rounds of the inner loop. -/
def JRel (w : World) (B : Nat) (vS vT : Value) (off : Int) (ys : List Int) (k : Nat) (LA LB : List Int) (vA vB : Value) (j : Value) (wr : World) : Prop :=
  ∃ jj : Nat, j = .int .i64 jj ∧ jj ≤ k ∧ Hid (∀ i, i < jj → ys.getD i 0 ≠ ys.getD k 0) ∧ BW w wr B vS vT off LA LB vA vB
theorem tsrel_step {w W : World} {B : Nat} {vS vT : Value} {off : Int} {xs ss ys : List Int} {k : Nat} {vA vB : Value} {LA LB : List Int} {X Z : Int} (hk : k < ys.length)
    (hpn : PN ys xs.length (k + 1)) (hLA : (trx xs ys).take k = LA) (hLB : (trx ss ys).take k = LB) (hX : (trx xs ys).getD k 0 = X) (hZ : (trx ss ys).getD k 0 = Z)
    (h : BW w W B vS vT off (LA ++ [X]) (LB ++ [Z]) vA vB) : TSRel w B vS vT off xs ss ys (.int .i64 ((k : Int) + 1)) W := by
  refine ⟨k + 1, vA, vB, by simp, by omega, hpn, ?_⟩
  rw [take_snoc (trx xs ys) k (by rw [trx_len]; exact hk), take_snoc (trx ss ys) k (by rw [trx_len]; exact hk), hX, hZ, hLA, hLB]
  exact h

set_option maxRecDepth 100000 in
set_option maxHeartbeats 4000000 in
theorem sTR_own {w : World} {vS vT vP : Value} {xs ss ys : List Int} (hS : Ints w vS xs) (hT : Ints w vT ss) (hP : Ints w vP ys) (off : Int) (lx : xs.length ≤ 1048576) (ls : ss.length ≤ 1048576) (ly : ys.length ≤ 1048576) {c : Int} {L S : List Int} {o : Int} (hr : trL xs ss off ys = (c, L, S, o)) :
    Calls Try.prog 42 #[.agg #[vS, vT, .int .i64 off], vP] w fun e w' => VSOw w c L S o e w' := by
  obtain ⟨i0, hi0, hz0, hz1, hz2⟩ := info_parts info2
  have Hr := hide hr.symm
  clear hr
  have x0 : Ext w ((w.alloc (.cells #[vS, vT, .int .i64 off] 25)).alloc (.cells #[.int .i64 0, .slice none 0 0, .slice none 0 0, .int .i64 0] 29)) := ((Ext.refl w).alloc _ _).alloc _ _
  have y0 : Ext (w.alloc (.cells #[vS, vT, .int .i64 off] 25)) ((w.alloc (.cells #[vS, vT, .int .i64 off] 25)).alloc (.cells #[.int .i64 0, .slice none 0 0, .slice none 0 0, .int .i64 0] 29)) := (Ext.refl _).alloc _ _
  have n1 := fun j => new_cell w #[vS, vT, .int .i64 off] 25 w.heap.size rfl j
  have n2 := fun j => new_cell (w.alloc (.cells #[vS, vT, .int .i64 off] 25)) #[.int .i64 0, .slice none 0 0, .slice none 0 0, .int .i64 0] 29 (w.heap.size + 1) (by simp) j
  have k0 : ((w.alloc (.cells #[vS, vT, .int .i64 off] 25)).alloc (.cells #[.int .i64 0, .slice none 0 0, .slice none 0 0, .int .i64 0] 29)).cell? ⟨w.heap.size, 0, none⟩ = some vS := y0.box (n1 0)
  have k1 : ((w.alloc (.cells #[vS, vT, .int .i64 off] 25)).alloc (.cells #[.int .i64 0, .slice none 0 0, .slice none 0 0, .int .i64 0] 29)).cell? ⟨w.heap.size, 1, none⟩ = some vT := y0.box (n1 1)
  have k2 : ((w.alloc (.cells #[vS, vT, .int .i64 off] 25)).alloc (.cells #[.int .i64 0, .slice none 0 0, .slice none 0 0, .int .i64 0] 29)).cell? ⟨w.heap.size, 2, none⟩ = some (.int .i64 off) := y0.box (n1 2)
  have q0 : ((w.alloc (.cells #[vS, vT, .int .i64 off] 25)).alloc (.cells #[.int .i64 0, .slice none 0 0, .slice none 0 0, .int .i64 0] 29)).cell? ⟨w.heap.size + 1, 0, none⟩ = some (.int .i64 0) := n2 0
  have q1 : ((w.alloc (.cells #[vS, vT, .int .i64 off] 25)).alloc (.cells #[.int .i64 0, .slice none 0 0, .slice none 0 0, .int .i64 0] 29)).cell? ⟨w.heap.size + 1, 1, none⟩ = some (.slice none 0 0) := n2 1
  have q2 : ((w.alloc (.cells #[vS, vT, .int .i64 off] 25)).alloc (.cells #[.int .i64 0, .slice none 0 0, .slice none 0 0, .int .i64 0] 29)).cell? ⟨w.heap.size + 1, 2, none⟩ = some (.slice none 0 0) := n2 2
  have q3 : ((w.alloc (.cells #[vS, vT, .int .i64 off] 25)).alloc (.cells #[.int .i64 0, .slice none 0 0, .slice none 0 0, .int .i64 0] 29)).cell? ⟨w.heap.size + 1, 3, none⟩ = some (.int .i64 0) := n2 3
  have X0 := hide x0
  have HS := hide (hS.ext x0)
  have HT := hide (hT.ext x0)
  have HP := hide (hP.ext x0)
  have HS0 := hide hS
  have HT0 := hide hT
  have HP0 := hide hP
  obtain ⟨sa, ca, rfl, rS⟩ := hS
  obtain ⟨sb, cb, rfl, rT⟩ := hT
  obtain ⟨sp, cp, rfl, rP⟩ := hP
  have RS0 := hide rS
  have RT0 := hide rT
  have RP0 := hide rP
  clear x0 y0 n1 n2 rS rT rP
  go_enter Try.func42, Try.ntmps42
  go_wp2_with fail
  refine (sVV_any HS.out HT.out off lx ls).mono ?_
  rintro e w1 ⟨rfl, x1⟩
  have l0 := Bel.box x1 k0
  have l1 := Bel.box x1 k1
  have l2 := Bel.box x1 k2
  have r0 := Bel.box x1 q0
  have r1 := Bel.box x1 q1
  have r2 := Bel.box x1 q2
  have r3 := Bel.box x1 q3
  have rf : ∀ o, w1.frozen? ⟨w.heap.size + 1, o, none⟩ = false := fun o => (Below.frozen x1 (p := ⟨w.heap.size + 1, o, none⟩) (cell_lt q0)).trans (X0.out.unfrozen (b := w.heap.size + 1) (by omega) o)
  have B1 := hide (Bel.tr X0.out.bl x1)
  have HP1 := hide (HP.out.below x1)
  have sz1 : Hid (w.heap.size + 1 < w1.heap.size) := cell_lt r0
  clear x1 k0 k1 k2 q0 q1 q2 q3 X0 HS HT HP
  cases hv : (dcValidV xs ss off)
  · have hn := hide (Hr.out.trans (show trL xs ss off ys = (12, [], [], 0) from if_neg (of_decide_eq_false hv)))
    clear hv
    go_wp2
    exact bodyPost_ret (v := .agg #[.int .i64 12, .slice none 0 0, .slice none 0 0, .int .i64 0]) (by simp [results, Try.results42, go_sem, set4_0 r0, set4_1 r1, set4_2 r2, set4_3 r3]) rfl (vs_bad hn.out B1.out)
  have gv : ValidV xs ss off := of_decide_eq_true hv
  have hbr : Hid (trL xs ss off ys = (if PermOk ys xs.length then (0, trx xs ys, trx ss ys, off) else (5, [], [], 0))) := if_pos gv
  have hx4 := gv.1.1
  have Hl := hide gv.2.1
  clear gv
  generalize hvb : (dcValidV xs ss off) = vb at hv
  subst hv
  clear hvb
  by_cases hlen : ¬ ys.length = xs.length
  · have hn := hide (Hr.out.trans (hbr.out.trans (if_neg (fun q => hlen q.1))))
    have hne : ((ys.length : Int) != (xs.length : Int)) = true := by simp; omega
    go_wp2
    exact bodyPost_ret (v := .agg #[.int .i64 5, .slice none 0 0, .slice none 0 0, .int .i64 0]) (by simp [results, Try.results42, go_sem, set4_0 r0, set4_1 r1, set4_2 r2, set4_3 r3]) rfl (vs_bad hn.out B1.out)
  have hlen := Classical.not_not.1 hlen
  have hne : ((ys.length : Int) != (xs.length : Int)) = false := by simp; omega
  have Hlen := hide hlen
  clear hlen
  have S0 := hide (BW.start (off := off) sz1.out B1.out l0 l1 r0 r1 r2 r3 rf)
  go_wp2_with fail
  have t0 := S0.out.p0
  have t1 := S0.out.p1
  clear l0 l1 l2 r0 r1 r2 r3 rf t0 t1 hne
  have hone : 0 < 1 := Nat.one_pos
  generalize hB : w1.heap.size = B at S0 ⊢
  clear hB
  go_loopw [6] (fun i wr => TSRel w B (.slice sa xs.length ca) (.slice sb ss.length cb) off xs ss ys i wr) (fun i _ => ys.length - (intOf i).toNat)
  case atStart => exact ⟨0, _, _, rfl, by omega, PN.zero _ _, by simpa using S0.out⟩
  case round =>
    obtain ⟨k, vA, vB, rfl, hk, hpn, hW⟩ := hrel
    have HW := hide hW
    clear hW
    by_cases hlt : k < ys.length
    · rcases RP0.out with h0 | ⟨bp, op, rfl, hrp⟩
      · rw [h0] at hlt; simp at hlt
      have qp := Bel.box HW.out.bl (hrp k hlt)
      have hk0 : (0 : Int) ≤ (k : Int) := Int.natCast_nonneg _
      have hk1 : (k : Int) < (ys.length : Int) := by omega
      have hno1 : Hid (¬ (0 ≤ ys.getD k 0 ∧ ys.getD k 0 < xs.length) → (c, L, S, o) = (5, [], [], 0)) := fun q => Hr.out.trans (hbr.out.trans (if_neg (fun g => q (g.2.1 k hlt))))
      have r0 := HW.out.r0
      have r1 := HW.out.r1
      have r2 := HW.out.r2
      have r3 := HW.out.r3
      have rf := HW.out.rf
      by_cases h1 : ys.getD k 0 < 0
      · have hn := hide (hno1.out (by omega))
        generalize ys.getD k 0 = x at qp h1
        clear hrp hno1
        go_wp2
        exact bodyPost_ret (v := .agg #[.int .i64 5, .slice none 0 0, .slice none 0 0, .int .i64 0]) (by simp [results, Try.results42, go_sem, set4_0 r0, set4_1 r1, set4_2 r2, set4_3 r3]) rfl (vs_bad hn.out HW.out.bl)
      by_cases h2 : (ys.length : Int) ≤ ys.getD k 0
      · have hn := hide (hno1.out (by have := Hlen.out; omega))
        generalize ys.getD k 0 = x at qp h1 h2
        clear hrp hno1
        go_wp2
        exact bodyPost_ret (v := .agg #[.int .i64 5, .slice none 0 0, .slice none 0 0, .int .i64 0]) (by simp [results, Try.results42, go_sem, set4_0 r0, set4_1 r1, set4_2 r2, set4_3 r3]) rfl (vs_bad hn.out HW.out.bl)
      obtain ⟨a, hxa⟩ : ∃ a : Nat, ys.getD k 0 = (a : Int) := ⟨(ys.getD k 0).toNat, by omega⟩
      have hax : a < xs.length := by have := Hlen.out; omega
      have haxi : (a : Int) < (xs.length : Int) := by omega
      have has : a < ss.length := by have := Hl.out; omega
      have hasi : (a : Int) < (ss.length : Int) := by omega
      have ha0 : (0 : Int) ≤ (a : Int) := Int.natCast_nonneg _
      rcases RS0.out with h0 | ⟨bx, ox, rfl, hrx⟩
      · rw [h0] at hax; simp at hax
      rcases RT0.out with h0 | ⟨bs, os, rfl, hrs⟩
      · rw [h0] at has; simp at has
      have hlA : ((trx xs ys).take k).length = k := by rw [List.length_take, trx_len]; omega
      have hlB : ((trx ss ys).take k).length = k := by rw [List.length_take, trx_len]; omega
      generalize hLA : (trx xs ys).take k = LA at HW hlA
      generalize hLB : (trx ss ys).take k = LB at HW hlB
      have HLA := hide hLA
      have HLB := hide hLB
      have hMa : LA.length + 1 ≤ maxLen := by unfold maxLen; omega
      have hMb : LB.length + 1 ≤ maxLen := by unfold maxLen; omega
      have hMc : (LA.length + 1) * 8 ≤ 140737488355328 := by omega
      have hMd : (LB.length + 1) * 8 ≤ 140737488355328 := by omega
      clear hLA hLB hlA hlB
      obtain ⟨s1, c1, rfl⟩ := own_form HW.out.ownA
      obtain ⟨s2, c2, rfl⟩ := own_form HW.out.ownB
      have hXt : Hid ((trx xs ys).getD k 0 = xs.getD a 0) := by show (trx xs ys).getD k 0 = xs.getD a 0; rw [trx_getD, if_pos hlt, hxa, Int.toNat_natCast]
      have hZt : Hid ((trx ss ys).getD k 0 = ss.getD a 0) := by show (trx ss ys).getD k 0 = ss.getD a 0; rw [trx_getD, if_pos hlt, hxa, Int.toNat_natCast]
      have hxin : Hid (0 ≤ ys.getD k 0 ∧ ys.getD k 0 < xs.length) := ⟨by omega, by omega⟩
      have hdup : Hid (∀ i, i < k → ys.getD i 0 = ys.getD k 0 → (c, L, S, o) = (5, [], [], 0)) := fun i hi e => Hr.out.trans (hbr.out.trans (if_neg (fun g => g.2.2 k hlt i hi e)))
      have Hxa := hide hxa
      rw [hxa] at qp h1 h2
      have h3 : ¬ (a : Int) < 0 := by omega
      have h4 : ¬ (ys.length : Int) ≤ (a : Int) := h2
      clear hno1 hxa h1 h2 r0 r1 r2 r3 rf
      go_wp2_with fail
      try simp only [show decide ((a : Int) < 0) = false from decide_eq_false h3, show decide ((ys.length : Int) ≤ (a : Int)) = false from decide_eq_false h4, Bool.or_self, Bool.or_false]
      clear qp
      have H3 := hide h3
      have H4 := hide h4
      clear h3 h4
      go_loopw [7] (fun j wr2 => JRel w B (.slice (some ⟨bx, ox, none⟩) xs.length ca) (.slice (some ⟨bs, os, none⟩) ss.length cb) off ys k LA LB (.slice s1 LA.length c1) (.slice s2 LB.length c2) j wr2) (fun j _ => k - (intOf j).toNat)
      case atStart => exact ⟨0, rfl, by omega, fun j hj => absurd hj (Nat.not_lt_zero _), HW.out⟩
      case round =>
        obtain ⟨jj, rfl, hjk, hnd, hW2⟩ := hrel
        have HD := hide hW2
        clear hW2
        have qk := Bel.box HD.out.bl (hrp k hlt)
        rw [Hxa.out] at qk
        by_cases hjl : jj < k
        · have qj := Bel.box HD.out.bl (hrp jj (by omega))
          have hj0 : (0 : Int) ≤ (jj : Int) := Int.natCast_nonneg _
          have hj1 : (jj : Int) < (k : Int) := by omega
          have hj2 : (jj : Int) < (ys.length : Int) := by omega
          have hdp : Hid (ys.getD jj 0 = (a : Int) → (c, L, S, o) = (5, [], [], 0)) := fun e => hdup.out jj hjl (e.trans Hxa.out.symm)
          have hnd2 : Hid (¬ ys.getD jj 0 = (a : Int) → ∀ i, i < jj + 1 → ys.getD i 0 ≠ ys.getD k 0) := fun q i hi => by
            by_cases e : i = jj
            · subst e; rw [Hxa.out]; exact q
            · exact hnd.out i (by omega)
          generalize ys.getD jj 0 = y at qj hdp hnd2
          by_cases hy : y = (a : Int)
          · have hn := hide (hdp.out hy)
            subst hy
            have r0 := HD.out.r0
            have r1 := HD.out.r1
            have r2 := HD.out.r2
            have r3 := HD.out.r3
            have rf := HD.out.rf
            clear hdp hnd2
            go_wp2_with fail
            go_region
            all_goals go_wp2
            all_goals exact bodyPost_ret (v := .agg #[.int .i64 5, .slice none 0 0, .slice none 0 0, .int .i64 0]) (by simp [results, Try.results42, go_sem, set4_0 r0, set4_1 r1, set4_2 r2, set4_3 r3]) rfl (vs_drew (vs_bad hn.out HD.out.bl))
          · have hne : (y == (a : Int)) = false := by simp [hy]
            have hnd3 := hide (hnd2.out hy)
            have HD2 := hide (HD.out.keep (bel_drew _))
            clear hdp hnd2 hy
            go_wp2_with fail
            go_region
            all_goals go_wp2
            all_goals
              go_roundw
              · exact ⟨jj + 1, by go_num, by omega, hnd3, HD2.out⟩
              · simp [intOf]; omega
        · have hjj : jj = k := by omega
          subst hjj
          have hpn2 : Hid (PN ys xs.length (jj + 1)) := hpn.out.step hxin.out hnd.out
          have qx := Bel.box HD.out.bl (hrx a hax)
          have qs := Bel.box HD.out.bl (hrs a has)
          have cx := hrx a hax
          have cs := hrs a has
          have cp' := hrp jj hlt
          rw [Hxa.out] at cp'
          have HX := hXt
          have HZ := hZt
          generalize xs.getD a 0 = X at qx HX cx
          generalize ss.getD a 0 = Z at qs HZ cs
          have CX := hide cx
          have CS := hide cs
          have CP := hide cp'
          clear cx cs cp' hXt hZt
          have p0 := HD.out.p0
          have p1 := HD.out.p1
          have o0 := HD.out.o0
          have bf := HD.out.bf
          generalize hwd : wr = wd at HD qk qx qs p0 p1 o0 bf ⊢
          have d0 : (wd.alloc (.cells #[.int .i64 X] 2)).drew.cell? ⟨B, 0, none⟩ = some (.slice s1 LA.length c1) := HD.out.al0 X
          go_wp2_with fail
          refine (fun (hK : Hid (∀ (s3 : Option Addr) (c3 : Nat) (W' : World), BW w W' B (.slice (some ⟨bx, ox, none⟩) xs.length ca) (.slice (some ⟨bs, os, none⟩) ss.length cb) off (LA ++ [X]) LB (.slice s3 (LA.length + 1) c3) (.slice s2 LB.length c2) → (?G : Option Addr → Nat → World → Prop) s3 c3 W')) => ?main) ?side
          case main =>
            go_region_law (first | (refine step_append_at _ (by rfl) (.tmp 59) (.tmp 68) 23 (by rfl) (B + 1) 2 i0 (.int .i64 0) 1 8 Try.underlying23 hi0 hz0 hz1 hz2 rfl hone (.slice s1 LA.length c1) LA.length (LA.map (Value.int .i64)) (by rfl) (own_drew (HD.out.ownA.alloc _)) ⟨wd.heap.size, 0, none⟩ 1 1 [.int .i64 X] (by rfl) rfl (new_drew (cell_one_new _ _ _)) (one_val _) hMa hMc (HD.out.szD X) ?_; intro v3 w3 hown3 hgrow3 hat3; obtain ⟨s3, c3, rfl⟩ := own_form2 hown3; obtain ⟨b30, b31, b3f⟩ := HD.out.at3 (grown_drew hgrow3); have HSt := hide (HD.out.stepA X hown3 (grown_drew hgrow3) hat3); clear hown3 hgrow3 hat3) | fail)
            all_goals
              generalize w3.setCell ⟨B, 0, none⟩ (.slice s3 (LA.length + 1) c3) = W' at HSt ⊢
              exact hK.out s3 c3 W' HSt.out
          case side =>
            intro s3 c3 wd2 hE
            have HE := hide hE
            clear hE qk qx qs p0 p1 o0 bf d0 HD
            have p0 := HE.out.p0
            have p1 := HE.out.p1
            have o1 := HE.out.o1
            have bf := HE.out.bf
            have qk := Bel.box HE.out.bl CP.out
            have qs := Bel.box HE.out.bl CS.out
            have d1 : (wd2.alloc (.cells #[.int .i64 Z] 2)).drew.cell? ⟨B, 1, none⟩ = some (.slice s2 LB.length c2) := HE.out.al1 Z
            go_wp2_with fail
            refine (fun (hK : Hid (∀ (s5 : Option Addr) (c5 : Nat) (W' : World), BW w W' B (.slice (some ⟨bx, ox, none⟩) xs.length ca) (.slice (some ⟨bs, os, none⟩) ss.length cb) off (LA ++ [X]) (LB ++ [Z]) (.slice s3 (LA.length + 1) c3) (.slice s5 (LB.length + 1) c5) → (?G2 : Option Addr → Nat → World → Prop) s5 c5 W')) => ?main2) ?side2
            case main2 =>
              go_region_law (first | (refine step_append_at _ (by rfl) (.tmp 72) (.tmp 81) 23 (by rfl) (B + 1) 2 i0 (.int .i64 0) 1 8 Try.underlying23 hi0 hz0 hz1 hz2 rfl hone (.slice s2 LB.length c2) LB.length (LB.map (Value.int .i64)) (by rfl) (own_drew (HE.out.ownB.alloc _)) ⟨wd2.heap.size, 0, none⟩ 1 1 [.int .i64 Z] (by rfl) rfl (new_drew (cell_one_new _ _ _)) (one_val _) hMb hMd (HE.out.szD Z) ?_; intro v5 w5 hown5 hgrow5 hat5; obtain ⟨s5, c5, rfl⟩ := own_form2 hown5; obtain ⟨b50, b51, b5f⟩ := HE.out.at3B (grown_drew hgrow5); have HSt := hide (HE.out.stepB Z hown5 (grown_drew hgrow5) hat5); clear hown5 hgrow5 hat5) | fail)
              all_goals
                generalize w5.setCell ⟨B, 1, none⟩ (.slice s5 (LB.length + 1) c5) = W' at HSt ⊢
                exact hK.out s5 c5 W' HSt.out
            case side2 =>
              intro s5 c5 W' hE2
              have HE2 := hide hE2
              clear hE2 HE p0 p1 o1 bf qk qs d1
              go_wp2
              go_roundw
              · exact tsrel_step hlt hpn2.out HLA.out HLB.out HX.out HZ.out HE2.out
              · simp [intOf]; omega
    · have hkk : k = ys.length := by omega
      subst hkk
      have hok : PermOk ys xs.length := ⟨Hlen.out, hpn.out⟩
      have hn := hide (Hr.out.trans (hbr.out.trans (if_pos hok)))
      have hW1 := HW.out
      rw [List.take_of_length_le (by rw [trx_len]; omega), List.take_of_length_le (by rw [trx_len]; omega)] at hW1
      obtain ⟨s1, c1, rfl⟩ := own_form hW1.ownA
      obtain ⟨s2, c2, rfl⟩ := own_form hW1.ownB
      have HW1 := hide hW1
      clear hW1 HW hok
      generalize hb1 : trx xs ys = TX at HW1 hn
      generalize hb2 : trx ss ys = TS at HW1 hn
      clear hb1 hb2
      have o0 := HW1.out.o0
      have o1 := HW1.out.o1
      have o2 := HW1.out.o2
      have r0 := HW1.out.r0
      have r1 := HW1.out.r1
      have r2 := HW1.out.r2
      have r3 := HW1.out.r3
      have rf := HW1.out.rf
      go_wp2
      exact bodyPost_ret (v := .agg #[.int .i64 0, .slice s1 TX.length c1, .slice s2 TS.length c2, .int .i64 off]) (by simp [results, Try.results42, go_sem, set4_0 r0, set4_1 r1, set4_2 r2, set4_3 r3]) rfl (vs_good HW1.out rfl rfl hn.out)
theorem sTR_any {w : World} {vS vT vP : Value} {xs ss ys : List Int} (hS : Ints w vS xs) (hT : Ints w vT ss) (hP : Ints w vP ys) (off : Int) (lx : xs.length ≤ 1048576) (ls : ss.length ≤ 1048576) (ly : ys.length ≤ 1048576) {c : Int} {L S : List Int} {o : Int} (hr : trL xs ss off ys = (c, L, S, o)) :
    Calls Try.prog 42 #[.agg #[vS, vT, .int .i64 off], vP] w fun e w' => VSOk w c L S o e w' :=
  (sTR_own hS hT hP off lx ls ly hr).mono fun e w' h => h.old
end Go.Proofs.Ytanbgpmbccianaa
