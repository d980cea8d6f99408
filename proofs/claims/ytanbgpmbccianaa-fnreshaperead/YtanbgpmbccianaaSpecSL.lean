import Derived.Test.YtanbgpmbccianaaSpecSG
namespace Go.Proofs.Ytanbgpmbccianaa
open Go.ChangeShapes Go.RowKit
set_option linter.unusedSimpArgs false
set_option linter.unusedVariables false

set_option maxRecDepth 100000 in
set_option maxHeartbeats 4000000 in
theorem sSL_own {w : World} {vS vT : Value} {xs ss : List Int} (hS : Ints w vS xs) (hT : Ints w vT ss) (off axis start stop step : Int) (lx : xs.length ≤ 1048576) (ls : ss.length ≤ 1048576) {c : Int} {L S : List Int} {o : Int} (hr : slL xs ss off axis start stop step = (c, L, S, o)) :
    Calls Try.prog 46 #[.agg #[vS, vT, .int .i64 off], .int .i64 axis, .int .i64 start, .int .i64 stop, .int .i64 step] w fun e w' => VSOw w c L S o e w' := by
  by_cases hall : ValidV xs ss off ∧ (0 ≤ axis ∧ axis < xs.length) ∧ (step ≠ 0 ∧ okStep start = true ∧ okStep stop = true ∧ okStep step = true)
  · obtain ⟨gv, gx, gs⟩ := hall
    obtain ⟨ax, rfl⟩ : ∃ ax : Nat, axis = (ax : Int) := ⟨axis.toNat, by omega⟩
    have e := hr.symm.trans ((if_pos gv).trans ((if_pos gx).trans (if_pos gs)))
    rw [Int.toNat_natCast] at e
    simp only [Prod.mk.injEq] at e
    obtain ⟨rfl, rfl, rfl, rfl⟩ := e
    exact sSL_good hS hT off start stop step ax lx ls gv (by omega) gs.1 (of_decide_eq_true gs.2.1) (of_decide_eq_true gs.2.2.1) (of_decide_eq_true gs.2.2.2)
  obtain ⟨i0, hi0, hz0, hz1, hz2⟩ := info_parts info2
  have Hr := hide hr.symm
  clear hr
  have x0 : Ext w ((w.alloc (.cells #[vS, vT, .int .i64 off] 25)).alloc (.cells #[.int .i64 0, .slice none 0 0, .slice none 0 0, .int .i64 0] 29)) := ((Ext.refl w).alloc _ _).alloc _ _
  have y0 : Ext (w.alloc (.cells #[vS, vT, .int .i64 off] 25)) ((w.alloc (.cells #[vS, vT, .int .i64 off] 25)).alloc (.cells #[.int .i64 0, .slice none 0 0, .slice none 0 0, .int .i64 0] 29)) := (Ext.refl _).alloc _ _
  have n1 := fun j => new_cell w #[vS, vT, .int .i64 off] 25 w.heap.size rfl j
  have n2 := fun j => new_cell (w.alloc (.cells #[vS, vT, .int .i64 off] 25)) #[.int .i64 0, .slice none 0 0, .slice none 0 0, .int .i64 0] 29 (w.heap.size + 1) (by simp) j
  have k0 : ((w.alloc (.cells #[vS, vT, .int .i64 off] 25)).alloc (.cells #[.int .i64 0, .slice none 0 0, .slice none 0 0, .int .i64 0] 29)).cell? ⟨w.heap.size, 0, none⟩ = some vS := y0.box (n1 0)
  have k1 : ((w.alloc (.cells #[vS, vT, .int .i64 off] 25)).alloc (.cells #[.int .i64 0, .slice none 0 0, .slice none 0 0, .int .i64 0] 29)).cell? ⟨w.heap.size, 1, none⟩ = some vT := y0.box (n1 1)
  have k2 : ((w.alloc (.cells #[vS, vT, .int .i64 off] 25)).alloc (.cells #[.int .i64 0, .slice none 0 0, .slice none 0 0, .int .i64 0] 29)).cell? ⟨w.heap.size, 2, none⟩ = some (.int .i64 off) := y0.box (n1 2)
  have q0 : ((w.alloc (.cells #[vS, vT, .int .i64 off] 25)).alloc (.cells #[.int .i64 0, .slice none 0 0, .slice none 0 0, .int .i64 0] 29)).cell? ⟨w.heap.size + 1, 0, none⟩ = some (.int .i64 0) := n2 0
  have q1 : ((w.alloc (.cells #[vS, vT, .int .i64 off] 25)).alloc (.cells #[.int .i64 0, .slice none 0 0, .slice none 0 0, .int .i64 0] 29)).cell? ⟨w.heap.size + 1, 1, none⟩ = some (.slice none 0 0) := n2 1
  have q2 : ((w.alloc (.cells #[vS, vT, .int .i64 off] 25)).alloc (.cells #[.int .i64 0, .slice none 0 0, .slice none 0 0, .int .i64 0] 29)).cell? ⟨w.heap.size + 1, 2, none⟩ = some (.slice none 0 0) := n2 2
  have q3 : ((w.alloc (.cells #[vS, vT, .int .i64 off] 25)).alloc (.cells #[.int .i64 0, .slice none 0 0, .slice none 0 0, .int .i64 0] 29)).cell? ⟨w.heap.size + 1, 3, none⟩ = some (.int .i64 0) := n2 3
  have X0 := hide x0
  have HS := hide (hS.ext x0)
  have HT := hide (hT.ext x0)
  have HS0 := hide hS
  have HT0 := hide hT
  obtain ⟨sa, ca, rfl, rS⟩ := hS
  obtain ⟨sb, cb, rfl, rT⟩ := hT
  have RS0 := hide rS
  have RT0 := hide rT
  clear x0 y0 n1 n2 rS rT
  go_enter Try.func46, Try.ntmps46
  go_wp2_with fail
  refine (sVV_any HS.out HT.out off lx ls).mono ?_
  rintro e w1 ⟨rfl, x1⟩
  have l0 := Bel.box x1 k0
  have l1 := Bel.box x1 k1
  have l2 := Bel.box x1 k2
  have r0 := Bel.box x1 q0
  have r1 := Bel.box x1 q1
  have r2 := Bel.box x1 q2
  have r3 := Bel.box x1 q3
  have rf : ∀ o, w1.frozen? ⟨w.heap.size + 1, o, none⟩ = false := fun o => (Below.frozen x1 (p := ⟨w.heap.size + 1, o, none⟩) (cell_lt q0)).trans (X0.out.unfrozen (b := w.heap.size + 1) (by omega) o)
  have B1 := hide (Bel.tr X0.out.bl x1)
  have sz1 : Hid (w.heap.size + 1 < w1.heap.size) := cell_lt r0
  clear x1 k0 k1 k2 q0 q1 q2 q3 X0 HS HT
  cases hv : (dcValidV xs ss off)
  · have hn := hide (Hr.out.trans (show slL xs ss off axis start stop step = (12, [], [], 0) from if_neg (of_decide_eq_false hv)))
    clear hv
    go_wp2
    exact bodyPost_ret (v := .agg #[.int .i64 12, .slice none 0 0, .slice none 0 0, .int .i64 0]) (by simp [results, Try.results46, go_sem, set4_0 r0, set4_1 r1, set4_2 r2, set4_3 r3]) rfl (vs_bad hn.out B1.out)
  have gv : ValidV xs ss off := of_decide_eq_true hv
  have hbr : Hid (slL xs ss off axis start stop step = (if 0 ≤ axis ∧ axis < xs.length then
      (if step ≠ 0 ∧ okStep start = true ∧ okStep stop = true ∧ okStep step = true then
        (0, xs.set axis.toNat (slC xs axis.toNat start stop step), slS xs ss axis.toNat (slC xs axis.toNat start stop step) step, slO xs ss axis.toNat (slC xs axis.toNat start stop step) (slF xs axis.toNat start step) off)
      else (8, [], [], 0))
    else (5, [], [], 0))) := if_pos gv
  have HGV := hide gv
  have hx4 := gv.1.1
  clear gv
  generalize hvb : (dcValidV xs ss off) = vb at hv
  subst hv
  clear hvb
  by_cases hax : axis < 0
  · have hn := hide (Hr.out.trans (hbr.out.trans (if_neg (fun q => by omega))))
    go_wp2
    exact bodyPost_ret (v := .agg #[.int .i64 5, .slice none 0 0, .slice none 0 0, .int .i64 0]) (by simp [results, Try.results46, go_sem, set4_0 r0, set4_1 r1, set4_2 r2, set4_3 r3]) rfl (vs_bad hn.out B1.out)
  by_cases hax2 : (xs.length : Int) ≤ axis
  · have hn := hide (Hr.out.trans (hbr.out.trans (if_neg (fun q => by omega))))
    go_wp2
    exact bodyPost_ret (v := .agg #[.int .i64 5, .slice none 0 0, .slice none 0 0, .int .i64 0]) (by simp [results, Try.results46, go_sem, set4_0 r0, set4_1 r1, set4_2 r2, set4_3 r3]) rfl (vs_bad hn.out B1.out)
  have hb2 : Hid ((c, L, S, o) = (if step ≠ 0 ∧ okStep start = true ∧ okStep stop = true ∧ okStep step = true then
        (0, xs.set axis.toNat (slC xs axis.toNat start stop step), slS xs ss axis.toNat (slC xs axis.toNat start stop step) step, slO xs ss axis.toNat (slC xs axis.toNat start stop step) (slF xs axis.toNat start step) off)
      else (8, [], [], 0))) := Hr.out.trans (hbr.out.trans (if_pos ⟨by omega, by omega⟩))
  by_cases hc0 : step = 0
  · have hn := hide (hb2.out.trans (if_neg (fun q => q.1 hc0)))
    subst hc0
    go_wp2
    exact bodyPost_ret (v := .agg #[.int .i64 8, .slice none 0 0, .slice none 0 0, .int .i64 0]) (by simp [results, Try.results46, go_sem, set4_0 r0, set4_1 r1, set4_2 r2, set4_3 r3]) rfl (vs_bad hn.out B1.out)
  have hc0b : (step == 0) = false := by simp [hc0]
  by_cases hc1 : step < -1000000
  · have hn := hide (hb2.out.trans (if_neg (fun q => by have := of_decide_eq_true q.2.2.2; omega)))
    go_wp2
    exact bodyPost_ret (v := .agg #[.int .i64 8, .slice none 0 0, .slice none 0 0, .int .i64 0]) (by simp [results, Try.results46, go_sem, set4_0 r0, set4_1 r1, set4_2 r2, set4_3 r3]) rfl (vs_bad hn.out B1.out)
  by_cases hc2 : 1000000 < step
  · have hn := hide (hb2.out.trans (if_neg (fun q => by have := of_decide_eq_true q.2.2.2; omega)))
    go_wp2
    exact bodyPost_ret (v := .agg #[.int .i64 8, .slice none 0 0, .slice none 0 0, .int .i64 0]) (by simp [results, Try.results46, go_sem, set4_0 r0, set4_1 r1, set4_2 r2, set4_3 r3]) rfl (vs_bad hn.out B1.out)
  by_cases hc3 : start < -1000000
  · have hn := hide (hb2.out.trans (if_neg (fun q => by have := of_decide_eq_true q.2.1; omega)))
    go_wp2
    exact bodyPost_ret (v := .agg #[.int .i64 8, .slice none 0 0, .slice none 0 0, .int .i64 0]) (by simp [results, Try.results46, go_sem, set4_0 r0, set4_1 r1, set4_2 r2, set4_3 r3]) rfl (vs_bad hn.out B1.out)
  by_cases hc4 : 1000000 < start
  · have hn := hide (hb2.out.trans (if_neg (fun q => by have := of_decide_eq_true q.2.1; omega)))
    go_wp2
    exact bodyPost_ret (v := .agg #[.int .i64 8, .slice none 0 0, .slice none 0 0, .int .i64 0]) (by simp [results, Try.results46, go_sem, set4_0 r0, set4_1 r1, set4_2 r2, set4_3 r3]) rfl (vs_bad hn.out B1.out)
  by_cases hc5 : stop < -1000000
  · have hn := hide (hb2.out.trans (if_neg (fun q => by have := of_decide_eq_true q.2.2.1; omega)))
    go_wp2
    exact bodyPost_ret (v := .agg #[.int .i64 8, .slice none 0 0, .slice none 0 0, .int .i64 0]) (by simp [results, Try.results46, go_sem, set4_0 r0, set4_1 r1, set4_2 r2, set4_3 r3]) rfl (vs_bad hn.out B1.out)
  by_cases hc6 : 1000000 < stop
  · have hn := hide (hb2.out.trans (if_neg (fun q => by have := of_decide_eq_true q.2.2.1; omega)))
    go_wp2
    exact bodyPost_ret (v := .agg #[.int .i64 8, .slice none 0 0, .slice none 0 0, .int .i64 0]) (by simp [results, Try.results46, go_sem, set4_0 r0, set4_1 r1, set4_2 r2, set4_3 r3]) rfl (vs_bad hn.out B1.out)
  exact absurd ⟨HGV.out, ⟨by omega, by omega⟩, hc0, decide_eq_true ⟨by omega, by omega⟩, decide_eq_true ⟨by omega, by omega⟩, decide_eq_true ⟨by omega, by omega⟩⟩ hall
theorem sSL_any {w : World} {vS vT : Value} {xs ss : List Int} (hS : Ints w vS xs) (hT : Ints w vT ss) (off axis start stop step : Int) (lx : xs.length ≤ 1048576) (ls : ss.length ≤ 1048576) {c : Int} {L S : List Int} {o : Int} (hr : slL xs ss off axis start stop step = (c, L, S, o)) :
    Calls Try.prog 46 #[.agg #[vS, vT, .int .i64 off], .int .i64 axis, .int .i64 start, .int .i64 stop, .int .i64 step] w fun e w' => VSOk w c L S o e w' :=
  (sSL_own hS hT off axis start stop step lx ls hr).mono fun e w' h => h.old
end Go.Proofs.Ytanbgpmbccianaa
