import Derived.Test.YtiekkninnjffpaaSliced
namespace Go.Proofs.Ytiekkninnjffpaa
open Go.ChangeShapes Go.RowKit
set_option linter.unusedSimpArgs false
set_option linter.unusedVariables false

theorem vint2 {a b : Int} (h : Value.int .i64 a = Value.int .i64 b) : a = b := by injection h
def slF (xs : List Int) (a : Nat) (start step : Int) : Int := rightL start (xs.getD a 0) step
def slC (xs : List Int) (a : Nat) (start stop step : Int) : Int := cntS (slF xs a start step) (rightL stop (xs.getD a 0) step) step
def slL (xs ss : List Int) (off axis start stop step : Int) : Int × List Int × List Int × Int :=
  if ValidV xs ss off then
    (if 0 ≤ axis ∧ axis < xs.length then
      (if step ≠ 0 ∧ okStep start = true ∧ okStep stop = true ∧ okStep step = true then
        (0, xs.set axis.toNat (slC xs axis.toNat start stop step), slS xs ss axis.toNat (slC xs axis.toNat start stop step) step, slO xs ss axis.toNat (slC xs axis.toNat start stop step) (slF xs axis.toNat start step) off)
      else (8, [], [], 0))
    else (5, [], [], 0))
  else (12, [], [], 0)

set_option maxRecDepth 100000 in
set_option maxHeartbeats 4000000 in
theorem iSL_any {w : World} {vS vT : Value} {xs ss : List Int} (hS : Ints w vS xs) (hT : Ints w vT ss) (off axis start stop step : Int) (lx : xs.length ≤ 1048576) (ls : ss.length ≤ 1048576) {c : Int} {L S : List Int} {o : Int} (hr : slL xs ss off axis start stop step = (c, L, S, o)) :
    Calls Try.prog 44 #[.agg #[vS, vT, .int .i64 off], .int .i64 axis, .int .i64 start, .int .i64 stop, .int .i64 step] w fun e w' => VROk w c L S o e w' := by
  have Hr := hide hr.symm
  clear hr
  have x0 : Ext w ((w.alloc (.cells #[vS, vT, .int .i64 off] 27)).alloc (.cells #[.int .i64 0, .slice none 0 0, .slice none 0 0, .int .i64 0] 43)) := ((Ext.refl w).alloc _ _).alloc _ _
  have n2 := fun j => new_cell (w.alloc (.cells #[vS, vT, .int .i64 off] 27)) #[.int .i64 0, .slice none 0 0, .slice none 0 0, .int .i64 0] 43 (w.heap.size + 1) (by simp) j
  have q0 : ((w.alloc (.cells #[vS, vT, .int .i64 off] 27)).alloc (.cells #[.int .i64 0, .slice none 0 0, .slice none 0 0, .int .i64 0] 43)).cell? ⟨w.heap.size + 1, 0, none⟩ = some (.int .i64 0) := n2 0
  have q1 : ((w.alloc (.cells #[vS, vT, .int .i64 off] 27)).alloc (.cells #[.int .i64 0, .slice none 0 0, .slice none 0 0, .int .i64 0] 43)).cell? ⟨w.heap.size + 1, 1, none⟩ = some (.slice none 0 0) := n2 1
  have q2 : ((w.alloc (.cells #[vS, vT, .int .i64 off] 27)).alloc (.cells #[.int .i64 0, .slice none 0 0, .slice none 0 0, .int .i64 0] 43)).cell? ⟨w.heap.size + 1, 2, none⟩ = some (.slice none 0 0) := n2 2
  have q3 : ((w.alloc (.cells #[vS, vT, .int .i64 off] 27)).alloc (.cells #[.int .i64 0, .slice none 0 0, .slice none 0 0, .int .i64 0] 43)).cell? ⟨w.heap.size + 1, 3, none⟩ = some (.int .i64 0) := n2 3
  have X0 := hide x0
  have HS := hide (hS.ext x0)
  have HT := hide (hT.ext x0)
  have sz0 : Hid (w.heap.size + 2 ≤ ((w.alloc (.cells #[vS, vT, .int .i64 off] 27)).alloc (.cells #[.int .i64 0, .slice none 0 0, .slice none 0 0, .int .i64 0] 43)).heap.size) := by show w.heap.size + 2 ≤ ((w.alloc (.cells #[vS, vT, .int .i64 off] 27)).alloc (.cells #[.int .i64 0, .slice none 0 0, .slice none 0 0, .int .i64 0] 43)).heap.size; simp
  obtain ⟨sa, ca, rfl, _⟩ := hS
  obtain ⟨sb, cb, rfl, _⟩ := hT
  clear x0 n2
  go_enter Try.func44, Try.ntmps44
  go_wp2_with fail
  refine (fixView_any HS.out HT.out off lx ls).mono ?_
  rintro e w1 ⟨A, rfl, hA, ⟨a0, a1, a2, a3, a4, a5, a6, a7, a8, a9, rfl⟩, x1⟩
  have y1 : Ext w1 (w1.alloc (.cells #[.int .i64 a0, .int .i64 a1, .int .i64 a2, .int .i64 a3, .int .i64 a4, .int .i64 a5, .int .i64 a6, .int .i64 a7, .int .i64 a8, .int .i64 a9] 64)) := (Ext.refl w1).alloc _ _
  have n1 := fun j => new_cell w1 #[.int .i64 a0, .int .i64 a1, .int .i64 a2, .int .i64 a3, .int .i64 a4, .int .i64 a5, .int .i64 a6, .int .i64 a7, .int .i64 a8, .int .i64 a9] 64 w1.heap.size rfl j
  have f0 : (w1.alloc (.cells #[.int .i64 a0, .int .i64 a1, .int .i64 a2, .int .i64 a3, .int .i64 a4, .int .i64 a5, .int .i64 a6, .int .i64 a7, .int .i64 a8, .int .i64 a9] 64)).cell? ⟨w1.heap.size, 0, none⟩ = some (.int .i64 a0) := n1 0
  have f1 : (w1.alloc (.cells #[.int .i64 a0, .int .i64 a1, .int .i64 a2, .int .i64 a3, .int .i64 a4, .int .i64 a5, .int .i64 a6, .int .i64 a7, .int .i64 a8, .int .i64 a9] 64)).cell? ⟨w1.heap.size, 1, none⟩ = some (.int .i64 a1) := n1 1
  have f2 : (w1.alloc (.cells #[.int .i64 a0, .int .i64 a1, .int .i64 a2, .int .i64 a3, .int .i64 a4, .int .i64 a5, .int .i64 a6, .int .i64 a7, .int .i64 a8, .int .i64 a9] 64)).cell? ⟨w1.heap.size, 2, none⟩ = some (.int .i64 a2) := n1 2
  have f3 : (w1.alloc (.cells #[.int .i64 a0, .int .i64 a1, .int .i64 a2, .int .i64 a3, .int .i64 a4, .int .i64 a5, .int .i64 a6, .int .i64 a7, .int .i64 a8, .int .i64 a9] 64)).cell? ⟨w1.heap.size, 3, none⟩ = some (.int .i64 a3) := n1 3
  have f4 : (w1.alloc (.cells #[.int .i64 a0, .int .i64 a1, .int .i64 a2, .int .i64 a3, .int .i64 a4, .int .i64 a5, .int .i64 a6, .int .i64 a7, .int .i64 a8, .int .i64 a9] 64)).cell? ⟨w1.heap.size, 4, none⟩ = some (.int .i64 a4) := n1 4
  have f5 : (w1.alloc (.cells #[.int .i64 a0, .int .i64 a1, .int .i64 a2, .int .i64 a3, .int .i64 a4, .int .i64 a5, .int .i64 a6, .int .i64 a7, .int .i64 a8, .int .i64 a9] 64)).cell? ⟨w1.heap.size, 5, none⟩ = some (.int .i64 a5) := n1 5
  have f6 : (w1.alloc (.cells #[.int .i64 a0, .int .i64 a1, .int .i64 a2, .int .i64 a3, .int .i64 a4, .int .i64 a5, .int .i64 a6, .int .i64 a7, .int .i64 a8, .int .i64 a9] 64)).cell? ⟨w1.heap.size, 6, none⟩ = some (.int .i64 a6) := n1 6
  have f7 : (w1.alloc (.cells #[.int .i64 a0, .int .i64 a1, .int .i64 a2, .int .i64 a3, .int .i64 a4, .int .i64 a5, .int .i64 a6, .int .i64 a7, .int .i64 a8, .int .i64 a9] 64)).cell? ⟨w1.heap.size, 7, none⟩ = some (.int .i64 a7) := n1 7
  have f8 : (w1.alloc (.cells #[.int .i64 a0, .int .i64 a1, .int .i64 a2, .int .i64 a3, .int .i64 a4, .int .i64 a5, .int .i64 a6, .int .i64 a7, .int .i64 a8, .int .i64 a9] 64)).cell? ⟨w1.heap.size, 8, none⟩ = some (.int .i64 a8) := n1 8
  have f9 : (w1.alloc (.cells #[.int .i64 a0, .int .i64 a1, .int .i64 a2, .int .i64 a3, .int .i64 a4, .int .i64 a5, .int .i64 a6, .int .i64 a7, .int .i64 a8, .int .i64 a9] 64)).cell? ⟨w1.heap.size, 9, none⟩ = some (.int .i64 a9) := n1 9
  have r0 := y1.box (x1.box q0)
  have r1 := y1.box (x1.box q1)
  have r2 := y1.box (x1.box q2)
  have r3 := y1.box (x1.box q3)
  have Y1 := hide ((X0.out.trans x1).trans y1)
  have sz1 : Hid (w.heap.size + 2 ≤ (w1.alloc (.cells #[.int .i64 a0, .int .i64 a1, .int .i64 a2, .int .i64 a3, .int .i64 a4, .int .i64 a5, .int .i64 a6, .int .i64 a7, .int .i64 a8, .int .i64 a9] 64)).heap.size) := Nat.le_trans sz0.out (Below.size (x1.trans y1).bl)
  have rf := fun o => Y1.out.unfrozen (b := w.heap.size + 1) (by omega) o
  have HA := hide hA
  clear hA n1 y1 x1 HS HT q0 q1 q2 q3
  cases hv : (dcValidV xs ss off)
  · have hn := hide (Hr.out.trans (show slL xs ss off axis start stop step = (12, [], [], 0) from if_neg (of_decide_eq_false hv)))
    clear hv
    go_wp2
    exact bodyPost_ret (v := .agg #[.int .i64 12, .slice none 0 0, .slice none 0 0, .int .i64 0]) (by simp [results, Try.results44, go_sem, set4_0 r0, set4_1 r1, set4_2 r2, set4_3 r3]) rfl (vr_bad hn.out Y1.out.bl sz1.out)
  have gv : ValidV xs ss off := of_decide_eq_true hv
  have hA := HA.out gv
  have hbr : Hid (slL xs ss off axis start stop step = (if 0 ≤ axis ∧ axis < xs.length then
      (if step ≠ 0 ∧ okStep start = true ∧ okStep stop = true ∧ okStep step = true then
        (0, xs.set axis.toNat (slC xs axis.toNat start stop step), slS xs ss axis.toNat (slC xs axis.toNat start stop step) step, slO xs ss axis.toNat (slC xs axis.toNat start stop step) (slF xs axis.toNat start step) off)
      else (8, [], [], 0))
    else (5, [], [], 0))) := if_pos gv
  have HGV := hide gv
  have hx4 := gv.1.1
  have E0 : Hid (a0 = (xs.length : Int)) := vint2 (congrArg (fun (A : Array Value) => A.getD 0 undef) hA)
  have HA2 := hide hA
  clear hA HA gv
  have e0 := E0.out
  subst e0
  generalize hvb : (dcValidV xs ss off) = vb at hv
  subst hv
  clear hvb
  by_cases hax : axis < 0
  · have hn := hide (Hr.out.trans (hbr.out.trans (if_neg (fun q => by omega))))
    go_wp2
    exact bodyPost_ret (v := .agg #[.int .i64 5, .slice none 0 0, .slice none 0 0, .int .i64 0]) (by simp [results, Try.results44, go_sem, set4_0 r0, set4_1 r1, set4_2 r2, set4_3 r3]) rfl (vr_bad hn.out Y1.out.bl sz1.out)
  by_cases hax2 : (xs.length : Int) ≤ axis
  · have hn := hide (Hr.out.trans (hbr.out.trans (if_neg (fun q => by omega))))
    go_wp2
    exact bodyPost_ret (v := .agg #[.int .i64 5, .slice none 0 0, .slice none 0 0, .int .i64 0]) (by simp [results, Try.results44, go_sem, set4_0 r0, set4_1 r1, set4_2 r2, set4_3 r3]) rfl (vr_bad hn.out Y1.out.bl sz1.out)
  have hb2 : Hid ((c, L, S, o) = (if step ≠ 0 ∧ okStep start = true ∧ okStep stop = true ∧ okStep step = true then
        (0, xs.set axis.toNat (slC xs axis.toNat start stop step), slS xs ss axis.toNat (slC xs axis.toNat start stop step) step, slO xs ss axis.toNat (slC xs axis.toNat start stop step) (slF xs axis.toNat start step) off)
      else (8, [], [], 0))) := Hr.out.trans (hbr.out.trans (if_pos ⟨by omega, by omega⟩))
  by_cases hs0 : step = 0
  · have hn := hide (hb2.out.trans (if_neg (fun q => q.1 hs0)))
    subst hs0
    go_wp2_with (go_at_call 72; refine (isStep_any _ _).mono ?_; rintro e w' ⟨rfl, rfl⟩)
    exact bodyPost_ret (v := .agg #[.int .i64 8, .slice none 0 0, .slice none 0 0, .int .i64 0]) (by simp [results, Try.results44, go_sem, set4_0 r0, set4_1 r1, set4_2 r2, set4_3 r3]) rfl (vr_bad hn.out Y1.out.bl sz1.out)
  have hs0b : (step == 0) = false := by simp [hs0]
  cases hk1 : okStep start
  · have hn := hide (hb2.out.trans (if_neg (fun q => by rw [hk1] at q; exact absurd q.2.1 (by simp))))
    go_wp2_with (go_at_call 72; refine (isStep_any _ _).mono ?_; rintro e w' ⟨rfl, rfl⟩)
    exact bodyPost_ret (v := .agg #[.int .i64 8, .slice none 0 0, .slice none 0 0, .int .i64 0]) (by simp [results, Try.results44, go_sem, set4_0 r0, set4_1 r1, set4_2 r2, set4_3 r3]) rfl (vr_bad hn.out Y1.out.bl sz1.out)
  cases hk2 : okStep stop
  · have hn := hide (hb2.out.trans (if_neg (fun q => by rw [hk2] at q; exact absurd q.2.2.1 (by simp))))
    go_wp2_with (go_at_call 72; refine (isStep_any _ _).mono ?_; rintro e w' ⟨rfl, rfl⟩)
    exact bodyPost_ret (v := .agg #[.int .i64 8, .slice none 0 0, .slice none 0 0, .int .i64 0]) (by simp [results, Try.results44, go_sem, set4_0 r0, set4_1 r1, set4_2 r2, set4_3 r3]) rfl (vr_bad hn.out Y1.out.bl sz1.out)
  cases hk3 : okStep step
  · have hn := hide (hb2.out.trans (if_neg (fun q => by rw [hk3] at q; exact absurd q.2.2.2 (by simp))))
    go_wp2_with (go_at_call 72; refine (isStep_any _ _).mono ?_; rintro e w' ⟨rfl, rfl⟩)
    exact bodyPost_ret (v := .agg #[.int .i64 8, .slice none 0 0, .slice none 0 0, .int .i64 0]) (by simp [results, Try.results44, go_sem, set4_0 r0, set4_1 r1, set4_2 r2, set4_3 r3]) rfl (vr_bad hn.out Y1.out.bl sz1.out)
  have hn0 := hide (hb2.out.trans (if_pos ⟨hs0, hk1, hk2, hk3⟩))
  have o1 : -1000000 ≤ start ∧ start ≤ 1000000 := of_decide_eq_true hk1
  have o2 : -1000000 ≤ stop ∧ stop ≤ 1000000 := of_decide_eq_true hk2
  have o3 : -1000000 ≤ step ∧ step ≤ 1000000 := of_decide_eq_true hk3
  obtain ⟨ax, rfl⟩ : ∃ ax : Nat, axis = (ax : Int) := ⟨axis.toNat, by omega⟩
  have haxl : ax < xs.length := by omega
  have hn1 := hide (hn0.out)
  rw [Int.toNat_natCast] at hn1
  have hSl : Hid (∀ W, Calls Try.prog 73 #[.agg #[.int .i64 xs.length, .int .i64 a1, .int .i64 a2, .int .i64 a3, .int .i64 a4, .int .i64 a5, .int .i64 a6, .int .i64 a7, .int .i64 a8, .int .i64 a9], .int .i64 ax, .int .i64 start, .int .i64 stop, .int .i64 step] W fun e w' => SlOk W (xs.set ax (slC xs ax start stop step)) (slS xs ss ax (slC xs ax start stop step) step) (slO xs ss ax (slC xs ax start stop step) (slF xs ax start step) off) e w') := fun W => by
    rw [HA2.out]
    exact sliced_any W xs ss off ax start stop step hx4 haxl HGV.out.2.1 HGV.out.1.2.1 HGV.out.2.2.2.1 HGV.out.2.2.1 o1 o2 o3 hs0 _ _ rfl rfl
  have hV : Hid (∀ W, Calls Try.prog 64 #[.agg (vw (xs.set ax (slC xs ax start stop step)) (slS xs ss ax (slC xs ax start stop step) step) (slO xs ss ax (slC xs ax start stop step) (slF xs ax start step) off))] W fun e w' => VOk W (xs.set ax (slC xs ax start stop step)) (slS xs ss ax (slC xs ax start stop step) step) (slO xs ss ax (slC xs ax start stop step) (slF xs ax start step) off) e w') := fun W => view_any W _ _ _ (by rw [List.length_set]; exact hx4) (by rw [slS_len, List.length_set]; exact HGV.out.2.1)
  generalize xs.set ax (slC xs ax start stop step) = X at hn1 hSl hV
  generalize slS xs ss ax (slC xs ax start stop step) step = Y at hn1 hSl hV
  generalize slO xs ss ax (slC xs ax start stop step) (slF xs ax start step) off = O at hn1 hSl hV
  clear hn0 HA2 HGV hb2 hbr
  go_wp2_with (go_at_call 72; refine (isStep_any _ _).mono ?_; rintro e w' ⟨rfl, rfl⟩)
  refine (hSl.out _).mono ?_
  rintro e w2 ⟨rfl, x2⟩
  have v0 := x2.box r0
  have v1 := x2.box r1
  have v2 := x2.box r2
  have v3 := x2.box r3
  have Y2 := hide (Y1.out.trans x2)
  have sz2 : Hid (w.heap.size + 2 ≤ w2.heap.size) := Nat.le_trans sz1.out (Below.size x2.bl)
  have vf := fun o => Y2.out.unfrozen (b := w.heap.size + 1) (by omega) o
  clear x2 r0 r1 r2 r3 rf f0 f1 f2 f3 f4 f5 f6 f7 f8 f9 hSl
  go_wp2_with fail
  refine (hV.out _).mono ?_
  rintro e w4 ⟨sa4, sb4, ca4, cb4, rfl, hT4, x4⟩
  have z0 := Bel.box x4 v0
  have z1 := Bel.box x4 v1
  have z2 := Bel.box x4 v2
  have z3 := Bel.box x4 v3
  have HT4 := hide hT4
  have HB4 := hide (Bel.tr Y2.out.bl x4)
  have zf : ∀ o, w4.frozen? ⟨w.heap.size + 1, o, none⟩ = false := fun o => (Below.frozen x4 (p := ⟨w.heap.size + 1, o, none⟩) (cell_lt v0)).trans (vf o)
  clear hT4 x4 v0 v1 v2 v3 vf hV
  go_wp2
  exact bodyPost_ret (v := .agg #[.int .i64 0, .slice sa4 X.length ca4, .slice sb4 Y.length cb4, .int .i64 O]) (by simp [results, Try.results44, go_sem, set4_0 z0, set4_1 z1, set4_2 z2, set4_3 z3]) rfl (vr_good hn1.out HB4.out sz2.out HT4.out)
end Go.Proofs.Ytiekkninnjffpaa
