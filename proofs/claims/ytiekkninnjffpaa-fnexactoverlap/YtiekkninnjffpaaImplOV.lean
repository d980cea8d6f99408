import Derived.Test.YtiekkninnjffpaaMeets
import Derived.Test.YtiekkninnjffpaaImplWR
namespace Go.Proofs.Ytiekkninnjffpaa
open Go.ChangeShapes Go.RowKit
set_option linter.unusedSimpArgs false
set_option linter.unusedVariables false

/-- Two views that share a place. -/
abbrev OvV (xs ss : List Int) (off : Int) (ys ts : List Int) (ogg : Int) : Prop := ValidV xs ss off ∧ ValidV ys ts ogg ∧ ∃ p ∈ offsL ys ts ogg, p ∈ offsL xs ss off
def dcOvV (xs ss : List Int) (off : Int) (ys ts : List Int) (ogg : Int) : Bool := decide (OvV xs ss off ys ts ogg)
theorem dcOvV_t {xs ss : List Int} {off : Int} {ys ts : List Int} {ogg : Int} (h : OvV xs ss off ys ts ogg) : dcOvV xs ss off ys ts ogg = true := decide_eq_true h
theorem dcOvV_f {xs ss : List Int} {off : Int} {ys ts : List Int} {ogg : Int} (h : ¬ OvV xs ss off ys ts ogg) : dcOvV xs ss off ys ts ogg = false := decide_eq_false h

theorem meets_any {xs ss ys ts : List Int} {off ogg : Int} (hv : ValidV xs ss off) (hu : ValidV ys ts ogg) (w : World) :
    Calls Try.prog 60 #[.agg (vw xs ss off), .agg (vw ys ts ogg)] w fun e w' => e = .returned (.bool (decide (∃ p ∈ offsL ys ts ogg, p ∈ offsL xs ss off))) ∧ Bel w w' :=
  callsIn_wide.1 (meets_in 3 (Nat.le_refl _) xs ss ys ts off ogg w
    (fun n Bf W hB => placesK n Bf xs ss off hv.1.1 hv.2.1 hv.1.2.1 hv.1.2.2 hv.2.2.2.1 hv.2.2.1 (offs_in hv) W hB)
    (fun n Bf W hB => placesK n Bf ys ts ogg hu.1.1 hu.2.1 hu.1.2.1 hu.1.2.2 hu.2.2.2.1 hu.2.2.1 (offs_in hu) W hB))

set_option maxRecDepth 100000 in
set_option maxHeartbeats 2000000 in
theorem iOV_any {w : World} {vS vT uS uT : Value} {xs ss ys ts : List Int} (hS : Ints w vS xs) (hT : Ints w vT ss) (gS : Ints w uS ys) (gT : Ints w uT ts) (off ogg : Int) (lx : xs.length ≤ 1048576) (ls : ss.length ≤ 1048576) (ly : ys.length ≤ 1048576) (lt : ts.length ≤ 1048576) :
    Calls Try.prog 29 #[.agg #[vS, vT, .int .i64 off], .agg #[uS, uT, .int .i64 ogg]] w fun e w' => e = .returned (.bool (dcOvV xs ss off ys ts ogg)) ∧ Bel w w' := by
  have x0 : Ext w ((w.alloc (.cells #[vS, vT, .int .i64 off] 27)).alloc (.cells #[uS, uT, .int .i64 ogg] 27)) := ((Ext.refl w).alloc _ _).alloc _ _
  have X0 := hide x0
  have HS := hide (hS.ext x0)
  have HT := hide (hT.ext x0)
  have GS := hide (gS.ext x0)
  have GT := hide (gT.ext x0)
  have n2 := fun j => new_cell (w.alloc (.cells #[vS, vT, .int .i64 off] 27)) #[uS, uT, .int .i64 ogg] 27 (w.heap.size + 1) (by simp) j
  have k0 := n2 0
  have k1 := n2 1
  have k2 := n2 2
  clear n2
  obtain ⟨sa, cap, rfl, _⟩ := hS
  obtain ⟨ta, dap, rfl, _⟩ := hT
  obtain ⟨ua, uap, rfl, _⟩ := gS
  obtain ⟨va, vap, rfl, _⟩ := gT
  clear x0
  go_enter Try.func29, Try.ntmps29
  go_wp2_with fail
  refine (fixView_any HS.out HT.out off lx ls).mono ?_
  rintro e w1 ⟨A, rfl, hA, ⟨a0, a1, a2, a3, a4, a5, a6, a7, a8, a9, rfl⟩, x1⟩
  have X1 := hide (X0.out.trans x1)
  have y1 : Ext w1 (w1.alloc (.cells #[.int .i64 a0, .int .i64 a1, .int .i64 a2, .int .i64 a3, .int .i64 a4, .int .i64 a5, .int .i64 a6, .int .i64 a7, .int .i64 a8, .int .i64 a9] 64)) := (Ext.refl w1).alloc _ _
  have X2 := hide (X1.out.trans y1)
  have GS1 := hide ((GS.out.ext x1).ext y1)
  have GT1 := hide ((GT.out.ext x1).ext y1)
  have m0 := y1.box (x1.box k0)
  have m1 := y1.box (x1.box k1)
  have m2 := y1.box (x1.box k2)
  have n1 := fun j => new_cell w1 #[.int .i64 a0, .int .i64 a1, .int .i64 a2, .int .i64 a3, .int .i64 a4, .int .i64 a5, .int .i64 a6, .int .i64 a7, .int .i64 a8, .int .i64 a9] 64 w1.heap.size rfl j
  have r0 := n1 0
  have r1 := n1 1
  have r2 := n1 2
  have r3 := n1 3
  have r4 := n1 4
  have r5 := n1 5
  have r6 := n1 6
  have r7 := n1 7
  have r8 := n1 8
  have r9 := n1 9
  clear x1 y1 k0 k1 k2 n1 X0 X1 HS HT GS GT
  go_wp2_with fail
  generalize hV1 : w1.alloc (.cells #[.int .i64 a0, .int .i64 a1, .int .i64 a2, .int .i64 a3, .int .i64 a4, .int .i64 a5, .int .i64 a6, .int .i64 a7, .int .i64 a8, .int .i64 a9] 64) = V1 at X2 GS1 GT1 m0 m1 m2 r0 r1 r2 r3 r4 r5 r6 r7 r8 r9 ⊢
  clear hV1
  refine (fixView_any GS1.out GT1.out ogg ly lt).mono ?_
  rintro e w3 ⟨C, rfl, hC, ⟨c0, c1, c2, c3, c4, c5, c6, c7, c8, c9, rfl⟩, x3⟩
  have X3 := hide (X2.out.trans x3)
  have y3 : Ext w3 (w3.alloc (.cells #[.int .i64 c0, .int .i64 c1, .int .i64 c2, .int .i64 c3, .int .i64 c4, .int .i64 c5, .int .i64 c6, .int .i64 c7, .int .i64 c8, .int .i64 c9] 64)) := (Ext.refl w3).alloc _ _
  have X4 := hide (X3.out.trans y3)
  have s0 := y3.box (x3.box r0)
  have s1 := y3.box (x3.box r1)
  have s2 := y3.box (x3.box r2)
  have s3 := y3.box (x3.box r3)
  have s4 := y3.box (x3.box r4)
  have s5 := y3.box (x3.box r5)
  have s6 := y3.box (x3.box r6)
  have s7 := y3.box (x3.box r7)
  have s8 := y3.box (x3.box r8)
  have s9 := y3.box (x3.box r9)
  clear x3 y3 X2 X3 r0 r1 r2 r3 r4 r5 r6 r7 r8 r9 m0 m1 m2 GS1 GT1
  by_cases hv : ValidV xs ss off
  · by_cases hu : ValidV ys ts ogg
    · have HD : Hid (∀ W, Calls Try.prog 60 #[.agg #[.int .i64 a0, .int .i64 a1, .int .i64 a2, .int .i64 a3, .int .i64 a4, .int .i64 a5, .int .i64 a6, .int .i64 a7, .int .i64 a8, .int .i64 a9], .agg #[.int .i64 c0, .int .i64 c1, .int .i64 c2, .int .i64 c3, .int .i64 c4, .int .i64 c5, .int .i64 c6, .int .i64 c7, .int .i64 c8, .int .i64 c9]] W fun e w' => e = .returned (.bool (dcOvV xs ss off ys ts ogg)) ∧ Bel W w') := fun W => by
        rw [hA hv, hC hu]
        have : (dcOvV xs ss off ys ts ogg) = decide (∃ p ∈ offsL ys ts ogg, p ∈ offsL xs ss off) := by
          by_cases h : ∃ p ∈ offsL ys ts ogg, p ∈ offsL xs ss off
          · rw [decide_eq_true h, dcOvV_t (show OvV xs ss off ys ts ogg from ⟨hv, hu, h⟩)]
          · rw [decide_eq_false h, dcOvV_f (fun q : OvV xs ss off ys ts ogg => h q.2.2)]
        rw [this]
        exact meets_any hv hu W
      rw [dcValidV_t hv, dcValidV_t hu]
      clear hA hv hC hu
      generalize hr : (dcOvV xs ss off ys ts ogg) = r at *
      have Hr := hide hr
      clear hr
      go_wp2_with (go_at_call 60; refine (HD.out _).mono ?_; rintro e w5 ⟨rfl, x5⟩)
      go_ret
      exact ⟨ret_bool Hr.out.symm, Bel.tr X4.out.bl x5⟩
    · have hno : Hid ((dcOvV xs ss off ys ts ogg) = false) := decide_eq_false (fun q => hu q.2.1)
      rw [dcValidV_t hv, dcValidV_f hu]
      clear hA hv hC hu
      go_wp2
      go_ret
      exact ⟨ret_bool hno.out.symm, X4.out.bl⟩
  · have hno : Hid ((dcOvV xs ss off ys ts ogg) = false) := decide_eq_false (fun q => hv q.1)
    rw [dcValidV_f hv]
    generalize (dcValidV ys ts ogg) = b2
    clear hA hv hC
    go_wp2
    go_ret
    exact ⟨ret_bool hno.out.symm, X4.out.bl⟩
end Go.Proofs.Ytiekkninnjffpaa
