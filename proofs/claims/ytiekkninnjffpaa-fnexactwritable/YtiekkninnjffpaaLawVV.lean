import Derived.Test.YtiekkninnjffpaaFixV3
import Derived.Test.YtiekkninnjffpaaViewsM
import Derived.Test.YtiekkninnjffpaaViewsN
import Derived.Test.YtiekkninnjffpaaLawBS
namespace Go.Proofs.Ytiekkninnjffpaa
open Go.ChangeShapes Go.RowKit
set_option linter.unusedSimpArgs false
set_option linter.unusedVariables false

theorem fixView_any {w : World} {vS vT : Value} {xs ss : List Int} (hS : Ints w vS xs) (hT : Ints w vT ss) (off : Int) (lx : xs.length ≤ 1048576) (ls : ss.length ≤ 1048576) :
    Calls Try.prog 53 #[.agg #[vS, vT, .int .i64 off]] w fun e w' => FixVOk w xs ss off e w' := by
  by_cases h : Good xs ∧ ss.length = xs.length ∧ (0 ≤ off ∧ off ≤ 4096)
  · exact fixView_good hS hT off lx ls h.1 h.2.1 h.2.2
  · exact fixView_bad hS hT off lx ls h

set_option maxRecDepth 100000 in
set_option maxHeartbeats 2000000 in
theorem iVV_any {w : World} {vS vT : Value} {xs ss : List Int} (hS : Ints w vS xs) (hT : Ints w vT ss) (off : Int) (lx : xs.length ≤ 1048576) (ls : ss.length ≤ 1048576) :
    Calls Try.prog 16 #[.agg #[vS, vT, .int .i64 off]] w fun e w' => e = .returned (.bool (dcValidV xs ss off)) ∧ Ext w w' := by
  have x0 : Ext w (w.alloc (.cells #[vS, vT, .int .i64 off] 27)) := (Ext.refl w).alloc _ _
  have X0 := hide x0
  have HS := hide (hS.ext x0)
  have HT := hide (hT.ext x0)
  obtain ⟨sa, cap, rfl, _⟩ := hS
  obtain ⟨ta, dap, rfl, _⟩ := hT
  clear x0
  go_enter Try.func16, Try.ntmps16
  go_wp2_with fail
  refine (fixView_any HS.out HT.out off lx ls).mono ?_
  rintro e w1 ⟨A, rfl, _, ⟨a0, a1, a2, a3, a4, a5, a6, a7, a8, a9, rfl⟩, x1⟩
  have X1 := hide (X0.out.trans x1)
  clear x1
  generalize hb : (dcValidV xs ss off) = b
  have Hb := hide hb
  clear hb
  go_wp2
  go_ret
  exact ⟨ret_bool Hb.out.symm, by repeat (first | with_reducible exact X1.out | with_reducible apply Ext.alloc)⟩

set_option maxRecDepth 100000 in
set_option maxHeartbeats 4000000 in
theorem lawVV (w : World) (vS vT : Value) (off : Int) (xs ss : List Int) (hS : Ints w vS xs) (hT : Ints w vT ss) (lx : xs.length ≤ 9223372036854775807) (ls : ss.length ≤ 9223372036854775807) :
    Calls Try.prog 3 #[.agg #[vS, vT, .int .i64 off]] w fun e w' => LawOk w e w' := by
  have x0 : Ext w (w.alloc (.cells #[vS, vT, .int .i64 off] 24)) := (Ext.refl w).alloc _ _
  have X0 := hide x0
  have HS := hide (hS.ext x0)
  have HT := hide (hT.ext x0)
  have n1 := fun j => new_cell w #[vS, vT, .int .i64 off] 24 w.heap.size rfl j
  have k0 : (w.alloc (.cells #[vS, vT, .int .i64 off] 24)).cell? ⟨w.heap.size, 0, none⟩ = some vS := n1 0
  have k1 : (w.alloc (.cells #[vS, vT, .int .i64 off] 24)).cell? ⟨w.heap.size, 1, none⟩ = some vT := n1 1
  have k2 : (w.alloc (.cells #[vS, vT, .int .i64 off] 24)).cell? ⟨w.heap.size, 2, none⟩ = some (.int .i64 off) := n1 2
  obtain ⟨sa, cap, rfl, _⟩ := hS
  obtain ⟨ta, dap, rfl, _⟩ := hT
  clear x0 n1
  by_cases hsz : szL xs.length ss.length < 0
  · go_enter Try.func3, Try.ntmps3
    go_wp2_with fail
    refine (szView_any sa ta xs.length cap ss.length dap off lx ls _).mono ?_
    rintro e w1 ⟨rfl, x1⟩
    have X1 := hide (X0.out.trans x1)
    clear x1
    generalize szL xs.length ss.length = z at hsz ⊢
    go_wp2
    go_ret
    exact ⟨rfl, X1.out.bl⟩
  · have hle : xs.length ≤ 1048576 ∧ ss.length ≤ 1048576 := by
      unfold szL at hsz
      split at hsz
      · omega
      · split at hsz <;> omega
    go_enter Try.func3, Try.ntmps3
    go_wp2_with fail
    refine (szView_any sa ta xs.length cap ss.length dap off lx ls _).mono ?_
    rintro e w1 ⟨rfl, x1⟩
    have X1 := hide (X0.out.trans x1)
    have HS1 := hide (HS.out.ext x1)
    have HT1 := hide (HT.out.ext x1)
    have m0 := x1.box k0
    have m1 := x1.box k1
    have m2 := x1.box k2
    clear x1 k0 k1 k2 HS HT X0
    generalize szL xs.length ss.length = z at hsz ⊢
    go_wp2_with fail
    refine (toView_any HS1.out HT1.out off hle.1 hle.2).mono ?_
    rintro e w2 ⟨b, c, rfl, _, _, _, rb, rc, x2⟩
    have Rb := hide (rb.ints (n := xs.length) (cap := xs.length) rfl)
    have Rc := hide (rc.ints (n := ss.length) (cap := ss.length) rfl)
    have X2 := hide (X1.out.trans x2)
    have HS2 := hide (HS1.out.ext x2)
    have HT2 := hide (HT1.out.ext x2)
    have p0 := x2.box m0
    have p1 := x2.box m1
    have p2 := x2.box m2
    clear rb rc x2 m0 m1 m2 HS1 HT1 X1
    go_wp2_with fail
    refine (sVV_any Rb.out Rc.out off hle.1 hle.2).mono ?_
    rintro e w3 ⟨rfl, x3⟩
    have Z3 := hide (Bel.tr X2.out.bl x3)
    have HS3 := hide (HS2.out.below x3)
    have HT3 := hide (HT2.out.below x3)
    have r0 := Bel.box x3 p0
    have r1 := Bel.box x3 p1
    have r2 := Bel.box x3 p2
    clear x3 p0 p1 p2 Rb Rc HS2 HT2 X2
    generalize hv : (dcValidV xs ss off) = vb
    have Hv := hide hv
    clear hv
    go_wp2_with fail
    refine (toView_any HS3.out HT3.out off hle.1 hle.2).mono ?_
    rintro e w4 ⟨b4, c4, rfl, _, _, _, rb, rc, x4⟩
    have RB := hide (rb.ints (n := xs.length) (cap := xs.length) rfl)
    have RC := hide (rc.ints (n := ss.length) (cap := ss.length) rfl)
    have Z4 := hide (Bel.tr Z3.out x4.bl)
    have HS4 := hide (HS3.out.ext x4)
    have HT4 := hide (HT3.out.ext x4)
    have s0 := x4.box r0
    have s1 := x4.box r1
    have s2 := x4.box r2
    clear rb rc x4 r0 r1 r2 HS3 HT3 Z3
    have y4 : Ext w4 (w4.alloc (.cells #[.slice (some ⟨b4, 0, none⟩) xs.length xs.length, .slice (some ⟨c4, 0, none⟩) ss.length ss.length, .int .i64 off] 27)) := (Ext.refl w4).alloc _ _
    have nx := fun j => new_cell w4 #[.slice (some ⟨b4, 0, none⟩) xs.length xs.length, .slice (some ⟨c4, 0, none⟩) ss.length ss.length, .int .i64 off] 27 w4.heap.size rfl j
    have t0 : (w4.alloc (.cells #[.slice (some ⟨b4, 0, none⟩) xs.length xs.length, .slice (some ⟨c4, 0, none⟩) ss.length ss.length, .int .i64 off] 27)).cell? ⟨w4.heap.size, 0, none⟩ = some (.slice (some ⟨b4, 0, none⟩) xs.length xs.length) := nx 0
    have t1 : (w4.alloc (.cells #[.slice (some ⟨b4, 0, none⟩) xs.length xs.length, .slice (some ⟨c4, 0, none⟩) ss.length ss.length, .int .i64 off] 27)).cell? ⟨w4.heap.size, 1, none⟩ = some (.slice (some ⟨c4, 0, none⟩) ss.length ss.length) := nx 1
    have t2 : (w4.alloc (.cells #[.slice (some ⟨b4, 0, none⟩) xs.length xs.length, .slice (some ⟨c4, 0, none⟩) ss.length ss.length, .int .i64 off] 27)).cell? ⟨w4.heap.size, 2, none⟩ = some (.int .i64 off) := nx 2
    have u0 := y4.box s0
    have u1 := y4.box s1
    have u2 := y4.box s2
    have RB5 := hide (RB.out.ext y4)
    have RC5 := hide (RC.out.ext y4)
    have HS5 := hide (HS4.out.ext y4)
    have HT5 := hide (HT4.out.ext y4)
    have Z5 := hide (Bel.tr Z4.out y4.bl)
    clear y4 nx s0 s1 s2 RB RC HS4 HT4 Z4
    go_wp2_with fail
    refine (iVV_any RB5.out RC5.out off hle.1 hle.2).mono ?_
    rintro e w6 ⟨rfl, x6⟩
    rw [Hv.out]
    have v0 := x6.box t0
    have v1 := x6.box t1
    have v2 := x6.box t2
    have q0 := x6.box u0
    have q1 := x6.box u1
    have q2 := x6.box u2
    have RB6 := hide (RB5.out.ext x6)
    have RC6 := hide (RC5.out.ext x6)
    have HS6 := hide (HS5.out.ext x6)
    have HT6 := hide (HT5.out.ext x6)
    have Z6 := hide (Bel.tr Z5.out x6.bl)
    clear x6 t0 t1 t2 u0 u1 u2 RB5 RC5 HS5 HT5 Z5
    go_wp2_with fail
    have D6 : Ext w6 w6.drew := (Ext.refl w6).drew
    have SA : Hid ((fun w' => w'.cell? ⟨w4.heap.size, 0, none⟩ = some (.slice (some ⟨b4, 0, none⟩) xs.length xs.length) ∧ w'.cell? ⟨w4.heap.size, 1, none⟩ = some (.slice (some ⟨c4, 0, none⟩) ss.length ss.length) ∧ w'.cell? ⟨w4.heap.size, 2, none⟩ = some (.int .i64 off) ∧ w'.cell? ⟨w.heap.size, 0, none⟩ = some (.slice sa xs.length cap) ∧ w'.cell? ⟨w.heap.size, 1, none⟩ = some (.slice ta ss.length dap) ∧ w'.cell? ⟨w.heap.size, 2, none⟩ = some (.int .i64 off)) w6.drew) := ⟨v0, v1, v2, q0, q1, q2⟩
    have RB7 := hide (RB6.out.ext D6)
    have RC7 := hide (RC6.out.ext D6)
    have HS7 := hide (HS6.out.ext D6)
    have HT7 := hide (HT6.out.ext D6)
    have Z7 := hide (Bel.tr Z6.out D6.bl)
    clear D6
    go_region_held3 (fun w' => w'.cell? ⟨w4.heap.size, 0, none⟩ = some (.slice (some ⟨b4, 0, none⟩) xs.length xs.length) ∧ w'.cell? ⟨w4.heap.size, 1, none⟩ = some (.slice (some ⟨c4, 0, none⟩) ss.length ss.length) ∧ w'.cell? ⟨w4.heap.size, 2, none⟩ = some (.int .i64 off) ∧ w'.cell? ⟨w.heap.size, 0, none⟩ = some (.slice sa xs.length cap) ∧ w'.cell? ⟨w.heap.size, 1, none⟩ = some (.slice ta ss.length dap) ∧ w'.cell? ⟨w.heap.size, 2, none⟩ = some (.int .i64 off)) (first | exact SA.out | exact SB'.out | exact SC'.out) (first | (go_at_call 15; refine (toView_any HS7.out HT7.out off hle.1 hle.2).mono ?_; rintro e w8 ⟨b8, c8, rfl, _, _, _, rb, rc, x8⟩; have A8 := hide (rb.ints (n := xs.length) (cap := xs.length) rfl); have B8 := hide (rc.ints (n := ss.length) (cap := ss.length) rfl); have RB8 := hide (RB7.out.ext x8); have RC8 := hide (RC7.out.ext x8); have Z8 := hide (Bel.tr Z7.out x8.bl); have SB' : Hid ((fun w' => w'.cell? ⟨w4.heap.size, 0, none⟩ = some (.slice (some ⟨b4, 0, none⟩) xs.length xs.length) ∧ w'.cell? ⟨w4.heap.size, 1, none⟩ = some (.slice (some ⟨c4, 0, none⟩) ss.length ss.length) ∧ w'.cell? ⟨w4.heap.size, 2, none⟩ = some (.int .i64 off) ∧ w'.cell? ⟨w.heap.size, 0, none⟩ = some (.slice sa xs.length cap) ∧ w'.cell? ⟨w.heap.size, 1, none⟩ = some (.slice ta ss.length dap) ∧ w'.cell? ⟨w.heap.size, 2, none⟩ = some (.int .i64 off)) w8) := ⟨x8.box SA.out.1, x8.box SA.out.2.1, x8.box SA.out.2.2.1, x8.box SA.out.2.2.2.1, x8.box SA.out.2.2.2.2.1, x8.box SA.out.2.2.2.2.2⟩; clear rb rc x8) | (go_at_call 17; refine (eqView_true off RB8.out RC8.out A8.out B8.out hle.1 hle.2).mono ?_; rintro e w9 ⟨rfl, x9⟩; have Z9 := hide (Bel.tr Z8.out x9.bl); have SC' : Hid ((fun w' => w'.cell? ⟨w4.heap.size, 0, none⟩ = some (.slice (some ⟨b4, 0, none⟩) xs.length xs.length) ∧ w'.cell? ⟨w4.heap.size, 1, none⟩ = some (.slice (some ⟨c4, 0, none⟩) ss.length ss.length) ∧ w'.cell? ⟨w4.heap.size, 2, none⟩ = some (.int .i64 off) ∧ w'.cell? ⟨w.heap.size, 0, none⟩ = some (.slice sa xs.length cap) ∧ w'.cell? ⟨w.heap.size, 1, none⟩ = some (.slice ta ss.length dap) ∧ w'.cell? ⟨w.heap.size, 2, none⟩ = some (.int .i64 off)) w9) := ⟨x9.box SB'.out.1, x9.box SB'.out.2.1, x9.box SB'.out.2.2.1, x9.box SB'.out.2.2.2.1, x9.box SB'.out.2.2.2.2.1, x9.box SB'.out.2.2.2.2.2⟩; clear x9))
    all_goals go_wp2
    all_goals go_ret
    all_goals exact ⟨rfl, Z9.out⟩
end Go.Proofs.Ytiekkninnjffpaa
