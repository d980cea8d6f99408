import Derived.Test.YtiekkninnjffpaaSpecOV
import Derived.Test.YtiekkninnjffpaaSzAt
import Derived.Test.YtiekkninnjffpaaLawB
import Derived.Test.YtiekkninnjffpaaLawVV
namespace Go.Proofs.Ytiekkninnjffpaa
open Go.ChangeShapes Go.RowKit
set_option linter.unusedSimpArgs false
set_option linter.unusedVariables false

/-- A view in the box B. -/
structure LC (B : Nat) (W : World) (vS vT : Value) (off : Int) (xs ss : List Int) : Prop where
  a0 : W.cell? ⟨B, 0, none⟩ = some vS
  a1 : W.cell? ⟨B, 1, none⟩ = some vT
  a2 : W.cell? ⟨B, 2, none⟩ = some (.int .i64 off)
  hS : Ints W vS xs
  hT : Ints W vT ss
theorem LC.keep {B : Nat} {W W' : World} {vS vT : Value} {off : Int} {xs ss : List Int} (h : LC B W vS vT off xs ss) (x : Bel W W') : LC B W' vS vT off xs ss :=
  ⟨x.box h.a0, x.box h.a1, x.box h.a2, h.hS.below x, h.hT.below x⟩
theorem LC.start {W : World} {vS vT : Value} {off : Int} {xs ss : List Int} (t B : Nat) (hB : B = W.heap.size) (hS : Ints W vS xs) (hT : Ints W vT ss) : LC B (W.alloc (.cells #[vS, vT, .int .i64 off] t)) vS vT off xs ss := by
  have x : Ext W (W.alloc (.cells #[vS, vT, .int .i64 off] t)) := (Ext.refl W).alloc _ _
  have n := fun j => new_cell W #[vS, vT, .int .i64 off] t B hB j
  exact ⟨n 0, n 1, n 2, hS.ext x, hT.ext x⟩

set_option maxRecDepth 100000 in
set_option maxHeartbeats 8000000 in
theorem lawOV (w : World) (vS vT uS uT : Value) (off ogg : Int) (xs ss ys ts : List Int) (hS : Ints w vS xs) (hT : Ints w vT ss) (gS : Ints w uS ys) (gT : Ints w uT ts) (lx : xs.length ≤ 9223372036854775807) (ls : ss.length ≤ 9223372036854775807) (ly : ys.length ≤ 9223372036854775807) (lt : ts.length ≤ 9223372036854775807) :
    Calls Try.prog 6 #[.agg #[vS, vT, .int .i64 off], .agg #[uS, uT, .int .i64 ogg]] w fun e w' => LawOk w e w' := by
  have x0 : Ext w (w.alloc (.cells #[vS, vT, .int .i64 off] 24)) := (Ext.refl w).alloc _ _
  have y0 : Bel (w.alloc (.cells #[vS, vT, .int .i64 off] 24)) ((w.alloc (.cells #[vS, vT, .int .i64 off] 24)).alloc (.cells #[uS, uT, .int .i64 ogg] 24)) := ((Ext.refl _).alloc _ _).bl
  have A0 := hide ((LC.start (off := off) 24 w.heap.size rfl hS hT).keep y0)
  have C0 := hide (LC.start (off := ogg) 24 (w.heap.size + 1) (by simp) (gS.ext x0) (gT.ext x0))
  have Z0 := hide (Bel.tr x0.bl y0)
  clear x0 y0
  obtain ⟨sa, cap, rfl, _⟩ := hS
  obtain ⟨ta, dap, rfl, _⟩ := hT
  obtain ⟨ua, uap, rfl, _⟩ := gS
  obtain ⟨va, vap, rfl, _⟩ := gT
  have hd := hide (fun (W : World) (p q r s : Value) (h1 : Ints W p xs) (h2 : Ints W q ss) (h3 : Ints W r ys) (h4 : Ints W s ts) l1 l2 l3 l4 => sOV_any h1 h2 h3 h4 off ogg l1 l2 l3 l4)
  have hi := hide (fun (W : World) (p q r s : Value) (h1 : Ints W p xs) (h2 : Ints W q ss) (h3 : Ints W r ys) (h4 : Ints W s ts) l1 l2 l3 l4 => iOV_any h1 h2 h3 h4 off ogg l1 l2 l3 l4)
  generalize (dcOvV xs ss off ys ts ogg) = vb at hd hi
  by_cases hsz : szL xs.length ss.length < 0
  · go_enter Try.func6, Try.ntmps6
    go_wp2_with fail
    refine (szView_any sa ta xs.length cap ss.length dap off lx ls _).mono ?_
    rintro e w1 ⟨rfl, x1⟩
    have Z1 := hide (Bel.tr Z0.out x1.bl)
    clear x1
    generalize szL xs.length ss.length = z at hsz ⊢
    go_wp2
    go_ret
    exact ⟨rfl, Z1.out⟩
  have hle : xs.length ≤ 1048576 ∧ ss.length ≤ 1048576 := by
    unfold szL at hsz
    split at hsz
    · omega
    · split at hsz <;> omega
  have hlz : szL xs.length ss.length ≤ 1048576 := by
    unfold szL
    split
    · omega
    · split <;> omega
  have hlx := hle.1
  have hls := hle.2
  clear hle
  by_cases hsy : szLz (szL xs.length ss.length) ys.length ts.length < 0
  · go_enter Try.func6, Try.ntmps6
    go_wp2_with fail
    refine (szView_any sa ta xs.length cap ss.length dap off lx ls _).mono ?_
    rintro e w1 ⟨rfl, x1⟩
    have C1 := hide (C0.out.keep x1.bl)
    have Z1 := hide (Bel.tr Z0.out x1.bl)
    clear x1
    have ca0 := C1.out.a0
    have ca1 := C1.out.a1
    have ca2 := C1.out.a2
    generalize szL xs.length ss.length = z at hsz hlz hsy ⊢
    go_wp2_with fail
    refine (szView_at ua va ys.length uap ts.length vap ogg ly lt z (by omega) _).mono ?_
    rintro e w2 ⟨rfl, x2⟩
    have Z2 := hide (Bel.tr Z1.out x2.bl)
    clear x2
    generalize szLz z ys.length ts.length = z2 at hsy ⊢
    go_wp2
    go_ret
    exact ⟨rfl, Z2.out⟩
  have hle : ys.length ≤ 1048576 ∧ ts.length ≤ 1048576 := by
    unfold szLz at hsy
    split at hsy
    · omega
    · split at hsy <;> omega
  have hly := hle.1
  have hlt := hle.2
  clear hle
  go_enter Try.func6, Try.ntmps6
  go_wp2_with fail
  refine (szView_any sa ta xs.length cap ss.length dap off lx ls _).mono ?_
  rintro e w1 ⟨rfl, x1⟩
  have A1 := hide (A0.out.keep x1.bl)
  have C1 := hide (C0.out.keep x1.bl)
  have Z1 := hide (Bel.tr Z0.out x1.bl)
  clear x1 A0 C0 Z0
  have ca0 := C1.out.a0
  have ca1 := C1.out.a1
  have ca2 := C1.out.a2
  generalize szL xs.length ss.length = z at hsz hlz hsy ⊢
  go_wp2_with fail
  refine (szView_at ua va ys.length uap ts.length vap ogg ly lt z (by omega) _).mono ?_
  rintro e w2 ⟨rfl, x2⟩
  have D2 : Bel w2 w2.drew := bel_drew w2
  have A2 := hide (A1.out.keep x2.bl)
  have C2 := hide (C1.out.keep x2.bl)
  have Z2 := hide (Bel.tr Z1.out x2.bl)
  have A3 := hide (A2.out.keep D2)
  have C3 := hide (C2.out.keep D2)
  have Z3 := hide (Bel.tr Z2.out D2)
  clear x2 D2 ca0 ca1 ca2 A1 C1 Z1
  generalize szLz z ys.length ts.length = z2 at hsy ⊢
  have aa0 := A2.out.a0
  have aa1 := A2.out.a1
  have aa2 := A2.out.a2
  have ca0 := C2.out.a0
  have ca1 := C2.out.a1
  have ca2 := C2.out.a2
  have SA : Hid ((fun w' => w'.cell? ⟨w.heap.size, 0, none⟩ = some (.slice sa xs.length cap) ∧ w'.cell? ⟨w.heap.size, 1, none⟩ = some (.slice ta ss.length dap) ∧ w'.cell? ⟨w.heap.size, 2, none⟩ = some (.int .i64 off) ∧ w'.cell? ⟨w.heap.size + 1, 0, none⟩ = some (.slice ua ys.length uap) ∧ w'.cell? ⟨w.heap.size + 1, 1, none⟩ = some (.slice va ts.length vap) ∧ w'.cell? ⟨w.heap.size + 1, 2, none⟩ = some (.int .i64 ogg)) w2.drew) := ⟨A3.out.a0, A3.out.a1, A3.out.a2, C3.out.a0, C3.out.a1, C3.out.a2⟩
  have HA := hide (toView_any A3.out.hS A3.out.hT off hlx hls)
  go_wp2_with fail
  go_region_held3 (fun w' => w'.cell? ⟨w.heap.size, 0, none⟩ = some (.slice sa xs.length cap) ∧ w'.cell? ⟨w.heap.size, 1, none⟩ = some (.slice ta ss.length dap) ∧ w'.cell? ⟨w.heap.size, 2, none⟩ = some (.int .i64 off) ∧ w'.cell? ⟨w.heap.size + 1, 0, none⟩ = some (.slice ua ys.length uap) ∧ w'.cell? ⟨w.heap.size + 1, 1, none⟩ = some (.slice va ts.length vap) ∧ w'.cell? ⟨w.heap.size + 1, 2, none⟩ = some (.int .i64 ogg)) (first | with_reducible exact SA.out | with_reducible exact SB'.out | with_reducible exact SC'.out | with_reducible exact SD'.out | fail) (first | (go_at_call 15; refine HA.out.mono ?_; clear HA; rintro e w4 ⟨b4, k4, rfl, _, _, _, rb, rk, x4⟩; have P4 := hide (rb.ints (n := xs.length) (cap := xs.length) rfl); have Q4 := hide (rk.ints (n := ss.length) (cap := ss.length) rfl); have A4 := hide (A3.out.keep x4.bl); have C4 := hide (C3.out.keep x4.bl); have Z4 := hide (Bel.tr Z3.out x4.bl); have SB' : Hid ((fun w' => w'.cell? ⟨w.heap.size, 0, none⟩ = some (.slice sa xs.length cap) ∧ w'.cell? ⟨w.heap.size, 1, none⟩ = some (.slice ta ss.length dap) ∧ w'.cell? ⟨w.heap.size, 2, none⟩ = some (.int .i64 off) ∧ w'.cell? ⟨w.heap.size + 1, 0, none⟩ = some (.slice ua ys.length uap) ∧ w'.cell? ⟨w.heap.size + 1, 1, none⟩ = some (.slice va ts.length vap) ∧ w'.cell? ⟨w.heap.size + 1, 2, none⟩ = some (.int .i64 ogg)) w4) := ⟨A4.out.a0, A4.out.a1, A4.out.a2, C4.out.a0, C4.out.a1, C4.out.a2⟩; have HC := hide (toView_any C4.out.hS C4.out.hT ogg hly hlt); clear rb rk x4) | (go_at_call 15; refine HC.out.mono ?_; clear HC; rintro e w5 ⟨b5, k5, rfl, _, _, _, rb, rk, x5⟩; have P5 := hide (P4.out.ext x5); have Q5 := hide (Q4.out.ext x5); have R5 := hide (rb.ints (n := ys.length) (cap := ys.length) rfl); have S5 := hide (rk.ints (n := ts.length) (cap := ts.length) rfl); have A5 := hide (A4.out.keep x5.bl); have C5 := hide (C4.out.keep x5.bl); have Z5 := hide (Bel.tr Z4.out x5.bl); have SC' : Hid ((fun w' => w'.cell? ⟨w.heap.size, 0, none⟩ = some (.slice sa xs.length cap) ∧ w'.cell? ⟨w.heap.size, 1, none⟩ = some (.slice ta ss.length dap) ∧ w'.cell? ⟨w.heap.size, 2, none⟩ = some (.int .i64 off) ∧ w'.cell? ⟨w.heap.size + 1, 0, none⟩ = some (.slice ua ys.length uap) ∧ w'.cell? ⟨w.heap.size + 1, 1, none⟩ = some (.slice va ts.length vap) ∧ w'.cell? ⟨w.heap.size + 1, 2, none⟩ = some (.int .i64 ogg)) w5) := ⟨A5.out.a0, A5.out.a1, A5.out.a2, C5.out.a0, C5.out.a1, C5.out.a2⟩; clear rb rk x5) | (go_at_call 28; refine (hd.out _ _ _ _ _ P5.out Q5.out R5.out S5.out hlx hls hly hlt).mono ?_; rintro e w6 ⟨rfl, x6⟩; have A6 := hide (A5.out.keep x6); have C6 := hide (C5.out.keep x6); have Z6 := hide (Bel.tr Z5.out x6); have SD' : Hid ((fun w' => w'.cell? ⟨w.heap.size, 0, none⟩ = some (.slice sa xs.length cap) ∧ w'.cell? ⟨w.heap.size, 1, none⟩ = some (.slice ta ss.length dap) ∧ w'.cell? ⟨w.heap.size, 2, none⟩ = some (.int .i64 off) ∧ w'.cell? ⟨w.heap.size + 1, 0, none⟩ = some (.slice ua ys.length uap) ∧ w'.cell? ⟨w.heap.size + 1, 1, none⟩ = some (.slice va ts.length vap) ∧ w'.cell? ⟨w.heap.size + 1, 2, none⟩ = some (.int .i64 ogg)) w6) := ⟨A6.out.a0, A6.out.a1, A6.out.a2, C6.out.a0, C6.out.a1, C6.out.a2⟩; clear x6) | fail)
  clear SA SB' SC' SD' P4 Q4 P5 Q5 R5 S5 A2 C2 Z2 A3 C3 Z3 A4 C4 Z4 A5 C5 Z5 aa0 aa1 aa2 ca0 ca1 ca2 hd
  have aa0 := A6.out.a0
  have aa1 := A6.out.a1
  have aa2 := A6.out.a2
  go_wp2_with fail
  refine (toView_any A6.out.hS A6.out.hT off hlx hls).mono ?_
  rintro e w7 ⟨b7, k7, rfl, _, _, _, rb, rk, x7⟩
  have y7 : Bel w7 (w7.alloc (.cells #[.slice (some ⟨b7, 0, none⟩) xs.length xs.length, .slice (some ⟨k7, 0, none⟩) ss.length ss.length, .int .i64 off] 27)) := ((Ext.refl w7).alloc _ _).bl
  have A7 := hide ((A6.out.keep x7.bl).keep y7)
  have C7 := hide ((C6.out.keep x7.bl).keep y7)
  have Z7 := hide (Bel.tr (Bel.tr Z6.out x7.bl) y7)
  have X7 := hide (LC.start (off := off) 27 w7.heap.size rfl (rb.ints (n := xs.length) (cap := xs.length) rfl) (rk.ints (n := ss.length) (cap := ss.length) rfl))
  clear rb rk x7 y7 A6 C6 Z6 aa0 aa1 aa2
  have ca0 := C7.out.a0
  have ca1 := C7.out.a1
  have ca2 := C7.out.a2
  go_wp2_with fail
  generalize hV7 : w7.alloc (.cells #[.slice (some ⟨b7, 0, none⟩) xs.length xs.length, .slice (some ⟨k7, 0, none⟩) ss.length ss.length, .int .i64 off] 27) = V7 at A7 C7 Z7 X7 ca0 ca1 ca2 ⊢
  clear hV7
  refine (toView_any C7.out.hS C7.out.hT ogg hly hlt).mono ?_
  rintro e w8 ⟨b8, k8, rfl, _, _, _, rb, rk, x8⟩
  have y8 : Bel w8 (w8.alloc (.cells #[.slice (some ⟨b8, 0, none⟩) ys.length ys.length, .slice (some ⟨k8, 0, none⟩) ts.length ts.length, .int .i64 ogg] 27)) := ((Ext.refl w8).alloc _ _).bl
  have A8 := hide ((A7.out.keep x8.bl).keep y8)
  have C8 := hide ((C7.out.keep x8.bl).keep y8)
  have X8 := hide ((X7.out.keep x8.bl).keep y8)
  have Z8 := hide (Bel.tr (Bel.tr Z7.out x8.bl) y8)
  have Y8 := hide (LC.start (off := ogg) 27 w8.heap.size rfl (rb.ints (n := ys.length) (cap := ys.length) rfl) (rk.ints (n := ts.length) (cap := ts.length) rfl))
  clear rb rk x8 y8 A7 C7 Z7 X7 ca0 ca1 ca2
  have xa0 := X8.out.a0
  have xa1 := X8.out.a1
  have xa2 := X8.out.a2
  have ya0 := Y8.out.a0
  have ya1 := Y8.out.a1
  have ya2 := Y8.out.a2
  go_wp2_with fail
  generalize hV8 : w8.alloc (.cells #[.slice (some ⟨b8, 0, none⟩) ys.length ys.length, .slice (some ⟨k8, 0, none⟩) ts.length ts.length, .int .i64 ogg] 27) = V8 at A8 C8 Z8 X8 Y8 xa0 xa1 xa2 ya0 ya1 ya2 ⊢
  clear hV8
  refine (hi.out _ _ _ _ _ X8.out.hS X8.out.hT Y8.out.hS Y8.out.hT hlx hls hly hlt).mono ?_
  rintro e w9 ⟨rfl, x9⟩
  have D9 : Bel w9 w9.drew := bel_drew w9
  have A9 := hide (A8.out.keep x9)
  have C9 := hide (C8.out.keep x9)
  have X9 := hide (X8.out.keep x9)
  have Y9 := hide (Y8.out.keep x9)
  have Z9 := hide (Bel.tr Z8.out x9)
  clear x9 A8 C8 Z8 X8 Y8 hi xa0 xa1 xa2 ya0 ya1 ya2
  have A10 := hide (A9.out.keep D9)
  have C10 := hide (C9.out.keep D9)
  have X10 := hide (X9.out.keep D9)
  have Y10 := hide (Y9.out.keep D9)
  have Z10 := hide (Bel.tr Z9.out D9)
  have aa0 := A9.out.a0
  have aa1 := A9.out.a1
  have aa2 := A9.out.a2
  have xa0 := X9.out.a0
  have xa1 := X9.out.a1
  have xa2 := X9.out.a2
  have SA : Hid ((fun w' => w'.cell? ⟨w7.heap.size, 0, none⟩ = some (.slice (some ⟨b7, 0, none⟩) xs.length xs.length) ∧ w'.cell? ⟨w7.heap.size, 1, none⟩ = some (.slice (some ⟨k7, 0, none⟩) ss.length ss.length) ∧ w'.cell? ⟨w7.heap.size, 2, none⟩ = some (.int .i64 off) ∧ w'.cell? ⟨w.heap.size, 0, none⟩ = some (.slice sa xs.length cap) ∧ w'.cell? ⟨w.heap.size, 1, none⟩ = some (.slice ta ss.length dap) ∧ w'.cell? ⟨w.heap.size, 2, none⟩ = some (.int .i64 off)) w9.drew) := ⟨X10.out.a0, X10.out.a1, X10.out.a2, A10.out.a0, A10.out.a1, A10.out.a2⟩
  clear D9
  go_wp2_with fail
  go_region_held3 (fun w' => w'.cell? ⟨w7.heap.size, 0, none⟩ = some (.slice (some ⟨b7, 0, none⟩) xs.length xs.length) ∧ w'.cell? ⟨w7.heap.size, 1, none⟩ = some (.slice (some ⟨k7, 0, none⟩) ss.length ss.length) ∧ w'.cell? ⟨w7.heap.size, 2, none⟩ = some (.int .i64 off) ∧ w'.cell? ⟨w.heap.size, 0, none⟩ = some (.slice sa xs.length cap) ∧ w'.cell? ⟨w.heap.size, 1, none⟩ = some (.slice ta ss.length dap) ∧ w'.cell? ⟨w.heap.size, 2, none⟩ = some (.int .i64 off)) (first | with_reducible exact SA.out | with_reducible exact SB'.out | with_reducible exact SC'.out | fail) (first | (go_at_call 15; refine (toView_any A10.out.hS A10.out.hT off hlx hls).mono ?_; rintro e w11 ⟨b11, k11, rfl, _, _, _, rb, rk, x11⟩; have P11 := hide (rb.ints (n := xs.length) (cap := xs.length) rfl); have Q11 := hide (rk.ints (n := ss.length) (cap := ss.length) rfl); have A11 := hide (A10.out.keep x11.bl); have C11 := hide (C10.out.keep x11.bl); have X11 := hide (X10.out.keep x11.bl); have Y11 := hide (Y10.out.keep x11.bl); have Z11 := hide (Bel.tr Z10.out x11.bl); have SB' : Hid ((fun w' => w'.cell? ⟨w7.heap.size, 0, none⟩ = some (.slice (some ⟨b7, 0, none⟩) xs.length xs.length) ∧ w'.cell? ⟨w7.heap.size, 1, none⟩ = some (.slice (some ⟨k7, 0, none⟩) ss.length ss.length) ∧ w'.cell? ⟨w7.heap.size, 2, none⟩ = some (.int .i64 off) ∧ w'.cell? ⟨w.heap.size, 0, none⟩ = some (.slice sa xs.length cap) ∧ w'.cell? ⟨w.heap.size, 1, none⟩ = some (.slice ta ss.length dap) ∧ w'.cell? ⟨w.heap.size, 2, none⟩ = some (.int .i64 off)) w11) := ⟨X11.out.a0, X11.out.a1, X11.out.a2, A11.out.a0, A11.out.a1, A11.out.a2⟩; clear rb rk x11) | (go_at_call 17; refine (eqView_true off X11.out.hS X11.out.hT P11.out Q11.out hlx hls).mono ?_; rintro e w12 ⟨rfl, x12⟩; have C12 := hide (C11.out.keep x12.bl); have Y12 := hide (Y11.out.keep x12.bl); have A12 := hide (A11.out.keep x12.bl); have X12 := hide (X11.out.keep x12.bl); have Z12 := hide (Bel.tr Z11.out x12.bl); have SC' : Hid ((fun w' => w'.cell? ⟨w7.heap.size, 0, none⟩ = some (.slice (some ⟨b7, 0, none⟩) xs.length xs.length) ∧ w'.cell? ⟨w7.heap.size, 1, none⟩ = some (.slice (some ⟨k7, 0, none⟩) ss.length ss.length) ∧ w'.cell? ⟨w7.heap.size, 2, none⟩ = some (.int .i64 off) ∧ w'.cell? ⟨w.heap.size, 0, none⟩ = some (.slice sa xs.length cap) ∧ w'.cell? ⟨w.heap.size, 1, none⟩ = some (.slice ta ss.length dap) ∧ w'.cell? ⟨w.heap.size, 2, none⟩ = some (.int .i64 off)) w12) := ⟨X12.out.a0, X12.out.a1, X12.out.a2, A12.out.a0, A12.out.a1, A12.out.a2⟩; clear x12) | fail)
  clear SA SB' SC' P11 Q11 A9 C9 X9 Y9 Z9 A10 C10 X10 Y10 Z10 A11 C11 X11 Y11 Z11 aa0 aa1 aa2 xa0 xa1 xa2
  have D12 : Bel w12 w12.drew := bel_drew w12
  have C13 := hide (C12.out.keep D12)
  have Y13 := hide (Y12.out.keep D12)
  have Z13 := hide (Bel.tr Z12.out D12)
  have ca0 := C12.out.a0
  have ca1 := C12.out.a1
  have ca2 := C12.out.a2
  have ya0 := Y12.out.a0
  have ya1 := Y12.out.a1
  have ya2 := Y12.out.a2
  have SA : Hid ((fun w' => w'.cell? ⟨w8.heap.size, 0, none⟩ = some (.slice (some ⟨b8, 0, none⟩) ys.length ys.length) ∧ w'.cell? ⟨w8.heap.size, 1, none⟩ = some (.slice (some ⟨k8, 0, none⟩) ts.length ts.length) ∧ w'.cell? ⟨w8.heap.size, 2, none⟩ = some (.int .i64 ogg) ∧ w'.cell? ⟨w.heap.size + 1, 0, none⟩ = some (.slice ua ys.length uap) ∧ w'.cell? ⟨w.heap.size + 1, 1, none⟩ = some (.slice va ts.length vap) ∧ w'.cell? ⟨w.heap.size + 1, 2, none⟩ = some (.int .i64 ogg)) w12.drew) := ⟨Y13.out.a0, Y13.out.a1, Y13.out.a2, C13.out.a0, C13.out.a1, C13.out.a2⟩
  clear D12
  go_wp2_with fail
  go_region_held3 (fun w' => w'.cell? ⟨w8.heap.size, 0, none⟩ = some (.slice (some ⟨b8, 0, none⟩) ys.length ys.length) ∧ w'.cell? ⟨w8.heap.size, 1, none⟩ = some (.slice (some ⟨k8, 0, none⟩) ts.length ts.length) ∧ w'.cell? ⟨w8.heap.size, 2, none⟩ = some (.int .i64 ogg) ∧ w'.cell? ⟨w.heap.size + 1, 0, none⟩ = some (.slice ua ys.length uap) ∧ w'.cell? ⟨w.heap.size + 1, 1, none⟩ = some (.slice va ts.length vap) ∧ w'.cell? ⟨w.heap.size + 1, 2, none⟩ = some (.int .i64 ogg)) (first | with_reducible exact SA.out | with_reducible exact SB'.out | with_reducible exact SC'.out | fail) (first | (go_at_call 15; refine (toView_any C13.out.hS C13.out.hT ogg hly hlt).mono ?_; rintro e w14 ⟨b14, k14, rfl, _, _, _, rb, rk, x14⟩; have P14 := hide (rb.ints (n := ys.length) (cap := ys.length) rfl); have Q14 := hide (rk.ints (n := ts.length) (cap := ts.length) rfl); have C14 := hide (C13.out.keep x14.bl); have Y14 := hide (Y13.out.keep x14.bl); have Z14 := hide (Bel.tr Z13.out x14.bl); have SB' : Hid ((fun w' => w'.cell? ⟨w8.heap.size, 0, none⟩ = some (.slice (some ⟨b8, 0, none⟩) ys.length ys.length) ∧ w'.cell? ⟨w8.heap.size, 1, none⟩ = some (.slice (some ⟨k8, 0, none⟩) ts.length ts.length) ∧ w'.cell? ⟨w8.heap.size, 2, none⟩ = some (.int .i64 ogg) ∧ w'.cell? ⟨w.heap.size + 1, 0, none⟩ = some (.slice ua ys.length uap) ∧ w'.cell? ⟨w.heap.size + 1, 1, none⟩ = some (.slice va ts.length vap) ∧ w'.cell? ⟨w.heap.size + 1, 2, none⟩ = some (.int .i64 ogg)) w14) := ⟨Y14.out.a0, Y14.out.a1, Y14.out.a2, C14.out.a0, C14.out.a1, C14.out.a2⟩; clear rb rk x14) | (go_at_call 17; refine (eqView_true ogg Y14.out.hS Y14.out.hT P14.out Q14.out hly hlt).mono ?_; rintro e w15 ⟨rfl, x15⟩; have C15 := hide (C14.out.keep x15.bl); have Y15 := hide (Y14.out.keep x15.bl); have Z15 := hide (Bel.tr Z14.out x15.bl); have SC' : Hid ((fun w' => w'.cell? ⟨w8.heap.size, 0, none⟩ = some (.slice (some ⟨b8, 0, none⟩) ys.length ys.length) ∧ w'.cell? ⟨w8.heap.size, 1, none⟩ = some (.slice (some ⟨k8, 0, none⟩) ts.length ts.length) ∧ w'.cell? ⟨w8.heap.size, 2, none⟩ = some (.int .i64 ogg) ∧ w'.cell? ⟨w.heap.size + 1, 0, none⟩ = some (.slice ua ys.length uap) ∧ w'.cell? ⟨w.heap.size + 1, 1, none⟩ = some (.slice va ts.length vap) ∧ w'.cell? ⟨w.heap.size + 1, 2, none⟩ = some (.int .i64 ogg)) w15) := ⟨Y15.out.a0, Y15.out.a1, Y15.out.a2, C15.out.a0, C15.out.a1, C15.out.a2⟩; clear x15) | fail)
  go_wp2
  go_ret
  exact ⟨rfl, Z15.out⟩
end Go.Proofs.Ytiekkninnjffpaa
