import Derived.Test.YtiekkninnjffpaaLawB
import Derived.Test.YtiekkninnjffpaaSpecRS
import Derived.Test.YtiekkninnjffpaaImplRS
import Derived.Test.YtiekkninnjffpaaLawVV
namespace Go.Proofs.Ytiekkninnjffpaa
open Go.ChangeShapes Go.RowKit
set_option linter.unusedSimpArgs false
set_option linter.unusedVariables false

set_option maxRecDepth 100000 in
set_option maxHeartbeats 8000000 in
theorem lawRS (w : World) (vS vT vP : Value) (off : Int) (xs ss ys : List Int) (hS : Ints w vS xs) (hT : Ints w vT ss) (hP : Ints w vP ys) (lx : xs.length ≤ 9223372036854775807) (ls : ss.length ≤ 9223372036854775807) (ly : ys.length ≤ 1048576) :
    Calls Try.prog 10 #[.agg #[vS, vT, .int .i64 off], vP] w fun e w' => LawOk w e w' := by
  obtain ⟨c, L, S, o, hcl⟩ : ∃ c L S o, rsL xs ss off ys = (c, L, S, o) := ⟨_, _, _, _, rfl⟩
  have hL4 : L.length ≤ 4 ∧ S.length ≤ 4 := rsL_len hcl
  have hLa := hL4.1
  have hSa := hL4.2
  have HCL := hide hcl
  clear hcl hL4
  have B0 := hide (LB.start (off := off) hS hT hP)
  obtain ⟨sa, cap, rfl, _⟩ := hS
  obtain ⟨ta, dap, rfl, _⟩ := hT
  obtain ⟨pa, pap, rfl, _⟩ := hP
  have ny : ¬ (1048576 : Int) < (ys.length : Int) := by omega
  by_cases hsz : szL xs.length ss.length < 0
  · go_enter Try.func10, Try.ntmps10
    go_wp2_with fail
    refine (szView_any sa ta xs.length cap ss.length dap off lx ls _).mono ?_
    rintro e w1 ⟨rfl, x1⟩
    have B1 := hide (B0.out.keep x1.bl)
    clear x1
    generalize szL xs.length ss.length = z at hsz ⊢
    go_wp2
    go_ret
    exact ⟨rfl, B1.out.z⟩
  have hle : xs.length ≤ 1048576 ∧ ss.length ≤ 1048576 := by
    unfold szL at hsz
    split at hsz
    · omega
    · split at hsz <;> omega
  have hlx := hle.1
  have hls := hle.2
  clear hle
  go_enter Try.func10, Try.ntmps10
  go_wp2_with fail
  refine (szView_any sa ta xs.length cap ss.length dap off lx ls _).mono ?_
  rintro e w1 ⟨rfl, x1⟩
  have B1 := hide (B0.out.keep x1.bl)
  clear x1 B0 lx ls
  generalize szL xs.length ss.length = z at hsz ⊢
  have a0 := B1.out.a0
  have a1 := B1.out.a1
  have a2 := B1.out.a2
  go_wp2_with fail
  refine (toView_any B1.out.hS.ints B1.out.hT.ints off hlx hls).mono ?_
  rintro e w2 ⟨b2, k2, rfl, _, _, _, rb, rk, x2⟩
  have B2 := hide (B1.out.keep x2.bl)
  have Rb := hide (rb.ints (n := xs.length) (cap := xs.length) rfl)
  have Rk := hide (rk.ints (n := ss.length) (cap := ss.length) rfl)
  clear rb rk x2 a0 a1 a2 B1
  go_wp2_with fail
  refine (toInts_any B2.out.hP.ints ly).mono ?_
  rintro e w3 ⟨rfl, rp, x3, _⟩
  have B3 := hide (B2.out.keep x3.bl)
  have Rb3 := hide (Rb.out.ext x3)
  have Rk3 := hide (Rk.out.ext x3)
  have Rp := hide (rp.ints (n := ys.length) (cap := ys.length) rfl)
  clear rp x3 B2 Rb Rk
  go_wp2_with fail
  refine (sRS_any Rb3.out Rk3.out Rp.out off hlx hls ly HCL.out).mono ?_
  rintro e w4 ⟨sw, su, cw, cu, rfl, iL, iS, x4⟩
  have y4 : Bel w4 (w4.alloc (.cells #[.int .i64 c, .slice sw L.length cw, .slice su S.length cu, .int .i64 o] 43)) := ((Ext.refl w4).alloc _ _).bl
  have B4 := hide ((B3.out.keep x4).keep y4)
  have W4' := hide (LW.start (c := c) (o := o) iL iS)
  have sz4 : Hid (w.heap.size < w4.heap.size ∧ (w4.alloc (.cells #[.int .i64 c, .slice sw L.length cw, .slice su S.length cu, .int .i64 o] 43)).heap.size = w4.heap.size + 1) := ⟨Nat.lt_of_lt_of_le (cell_lt B3.out.a0) (Below.size x4), by simp⟩
  clear iL iS x4 y4 Rb3 Rk3 Rp B3
  have a0 := B4.out.a0
  have a1 := B4.out.a1
  have a2 := B4.out.a2
  go_wp2_with fail
  generalize hW4 : w4.alloc (.cells #[.int .i64 c, .slice sw L.length cw, .slice su S.length cu, .int .i64 o] 43) = V4 at B4 W4' sz4 a0 a1 a2 ⊢
  clear hW4
  refine (toView_any B4.out.hS.ints B4.out.hT.ints off hlx hls).mono ?_
  rintro e w5 ⟨b, k, rfl, hb1, hb2, hb3, rb, rk, x5⟩
  have y5 : Bel w5 (w5.alloc (.cells #[.slice (some ⟨b, 0, none⟩) xs.length xs.length, .slice (some ⟨k, 0, none⟩) ss.length ss.length, .int .i64 off] 27)) := ((Ext.refl w5).alloc _ _).bl
  have B5 := hide ((B4.out.keep x5.bl).keep y5)
  have W5' := hide ((W4'.out.keep x5.bl).keep y5)
  have X5 := hide (LX.start (off := off) x5 hb1 hb2 hb3 rb rk)
  have sz5 : Hid (V4.heap.size ≤ b ∧ b < k ∧ k < w5.heap.size ∧ (w5.alloc (.cells #[.slice (some ⟨b, 0, none⟩) xs.length xs.length, .slice (some ⟨k, 0, none⟩) ss.length ss.length, .int .i64 off] 27)).heap.size = w5.heap.size + 1) := ⟨hb1, hb2, hb3, by simp⟩
  clear hb1 hb2 hb3 rb rk x5 y5 a0 a1 a2 B4 W4'
  go_wp2_with fail
  generalize hW5 : w5.alloc (.cells #[.slice (some ⟨b, 0, none⟩) xs.length xs.length, .slice (some ⟨k, 0, none⟩) ss.length ss.length, .int .i64 off] 27) = V5 at B5 W5' X5 sz5 ⊢
  clear hW5
  refine (toInts_any B5.out.hP.ints ly).mono ?_
  rintro e w6 ⟨rfl, rp, x6, s6⟩
  have B6 := hide (B5.out.keep x6.bl)
  have W6' := hide (W5'.out.keep x6.bl)
  have X6 := hide (X5.out.keep x6.bl)
  have P6 := hide (LP.start x6 s6 rp)
  have sz6 := hide s6
  clear rp x6 s6 B5 W5' X5
  have q0 := X6.out.c0
  have q1 := X6.out.c1
  have q2 := X6.out.c2
  go_wp2_with fail
  refine (iRS_any X6.out.hL.ints X6.out.hS.ints P6.out.hP.ints off hlx hls ly HCL.out).mono ?_
  rintro e w7 ⟨sg, sh, cg, ch, rfl, ⟨g, h, hg1, hg2, hgh, hg3, hg4, iL, iS, fL, fS⟩, x7⟩
  have y7 : Bel w7 (w7.alloc (.cells #[.int .i64 c, .slice sg L.length cg, .slice sh S.length ch, .int .i64 o] 43)) := ((Ext.refl w7).alloc _ _).bl
  have B7 := hide ((B6.out.keep x7).keep y7)
  have W7' := hide ((W6'.out.keep x7).keep y7)
  have X7 := hide ((X6.out.keep x7).keep y7)
  have P7 := hide ((P6.out.keep x7).keep y7)
  have G7 := hide (LG.start (c := c) (o := o) iL iS fL fS)
  have SZ : Hid (w.heap.size < b ∧ w4.heap.size < b ∧ b < k ∧ k < V5.heap.size ∧ V5.heap.size < w6.heap.size ∧ w6.heap.size ≤ g ∧ w6.heap.size ≤ h ∧ g ≠ h ∧ g < w7.heap.size ∧ h < w7.heap.size) := by
    have := sz4.out; have := sz5.out; have := sz6.out
    exact ⟨by omega, by omega, by omega, by omega, by omega, hg1, hg2, hgh, hg3, hg4⟩
  have T7 : Hid (w7.heap.size + 1 ≤ (w7.alloc (.cells #[.int .i64 c, .slice sg L.length cg, .slice sh S.length ch, .int .i64 o] 43)).heap.size) := by show w7.heap.size + 1 ≤ (w7.alloc (.cells #[.int .i64 c, .slice sg L.length cg, .slice sh S.length ch, .int .i64 o] 43)).heap.size; simp
  clear iL iS fL fS x7 y7 hg1 hg2 hgh hg3 hg4 sz4 sz5 sz6 q0 q1 q2 B6 W6' X6 P6
  have wc0 := W7'.out.c0
  have wc1 := W7'.out.c1
  have wc2 := W7'.out.c2
  have wc3 := W7'.out.c3
  have gc0 := G7.out.c0
  have gc1 := G7.out.c1
  have gc2 := G7.out.c2
  have gc3 := G7.out.c3
  go_wp2_with fail
  generalize hW7 : w7.alloc (.cells #[.int .i64 c, .slice sg L.length cg, .slice sh S.length ch, .int .i64 o] 43) = V7 at B7 W7' X7 P7 G7 T7 wc0 wc1 wc2 wc3 gc0 gc1 gc2 gc3 ⊢
  clear hW7
  refine (eqVR_true G7.out.hL.ints G7.out.hS.ints W7'.out.hL.ints W7'.out.hS.ints (by omega) (by omega)).mono ?_
  rintro e w8 ⟨rfl, x8⟩
  have D8 : Bel w8 w8.drew := bel_drew w8
  have B8 := hide (B7.out.keep x8.bl)
  have W8' := hide (W7'.out.keep x8.bl)
  have X8 := hide (X7.out.keep x8.bl)
  have P8 := hide (P7.out.keep x8.bl)
  have G8 := hide (G7.out.keep x8.bl)
  have T8 := hide (Nat.le_trans T7.out (Below.size x8.bl))
  clear x8 B7 W7' X7 P7 G7 T7 wc0 wc1 wc2 wc3 gc0 gc1 gc2 gc3
  have ba0 := B8.out.a0
  have ba1 := B8.out.a1
  have ba2 := B8.out.a2
  have xc0 := X8.out.c0
  have xc1 := X8.out.c1
  have xc2 := X8.out.c2
  have B9 := hide (B8.out.keep D8)
  have W9' := hide (W8'.out.keep D8)
  have X9 := hide (X8.out.keep D8)
  have P9 := hide (P8.out.keep D8)
  have G9 := hide (G8.out.keep D8)
  have T9 : Hid (w7.heap.size + 1 ≤ w8.drew.heap.size) := T8.out
  have SA : Hid ((fun w' => w'.cell? ⟨w5.heap.size, 0, none⟩ = some (.slice (some ⟨b, 0, none⟩) xs.length xs.length) ∧ w'.cell? ⟨w5.heap.size, 1, none⟩ = some (.slice (some ⟨k, 0, none⟩) ss.length ss.length) ∧ w'.cell? ⟨w5.heap.size, 2, none⟩ = some (.int .i64 off) ∧ w'.cell? ⟨w.heap.size, 0, none⟩ = some (.slice sa xs.length cap) ∧ w'.cell? ⟨w.heap.size, 1, none⟩ = some (.slice ta ss.length dap) ∧ w'.cell? ⟨w.heap.size, 2, none⟩ = some (.int .i64 off)) w8.drew) := ⟨X9.out.c0, X9.out.c1, X9.out.c2, B9.out.a0, B9.out.a1, B9.out.a2⟩
  clear D8
  go_wp2_with fail
  go_region_held3 (fun w' => w'.cell? ⟨w5.heap.size, 0, none⟩ = some (.slice (some ⟨b, 0, none⟩) xs.length xs.length) ∧ w'.cell? ⟨w5.heap.size, 1, none⟩ = some (.slice (some ⟨k, 0, none⟩) ss.length ss.length) ∧ w'.cell? ⟨w5.heap.size, 2, none⟩ = some (.int .i64 off) ∧ w'.cell? ⟨w.heap.size, 0, none⟩ = some (.slice sa xs.length cap) ∧ w'.cell? ⟨w.heap.size, 1, none⟩ = some (.slice ta ss.length dap) ∧ w'.cell? ⟨w.heap.size, 2, none⟩ = some (.int .i64 off)) (first | with_reducible exact SA.out | with_reducible exact SB'.out | with_reducible exact SC'.out | fail) (first | (go_at_call 15; refine (toView_any B9.out.hS.ints B9.out.hT.ints off hlx hls).mono ?_; rintro e w10 ⟨b10, k10, rfl, _, _, _, rb, rk, x10⟩; have A10 := hide (rb.ints (n := xs.length) (cap := xs.length) rfl); have C10 := hide (rk.ints (n := ss.length) (cap := ss.length) rfl); have B10 := hide (B9.out.keep x10.bl); have W10' := hide (W9'.out.keep x10.bl); have X10 := hide (X9.out.keep x10.bl); have P10 := hide (P9.out.keep x10.bl); have G10 := hide (G9.out.keep x10.bl); have T10 := hide (Nat.le_trans T9.out (Below.size x10.bl)); have SB' : Hid ((fun w' => w'.cell? ⟨w5.heap.size, 0, none⟩ = some (.slice (some ⟨b, 0, none⟩) xs.length xs.length) ∧ w'.cell? ⟨w5.heap.size, 1, none⟩ = some (.slice (some ⟨k, 0, none⟩) ss.length ss.length) ∧ w'.cell? ⟨w5.heap.size, 2, none⟩ = some (.int .i64 off) ∧ w'.cell? ⟨w.heap.size, 0, none⟩ = some (.slice sa xs.length cap) ∧ w'.cell? ⟨w.heap.size, 1, none⟩ = some (.slice ta ss.length dap) ∧ w'.cell? ⟨w.heap.size, 2, none⟩ = some (.int .i64 off)) w10) := ⟨X10.out.c0, X10.out.c1, X10.out.c2, B10.out.a0, B10.out.a1, B10.out.a2⟩; clear rb rk x10) | (go_at_call 17; refine (eqView_true off X10.out.hL.ints X10.out.hS.ints A10.out C10.out hlx hls).mono ?_; rintro e w11 ⟨rfl, x11⟩; have B11 := hide (B10.out.keep x11.bl); have W11' := hide (W10'.out.keep x11.bl); have X11 := hide (X10.out.keep x11.bl); have P11 := hide (P10.out.keep x11.bl); have G11 := hide (G10.out.keep x11.bl); have T11 := hide (Nat.le_trans T10.out (Below.size x11.bl)); have SC' : Hid ((fun w' => w'.cell? ⟨w5.heap.size, 0, none⟩ = some (.slice (some ⟨b, 0, none⟩) xs.length xs.length) ∧ w'.cell? ⟨w5.heap.size, 1, none⟩ = some (.slice (some ⟨k, 0, none⟩) ss.length ss.length) ∧ w'.cell? ⟨w5.heap.size, 2, none⟩ = some (.int .i64 off) ∧ w'.cell? ⟨w.heap.size, 0, none⟩ = some (.slice sa xs.length cap) ∧ w'.cell? ⟨w.heap.size, 1, none⟩ = some (.slice ta ss.length dap) ∧ w'.cell? ⟨w.heap.size, 2, none⟩ = some (.int .i64 off)) w11) := ⟨X11.out.c0, X11.out.c1, X11.out.c2, B11.out.a0, B11.out.a1, B11.out.a2⟩; clear x11) | fail)
  clear SA SB' SC' A10 C10 B8 W8' X8 P8 G8 T8 B9 W9' X9 P9 G9 T9 B10 W10' X10 P10 G10 T10 ba0 ba1 ba2 xc0 xc1 xc2
  go_wp2_with fail
  refine (toInts_any B11.out.hP.ints ly).mono ?_
  rintro e w12 ⟨rfl, rp, x12, _⟩
  have H12 := hide (rp.ints (n := ys.length) (cap := ys.length) rfl)
  have B12 := hide (B11.out.keep x12.bl)
  have W12' := hide (W11'.out.keep x12.bl)
  have X12 := hide (X11.out.keep x12.bl)
  have P12 := hide (P11.out.keep x12.bl)
  have G12 := hide (G11.out.keep x12.bl)
  have T12 := hide (Nat.le_trans T11.out (Below.size x12.bl))
  clear rp x12 B11 W11' X11 P11 G11 T11
  go_wp2_with fail
  refine (eqInts_any P12.out.hP.ints H12.out (by omega)).mono ?_
  rintro e w13 ⟨rfl, x13⟩
  rw [show decide (ys = ys) = true from by simp]
  have B13 := hide (B12.out.keep x13.bl)
  have W13' := hide (W12'.out.keep x13.bl)
  have X13 := hide (X12.out.keep x13.bl)
  have P13 := hide (P12.out.keep x13.bl)
  have G13 := hide (G12.out.keep x13.bl)
  have T13 := hide (Nat.le_trans T12.out (Below.size x13.bl))
  clear x13 H12 B12 W12' X12 P12 G12 T12
  have xc0 := X13.out.c0
  have xc1 := X13.out.c1
  have xc2 := X13.out.c2
  go_wp2_with fail
  refine (markView_any (lo := b) (hi := k + 1) X13.out.hL X13.out.hS X13.out.fL X13.out.fS (by have := SZ.out; omega) (by have := SZ.out; omega) (by have := SZ.out; omega) (by have := SZ.out; have := T13.out; omega) (by have := SZ.out; have := T13.out; omega) 1 (by omega) hlx hls).mono ?_
  rintro e w14 ⟨rfl, _, _, m14⟩
  have B14 := hide (B13.out.mIn m14 (by have := SZ.out; omega))
  have W14' := hide (W13'.out.mIn m14 (by have := SZ.out; omega))
  have P14 := hide (P13.out.mIn m14 (by have := SZ.out; omega))
  have G14 := hide (G13.out.mIn m14 (by have := SZ.out; omega) (by have := SZ.out; omega) (by have := SZ.out; omega))
  have T14 := hide (Nat.le_trans T13.out (Below.size m14.bl))
  clear m14 xc0 xc1 xc2 B13 W13' X13 P13 G13 T13
  go_wp2_with fail
  refine (markB2 P14.out.hP P14.out.fP (by have := SZ.out; have := T14.out; omega) (1 + xs.length + ss.length) (by omega) (by omega)).mono ?_
  rintro e w15 ⟨rfl, _, m15⟩
  have B15 := hide (B14.out.mIn m15 (by have := SZ.out; omega))
  have W15' := hide (W14'.out.mIn m15 (by have := SZ.out; omega))
  have G15 := hide (G14.out.mIn m15 (by have := SZ.out; omega) (by have := SZ.out; omega) (by have := SZ.out; omega))
  have T15 := hide (Nat.le_trans T14.out (Below.size m15.bl))
  clear m15 B14 W14' P14 G14 T14
  have hk : ¬ (1 + (xs.length : Int) + (ss.length : Int) + (ys.length : Int)) < 0 := by omega
  have wc0 := W15'.out.c0
  have wc1 := W15'.out.c1
  have wc2 := W15'.out.c2
  have wc3 := W15'.out.c3
  have gc0 := G15.out.c0
  have gc1 := G15.out.c1
  have gc2 := G15.out.c2
  have gc3 := G15.out.c3
  go_wp2_with fail
  refine (eqVR_true G15.out.hL.ints G15.out.hS.ints W15'.out.hL.ints W15'.out.hS.ints (by omega) (by omega)).mono ?_
  rintro e w16 ⟨rfl, x16⟩
  have B16 := hide (B15.out.keep x16.bl)
  have W16' := hide (W15'.out.keep x16.bl)
  have G16 := hide (G15.out.keep x16.bl)
  have T16 := hide (Nat.le_trans T15.out (Below.size x16.bl))
  clear x16 B15 W15' G15 T15 wc0 wc1 wc2 wc3 gc0 gc1 gc2 gc3
  have gc0 := G16.out.c0
  have gc1 := G16.out.c1
  have gc2 := G16.out.c2
  have gc3 := G16.out.c3
  go_wp2_with fail
  refine (markVR_any (lo := w6.heap.size) (hi := w7.heap.size) G16.out.hL G16.out.hS G16.out.fL G16.out.fS SZ.out.2.2.2.2.2.2.2.1 (by have := SZ.out; omega) (by have := SZ.out; omega) (by have := SZ.out; have := T16.out; omega) (by have := SZ.out; have := T16.out; omega) (by omega) (by omega)).mono ?_
  rintro e w17 ⟨rfl, i17, j17, m17⟩
  have B17 := hide (B16.out.mIn m17 (by have := SZ.out; omega))
  have W17' := hide (W16'.out.mIn m17 (by have := SZ.out; omega))
  have I17 := hide i17
  have J17 := hide j17
  have hc0 := m17.box _ _ _ (Or.inr (Nat.le_refl _)) gc0
  have hc1 := m17.box _ _ _ (Or.inr (Nat.le_refl _)) gc1
  have hc2 := m17.box _ _ _ (Or.inr (Nat.le_refl _)) gc2
  have hc3 := m17.box _ _ _ (Or.inr (Nat.le_refl _)) gc3
  clear i17 j17 m17 B16 W16' G16 T16 gc0 gc1 gc2 gc3
  go_wp2_with fail
  refine (heldVR_any I17.out.ints J17.out.ints (by omega) (by omega)).mono ?_
  rintro e w18 ⟨rfl, x18⟩
  have B18 := hide (B17.out.keep x18.bl)
  have W18' := hide (W17'.out.keep x18.bl)
  clear x18 I17 J17 hc0 hc1 hc2 hc3 B17 W17'
  have hq : ¬ (1 + (L.length : Int) + (S.length : Int)) < 0 := by omega
  have ba0 := B18.out.a0
  have ba1 := B18.out.a1
  have ba2 := B18.out.a2
  go_wp2_with fail
  refine (toView_any B18.out.hS.ints B18.out.hT.ints off hlx hls).mono ?_
  rintro e w19 ⟨b19, k19, rfl, _, _, _, rb, rk, x19⟩
  have B19 := hide (B18.out.keep x19.bl)
  have W19' := hide (W18'.out.keep x19.bl)
  have Rb := hide (rb.ints (n := xs.length) (cap := xs.length) rfl)
  have Rk := hide (rk.ints (n := ss.length) (cap := ss.length) rfl)
  clear rb rk x19 ba0 ba1 ba2 B18 W18'
  go_wp2_with fail
  refine (toInts_any B19.out.hP.ints ly).mono ?_
  rintro e w20 ⟨rfl, rp, x20, _⟩
  have B20 := hide (B19.out.keep x20.bl)
  have W20' := hide (W19'.out.keep x20.bl)
  have Rb3 := hide (Rb.out.ext x20)
  have Rk3 := hide (Rk.out.ext x20)
  have Rp := hide (rp.ints (n := ys.length) (cap := ys.length) rfl)
  clear rp x20 B19 W19' Rb Rk
  go_wp2_with fail
  refine (iRS_any Rb3.out Rk3.out Rp.out off hlx hls ly HCL.out).mono ?_
  rintro e w21 ⟨sg2, sh2, cg2, ch2, rfl, ⟨g2, h2, _, _, _, _, _, iL, iS, fL, fS⟩, x21⟩
  have y21 : Bel w21 (w21.alloc (.cells #[.int .i64 c, .slice sg2 L.length cg2, .slice sh2 S.length ch2, .int .i64 o] 43)) := ((Ext.refl w21).alloc _ _).bl
  have B21 := hide ((B20.out.keep x21).keep y21)
  have W21' := hide ((W20'.out.keep x21).keep y21)
  have G21 := hide (LG.start (c := c) (o := o) iL iS fL fS)
  clear iL iS fL fS x21 y21 B20 W20' Rb3 Rk3 Rp
  have wc0 := W21'.out.c0
  have wc1 := W21'.out.c1
  have wc2 := W21'.out.c2
  have wc3 := W21'.out.c3
  have gc0 := G21.out.c0
  have gc1 := G21.out.c1
  have gc2 := G21.out.c2
  have gc3 := G21.out.c3
  go_wp2_with fail
  refine (eqVR_true G21.out.hL.ints G21.out.hS.ints W21'.out.hL.ints W21'.out.hS.ints (by omega) (by omega)).mono ?_
  rintro e w22 ⟨rfl, x22⟩
  have B22 := hide (B21.out.keep x22.bl)
  clear x22 B21 W21' G21 wc0 wc1 wc2 wc3 gc0 gc1 gc2 gc3
  go_wp2
  go_ret
  exact ⟨rfl, B22.out.z⟩
end Go.Proofs.Ytiekkninnjffpaa
