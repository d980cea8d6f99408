import Derived.Test.YtiekkninnjffpaaLawB
import Derived.Test.YtiekkninnjffpaaLawVV
import Derived.Test.YtiekkninnjffpaaImplOF
namespace Go.Proofs.Ytiekkninnjffpaa
open Go.ChangeShapes Go.RowKit
set_option linter.unusedSimpArgs false
set_option linter.unusedVariables false

theorem iOF_any {w : World} {vS vT : Value} {xs ss : List Int} (hS : Ints w vS xs) (hT : Ints w vT ss) (off : Int) (lx : xs.length ≤ 1048576) (ls : ss.length ≤ 1048576) :
    Calls Try.prog 31 #[.agg #[vS, vT, .int .i64 off]] w fun e w' => ListOk w (offsA xs ss off) e w' :=
  callsIn_wide.1 (iOF_in hS hT off lx ls 3 (Nat.le_refl _))
theorem offsA_len (xs ss : List Int) (off : Int) : (offsA xs ss off).length ≤ 4096 := by
  unfold offsA
  split
  · next h => exact offs_len h
  · simp
theorem ownFZ {w : World} {lo cap : Nat} {sa : Option Addr} {L : List Int} (h : OwnI w lo sa L) : FZ w (.slice sa L.length cap) L := by
  by_cases e : L = []
  · exact Or.inl e
  rcases h with h | ⟨g, h1, h2, h3, h4⟩
  · exact absurd h e
  · have hl : 0 < L.length := List.length_pos_iff.2 e
    exact Or.inr ⟨g, 0, _, cap, by rw [h1], cell_lt (h3 0 hl), h4⟩

set_option maxRecDepth 100000 in
set_option maxHeartbeats 8000000 in
theorem lawOF (w : World) (vS vT : Value) (off : Int) (xs ss : List Int) (hS : Ints w vS xs) (hT : Ints w vT ss) (lx : xs.length ≤ 9223372036854775807) (ls : ss.length ≤ 9223372036854775807) :
    Calls Try.prog 7 #[.agg #[vS, vT, .int .i64 off]] w fun e w' => LawOk w e w' := by
  have hL4 := offsA_len xs ss off
  have hsp := hide (fun (W : World) (vS vT : Value) (h1 : Ints W vS xs) (h2 : Ints W vT ss) (lx : xs.length ≤ 1048576) (ls : ss.length ≤ 1048576) => sOF_any h1 h2 off lx ls)
  have him := hide (fun (W : World) (vS vT : Value) (h1 : Ints W vS xs) (h2 : Ints W vT ss) (lx : xs.length ≤ 1048576) (ls : ss.length ≤ 1048576) => iOF_any h1 h2 off lx ls)
  generalize offsA xs ss off = L at hL4 hsp him
  have B0 := hide (LB.start (off := off) (vP := .slice none 0 0) (ys := []) hS hT ⟨none, 0, rfl, Or.inl rfl⟩)
  obtain ⟨sa, cap, rfl, _⟩ := hS
  obtain ⟨ta, dap, rfl, _⟩ := hT
  by_cases hsz : szL xs.length ss.length < 0
  · go_enter Try.func7, Try.ntmps7
    go_wp2_with fail
    refine (szView_any sa ta xs.length cap ss.length dap off lx ls _).mono ?_
    rintro e w1 ⟨rfl, x1⟩
    have B1 := hide (B0.out.keep x1.bl)
    clear x1
    generalize szL xs.length ss.length = z at hsz ⊢
    go_wp2
    go_ret
    exact ⟨rfl, B1.out.z⟩
  have hle : xs.length ≤ 1048576 ∧ ss.length ≤ 1048576 := by
    unfold szL at hsz
    split at hsz
    · omega
    · split at hsz <;> omega
  have hlx := hle.1
  have hls := hle.2
  clear hle
  go_enter Try.func7, Try.ntmps7
  go_wp2_with fail
  refine (szView_any sa ta xs.length cap ss.length dap off lx ls _).mono ?_
  rintro e w1 ⟨rfl, x1⟩
  have B1 := hide (B0.out.keep x1.bl)
  clear x1 B0 lx ls
  generalize szL xs.length ss.length = z at hsz ⊢
  have a0 := B1.out.a0
  have a1 := B1.out.a1
  have a2 := B1.out.a2
  go_wp2_with fail
  refine (toView_any B1.out.hS.ints B1.out.hT.ints off hlx hls).mono ?_
  rintro e w2 ⟨b2, k2, rfl, _, _, _, rb, rk, x2⟩
  have B2 := hide (B1.out.keep x2.bl)
  have Rb := hide (rb.ints (n := xs.length) (cap := xs.length) rfl)
  have Rk := hide (rk.ints (n := ss.length) (cap := ss.length) rfl)
  clear rb rk x2 a0 a1 a2 B1
  go_wp2_with fail
  refine (hsp.out _ _ _ Rb.out Rk.out hlx hls).mono ?_
  rintro e w4 ⟨sw, cw, rfl, iW, x4⟩
  have B4 := hide (B2.out.keep x4)
  have W4' := hide (ownB (cap := cw) iW)
  have sz4 : Hid (w.heap.size < w4.heap.size) := Nat.lt_of_lt_of_le (cell_lt B2.out.a0) (Below.size x4)
  clear iW x4 Rb Rk B2 hsp
  have a0 := B4.out.a0
  have a1 := B4.out.a1
  have a2 := B4.out.a2
  go_wp2_with fail
  refine (toView_any B4.out.hS.ints B4.out.hT.ints off hlx hls).mono ?_
  rintro e w5 ⟨b, k, rfl, hb1, hb2, hb3, rb, rk, x5⟩
  have y5 : Bel w5 (w5.alloc (.cells #[.slice (some ⟨b, 0, none⟩) xs.length xs.length, .slice (some ⟨k, 0, none⟩) ss.length ss.length, .int .i64 off] 27)) := ((Ext.refl w5).alloc _ _).bl
  have B5 := hide ((B4.out.keep x5.bl).keep y5)
  have W5' := hide ((W4'.out.keep x5.bl).keep y5)
  have X5 := hide (LX.start (off := off) x5 hb1 hb2 hb3 rb rk)
  have sz5 : Hid (w4.heap.size ≤ b ∧ b < k ∧ k < w5.heap.size ∧ (w5.alloc (.cells #[.slice (some ⟨b, 0, none⟩) xs.length xs.length, .slice (some ⟨k, 0, none⟩) ss.length ss.length, .int .i64 off] 27)).heap.size = w5.heap.size + 1) := ⟨hb1, hb2, hb3, by simp⟩
  clear hb1 hb2 hb3 rb rk x5 y5 a0 a1 a2 B4 W4'
  have q0 := X5.out.c0
  have q1 := X5.out.c1
  have q2 := X5.out.c2
  go_wp2_with fail
  generalize hW5 : w5.alloc (.cells #[.slice (some ⟨b, 0, none⟩) xs.length xs.length, .slice (some ⟨k, 0, none⟩) ss.length ss.length, .int .i64 off] 27) = V5 at B5 W5' X5 sz5 q0 q1 q2 ⊢
  clear hW5
  refine (him.out _ _ _ X5.out.hL.ints X5.out.hS.ints hlx hls).mono ?_
  rintro e w7 ⟨sg, cg, rfl, iG, x7⟩
  have B7 := hide (B5.out.keep x7)
  have W7' := hide (W5'.out.keep x7)
  have X7 := hide (X5.out.keep x7)
  have G7 := hide (ownB (cap := cg) iG)
  have F7 := hide (ownFZ (cap := cg) iG)
  have SZ : Hid (w.heap.size < b ∧ w4.heap.size ≤ b ∧ b < k ∧ k + 1 < V5.heap.size ∧ V5.heap.size ≤ w7.heap.size) := by
    have := sz4.out; have := sz5.out; have := Below.size x7
    exact ⟨by omega, by omega, by omega, by omega, by omega⟩
  clear iG x7 sz4 sz5 q0 q1 q2 B5 W5' X5
  go_wp2_with fail
  refine (eqInts_any G7.out.ints W7'.out.ints (by omega)).mono ?_
  rintro e w8 ⟨rfl, x8⟩
  rw [show decide (L = L) = true from by simp]
  have D8 : Bel w8 w8.drew := bel_drew w8
  have B8 := hide (B7.out.keep x8.bl)
  have W8' := hide (W7'.out.keep x8.bl)
  have X8 := hide (X7.out.keep x8.bl)
  have G8 := hide (G7.out.keep x8.bl)
  have F8 := hide (F7.out.keep x8.bl)
  have T8 := hide (Below.size x8.bl)
  clear x8 B7 W7' X7 G7 F7
  have ba0 := B8.out.a0
  have ba1 := B8.out.a1
  have ba2 := B8.out.a2
  have xc0 := X8.out.c0
  have xc1 := X8.out.c1
  have xc2 := X8.out.c2
  have B9 := hide (B8.out.keep D8)
  have W9' := hide (W8'.out.keep D8)
  have X9 := hide (X8.out.keep D8)
  have G9 := hide (G8.out.keep D8)
  have F9 := hide (F8.out.keep D8)
  have T9 : Hid (w7.heap.size ≤ w8.drew.heap.size) := T8.out
  have SA : Hid ((fun w' => w'.cell? ⟨w5.heap.size, 0, none⟩ = some (.slice (some ⟨b, 0, none⟩) xs.length xs.length) ∧ w'.cell? ⟨w5.heap.size, 1, none⟩ = some (.slice (some ⟨k, 0, none⟩) ss.length ss.length) ∧ w'.cell? ⟨w5.heap.size, 2, none⟩ = some (.int .i64 off) ∧ w'.cell? ⟨w.heap.size, 0, none⟩ = some (.slice sa xs.length cap) ∧ w'.cell? ⟨w.heap.size, 1, none⟩ = some (.slice ta ss.length dap) ∧ w'.cell? ⟨w.heap.size, 2, none⟩ = some (.int .i64 off)) w8.drew) := ⟨X9.out.c0, X9.out.c1, X9.out.c2, B9.out.a0, B9.out.a1, B9.out.a2⟩
  clear D8
  go_wp2_with fail
  go_region_held3 (fun w' => w'.cell? ⟨w5.heap.size, 0, none⟩ = some (.slice (some ⟨b, 0, none⟩) xs.length xs.length) ∧ w'.cell? ⟨w5.heap.size, 1, none⟩ = some (.slice (some ⟨k, 0, none⟩) ss.length ss.length) ∧ w'.cell? ⟨w5.heap.size, 2, none⟩ = some (.int .i64 off) ∧ w'.cell? ⟨w.heap.size, 0, none⟩ = some (.slice sa xs.length cap) ∧ w'.cell? ⟨w.heap.size, 1, none⟩ = some (.slice ta ss.length dap) ∧ w'.cell? ⟨w.heap.size, 2, none⟩ = some (.int .i64 off)) (first | with_reducible exact SA.out | with_reducible exact SB'.out | with_reducible exact SC'.out | fail) (first | (go_at_call 15; refine (toView_any B9.out.hS.ints B9.out.hT.ints off hlx hls).mono ?_; rintro e w10 ⟨b10, k10, rfl, _, _, _, rb, rk, x10⟩; have A10 := hide (rb.ints (n := xs.length) (cap := xs.length) rfl); have C10 := hide (rk.ints (n := ss.length) (cap := ss.length) rfl); have B10 := hide (B9.out.keep x10.bl); have W10' := hide (W9'.out.keep x10.bl); have X10 := hide (X9.out.keep x10.bl); have G10 := hide (G9.out.keep x10.bl); have F10 := hide (F9.out.keep x10.bl); have T10 := hide (Nat.le_trans T9.out (Below.size x10.bl)); have SB' : Hid ((fun w' => w'.cell? ⟨w5.heap.size, 0, none⟩ = some (.slice (some ⟨b, 0, none⟩) xs.length xs.length) ∧ w'.cell? ⟨w5.heap.size, 1, none⟩ = some (.slice (some ⟨k, 0, none⟩) ss.length ss.length) ∧ w'.cell? ⟨w5.heap.size, 2, none⟩ = some (.int .i64 off) ∧ w'.cell? ⟨w.heap.size, 0, none⟩ = some (.slice sa xs.length cap) ∧ w'.cell? ⟨w.heap.size, 1, none⟩ = some (.slice ta ss.length dap) ∧ w'.cell? ⟨w.heap.size, 2, none⟩ = some (.int .i64 off)) w10) := ⟨X10.out.c0, X10.out.c1, X10.out.c2, B10.out.a0, B10.out.a1, B10.out.a2⟩; clear rb rk x10) | (go_at_call 17; refine (eqView_true off X10.out.hL.ints X10.out.hS.ints A10.out C10.out hlx hls).mono ?_; rintro e w11 ⟨rfl, x11⟩; have B11 := hide (B10.out.keep x11.bl); have W11' := hide (W10'.out.keep x11.bl); have X11 := hide (X10.out.keep x11.bl); have G11 := hide (G10.out.keep x11.bl); have F11 := hide (F10.out.keep x11.bl); have T11 := hide (Nat.le_trans T10.out (Below.size x11.bl)); have SC' : Hid ((fun w' => w'.cell? ⟨w5.heap.size, 0, none⟩ = some (.slice (some ⟨b, 0, none⟩) xs.length xs.length) ∧ w'.cell? ⟨w5.heap.size, 1, none⟩ = some (.slice (some ⟨k, 0, none⟩) ss.length ss.length) ∧ w'.cell? ⟨w5.heap.size, 2, none⟩ = some (.int .i64 off) ∧ w'.cell? ⟨w.heap.size, 0, none⟩ = some (.slice sa xs.length cap) ∧ w'.cell? ⟨w.heap.size, 1, none⟩ = some (.slice ta ss.length dap) ∧ w'.cell? ⟨w.heap.size, 2, none⟩ = some (.int .i64 off)) w11) := ⟨X11.out.c0, X11.out.c1, X11.out.c2, B11.out.a0, B11.out.a1, B11.out.a2⟩; clear x11) | fail)
  clear SA SB' SC' A10 C10 B8 W8' X8 G8 F8 T8 B9 W9' X9 G9 F9 T9 B10 W10' X10 G10 F10 T10 ba0 ba1 ba2 xc0 xc1 xc2
  have xc0 := X11.out.c0
  have xc1 := X11.out.c1
  have xc2 := X11.out.c2
  go_wp2_with fail
  refine (markView_any (lo := b) (hi := k + 1) X11.out.hL X11.out.hS X11.out.fL X11.out.fS (by have := SZ.out; omega) (by have := SZ.out; omega) (by have := SZ.out; omega) (by have := SZ.out; have := T11.out; omega) (by have := SZ.out; have := T11.out; omega) 1 (by omega) hlx hls).mono ?_
  rintro e w14 ⟨rfl, _, _, m14⟩
  have B14 := hide (B11.out.mIn m14 (by have := SZ.out; omega))
  have W14' := hide (W11'.out.mIn m14 (by have := SZ.out; omega))
  have G14 := hide (G11.out.mIn m14 (by have := SZ.out; omega))
  have F14 := hide (F11.out.mIn m14)
  have T14 := hide (Nat.le_trans T11.out (Below.size m14.bl))
  clear m14 xc0 xc1 xc2 B11 W11' X11 G11 F11 T11
  have hk : ¬ (1 + (xs.length : Int) + (ss.length : Int)) < 0 := by omega
  go_wp2_with fail
  refine (eqInts_any G14.out.ints W14'.out.ints (by omega)).mono ?_
  rintro e w16 ⟨rfl, x16⟩
  rw [show decide (L = L) = true from by simp]
  have B16 := hide (B14.out.keep x16.bl)
  have W16' := hide (W14'.out.keep x16.bl)
  have G16 := hide (G14.out.keep x16.bl)
  have F16 := hide (F14.out.keep x16.bl)
  have T16 := hide (Nat.le_trans T14.out (Below.size x16.bl))
  clear x16 B14 W14' G14 F14 T14
  go_wp2_with fail
  refine (markB2 G16.out F16.out (by have := SZ.out; have := T16.out; omega) 1 (by omega) (by omega)).mono ?_
  rintro e w17 ⟨rfl, i17, m17⟩
  have B17 := hide (B16.out.mIn m17 (by have := SZ.out; omega))
  have W17' := hide (W16'.out.mIn m17 (by have := SZ.out; omega))
  have I17 := hide i17
  clear i17 m17 B16 W16' G16 F16 T16
  go_wp2_with fail
  refine (heldInts_any 1 I17.out.ints (by omega) (by omega)).mono ?_
  rintro e w18 ⟨rfl, rfl⟩
  clear I17
  have hq : ¬ (1 + (L.length : Int)) < 0 := by omega
  have ba0 := B17.out.a0
  have ba1 := B17.out.a1
  have ba2 := B17.out.a2
  go_wp2_with fail
  refine (toView_any B17.out.hS.ints B17.out.hT.ints off hlx hls).mono ?_
  rintro e w19 ⟨b19, k19, rfl, _, _, _, rb, rk, x19⟩
  have B19 := hide (B17.out.keep x19.bl)
  have W19' := hide (W17'.out.keep x19.bl)
  have Rb := hide (rb.ints (n := xs.length) (cap := xs.length) rfl)
  have Rk := hide (rk.ints (n := ss.length) (cap := ss.length) rfl)
  clear rb rk x19 ba0 ba1 ba2 B17 W17'
  go_wp2_with fail
  refine (him.out _ _ _ Rb.out Rk.out hlx hls).mono ?_
  rintro e w21 ⟨sg2, cg2, rfl, iG, x21⟩
  have B21 := hide (B19.out.keep x21)
  have W21' := hide (W19'.out.keep x21)
  have G21 := hide (ownB (cap := cg2) iG)
  clear iG x21 B19 W19' Rb Rk
  go_wp2_with fail
  refine (eqInts_any G21.out.ints W21'.out.ints (by omega)).mono ?_
  rintro e w22 ⟨rfl, x22⟩
  rw [show decide (L = L) = true from by simp]
  have B22 := hide (B21.out.keep x22.bl)
  clear x22 B21 W21' G21
  go_wp2
  go_ret
  exact ⟨rfl, B22.out.z⟩
end Go.Proofs.Ytiekkninnjffpaa
