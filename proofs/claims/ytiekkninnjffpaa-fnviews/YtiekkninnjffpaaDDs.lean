import Derived.Test.YtiekkninnjffpaaDX
import Derived.Deep.DeepCutAuto
namespace Go.Proofs.Ytiekkninnjffpaa
open Go.ChangeShapes Go.RowKit
set_option linter.unusedSimpArgs false
set_option linter.unusedVariables false

def DrawSlOk (w : World) (e : Ending) (w' : World) : Prop := ∃ (sa sb : Option Addr) (ca cb : Nat) (xs ss : List Int) (off ax st sp se : Int), e = .returned (.tuple #[.agg #[.slice sa xs.length ca, .slice sb ss.length cb, .int .i64 off], .int .i64 ax, .int .i64 st, .int .i64 sp, .int .i64 se]) ∧ Ints w' (.slice sa xs.length ca) xs ∧ Ints w' (.slice sb ss.length cb) ss ∧ (xs.length ≤ 5 ∧ ss.length ≤ 5) ∧ Bel w w'

set_option maxRecDepth 100000 in
set_option maxHeartbeats 4000000 in
theorem drawSlice_any {w : World} {v : Value} {cs : List Int} (h : Code w v cs) : Calls Try.prog 45 #[v] w fun e w' => DrawSlOk w e w' := by
  obtain ⟨i0, hi0, hz0, hz1, hz2⟩ := info_parts info2
  have y0 : Ext w (w.alloc (.cells #[.slice none 0 0, .slice none 0 0, .int .i64 0] 27)) := (Ext.refl _).alloc _ _
  have HC := hide (h.keep y0.bl)
  obtain ⟨sv, cv, rfl, _, _⟩ := h
  clear y0
  go_enter Try.func45, Try.ntmps45
  go_wp2_with fail
  generalize hV : w.alloc (.cells #[.slice none 0 0, .slice none 0 0, .int .i64 0] 27) = V0 at HC ⊢
  have HV : Hid (V0 = w.alloc (.cells #[.slice none 0 0, .slice none 0 0, .int .i64 0] 27)) := hV.symm
  clear hV
  refine (source_any HC.out).mono ?_
  rintro e W1 ⟨b, vs, rfl, hS, hb, hB⟩
  have HB : Hid (V0.heap.size ≤ b ∧ Below V0.heap.size V0 W1 ∧ b < W1.heap.size ∧ SX W1 W1.heap.size b) := ⟨hb, hB, cell_lt hS.c0, ⟨_, _, _, _, hS.h⟩⟩
  clear hS hb hB HC
  go_wp2_with fail
  refine (drawAny_any HB.out.2.2.2).mono ?_
  rintro e W2 ⟨sa, sb, ca, cb, xs, ss, off, rfl, ha, hc, ⟨hl1, hl2, hin⟩, hst⟩
  have D0 := hide (DX.make off HV.out HB.out.1 HB.out.2.1 HB.out.2.2.1 ha hc hst)
  have hlen : xs.length ≤ 5 ∧ ss.length ≤ 5 := ⟨hl1, hl2⟩
  have HIN := hide hin
  clear ha hc hst HB HV hin hl2
  have c0 := D0.out.c0
  go_wp2_with fail
  clear c0
  generalize hKK : W2.heap.size + 1 = K at D0
  generalize hBB : W2.heap.size = B at D0 ⊢
  clear hKK hBB
  generalize W2.alloc (.cells #[.slice sa xs.length ca, .slice sb ss.length cb, .int .i64 off] 27) = V2 at D0 ⊢
  refine (D0.out.next ((xs.length : Int))).mono ?_
  rintro e U1 ⟨z1, rfl, hz1, d1⟩
  have D1 := hide d1
  clear d1 D0
  go_upto_if 27 with fail
  go_cut [11] (fun s11 wx => ∃ n : Int, s11 = .int .i64 n ∧ (-1 ≤ n ∧ n ≤ 4097) ∧ DX w wx K b B (.slice sa xs.length ca) (.slice sb ss.length cb) xs ss off)
  case first =>
    rcases (show xs.length = 0 ∨ 0 < xs.length by omega) with hd0 | hd0
    · have hdn : ¬ (0 : Int) < (xs.length : Int) := by omega
      clear hd0
      go_wp2
      go_meet
      case rel => exact ⟨3, rfl, by omega, D1.out⟩
    · have hdn : (0 : Int) < (xs.length : Int) := by omega
      obtain ⟨a, ha⟩ : ∃ a : Nat, z1 = (a : Int) := ⟨z1.toNat, by omega⟩
      subst ha
      have hax : a < xs.length := by omega
      have a0 : (0 : Int) ≤ (a : Int) := Int.natCast_nonneg _
      have a1 : (a : Int) < (xs.length : Int) := by omega
      have hn := HIN.out a hax
      obtain ⟨g, cg, hv, _⟩ := own_form3 D1.out.a (by omega)
      have hsa : sa = some ⟨g, 0, none⟩ := by injection hv
      subst hsa
      obtain ⟨hc, _⟩ := own_at D1.out.a a hax
      generalize xs.getD a 0 = n at hn hc
      have c0' := D1.out.c0
      clear hv
      go_wp2
      go_meet
      case rel => exact ⟨n, rfl, hn, D1.out⟩
  case rest =>
  obtain ⟨n, rfl, hn, hD⟩ := hcut
  have D2 := hide hD
  clear hD D1
  go_wp2_with fail
  refine (D2.out.next (12)).mono ?_
  rintro e U3 ⟨z3, rfl, hz3, d3⟩
  have D3 := hide d3
  clear d3 D2
  go_upto_if 35 with fail
  go_cut [10] (fun s10 wx => ∃ ax : Int, s10 = .int .i64 ax ∧ DX w wx K b B (.slice sa xs.length ca) (.slice sb ss.length cb) xs ss off)
  case first =>
    rcases Classical.em (z3 = 0) with qq | qq
    · subst qq
      go_wp2_with fail
      refine (D3.out.next (2)).mono ?_
      rintro e U4 ⟨z4, rfl, hz4, d4⟩
      have D4 := hide d4
      clear d4 D3
      have hm : 0 ≤ z4 * ((xs.length : Int) + 1) ∧ z4 * ((xs.length : Int) + 1) ≤ 6 := by
        rcases (show z4 = 0 ∨ z4 = 1 by omega) with q | q
        · subst q; simp
        · subst q; simp; omega
      go_wp2
      go_meet
      case rel => exact ⟨_, rfl, D4.out⟩
    · have qd : (z3 == 0) = false := by simp [qq]
      go_wp2
      go_meet
      case rel => exact ⟨_, rfl, D3.out⟩
  case rest =>
  obtain ⟨ax, rfl, hD⟩ := hcut
  have D5 := hide hD
  clear hD D3
  go_wp2_with fail
  refine (D5.out.next (2 * n + 5)).mono ?_
  rintro e U6 ⟨z6, rfl, hz6, d6⟩
  have D6 := hide d6
  clear d6 D5
  go_wp2_with fail
  refine (D6.out.next (2 * n + 5)).mono ?_
  rintro e U7 ⟨z7, rfl, hz7, d7⟩
  have D7 := hide d7
  clear d7 D6
  go_wp2_with fail
  refine (D7.out.next (7)).mono ?_
  rintro e U8 ⟨z8, rfl, hz8, d8⟩
  have D8 := hide d8
  clear d8 D7
  go_wp2_with fail
  refine (D8.out.next (3)).mono ?_
  rintro e U9 ⟨z9, rfl, hz9, d9⟩
  have D9 := hide d9
  clear d9 D8
  go_upto_if 64 with fail
  go_cut [12, 14] (fun s12 s14 wx => ∃ st se : Int, s12 = .int .i64 st ∧ s14 = .int .i64 se ∧ DX w wx K b B (.slice sa xs.length ca) (.slice sb ss.length cb) xs ss off)
  case first =>
    rcases Classical.em (z9 = 0) with qq | qq
    · subst qq
      go_wp2
      go_meet
      case rel => exact ⟨_, _, rfl, rfl, D9.out⟩
    · have qd : (z9 == 0) = false := by simp [qq]
      go_wp2_with fail
      refine (D9.out.next (2)).mono ?_
      rintro e U10 ⟨z10, rfl, hz10, d10⟩
      have D10 := hide d10
      clear d10 D9
      go_wp2_with fail
      refine (D10.out.next (2)).mono ?_
      rintro e U11 ⟨z11, rfl, hz11, d11⟩
      have D11 := hide d11
      clear d11 D10
      go_wp2
      go_meet
      case rel => exact ⟨_, _, rfl, rfl, D11.out⟩
  case rest =>
  obtain ⟨st, se, rfl, rfl, hD⟩ := hcut
  have D12 := hide hD
  clear hD D9
  go_wp2_with fail
  refine (D12.out.next (24)).mono ?_
  rintro e U13 ⟨z13, rfl, hz13, d13⟩
  have D13 := hide d13
  clear d13 D12
  go_upto_if 73 with fail
  go_cut [14] (fun sx wx => ∃ q : Int, sx = .int .i64 q ∧ DX w wx K b B (.slice sa xs.length ca) (.slice sb ss.length cb) xs ss off)
  case first =>
    rcases Classical.em (z13 = 0) with qq | qq
    · subst qq
      go_wp2_with fail
      refine (D13.out.next (2)).mono ?_
      rintro e U14 ⟨z14, rfl, hz14, d14⟩
      have D14 := hide d14
      clear d14 D13
      go_wp2
      go_meet
      case rel => exact ⟨_, rfl, D14.out⟩
    · have qd : (z13 == 0) = false := by simp [qq]
      go_wp2
      go_meet
      case rel => exact ⟨_, rfl, D13.out⟩
  case rest =>
  obtain ⟨q14, rfl, hD⟩ := hcut
  have D15 := hide hD
  clear hD D13
  go_upto_if 78 with fail
  go_cut [12] (fun sx wx => ∃ q : Int, sx = .int .i64 q ∧ DX w wx K b B (.slice sa xs.length ca) (.slice sb ss.length cb) xs ss off)
  case first =>
    rcases Classical.em (z13 = 1) with qq | qq
    · subst qq
      go_wp2_with fail
      refine (D15.out.next (2)).mono ?_
      rintro e U16 ⟨z16, rfl, hz16, d16⟩
      have D16 := hide d16
      clear d16 D15
      go_wp2
      go_meet
      case rel => exact ⟨_, rfl, D16.out⟩
    · have qd : (z13 == 1) = false := by simp [qq]
      go_wp2
      go_meet
      case rel => exact ⟨_, rfl, D15.out⟩
  case rest =>
  obtain ⟨q12, rfl, hD⟩ := hcut
  have D17 := hide hD
  clear hD D15
  go_upto_if 83 with fail
  go_cut [13] (fun sx wx => ∃ q : Int, sx = .int .i64 q ∧ DX w wx K b B (.slice sa xs.length ca) (.slice sb ss.length cb) xs ss off)
  case first =>
    rcases Classical.em (z13 = 2) with qq | qq
    · subst qq
      go_wp2_with fail
      refine (D17.out.next (2)).mono ?_
      rintro e U18 ⟨z18, rfl, hz18, d18⟩
      have D18 := hide d18
      clear d18 D17
      go_wp2
      go_meet
      case rel => exact ⟨_, rfl, D18.out⟩
    · have qd : (z13 == 2) = false := by simp [qq]
      go_wp2
      go_meet
      case rel => exact ⟨_, rfl, D17.out⟩
  case rest =>
  obtain ⟨q13, rfl, hD⟩ := hcut
  have D19 := hide hD
  clear hD D17
  have c0 := D19.out.c0
  have c1 := D19.out.c1
  have c2 := D19.out.c2
  have r0 := D19.out.rb.r0
  have r1 := D19.out.rb.r1
  have r2 := D19.out.rb.r2
  have rf := D19.out.rb.rf
  go_wp2
  obtain ⟨t1, t2, t3⟩ := D19.out.ints (.slice sa xs.length ca) (.slice sb ss.length cb) (.int .i64 off)
  exact bodyPost_ret (v := .tuple #[.agg #[.slice sa xs.length ca, .slice sb ss.length cb, .int .i64 off], .int .i64 ax, .int .i64 q12, .int .i64 q13, .int .i64 q14]) (by simp [results, Try.results45, go_sem, set3_0 r0, set3_1 r1, set3_2 r2]) rfl ⟨sa, sb, ca, cb, xs, ss, off, _, _, _, _, rfl, t1, t2, hlen, t3⟩
end Go.Proofs.Ytiekkninnjffpaa
