import Derived.Test.YtiekkninnjffpaaLwC
namespace Go.Proofs.Ytiekkninnjffpaa
open Go.ChangeShapes Go.RowKit
set_option linter.unusedSimpArgs false
set_option linter.unusedVariables false

set_option maxRecDepth 100000 in
set_option maxHeartbeats 2000000 in
theorem lwPl0 {w : World} {vS vT wS wT fS fT : Value} {xs ss wxs wss : List Int} (off woff foff step : Int) (a : Nat) (perm : Value) (hS : Ints w vS xs) (hT : Ints w vT ss) (hwS : Ints w wS wxs) (hwT : Ints w wT wss) (hf : Ints w fS wxs)
    (hv : ValidV wxs wss woff) (hl : ss.length = xs.length) (hle : wxs.length = xs.length) (ha : a < xs.length) (hst : -1000000 ≤ step ∧ step ≤ 1000000) (hfo : -4096 ≤ foff ∧ foff ≤ 4096) (hso : ∀ i, i < ss.length → -4096 ≤ ss.getD i 0 ∧ ss.getD i 0 ≤ 4096) (ho : -4096 ≤ off ∧ off ≤ 4096)
    (hpl : ∀ k, k < (offsL wxs wss woff).length → (offsL wxs wss woff).getD k 0 = off + dotL ss ((idxL wxs k).set a ((idxL wxs k).getD a 0 * step)) + (foff - off)) :
    Calls Try.prog 46 #[.agg #[vS, vT, .int .i64 off], .agg #[wS, wT, .int .i64 woff], .int .i64 0, .int .i64 (a : Int), .agg #[fS, fT, .int .i64 foff], .int .i64 step, perm] w fun e w' => e = .returned (.bool true) ∧ Bel w w' := by
  have A0 := hide (VB.start off woff foff (fT := fT) hS hT hwS hwT hf)
  have hd : (dcValidV wxs wss woff) = true := dcValidV_t hv
  have h4 := hv.1.1
  have hvv := hide (iVV_any A0.out.ws A0.out.wt woff (by omega) (by have := hv.2.1; omega))
  rw [hd] at hvv
  have HV := hide hv
  have HL := hide hl
  have HLE := hide hle
  have HSO := hide hso
  have HPL := hide hpl
  have hPL : prod wxs = ((offsL wxs wss woff).length : Int) := by
    have h1 := prod_plen (fun m hm => (good_nonneg hv.1 m hm).1)
    unfold offsL
    split
    · next h => rw [h]; rfl
    · rw [places_len wxs wss woff hv.2.1.symm]; omega
  have hOl := offs_len hv
  have HPOS : Hid (0 < (offsL wxs wss woff).length → ∀ j, j < wxs.length → 1 ≤ wxs.getD j 0 ∧ wxs.getD j 0 ≤ 4096) := fun h0 j hj => by
    have hz : prod wxs ≠ 0 := by omega
    have hm : wxs.getD j 0 ∈ wxs := by rw [List.getD_eq_getElem?_getD, List.getElem?_eq_getElem hj]; exact List.getElem_mem hj
    exact ⟨(good_pos hv.1 hz _ hm).1, (hv.1.2.1 j hj).2⟩
  have HIR := hide hv.1.2.1
  have hOA : offsA wxs wss woff = offsL wxs wss woff := if_pos hv
  have HOA := hide hOA
  clear hd hOA hv hl hso hpl hle
  obtain ⟨s1, d1, rfl, _⟩ := hS
  obtain ⟨s2, d2, rfl, _⟩ := hT
  obtain ⟨s3, d3, rfl, _⟩ := hwS
  obtain ⟨s4, d4, rfl, _⟩ := hwT
  obtain ⟨s5, d5, rfl, _⟩ := hf
  go_enter Try.func46, Try.ntmps46
  go_wp2_with fail
  refine hvv.out.mono ?_
  rintro e w1 ⟨rfl, x1⟩
  have A1 := hide (A0.out.keep x1.bl)
  clear hvv A0 x1
  have w0 := A1.out.w0
  have w1' := A1.out.w1
  have w2 := A1.out.w2
  go_wp2_with fail
  refine (iOF_any A1.out.ws A1.out.wt woff (by omega) (by have := HV.out.2.1; omega)).mono ?_
  rintro e w3 ⟨so, co, rfl, hO, x3⟩
  rw [HOA.out] at hO ⊢
  have A3 := hide (A1.out.keep x3)
  have HO := hide hO
  clear A1 w0 w1' w2 x3 hO
  have w0 := A3.out.w0
  go_wp2_with fail
  refine (lwCount_any A3.out.ws h4 HIR.out).mono ?_
  rintro e w4 ⟨rfl, rfl⟩
  rw [hPL]
  generalize offsL wxs wss woff = OL at *
  clear hPL
  have f0 := A3.out.f0
  go_wp2_with (go_at_call 49; refine (lwSame_any A3.out.ws A3.out.fs (by omega)).mono ?_; rintro e w4s ⟨rfl, x4s⟩; rw [decide_eq_true rfl])
  have A3s := hide (A3.out.keep x4s.bl)
  have B4s := hide x4s.bl
  clear w0 f0 x4s A3
  go_loopw [16] (fun i wr => ∃ k : Nat, i = .int .i64 k ∧ k ≤ OL.length ∧ Bel w4s wr) (fun i _ => OL.length - (intOf i).toNat)
  case atStart => exact ⟨0, rfl, by omega, Below.refl _ _⟩
  case round =>
    obtain ⟨k, rfl, hk, hB⟩ := hrel
    have A5 := hide (A3s.out.keep hB)
    have HB := hide hB
    clear hB
    by_cases hlt : k < OL.length
    · have w0 := A5.out.w0
      have hk0 : (0 : Int) ≤ (k : Int) := Int.natCast_nonneg _
      have hk1 : (k : Int) < (OL.length : Int) := by omega
      have hix := hide (lwIndex_any A5.out.ws h4 (HPOS.out (by omega)) k (by omega))
      go_wp2_with fail
      refine hix.out.mono ?_
      rintro e w5 ⟨rfl, hrow, x5, hs5⟩
      have A6 := hide (A5.out.keep x5.bl)
      have HR := hide hrow
      have B6 := hide (Bel.tr HB.out x5.bl)
      clear hrow x5 hs5 hix w0
      have v2 := A6.out.v2
      have hPk := hide (HPL.out k hlt)
      have hIX := hide (idxL_len wxs k)
      have hIL : Hid (((idxL wxs k).set a ((idxL wxs k).getD a 0 * step)).length = wxs.length) := by show List.length _ = _; rw [List.length_set, hIX.out]
      have HIG : Hid (∀ i, i < wxs.length → ((idxL wxs k).set a ((idxL wxs k).getD a 0 * step)).getD i 0 = if i = a then (idxL wxs k).getD i 0 * step else (idxL wxs k).getD i 0) := fun i hi => by
        have hl := hIX.out
        rw [List.getD_eq_getElem?_getD, List.getElem?_set]
        by_cases e : a = i
        · subst e
          rw [if_pos rfl, if_pos rfl, if_pos (by omega)]; rfl
        · rw [if_neg e, if_neg (fun q => e q.symm), List.getD_eq_getElem?_getD]
      generalize (idxL wxs k).set a ((idxL wxs k).getD a 0 * step) = IS at hPk hIL HIG
      generalize wr.heap.size = BX at HR ⊢
      go_wp2_with fail
      go_loopw [18, 19] (fun pl i wr2 => ∃ j : Nat, i = .int .i64 j ∧ j ≤ xs.length ∧ (∃ Z : Int, pl = .int .i64 Z ∧ Hid (Z = off + dotL (ss.take j) (IS.take j)) ∧ -100000000000000 * ((j : Int) + 1) ≤ Z ∧ Z ≤ 100000000000000 * ((j : Int) + 1)) ∧ Ext w5 wr2) (fun pl i _ => xs.length - (intOf i).toNat)
      case atStart => exact ⟨0, rfl, by omega, ⟨off, rfl, by show off = _; simp [dotL], by omega, by omega⟩, Ext.refl _⟩
      case round =>
        obtain ⟨j, rfl, hj, ⟨Z, rfl, hZ, hz1, hz2⟩, hx⟩ := hrel
        have A7 := hide (A6.out.keep hx.bl)
        have HX := hide hx
        clear hx
        have v0 := A7.out.v0
        have v1 := A7.out.v1
        have w0 := A7.out.w0
        have v2b := A7.out.v2
        have f2b := A7.out.f2
        by_cases hjl : j < xs.length
        · obtain ⟨b1, o1, rfl, p0⟩ := A7.out.vs.at j hjl
          have hjs : j < ss.length := by have := HL.out; omega
          obtain ⟨b2, o2, rfl, p1⟩ := A7.out.vt.at j hjs
          have hjw : j < wxs.length := by have := HLE.out; omega
          have p2 := HX.out.box (HR.out j (by rw [hIX.out]; exact hjw))
          rw [Nat.zero_add] at p2
          have hXb := idxL_bd (HPOS.out (by omega)) k j hjw
          have hSb := HSO.out j hjs
          have hig := HIG.out j hjw
          have hdt := dotL_take ss IS j hjs (by have := hIL.out; omega)
          rw [hig] at hdt
          have hj0 : (0 : Int) ≤ (j : Int) := Int.natCast_nonneg _
          have hj1 : (j : Int) < (xs.length : Int) := by omega
          have hj2 : (j : Int) < (ss.length : Int) := by omega
          have hj3 : (j : Int) < (wxs.length : Int) := by omega
          generalize (idxL wxs k).getD j 0 = X at p2 hXb hdt
          generalize ss.getD j 0 = S at p1 hSb hdt
          have HDT := hide hdt
          clear hdt hig
          by_cases h1 : j = a
          · rw [if_pos h1] at HDT
            have h1i : ((j : Int) == (a : Int)) = true := by simp [h1]
            clear h1
            have hxs : -4096000000 ≤ X * step ∧ X * step ≤ 4096000000 := by
              have h1 : X * step ≤ X * 1000000 := Int.mul_le_mul_of_nonneg_left hst.2 hXb.1
              have h2 : X * (-1000000) ≤ X * step := Int.mul_le_mul_of_nonneg_left hst.1 hXb.1
              omega
            generalize hY : X * step = Y at HDT hxs
            have hw0 : wrap64 (X * step) = Y := by rw [hY]; unfold wrap64; omega
            have hbd : -16777216000000 ≤ Y * S ∧ Y * S ≤ 16777216000000 := by
              rw [Int.mul_comm]
              rcases Int.le_total 0 S with hs0 | hs0
              · have h1 : S * Y ≤ S * 4096000000 := Int.mul_le_mul_of_nonneg_left hxs.2 hs0
                have h2 : S * (-4096000000) ≤ S * Y := Int.mul_le_mul_of_nonneg_left hxs.1 hs0
                omega
              · have h1 : S * 4096000000 ≤ S * Y := Int.mul_le_mul_of_nonpos_left hs0 hxs.2
                have h2 : S * Y ≤ S * (-4096000000) := Int.mul_le_mul_of_nonpos_left hs0 hxs.1
                omega
            generalize hT : Y * S = T at HDT hbd
            have hw1 : wrap64 (Y * S) = T := by rw [hT]; unfold wrap64; omega
            have HZ2 : Hid (Z + T = off + dotL (ss.take (j + 1)) (IS.take (j + 1))) := by show Z + T = _; have a := HDT.out; have b := hZ.out; omega
            have HT := hide hT
            have HY := hide hY
            clear hT hY
            go_wp2
            go_roundw
            · exact ⟨j + 1, by go_num, by omega, ⟨Z + T, by first | rfl | (rw [HY.out, HT.out]) | (rw [HT.out]) | simp, HZ2.out, by push_cast; omega, by push_cast; omega⟩, by first | exact HX.out | exact HX.out.drew⟩
            · simp [intOf]; omega
          · rw [if_neg h1] at HDT
            have h1i : ((j : Int) == (a : Int)) = false := by simp; omega
            clear h1
            have hbd := sgn_bd hXb hSb
            generalize hT : X * S = T at HDT hbd
            have hw1 : wrap64 (X * S) = T := by rw [hT]; unfold wrap64; omega
            have HZ2 : Hid (Z + T = off + dotL (ss.take (j + 1)) (IS.take (j + 1))) := by show Z + T = _; have a := HDT.out; have b := hZ.out; omega
            have HT := hide hT
            clear hT
            go_wp2
            go_roundw
            · exact ⟨j + 1, by go_num, by omega, ⟨Z + T, by first | rfl | (rw [HT.out]) | simp, HZ2.out, by push_cast; omega, by push_cast; omega⟩, by first | exact HX.out | exact HX.out.drew⟩
            · simp [intOf]; omega
        · have hjj : j = xs.length := by omega
          subst hjj
          have hZO : OL.getD k 0 = Z + (foff - off) := by
            have a := hZ.out
            have b := hPk.out
            have c := hIL.out
            have d := HLE.out
            rw [← HL.out, List.take_length, HL.out, ← d, ← c, List.take_length] at a
            rw [a]; exact b
          rcases HO.out with h0 | ⟨g, rfl, _, hrowO, _⟩
          · rw [h0] at hlt; simp at hlt
          have p3 := HX.out.box (Bel.box B6.out (Bel.box B4s.out (hrowO k hlt)))
          rw [Nat.zero_add, hZO] at p3
          clear hZO hrowO
          have B8 := hide (Bel.tr B6.out HX.out.bl)
          have hx4 : xs.length ≤ 4 := by have := HLE.out; omega
          have hZb : -1000000000000000 ≤ Z ∧ Z ≤ 1000000000000000 := by omega
          clear hz1 hz2 hx4
          go_wp2
          go_roundw
          · exact ⟨k + 1, by go_num, by omega, B8.out⟩
          · simp [intOf]; omega
    · have hkk : k = OL.length := by omega
      subst hkk
      go_wp2
      go_ret
      exact ⟨rfl, A5.out.bl⟩
end Go.Proofs.Ytiekkninnjffpaa
