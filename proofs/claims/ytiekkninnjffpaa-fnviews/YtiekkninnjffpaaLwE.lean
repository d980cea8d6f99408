import Derived.Test.YtiekkninnjffpaaLwC
namespace Go.Proofs.Ytiekkninnjffpaa
open Go.ChangeShapes Go.RowKit
set_option linter.unusedSimpArgs false
set_option linter.unusedVariables false

theorem pick_take : ∀ (ps is : List Int) (m : Nat) (i acc : Int), m < ps.length → m < is.length → pick (ps.take (m + 1)) (is.take (m + 1)) i acc = if ps.getD m 0 = i then is.getD m 0 else pick (ps.take m) (is.take m) i acc
  | [], is, m, i, acc, h, _ => by simp at h
  | p :: ps, [], m, i, acc, _, h => by simp at h
  | p :: ps, x :: xs, 0, i, acc, _, _ => by cases ps <;> cases xs <;> simp [pick]
  | p :: ps, x :: xs, m + 1, i, acc, h1, h2 => by
    have := pick_take ps xs m i (if p = i then x else acc) (by simpa using h1) (by simpa using h2)
    simpa [pick] using this

set_option maxRecDepth 100000 in
set_option maxHeartbeats 2000000 in
theorem lwPl1 {w : World} {vS vT wS wT fS fT : Value} {xs ss wxs wss fxs ps : List Int} (off woff foff axis step : Int) {perm : Value} (hpm : Ints w perm ps) (hS : Ints w vS xs) (hT : Ints w vT ss) (hwS : Ints w wS wxs) (hwT : Ints w wT wss) (hf : Ints w fS fxs)
    (hv : ValidV wxs wss woff) (hl : ss.length = xs.length) (hle : wxs.length = xs.length) (hpz : ps.length = xs.length) (hso : ∀ i, i < ss.length → -4096 ≤ ss.getD i 0 ∧ ss.getD i 0 ≤ 4096) (ho : -4096 ≤ off ∧ off ≤ 4096)
    (hpl : ∀ k, k < (offsL wxs wss woff).length → (offsL wxs wss woff).getD k 0 = off + dotL ss ((List.range xs.length).map fun (i : Nat) => pick ps (idxL wxs k) (i : Int) 0)) :
    Calls Try.prog 46 #[.agg #[vS, vT, .int .i64 off], .agg #[wS, wT, .int .i64 woff], .int .i64 1, .int .i64 axis, .agg #[fS, fT, .int .i64 foff], .int .i64 step, perm] w fun e w' => e = .returned (.bool true) ∧ Bel w w' := by
  have A0 := hide (VB.start off woff foff (fT := fT) hS hT hwS hwT hf)
  have hd : (dcValidV wxs wss woff) = true := dcValidV_t hv
  have h4 := hv.1.1
  have hvv := hide (iVV_any A0.out.ws A0.out.wt woff (by omega) (by have := hv.2.1; omega))
  rw [hd] at hvv
  have HV := hide hv
  have HL := hide hl
  have HLE := hide hle
  have HPZ := hide hpz
  have HPM := hide hpm
  have HSO := hide hso
  have HPL := hide hpl
  have hPL : prod wxs = ((offsL wxs wss woff).length : Int) := by
    have h1 := prod_plen (fun m hm => (good_nonneg hv.1 m hm).1)
    unfold offsL
    split
    · next h => rw [h]; rfl
    · rw [places_len wxs wss woff hv.2.1.symm]; omega
  have hOl := offs_len hv
  have HPOS : Hid (0 < (offsL wxs wss woff).length → ∀ j, j < wxs.length → 1 ≤ wxs.getD j 0 ∧ wxs.getD j 0 ≤ 4096) := fun h0 j hj => by
    have hz : prod wxs ≠ 0 := by omega
    have hm : wxs.getD j 0 ∈ wxs := by rw [List.getD_eq_getElem?_getD, List.getElem?_eq_getElem hj]; exact List.getElem_mem hj
    exact ⟨(good_pos hv.1 hz _ hm).1, (hv.1.2.1 j hj).2⟩
  have HIR := hide hv.1.2.1
  have hOA : offsA wxs wss woff = offsL wxs wss woff := if_pos hv
  have HOA := hide hOA
  clear hd hOA hv hl hso hpl hle hpz
  obtain ⟨s6, d6, rfl, _⟩ := hpm
  obtain ⟨s1, d1, rfl, _⟩ := hS
  obtain ⟨s2, d2, rfl, _⟩ := hT
  obtain ⟨s3, d3, rfl, _⟩ := hwS
  obtain ⟨s4, d4, rfl, _⟩ := hwT
  obtain ⟨s5, d5, rfl, _⟩ := hf
  go_enter Try.func46, Try.ntmps46
  go_wp2_with fail
  refine hvv.out.mono ?_
  rintro e w1 ⟨rfl, x1⟩
  have A1 := hide (A0.out.keep x1.bl)
  clear hvv A0 x1
  have w0 := A1.out.w0
  have w1' := A1.out.w1
  have w2 := A1.out.w2
  go_wp2_with fail
  refine (iOF_any A1.out.ws A1.out.wt woff (by omega) (by have := HV.out.2.1; omega)).mono ?_
  rintro e w3 ⟨so, co, rfl, hO, x3⟩
  rw [HOA.out] at hO ⊢
  have A3 := hide (A1.out.keep x3)
  have HO := hide hO
  clear A1 w0 w1' w2 x3 hO
  have w0 := A3.out.w0
  go_wp2_with fail
  refine (lwCount_any A3.out.ws h4 HIR.out).mono ?_
  rintro e w4 ⟨rfl, rfl⟩
  rw [hPL]
  generalize offsL wxs wss woff = OL at *
  clear w0 hPL
  go_wp2_with fail
  go_loopw [16] (fun i wr => ∃ k : Nat, i = .int .i64 k ∧ k ≤ OL.length ∧ Bel w4 wr) (fun i _ => OL.length - (intOf i).toNat)
  case atStart => exact ⟨0, rfl, by omega, Below.refl _ _⟩
  case round =>
    obtain ⟨k, rfl, hk, hB⟩ := hrel
    have A5 := hide (A3.out.keep hB)
    have HB := hide hB
    clear hB
    by_cases hlt : k < OL.length
    · have w0 := A5.out.w0
      have hk0 : (0 : Int) ≤ (k : Int) := Int.natCast_nonneg _
      have hk1 : (k : Int) < (OL.length : Int) := by omega
      have hix := hide (lwIndex_any A5.out.ws h4 (HPOS.out (by omega)) k (by omega))
      go_wp2_with fail
      refine hix.out.mono ?_
      rintro e w5 ⟨rfl, hrow, x5, hs5⟩
      have A6 := hide (A5.out.keep x5.bl)
      have HR := hide hrow
      have B6 := hide (Bel.tr HB.out x5.bl)
      clear hrow x5 hs5 hix w0
      have v2 := A6.out.v2
      have hPk := hide (HPL.out k hlt)
      have hIX := hide (idxL_len wxs k)
      have hIL : Hid (((List.range xs.length).map fun (i : Nat) => pick ps (idxL wxs k) (i : Int) 0).length = xs.length) := by show List.length _ = _; simp
      have HIG : Hid (∀ i : Nat, i < xs.length → ((List.range xs.length).map fun (i : Nat) => pick ps (idxL wxs k) (i : Int) 0).getD i 0 = pick ps (idxL wxs k) (i : Int) 0) := fun i hi => by simp [List.getD_eq_getElem?_getD, hi]
      generalize ((List.range xs.length).map fun (i : Nat) => pick ps (idxL wxs k) (i : Int) 0) = IS at hPk hIL HIG
      generalize wr.heap.size = BX at HR ⊢
      go_wp2_with fail
      go_loopw [18, 19] (fun pl i wr2 => ∃ j : Nat, i = .int .i64 j ∧ j ≤ xs.length ∧ (∃ Z : Int, pl = .int .i64 Z ∧ Hid (Z = off + dotL (ss.take j) (IS.take j)) ∧ -100000000 * ((j : Int) + 1) ≤ Z ∧ Z ≤ 100000000 * ((j : Int) + 1)) ∧ Ext w5 wr2) (fun pl i _ => xs.length - (intOf i).toNat)
      case atStart => exact ⟨0, rfl, by omega, ⟨off, rfl, by show off = _; simp [dotL], by omega, by omega⟩, Ext.refl _⟩
      case round =>
        obtain ⟨j, rfl, hj, ⟨Z, rfl, hZ, hz1, hz2⟩, hx⟩ := hrel
        have A7 := hide (A6.out.keep hx.bl)
        have HX := hide hx
        clear hx
        have v0 := A7.out.v0
        have v1 := A7.out.v1
        have w0 := A7.out.w0
        have v2b := A7.out.v2
        by_cases hjl : j < xs.length
        · obtain ⟨b1, o1, rfl, p0⟩ := A7.out.vs.at j hjl
          have hjs : j < ss.length := by have := HL.out; omega
          obtain ⟨b2, o2, rfl, p1⟩ := A7.out.vt.at j hjs
          have hSb := HSO.out j hjs
          have hig := HIG.out j hjl
          have hdt := dotL_take ss IS j hjs (by have := hIL.out; omega)
          rw [hig] at hdt
          have hj0 : (0 : Int) ≤ (j : Int) := Int.natCast_nonneg _
          have hj1 : (j : Int) < (xs.length : Int) := by omega
          have hj2 : (j : Int) < (ss.length : Int) := by omega
          generalize hSg : ss.getD j 0 = S at p1 hSb hdt
          have HSg := hide hSg
          have HDT := hide hdt
          clear hdt hig hSg
          go_wp2_with fail
          go_loopw [20, 21] (fun x i wr3 => ∃ m : Nat, i = .int .i64 m ∧ m ≤ ps.length ∧ (∃ X : Int, x = .int .i64 X ∧ Hid (X = pick (ps.take m) ((idxL wxs k).take m) (j : Int) 0) ∧ 0 ≤ X ∧ X ≤ 4096) ∧ Ext w5 wr3) (fun x i _ => ps.length - (intOf i).toNat)
          case atStart => exact ⟨0, rfl, by omega, ⟨0, rfl, by show (0 : Int) = _; simp [pick], by omega, by omega⟩, HX.out⟩
          case round =>
            obtain ⟨m, rfl, hm, ⟨X, rfl, hX, hX1, hX2⟩, hx3⟩ := hrel
            have A9 := hide (A6.out.keep hx3.bl)
            have HX3 := hide hx3
            clear hx3
            by_cases hml : m < ps.length
            · obtain ⟨b6, o6, rfl, p5⟩ := (HPM.out.below A9.out.bl).at m hml
              have hmw : m < wxs.length := by have := HLE.out; have := HPZ.out; omega
              have p6 := HX3.out.box (HR.out m (by rw [hIX.out]; exact hmw))
              rw [Nat.zero_add] at p6
              have hXb := idxL_bd (HPOS.out (by omega)) k m hmw
              have hpt := pick_take ps (idxL wxs k) m (j : Int) 0 hml (by rw [hIX.out]; exact hmw)
              have hm0 : (0 : Int) ≤ (m : Int) := Int.natCast_nonneg _
              have hm1 : (m : Int) < (ps.length : Int) := by omega
              have hm2 : (m : Int) < (wxs.length : Int) := by omega
              generalize (idxL wxs k).getD m 0 = Y at p6 hXb hpt
              generalize ps.getD m 0 = pv at p5 hpt
              have HPT := hide hpt
              clear hpt
              by_cases hpv : pv = (j : Int)
              · rw [if_pos hpv] at HPT
                have hpi : (pv == (j : Int)) = true := by simp [hpv]
                have HPT2 : Hid (Y = pick (ps.take (m + 1)) ((idxL wxs k).take (m + 1)) (j : Int) 0) := HPT.out.symm
                clear hpv
                go_wp2
                go_roundw
                · exact ⟨m + 1, by go_num, by omega, ⟨Y, rfl, HPT2.out, hXb.1, hXb.2⟩, by first | exact HX3.out | exact HX3.out.drew⟩
                · simp [intOf]; omega
              · rw [if_neg hpv] at HPT
                have hpi : (pv == (j : Int)) = false := by simp [hpv]
                have HPT2 : Hid (X = pick (ps.take (m + 1)) ((idxL wxs k).take (m + 1)) (j : Int) 0) := hX.out.trans HPT.out.symm
                clear hpv
                go_wp2
                go_roundw
                · exact ⟨m + 1, by go_num, by omega, ⟨X, rfl, HPT2.out, hX1, hX2⟩, by first | exact HX3.out | exact HX3.out.drew⟩
                · simp [intOf]; omega
            · have hmm : m = ps.length := by omega
              subst hmm
              have v1 := A9.out.v1
              have v0 := A9.out.v0
              obtain ⟨b8, o8, e8, p8⟩ := A9.out.vt.at j hjs
              injection e8 with e8
              injection e8 with e8 e9 _
              subst e8 e9
              rw [HSg.out] at p8
              have hXX : X = pick ps (idxL wxs k) (j : Int) 0 := by
                have a := hX.out
                have b := hIX.out
                have c := HLE.out
                have d := HPZ.out
                rw [List.take_length, d, ← c, ← b, List.take_length] at a
                exact a
              have hbd := sgn_bd ⟨hX1, hX2⟩ hSb
              have HDT2 := HDT.out
              rw [← hXX] at HDT2
              clear hXX
              generalize hT : X * S = T at HDT2 hbd
              have hw1 : wrap64 (X * S) = T := by rw [hT]; unfold wrap64; omega
              have HZ2 : Hid (Z + T = off + dotL (ss.take (j + 1)) (IS.take (j + 1))) := by show Z + T = _; have b := hZ.out; omega
              have HT := hide hT
              have hx4 : xs.length ≤ 4 := by have := HLE.out; omega
              clear hT HDT2
              go_wp2
              go_roundw
              · exact ⟨j + 1, by go_num, by omega, ⟨Z + T, by first | rfl | (rw [HT.out]) | simp, HZ2.out, by push_cast; omega, by push_cast; omega⟩, by first | exact HX3.out | exact HX3.out.drew⟩
              · simp [intOf]; omega
        · have hjj : j = xs.length := by omega
          subst hjj
          have hZO : OL.getD k 0 = Z := by
            have a := hZ.out
            have b := hPk.out
            have c := hIL.out
            rw [← HL.out, List.take_length, HL.out, ← c, List.take_length] at a
            rw [a]; exact b
          rcases HO.out with h0 | ⟨g, rfl, _, hrowO, _⟩
          · rw [h0] at hlt; simp at hlt
          have p3 := HX.out.box (B6.out.box (hrowO k hlt))
          rw [Nat.zero_add, hZO] at p3
          clear hZO hrowO
          have B8 := hide (Bel.tr B6.out HX.out.bl)
          go_wp2
          go_roundw
          · exact ⟨k + 1, by go_num, by omega, B8.out⟩
          · simp [intOf]; omega
    · have hkk : k = OL.length := by omega
      subst hkk
      go_wp2
      go_ret
      exact ⟨rfl, A5.out.bl⟩
end Go.Proofs.Ytiekkninnjffpaa
