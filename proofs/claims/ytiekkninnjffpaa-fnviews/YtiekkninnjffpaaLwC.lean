import Derived.Test.YtiekkninnjffpaaM7
import Derived.Test.YtiekkninnjffpaaM7
import Derived.Test.YtiekkninnjffpaaM8
import Derived.Test.YtiekkninnjffpaaM5
namespace Go.Proofs.Ytiekkninnjffpaa
open Go.ChangeShapes Go.RowKit
set_option linter.unusedSimpArgs false
set_option linter.unusedVariables false

/-- The three views in their boxes. -/
structure VB (w W : World) (vS vT wS wT fS fT : Value) (off woff foff : Int) (xs ss wxs wss fxs : List Int) : Prop where
  v0 : W.cell? ⟨w.heap.size, 0, none⟩ = some vS
  v1 : W.cell? ⟨w.heap.size, 1, none⟩ = some vT
  v2 : W.cell? ⟨w.heap.size, 2, none⟩ = some (.int .i64 off)
  w0 : W.cell? ⟨w.heap.size + 1, 0, none⟩ = some wS
  w1 : W.cell? ⟨w.heap.size + 1, 1, none⟩ = some wT
  w2 : W.cell? ⟨w.heap.size + 1, 2, none⟩ = some (.int .i64 woff)
  f0 : W.cell? ⟨w.heap.size + 1 + 1, 0, none⟩ = some fS
  f1 : W.cell? ⟨w.heap.size + 1 + 1, 1, none⟩ = some fT
  f2 : W.cell? ⟨w.heap.size + 1 + 1, 2, none⟩ = some (.int .i64 foff)
  vs : Ints W vS xs
  vt : Ints W vT ss
  ws : Ints W wS wxs
  wt : Ints W wT wss
  fs : Ints W fS fxs
  bl : Bel w W
theorem VB.keep {w W W' : World} {vS vT wS wT fS fT : Value} {off woff foff : Int} {xs ss wxs wss fxs : List Int} (h : VB w W vS vT wS wT fS fT off woff foff xs ss wxs wss fxs) (y : Bel W W') : VB w W' vS vT wS wT fS fT off woff foff xs ss wxs wss fxs :=
  ⟨y.box h.v0, y.box h.v1, y.box h.v2, y.box h.w0, y.box h.w1, y.box h.w2, y.box h.f0, y.box h.f1, y.box h.f2, h.vs.below y, h.vt.below y, h.ws.below y, h.wt.below y, h.fs.below y, Bel.tr h.bl y⟩
theorem VB.start {w : World} {vS vT wS wT fS fT : Value} (off woff foff : Int) {xs ss wxs wss fxs : List Int} (hS : Ints w vS xs) (hT : Ints w vT ss) (hwS : Ints w wS wxs) (hwT : Ints w wT wss) (hf : Ints w fS fxs) :
    VB w (((w.alloc (.cells #[vS, vT, .int .i64 off] 27)).alloc (.cells #[wS, wT, .int .i64 woff] 27)).alloc (.cells #[fS, fT, .int .i64 foff] 27)) vS vT wS wT fS fT off woff foff xs ss wxs wss fxs := by
  have x1 : Ext w (w.alloc (.cells #[vS, vT, .int .i64 off] 27)) := (Ext.refl w).alloc _ _
  have x2 : Ext (w.alloc (.cells #[vS, vT, .int .i64 off] 27)) ((w.alloc (.cells #[vS, vT, .int .i64 off] 27)).alloc (.cells #[wS, wT, .int .i64 woff] 27)) := (Ext.refl _).alloc _ _
  have x3 : Ext ((w.alloc (.cells #[vS, vT, .int .i64 off] 27)).alloc (.cells #[wS, wT, .int .i64 woff] 27)) (((w.alloc (.cells #[vS, vT, .int .i64 off] 27)).alloc (.cells #[wS, wT, .int .i64 woff] 27)).alloc (.cells #[fS, fT, .int .i64 foff] 27)) := (Ext.refl _).alloc _ _
  have n1 := fun j => new_cell w #[vS, vT, .int .i64 off] 27 w.heap.size rfl j
  have n2 := fun j => new_cell (w.alloc (.cells #[vS, vT, .int .i64 off] 27)) #[wS, wT, .int .i64 woff] 27 (w.heap.size + 1) (by simp) j
  have n3 := fun j => new_cell ((w.alloc (.cells #[vS, vT, .int .i64 off] 27)).alloc (.cells #[wS, wT, .int .i64 woff] 27)) #[fS, fT, .int .i64 foff] 27 (w.heap.size + 1 + 1) (by simp) j
  have x := (x1.trans x2).trans x3
  exact ⟨x3.box (x2.box (n1 0)), x3.box (x2.box (n1 1)), x3.box (x2.box (n1 2)), x3.box (n2 0), x3.box (n2 1), x3.box (n2 2), n3 0, n3 1, n3 2, hS.ext x, hT.ext x, hwS.ext x, hwT.ext x, hf.ext x, x.bl⟩

/-- The indexes of v's axes, of an element of the stretched view. -/
def isB (xs is : List Int) (p : Nat) : List Int := (List.range xs.length).map fun i => if xs.getD i 0 = 1 then 0 else is.getD (p + i) 0
theorem isB_len (xs is : List Int) (p : Nat) : (isB xs is p).length = xs.length := by simp [isB]
theorem isB_getD (xs is : List Int) (p i : Nat) (h : i < xs.length) : (isB xs is p).getD i 0 = if xs.getD i 0 = 1 then 0 else is.getD (p + i) 0 := by simp [isB, List.getD_eq_getElem?_getD, h]

theorem Ints.at {w : World} {s : Option Addr} {n c : Nat} {xs : List Int} (h : Ints w (.slice s n c) xs) (j : Nat) (hj : j < xs.length) : ∃ b o, s = some ⟨b, o, none⟩ ∧ w.cell? ⟨b, o + j, none⟩ = some (.int .i64 (xs.getD j 0)) := by
  obtain ⟨sa, cap, e, h⟩ := h
  injection e with e1 _ _
  subst e1
  rcases h with rfl | ⟨b, o, rfl, hr⟩
  · simp at hj
  · exact ⟨b, o, rfl, hr j hj⟩
theorem sgn_bd {X S : Int} (hX : 0 ≤ X ∧ X ≤ 4096) (hS : -4096 ≤ S ∧ S ≤ 4096) : -16777216 ≤ X * S ∧ X * S ≤ 16777216 := by
  have h1 : X * S ≤ X * 4096 := Int.mul_le_mul_of_nonneg_left hS.2 hX.1
  have h2 : X * (-4096) ≤ X * S := Int.mul_le_mul_of_nonneg_left hS.1 hX.1
  omega
theorem idxL_bd {xs : List Int} (hp : ∀ j, j < xs.length → 1 ≤ xs.getD j 0 ∧ xs.getD j 0 ≤ 4096) (k a : Nat) (h : a < xs.length) : 0 ≤ (idxL xs k).getD a 0 ∧ (idxL xs k).getD a 0 ≤ 4096 := by
  rw [idxL_getD xs k a h]
  have h1 := hp a h
  have h2 := Nat.mod_lt (k / plen (xs.drop (a + 1))) (show 0 < (xs.getD a 0).toNat by omega)
  omega

set_option maxRecDepth 100000 in
set_option maxHeartbeats 2000000 in
theorem lwPl2 {w : World} {vS vT wS wT fS fT : Value} {xs ss wxs wss fxs : List Int} (off woff foff axis step : Int) (perm : Value) (hS : Ints w vS xs) (hT : Ints w vT ss) (hwS : Ints w wS wxs) (hwT : Ints w wT wss) (hf : Ints w fS fxs)
    (hv : ValidV wxs wss woff) (hl : ss.length = xs.length) (hle : xs.length ≤ wxs.length) (hso : ∀ i, i < ss.length → -4096 ≤ ss.getD i 0 ∧ ss.getD i 0 ≤ 4096) (ho : -4096 ≤ off ∧ off ≤ 4096)
    (hpl : ∀ k, k < (offsL wxs wss woff).length → (offsL wxs wss woff).getD k 0 = off + dotL ss (isB xs (idxL wxs k) (wxs.length - xs.length))) :
    Calls Try.prog 46 #[.agg #[vS, vT, .int .i64 off], .agg #[wS, wT, .int .i64 woff], .int .i64 2, .int .i64 axis, .agg #[fS, fT, .int .i64 foff], .int .i64 step, perm] w fun e w' => e = .returned (.bool true) ∧ Bel w w' := by
  have A0 := hide (VB.start off woff foff (fT := fT) hS hT hwS hwT hf)
  have hd : (dcValidV wxs wss woff) = true := dcValidV_t hv
  have h4 := hv.1.1
  have hvv := hide (iVV_any A0.out.ws A0.out.wt woff (by omega) (by have := hv.2.1; omega))
  rw [hd] at hvv
  have HV := hide hv
  have HL := hide hl
  have HSO := hide hso
  have HPL := hide hpl
  have hPL : prod wxs = ((offsL wxs wss woff).length : Int) := by
    have h1 := prod_plen (fun m hm => (good_nonneg hv.1 m hm).1)
    unfold offsL
    split
    · next h => rw [h]; rfl
    · rw [places_len wxs wss woff hv.2.1.symm]; omega
  have hOl := offs_len hv
  have HPOS : Hid (0 < (offsL wxs wss woff).length → ∀ j, j < wxs.length → 1 ≤ wxs.getD j 0 ∧ wxs.getD j 0 ≤ 4096) := fun h0 j hj => by
    have hz : prod wxs ≠ 0 := by omega
    have hm : wxs.getD j 0 ∈ wxs := by rw [List.getD_eq_getElem?_getD, List.getElem?_eq_getElem hj]; exact List.getElem_mem hj
    exact ⟨(good_pos hv.1 hz _ hm).1, (hv.1.2.1 j hj).2⟩
  have HIR := hide hv.1.2.1
  have hOA : offsA wxs wss woff = offsL wxs wss woff := if_pos hv
  have HOA := hide hOA
  clear hd hOA hv hl hso hpl
  obtain ⟨s1, d1, rfl, _⟩ := hS
  obtain ⟨s2, d2, rfl, _⟩ := hT
  obtain ⟨s3, d3, rfl, _⟩ := hwS
  obtain ⟨s4, d4, rfl, _⟩ := hwT
  obtain ⟨s5, d5, rfl, _⟩ := hf
  go_enter Try.func46, Try.ntmps46
  go_wp2_with fail
  refine hvv.out.mono ?_
  rintro e w1 ⟨rfl, x1⟩
  have A1 := hide (A0.out.keep x1.bl)
  clear hvv A0 x1
  have w0 := A1.out.w0
  have w1' := A1.out.w1
  have w2 := A1.out.w2
  go_wp2_with fail
  refine (iOF_any A1.out.ws A1.out.wt woff (by omega) (by have := HV.out.2.1; omega)).mono ?_
  rintro e w3 ⟨so, co, rfl, hO, x3⟩
  rw [HOA.out] at hO ⊢
  have A3 := hide (A1.out.keep x3)
  have HO := hide hO
  clear A1 w0 w1' w2 x3 hO
  have w0 := A3.out.w0
  go_wp2_with fail
  refine (lwCount_any A3.out.ws h4 HIR.out).mono ?_
  rintro e w4 ⟨rfl, rfl⟩
  rw [hPL]
  generalize offsL wxs wss woff = OL at *
  clear w0 hPL
  go_wp2_with fail
  go_loopw [16] (fun i wr => ∃ k : Nat, i = .int .i64 k ∧ k ≤ OL.length ∧ Bel w4 wr) (fun i _ => OL.length - (intOf i).toNat)
  case atStart => exact ⟨0, rfl, by omega, Below.refl _ _⟩
  case round =>
    obtain ⟨k, rfl, hk, hB⟩ := hrel
    have A5 := hide (A3.out.keep hB)
    have HB := hide hB
    clear hB
    by_cases hlt : k < OL.length
    · have w0 := A5.out.w0
      have hk0 : (0 : Int) ≤ (k : Int) := Int.natCast_nonneg _
      have hk1 : (k : Int) < (OL.length : Int) := by omega
      have hix := hide (lwIndex_any A5.out.ws h4 (HPOS.out (by omega)) k (by omega))
      go_wp2_with fail
      refine hix.out.mono ?_
      rintro e w5 ⟨rfl, hrow, x5, hs5⟩
      have A6 := hide (A5.out.keep x5.bl)
      have HR := hide hrow
      have B6 := hide (Bel.tr HB.out x5.bl)
      clear hrow x5 hs5 hix w0
      have v2 := A6.out.v2
      have hPk := hide (HPL.out k hlt)
      have hIL := hide (isB_len xs (idxL wxs k) (wxs.length - xs.length))
      have hIX := hide (idxL_len wxs k)
      have HIG : Hid (∀ i, i < xs.length → (isB xs (idxL wxs k) (wxs.length - xs.length)).getD i 0 = if xs.getD i 0 = 1 then 0 else (idxL wxs k).getD (wxs.length - xs.length + i) 0) := fun i hi => isB_getD xs _ _ i hi
      generalize isB xs (idxL wxs k) (wxs.length - xs.length) = IS at hPk hIL HIG
      generalize wr.heap.size = BX at HR ⊢
      go_wp2_with fail
      go_loopw [18, 19] (fun pl i wr2 => ∃ j : Nat, i = .int .i64 j ∧ j ≤ xs.length ∧ (∃ Z : Int, pl = .int .i64 Z ∧ Hid (Z = off + dotL (ss.take j) (IS.take j)) ∧ -100000000 * ((j : Int) + 1) ≤ Z ∧ Z ≤ 100000000 * ((j : Int) + 1)) ∧ Ext w5 wr2) (fun pl i _ => xs.length - (intOf i).toNat)
      case atStart => exact ⟨0, rfl, by omega, ⟨off, rfl, by show off = _; simp [dotL], by omega, by omega⟩, Ext.refl _⟩
      case round =>
        obtain ⟨j, rfl, hj, ⟨Z, rfl, hZ, hz1, hz2⟩, hx⟩ := hrel
        have A7 := hide (A6.out.keep hx.bl)
        have HX := hide hx
        clear hx
        have v0 := A7.out.v0
        have v1 := A7.out.v1
        have w0 := A7.out.w0
        have v2b := A7.out.v2
        by_cases hjl : j < xs.length
        · obtain ⟨b1, o1, rfl, p0⟩ := A7.out.vs.at j hjl
          have hjs : j < ss.length := by have := HL.out; omega
          obtain ⟨b2, o2, rfl, p1⟩ := A7.out.vt.at j hjs
          obtain ⟨q, hq⟩ : ∃ q : Nat, (wxs.length : Int) - xs.length + j = (q : Int) := ⟨wxs.length - xs.length + j, by omega⟩
          have hql : q < wxs.length := by omega
          have hqe : wxs.length - xs.length + j = q := by omega
          have p2 := HX.out.box (HR.out q (by rw [hIX.out]; exact hql))
          rw [Nat.zero_add] at p2
          have hXb := idxL_bd (HPOS.out (by omega)) k q hql
          have hSb := HSO.out j hjs
          have hig := HIG.out j hjl
          rw [hqe] at hig
          have hdt := dotL_take ss IS j hjs (by have := hIL.out; omega)
          rw [hig] at hdt
          have hj0 : (0 : Int) ≤ (j : Int) := Int.natCast_nonneg _
          have hj1 : (j : Int) < (xs.length : Int) := by omega
          have hj2 : (j : Int) < (ss.length : Int) := by omega
          have hq0 : (0 : Int) ≤ (q : Int) := Int.natCast_nonneg _
          have hq1 : (q : Int) < (wxs.length : Int) := by omega
          have hbd := sgn_bd hXb hSb
          generalize (idxL wxs k).getD q 0 = X at p2 hXb hdt hbd
          generalize ss.getD j 0 = S at p1 hSb hdt hbd
          have HDT := hide hdt
          clear hdt hig
          by_cases h1 : xs.getD j 0 = 1
          · rw [if_pos h1] at HDT
            rw [h1] at p0
            clear h1
            have HZ2 : Hid (Z = off + dotL (ss.take (j + 1)) (IS.take (j + 1))) := by show Z = _; have a := HDT.out; have b := hZ.out; omega
            go_wp2
            go_roundw
            · exact ⟨j + 1, by go_num, by omega, ⟨Z, by simp, HZ2.out, by push_cast; omega, by push_cast; omega⟩, by first | exact HX.out | exact HX.out.drew⟩
            · simp [intOf]; omega
          · rw [if_neg h1] at HDT
            generalize xs.getD j 0 = n at p0 h1
            have h1' : (n == 1) = false := by simp [h1]
            have h1'' : (n != 1) = true := by simp [h1]
            generalize hT : X * S = T at HDT hbd
            have hw1 : wrap64 (X * S) = T := by rw [hT]; unfold wrap64; omega
            have HZ2 : Hid (Z + T = off + dotL (ss.take (j + 1)) (IS.take (j + 1))) := by show Z + T = _; have a := HDT.out; have b := hZ.out; omega
            have HT := hide hT
            clear hT
            go_wp2
            go_roundw
            · exact ⟨j + 1, by go_num, by omega, ⟨Z + T, by first | rfl | (rw [HT.out]) | simp, HZ2.out, by push_cast; omega, by push_cast; omega⟩, by first | exact HX.out | exact HX.out.drew⟩
            · simp [intOf]; omega
        · have hjj : j = xs.length := by omega
          subst hjj
          have hZO : OL.getD k 0 = Z := by
            have a := hZ.out
            have b := hPk.out
            have c := hIL.out
            rw [← HL.out, List.take_length, HL.out, ← c, List.take_length] at a
            rw [a]; exact b
          rcases HO.out with h0 | ⟨g, rfl, _, hrowO, _⟩
          · rw [h0] at hlt; simp at hlt
          have p3 := HX.out.box (B6.out.box (hrowO k hlt))
          rw [Nat.zero_add, hZO] at p3
          clear hZO hrowO
          have B8 := hide (Bel.tr B6.out HX.out.bl)
          go_wp2
          go_roundw
          · exact ⟨k + 1, by go_num, by omega, B8.out⟩
          · simp [intOf]; omega
    · have hkk : k = OL.length := by omega
      subst hkk
      go_wp2
      go_ret
      exact ⟨rfl, A5.out.bl⟩
end Go.Proofs.Ytiekkninnjffpaa
