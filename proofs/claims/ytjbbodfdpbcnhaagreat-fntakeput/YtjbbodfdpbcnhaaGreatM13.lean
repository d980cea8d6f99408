import Derived.Test.YtjbbodfdpbcnhaaGreatM8
import Derived.BigRegion
import Derived.Deep.DeepCutAuto
import Derived.Test.YtjbbodfdpbcnhaaGreatM12
import Derived.Test.YtjbbodfdpbcnhaaGreatM5
set_option linter.unusedSimpArgs false
set_option linter.unusedVariables false
set_option maxRecDepth 100000
set_option maxHeartbeats 8000000
namespace Go.Proofs.YtjbbodfdpbcnhaaGreat
open List renaming setIfInBounds_toArray → sT, set_cons_zero → sZ, set_cons_succ → sS
open Go.Value renaming int → O, slice → σ, pointer → π, agg → γ
open Go.IntKind renaming i64 → ι
open Go.Obj renaming cells → χ
open Go.Act renaming put → aP
section
open Go.ChangeShapes Go.RowKit FL
theorem ze14 {w : World} {v va vb : Value} {ss : List St} {a b : Ar} {bi oi ci : Nat} {ix : List Int} {Y : List C3} (h : SV w v ss) (hg : SG ss) (hl : SL ss 1048576) (ha : AV w va a) (hb : AV w vb b) (hi : Row w bi oi ix) (hil : ix.length ≤ 4096) (hbl : putCd ss a b ix = 0 → ix ≠ [] → (rdA ss b).length = ix.length) (hcv : putCd ss a b ix = 0 → ∀ j, j < ix.length → ∀ W, Calls Tryz.prog 69 #[O ι (dtA ss b), O ι (dtA ss a), cellV ((rdA ss b).getD j k0)] W fun e W' => e = .returned (cellV (Y.getD j k0)) ∧ Ext W W') :
  Calls Tryz.prog 7 #[γ #[v], va, σ (some ⟨bi, oi, none⟩) ix.length ci, vb] w fun e w' => ∃ u, e = .returned (γ #[O ι (putCd ss a b ix), u]) ∧ Bel w w' ∧ (putCd ss a b ix = 0 → SV w' u (putT ss a.st.toNat (putL a ix) Y ix.length)) := by
 obtain ⟨sa, cap, rfl, hx⟩ := h
 have h : SV w (σ sa ss.length cap) ss := ⟨sa, cap, rfl, hx⟩
 obtain ⟨p1, c1, q1, d1, rfl, ia1, ia2, la⟩ := ha
 obtain ⟨p2, c2, q2, d2, rfl, ib1, ib2, lb⟩ := hb
 have BX0 := PT.start w (σ sa ss.length cap) [O ι a.st, σ p1 a.xs.length c1, σ q1 a.sv.length d1, O ι a.off] [O ι b.st, σ p2 b.xs.length c2, σ q2 b.sv.length d2, O ι b.off]
 have AR := zz21 (B := w.heap.size + 4) (W := ((((w.alloc (χ #[σ sa ss.length cap] 25)).alloc (χ #[O ι a.st, σ p1 a.xs.length c1, σ q1 a.sv.length d1, O ι a.off] 30)).alloc (χ #[O ι b.st, σ p2 b.xs.length c2, σ q2 b.sv.length d2, O ι b.off] 30)).alloc (χ #[O ι 0, σ none 0 0] 36))) (by simp) ia1 ia2 ib1 ib2 BX0.bl
 have HH := hide h
 have xr : Ext ((((w.alloc (χ #[σ sa ss.length cap] 25)).alloc (χ #[O ι a.st, σ p1 a.xs.length c1, σ q1 a.sv.length d1, O ι a.off] 30)).alloc (χ #[O ι b.st, σ p2 b.xs.length c2, σ q2 b.sv.length d2, O ι b.off] 30)).alloc (χ #[O ι 0, σ none 0 0] 36)) ((((((w.alloc (χ #[σ sa ss.length cap] 25)).alloc (χ #[O ι a.st, σ p1 a.xs.length c1, σ q1 a.sv.length d1, O ι a.off] 30)).alloc (χ #[O ι b.st, σ p2 b.xs.length c2, σ q2 b.sv.length d2, O ι b.off] 30)).alloc (χ #[O ι 0, σ none 0 0] 36))).alloc (χ #[O ι a.st, σ p1 a.xs.length c1, σ q1 a.sv.length d1, O ι a.off, O ι b.st, σ p2 b.xs.length c2, σ q2 b.sv.length d2, O ι b.off] 30)) := (Ext.refl _).alloc _ _
 have HF := hide (zp10 (oa := 0) (cp := 2) (h.keep (Bel.tr BX0.bl xr.bl)) hg hl AR (fun x hx => by simp at hx; rcases hx with rfl | rfl <;> assumption) (by simp) (by simp))
 have HB0 := hide (BX0.bel xr.bl)
 have b0 := BX0.b4.cell 0 rfl
 have a0 := BX0.b5.cell 0 rfl
 have e0 := BX0.b7.cell 0 rfl
 have a1 := BX0.b5.cell 1 rfl
 have e1 := BX0.b7.cell 1 rfl
 have a2 := BX0.b5.cell 2 rfl
 have e2 := BX0.b7.cell 2 rfl
 have a3 := BX0.b5.cell 3 rfl
 have e3 := BX0.b7.cell 3 rfl
 have HSZ : Hid (w.heap.size + 4 ≤ (((((w.alloc (χ #[σ sa ss.length cap] 25)).alloc (χ #[O ι a.st, σ p1 a.xs.length c1, σ q1 a.sv.length d1, O ι a.off] 30)).alloc (χ #[O ι b.st, σ p2 b.xs.length c2, σ q2 b.sv.length d2, O ι b.off] 30)).alloc (χ #[O ι 0, σ none 0 0] 36))).heap.size) := (show _ ≤ _ by simp)
 have HI := hide hi
 have HBL := hide hbl
 have HCV := hide hcv
 have HG := hide hg
 have HL := hide hl
 clear AR BX0 xr hx h ia1 ia2 ib1 ib2 la lb hi hbl hcv hg hl
 go_enter Tryz.func7, Tryz.ntmps7
 go_wp2_with fail
 refine HF.out.mono ?_
 rintro e w1 ⟨vO, rfl, b1, hcase⟩
 have HB1 := hide (HB0.out.bel b1)
 have HS1 : Hid (w.heap.size + 4 ≤ w1.heap.size) := (show _ ≤ _ from Nat.le_trans HSZ.out (Nat.le_trans (Nat.le_of_lt (by simp)) b1.size))
 have HB01 := hide b1
 clear b1 HF b0 a0 a1 a2 a3 e0 e1 e2 e3 HSZ
 generalize hfe : firstL ss [a, b] = fc at hcase ⊢
 by_cases hfc : fc ≠ 0
 ·have hok : Hid (putCd ss a b ix = fc) := by show _ = _; unfold putCd; rw [hfe, if_pos hfc]
  have hne : (fc == 0) = false := by rw [beq_eq_false_iff_ne]; exact hfc
  clear hcase
  have r0 := HB1.out.b8.cell 0 rfl
  have r1 := HB1.out.b8.cell 1 rfl
  have f0 := HB1.out.b8.fz 0
  have f1 := HB1.out.b8.fz 1
  go_wp2
  refine bodyPost_ret (v := γ #[O ι fc, σ none 0 0]) (by simp [results, Tryz.results7, go_sem, r0, r1]) rfl ⟨_, by rw [hok.out], by (first | exact (HB1.out.bl.setCell (p := ⟨w.heap.size + 1 + 1 + 1, 0, none⟩) (by show _ ≤ w.heap.size + 1 + 1 + 1; omega) _).setCell (p := ⟨w.heap.size + 1 + 1 + 1, 1, none⟩) (by show _ ≤ w.heap.size + 1 + 1 + 1; omega) _ | exact HB1.out.bl.setCell (p := ⟨w.heap.size + 1 + 1 + 1, 0, none⟩) (by show _ ≤ w.heap.size + 1 + 1 + 1; omega) _), fun q => absurd (hok.out.symm.trans q) hfc⟩
 have hfc0 : fc = 0 := by omega
 subst hfc0
 obtain ⟨g, cg, U, rfl, hgl, hgood, hU, hcells⟩ := hcase.resolve_left (by omega)
 have HU1 : Hid (∀ j, j < ss.length → CV w1 (U j) (ss.getD j s0).2) := fun j hj => (hU j hj).keep HB01.out
 have hga := hgood a (by simp)
 have hgb := hgood b (by simp)
 obtain ⟨xa0, Hxa0⟩ : ∃ z, Hid (a.xs.getD 0 0 = z) := ⟨_, rfl⟩
 obtain ⟨xa1, Hxa1⟩ : ∃ z, Hid (a.xs.getD 1 0 = z) := ⟨_, rfl⟩
 obtain ⟨xa2, Hxa2⟩ : ∃ z, Hid (a.xs.getD 2 0 = z) := ⟨_, rfl⟩
 obtain ⟨xa3, Hxa3⟩ : ∃ z, Hid (a.xs.getD 3 0 = z) := ⟨_, rfl⟩
 obtain ⟨sa0, Hsa0⟩ : ∃ z, Hid (a.sv.getD 0 0 = z) := ⟨_, rfl⟩
 obtain ⟨sa1, Hsa1⟩ : ∃ z, Hid (a.sv.getD 1 0 = z) := ⟨_, rfl⟩
 obtain ⟨sa2, Hsa2⟩ : ∃ z, Hid (a.sv.getD 2 0 = z) := ⟨_, rfl⟩
 obtain ⟨sa3, Hsa3⟩ : ∃ z, Hid (a.sv.getD 3 0 = z) := ⟨_, rfl⟩
 obtain ⟨Da, Hda⟩ : ∃ z, Hid ((ss.getD a.st.toNat s0).1 = z) := ⟨_, rfl⟩
 obtain ⟨ya, ka, na, Hua, Hna⟩ : ∃ (y : Option Addr) (k n : Nat), Hid (U a.st.toNat = σ y n k) ∧ Hid ((ss.getD a.st.toNat s0).2.length = n) := by
  have hst := hga.1
  obtain ⟨y, k, e, _⟩ := hU a.st.toNat (by omega)
  exact ⟨y, k, _, e, rfl⟩
 obtain ⟨xb0, Hxb0⟩ : ∃ z, Hid (b.xs.getD 0 0 = z) := ⟨_, rfl⟩
 obtain ⟨xb1, Hxb1⟩ : ∃ z, Hid (b.xs.getD 1 0 = z) := ⟨_, rfl⟩
 obtain ⟨xb2, Hxb2⟩ : ∃ z, Hid (b.xs.getD 2 0 = z) := ⟨_, rfl⟩
 obtain ⟨xb3, Hxb3⟩ : ∃ z, Hid (b.xs.getD 3 0 = z) := ⟨_, rfl⟩
 obtain ⟨sb0, Hsb0⟩ : ∃ z, Hid (b.sv.getD 0 0 = z) := ⟨_, rfl⟩
 obtain ⟨sb1, Hsb1⟩ : ∃ z, Hid (b.sv.getD 1 0 = z) := ⟨_, rfl⟩
 obtain ⟨sb2, Hsb2⟩ : ∃ z, Hid (b.sv.getD 2 0 = z) := ⟨_, rfl⟩
 obtain ⟨sb3, Hsb3⟩ : ∃ z, Hid (b.sv.getD 3 0 = z) := ⟨_, rfl⟩
 obtain ⟨Db, Hdb⟩ : ∃ z, Hid ((ss.getD b.st.toNat s0).1 = z) := ⟨_, rfl⟩
 obtain ⟨yb, kb, nb, Hub, Hnb⟩ : ∃ (y : Option Addr) (k n : Nat), Hid (U b.st.toNat = σ y n k) ∧ Hid ((ss.getD b.st.toNat s0).2.length = n) := by
  have hst := hgb.1
  obtain ⟨y, k, e, _⟩ := hU b.st.toNat (by omega)
  exact ⟨y, k, _, e, rfl⟩
 have HCa : Hid (∀ i y, ([O ι a.xs.length, O ι xa0, O ι xa1, O ι xa2, O ι xa3, O ι sa0, O ι sa1, O ι sa2, O ι sa3, O ι a.off, O ι a.st, O ι Da, σ ya na ka] : List Value)[i]? = some y → w1.cell? ⟨g, 0 * 13 + i, none⟩ = some y) := fun i y hy => hcells 0 i y (by simp) (by
  rw [← Hxa0.out, ← Hxa1.out, ← Hxa2.out, ← Hxa3.out, ← Hsa0.out, ← Hsa1.out, ← Hsa2.out, ← Hsa3.out, ← Hda.out, ← Hua.out] at hy
  exact hy)
 have ca0 : w1.cell? ⟨g, 0, none⟩ = some (O ι a.xs.length) := HCa.out 0 _ rfl
 have ca1 : w1.cell? ⟨g, 1, none⟩ = some (O ι xa0) := HCa.out 1 _ rfl
 have ca2 : w1.cell? ⟨g, 2, none⟩ = some (O ι xa1) := HCa.out 2 _ rfl
 have ca3 : w1.cell? ⟨g, 3, none⟩ = some (O ι xa2) := HCa.out 3 _ rfl
 have ca4 : w1.cell? ⟨g, 4, none⟩ = some (O ι xa3) := HCa.out 4 _ rfl
 have ca5 : w1.cell? ⟨g, 5, none⟩ = some (O ι sa0) := HCa.out 5 _ rfl
 have ca6 : w1.cell? ⟨g, 6, none⟩ = some (O ι sa1) := HCa.out 6 _ rfl
 have ca7 : w1.cell? ⟨g, 7, none⟩ = some (O ι sa2) := HCa.out 7 _ rfl
 have ca8 : w1.cell? ⟨g, 8, none⟩ = some (O ι sa3) := HCa.out 8 _ rfl
 have ca9 : w1.cell? ⟨g, 9, none⟩ = some (O ι a.off) := HCa.out 9 _ rfl
 have ca10 : w1.cell? ⟨g, 10, none⟩ = some (O ι a.st) := HCa.out 10 _ rfl
 have ca11 : w1.cell? ⟨g, 11, none⟩ = some (O ι Da) := HCa.out 11 _ rfl
 have ca12 : w1.cell? ⟨g, 12, none⟩ = some (σ ya na ka) := HCa.out 12 _ rfl
 have HCb : Hid (∀ i y, ([O ι b.xs.length, O ι xb0, O ι xb1, O ι xb2, O ι xb3, O ι sb0, O ι sb1, O ι sb2, O ι sb3, O ι b.off, O ι b.st, O ι Db, σ yb nb kb] : List Value)[i]? = some y → w1.cell? ⟨g, 1 * 13 + i, none⟩ = some y) := fun i y hy => hcells 1 i y (by simp) (by
  rw [← Hxb0.out, ← Hxb1.out, ← Hxb2.out, ← Hxb3.out, ← Hsb0.out, ← Hsb1.out, ← Hsb2.out, ← Hsb3.out, ← Hdb.out, ← Hub.out] at hy
  exact hy)
 have cb0 : w1.cell? ⟨g, 13, none⟩ = some (O ι b.xs.length) := HCb.out 0 _ rfl
 have cb1 : w1.cell? ⟨g, 14, none⟩ = some (O ι xb0) := HCb.out 1 _ rfl
 have cb2 : w1.cell? ⟨g, 15, none⟩ = some (O ι xb1) := HCb.out 2 _ rfl
 have cb3 : w1.cell? ⟨g, 16, none⟩ = some (O ι xb2) := HCb.out 3 _ rfl
 have cb4 : w1.cell? ⟨g, 17, none⟩ = some (O ι xb3) := HCb.out 4 _ rfl
 have cb5 : w1.cell? ⟨g, 18, none⟩ = some (O ι sb0) := HCb.out 5 _ rfl
 have cb6 : w1.cell? ⟨g, 19, none⟩ = some (O ι sb1) := HCb.out 6 _ rfl
 have cb7 : w1.cell? ⟨g, 20, none⟩ = some (O ι sb2) := HCb.out 7 _ rfl
 have cb8 : w1.cell? ⟨g, 21, none⟩ = some (O ι sb3) := HCb.out 8 _ rfl
 have cb9 : w1.cell? ⟨g, 22, none⟩ = some (O ι b.off) := HCb.out 9 _ rfl
 have cb10 : w1.cell? ⟨g, 23, none⟩ = some (O ι b.st) := HCb.out 10 _ rfl
 have cb11 : w1.cell? ⟨g, 24, none⟩ = some (O ι Db) := HCb.out 11 _ rfl
 have cb12 : w1.cell? ⟨g, 25, none⟩ = some (σ yb nb kb) := HCb.out 12 _ rfl
 have HNa : Hid (0 ≤ prod a.xs ∧ prod a.xs ≤ 4096) := by
  have h1 := zc1 (fun n hn => (zx hga.2.1.1 n hn).1)
  have h2 := hga.2.1.1.2.2
  exact ⟨by omega, h2⟩
 have HNb : Hid (0 ≤ prod b.xs ∧ prod b.xs ≤ 4096) := by
  have h1 := zc1 (fun n hn => (zx hgb.2.1.1 n hn).1)
  have h2 := hgb.2.1.1.2.2
  exact ⟨by omega, h2⟩
 have HCNa := hide (fun W => zp1 W a.xs hga.2.1.1.1 hga.2.1.1.2.1)
 have HCNb := hide (fun W => zp1 W b.xs hgb.2.1.1.1 hgb.2.1.1.2.1)
 unfold shp at HCNa HCNb
 rw [Hxa0.out, Hxa1.out, Hxa2.out, Hxa3.out] at HCNa
 rw [Hxb0.out, Hxb1.out, Hxb2.out, Hxb3.out] at HCNb
 have HWC := hide (fun W => zi4 a.xs a.sv a.off a.st Da Db (σ ya na ka) hga.2.1 W)
 rw [Hxa0.out, Hxa1.out, Hxa2.out, Hxa3.out, Hsa0.out, Hsa1.out, Hsa2.out, Hsa3.out] at HWC
 have HCB : Hid (CV w1 (σ yb nb kb) (ss.getD b.st.toNat s0).2) := by
  have q := HU1.out b.st.toNat (by have := hgb.1; omega)
  rw [Hub.out] at q
  exact q
 have HRD := hide (fun W (hW : Bel w1 W) => callsIn_wide.1 (zk9 3 (Nat.le_refl _) b.xs b.sv b.off b.st Db (w := W) (su := yb) (cu := kb) (cs := (ss.getD b.st.toNat s0).2) (by rw [Hnb.out]; exact HCB.out.keep hW) (HL.out.at b.st.toNat (by have := hgb.1; omega)) hgb.2.1 hgb.2.2))
 rw [Hxb0.out, Hxb1.out, Hxb2.out, Hxb3.out, Hsb0.out, Hsb1.out, Hsb2.out, Hsb3.out, Hnb.out] at HRD
 have HPF := hide (fun W => zg12 a.xs a.sv a.off W)
 have HCO := hide (fun W Bf (hB : Bf < W.heap.size) hc => za13 a.xs a.sv a.off (w := W) (Bf := Bf) hga.2.1 hB hc)
 unfold vw at HPF HCO
 rw [Hxa0.out, Hxa1.out, Hxa2.out, Hxa3.out, Hsa0.out, Hsa1.out, Hsa2.out, Hsa3.out] at HPF HCO
 have HDR := hide (fun W (hW : Bel w W) => zy8 (HH.out.keep hW) HL.out a.xs.length xa0 xa1 xa2 xa3 sa0 sa1 sa2 sa3 a.off Da Db a.st.toNat (σ ya na ka) (by have := hga.1; omega))
 rw [Int.toNat_of_nonneg hga.1.1] at HDR
 go_wp2_with fail
 have HS4 : Hid (∀ W, Bel w1 W → (fun w' : World => w'.cell? ⟨g, 0, none⟩ = some (O ι a.xs.length) ∧ w'.cell? ⟨g, 1, none⟩ = some (O ι xa0) ∧ w'.cell? ⟨g, 2, none⟩ = some (O ι xa1) ∧ w'.cell? ⟨g, 3, none⟩ = some (O ι xa2) ∧ w'.cell? ⟨g, 4, none⟩ = some (O ι xa3) ∧ w'.cell? ⟨g, 5, none⟩ = some (O ι sa0) ∧ w'.cell? ⟨g, 6, none⟩ = some (O ι sa1) ∧ w'.cell? ⟨g, 7, none⟩ = some (O ι sa2) ∧ w'.cell? ⟨g, 8, none⟩ = some (O ι sa3) ∧ w'.cell? ⟨g, 9, none⟩ = some (O ι a.off) ∧ w'.cell? ⟨g, 10, none⟩ = some (O ι a.st) ∧ w'.cell? ⟨g, 11, none⟩ = some (O ι Da) ∧ w'.cell? ⟨g, 12, none⟩ = some (σ ya na ka) ∧ w'.cell? ⟨g, 13, none⟩ = some (O ι b.xs.length) ∧ w'.cell? ⟨g, 14, none⟩ = some (O ι xb0) ∧ w'.cell? ⟨g, 15, none⟩ = some (O ι xb1) ∧ w'.cell? ⟨g, 16, none⟩ = some (O ι xb2) ∧ w'.cell? ⟨g, 17, none⟩ = some (O ι xb3) ∧ w'.cell? ⟨g, 18, none⟩ = some (O ι sb0) ∧ w'.cell? ⟨g, 19, none⟩ = some (O ι sb1) ∧ w'.cell? ⟨g, 20, none⟩ = some (O ι sb2) ∧ w'.cell? ⟨g, 21, none⟩ = some (O ι sb3) ∧ w'.cell? ⟨g, 22, none⟩ = some (O ι b.off) ∧ w'.cell? ⟨g, 23, none⟩ = some (O ι b.st) ∧ w'.cell? ⟨g, 24, none⟩ = some (O ι Db) ∧ w'.cell? ⟨g, 25, none⟩ = some (σ yb nb kb)) W) := fun W x => ⟨Bel.box x ca0, Bel.box x ca1, Bel.box x ca2, Bel.box x ca3, Bel.box x ca4, Bel.box x ca5, Bel.box x ca6, Bel.box x ca7, Bel.box x ca8, Bel.box x ca9, Bel.box x ca10, Bel.box x ca11, Bel.box x ca12, Bel.box x cb0, Bel.box x cb1, Bel.box x cb2, Bel.box x cb3, Bel.box x cb4, Bel.box x cb5, Bel.box x cb6, Bel.box x cb7, Bel.box x cb8, Bel.box x cb9, Bel.box x cb10, Bel.box x cb11, Bel.box x cb12⟩
 have SA := hide (HS4.out w1.drew (Ext.refl w1).drew.bl)
 clear ca0 ca1 ca2 ca3 ca4 ca5 ca6 ca7 ca8 ca9 ca10 ca11 ca12 cb0 cb1 cb2 cb3 cb4 cb5 cb6 cb7 cb8 cb9 cb10 cb11 cb12
 refine zl13 (fun ac a' w' => ∃ B1 B2 : Nat, a' = ((((((((ac.put (some 31) (σ (some ⟨g, 0, none⟩) 2 cg)).put (some 32) (π (some ⟨g, 0, none⟩))).put (some 33) (γ #[O ι a.xs.length, O ι xa0, O ι xa1, O ι xa2, O ι xa3, O ι sa0, O ι sa1, O ι sa2, O ι sa3, O ι a.off, O ι a.st, O ι Da, σ ya na ka])).put (some 34) (σ (some ⟨g, 0, none⟩) 2 cg)).put (some 35) (π (some ⟨g, 13, none⟩))).put (some 36) (γ #[O ι b.xs.length, O ι xb0, O ι xb1, O ι xb2, O ι xb3, O ι sb0, O ι sb1, O ι sb2, O ι sb3, O ι b.off, O ι b.st, O ι Db, σ yb nb kb])).put (some 11) (π (some ⟨B1, 0, none⟩))).put (some 12) (π (some ⟨B2, 0, none⟩))) ∧ Bel w1 w' ∧ Bx w' B1 67 [O ι a.xs.length, O ι xa0, O ι xa1, O ι xa2, O ι xa3, O ι sa0, O ι sa1, O ι sa2, O ι sa3, O ι a.off, O ι a.st, O ι Da, σ ya na ka] ∧ Bx w' B2 67 [O ι b.xs.length, O ι xb0, O ι xb1, O ι xb2, O ι xb3, O ι sb0, O ι sb1, O ι sb2, O ι sb3, O ι b.off, O ι b.st, O ι Db, σ yb nb kb]) (S := (fun w' : World => w'.cell? ⟨g, 0, none⟩ = some (O ι a.xs.length) ∧ w'.cell? ⟨g, 1, none⟩ = some (O ι xa0) ∧ w'.cell? ⟨g, 2, none⟩ = some (O ι xa1) ∧ w'.cell? ⟨g, 3, none⟩ = some (O ι xa2) ∧ w'.cell? ⟨g, 4, none⟩ = some (O ι xa3) ∧ w'.cell? ⟨g, 5, none⟩ = some (O ι sa0) ∧ w'.cell? ⟨g, 6, none⟩ = some (O ι sa1) ∧ w'.cell? ⟨g, 7, none⟩ = some (O ι sa2) ∧ w'.cell? ⟨g, 8, none⟩ = some (O ι sa3) ∧ w'.cell? ⟨g, 9, none⟩ = some (O ι a.off) ∧ w'.cell? ⟨g, 10, none⟩ = some (O ι a.st) ∧ w'.cell? ⟨g, 11, none⟩ = some (O ι Da) ∧ w'.cell? ⟨g, 12, none⟩ = some (σ ya na ka) ∧ w'.cell? ⟨g, 13, none⟩ = some (O ι b.xs.length) ∧ w'.cell? ⟨g, 14, none⟩ = some (O ι xb0) ∧ w'.cell? ⟨g, 15, none⟩ = some (O ι xb1) ∧ w'.cell? ⟨g, 16, none⟩ = some (O ι xb2) ∧ w'.cell? ⟨g, 17, none⟩ = some (O ι xb3) ∧ w'.cell? ⟨g, 18, none⟩ = some (O ι sb0) ∧ w'.cell? ⟨g, 19, none⟩ = some (O ι sb1) ∧ w'.cell? ⟨g, 20, none⟩ = some (O ι sb2) ∧ w'.cell? ⟨g, 21, none⟩ = some (O ι sb3) ∧ w'.cell? ⟨g, 22, none⟩ = some (O ι b.off) ∧ w'.cell? ⟨g, 23, none⟩ = some (O ι b.st) ∧ w'.cell? ⟨g, 24, none⟩ = some (O ι Db) ∧ w'.cell? ⟨g, 25, none⟩ = some (σ yb nb kb))) (late := []) (by kernel_rfl) ?rest ?_
 rotate_left
 as_aux_lemma =>
  refine zb23 0 31 (σ (some ⟨g, 0, none⟩) 2 cg) rfl (.inl ⟨by kernel_rfl, ?_⟩) SA.out ?_
  ·rintro w' ⟨z0, z1, z2, z3, z4, z5, z6, z7, z8, z9, z10, z11, z12, z13, z14, z15, z16, z17, z18, z19, z20, z21, z22, z23, z24, z25⟩
   go_simp
  simp only [aP, sT, sZ, sS]
  refine zb23 1 32 (π (some ⟨g, 0, none⟩)) rfl (.inl ⟨by kernel_rfl, ?_⟩) SA.out ?_
  ·rintro w' ⟨z0, z1, z2, z3, z4, z5, z6, z7, z8, z9, z10, z11, z12, z13, z14, z15, z16, z17, z18, z19, z20, z21, z22, z23, z24, z25⟩
   go_simp
  simp only [aP, sT, sZ, sS]
  refine zb23 2 33 (γ #[O ι a.xs.length, O ι xa0, O ι xa1, O ι xa2, O ι xa3, O ι sa0, O ι sa1, O ι sa2, O ι sa3, O ι a.off, O ι a.st, O ι Da, σ ya na ka]) rfl (.inl ⟨by kernel_rfl, ?_⟩) SA.out ?_
  ·rintro w' ⟨z0, z1, z2, z3, z4, z5, z6, z7, z8, z9, z10, z11, z12, z13, z14, z15, z16, z17, z18, z19, z20, z21, z22, z23, z24, z25⟩
   go_simp
  simp only [aP, sT, sZ, sS]
  refine zb23 3 34 (σ (some ⟨g, 0, none⟩) 2 cg) rfl (.inl ⟨by kernel_rfl, ?_⟩) SA.out ?_
  ·rintro w' ⟨z0, z1, z2, z3, z4, z5, z6, z7, z8, z9, z10, z11, z12, z13, z14, z15, z16, z17, z18, z19, z20, z21, z22, z23, z24, z25⟩
   go_simp
  simp only [aP, sT, sZ, sS]
  refine zb23 4 35 (π (some ⟨g, 13, none⟩)) rfl (.inl ⟨by kernel_rfl, ?_⟩) SA.out ?_
  ·rintro w' ⟨z0, z1, z2, z3, z4, z5, z6, z7, z8, z9, z10, z11, z12, z13, z14, z15, z16, z17, z18, z19, z20, z21, z22, z23, z24, z25⟩
   go_simp
  simp only [aP, sT, sZ, sS]
  refine zb23 5 36 (γ #[O ι b.xs.length, O ι xb0, O ι xb1, O ι xb2, O ι xb3, O ι sb0, O ι sb1, O ι sb2, O ι sb3, O ι b.off, O ι b.st, O ι Db, σ yb nb kb]) rfl (.inl ⟨by kernel_rfl, ?_⟩) SA.out ?_
  ·rintro w' ⟨z0, z1, z2, z3, z4, z5, z6, z7, z8, z9, z10, z11, z12, z13, z14, z15, z16, z17, z18, z19, z20, z21, z22, z23, z24, z25⟩
   go_simp
  simp only [aP, sT, sZ, sS]
  refine zx6 (rs := [6, 7]) (by kernel_rfl) (by simp) (fun i hi => ?_)
  simp only [List.mem_cons, List.not_mem_nil, or_false] at hi
  rcases hi with rfl | rfl
  ·refine ⟨_, rfl, fun K hK => ?_⟩
   go_simp
   refine hK.out _ _ (fun _ => HS4.out _ (((Ext.refl w1).alloc _ _).drew).bl) ?_
   clear hK K
   try simp only [aP, sT, sZ, sS]
   refine ze (i := 7) (by kernel_rfl) rfl (fun K hK => ?_)
   go_simp
   refine hK.out _ _ (fun _ => HS4.out _ ((((Ext.refl w1).alloc _ _).alloc _ _).drew).bl) ?_
   clear hK K
   try simp only [aP, sT, sZ, sS]
   refine ze (i := 8) (by kernel_rfl) rfl (fun K hK => ?_)
   go_simp
   refine hK.out _ _ (fun _ => HS4.out _ (((Ext.refl w1).alloc _ _).alloc _ _).drew.bl) ?_
   clear hK K
   try simp only [aP, sT, sZ, sS]
   refine ze (i := 9) (by kernel_rfl) rfl (fun K hK => ?_)
   go_simp
   refine hK.out _ _ (fun _ => HS4.out _ (((Ext.refl w1).alloc _ _).alloc _ _).drew.bl) ?_
   clear hK K
   try simp only [aP, sT, sZ, sS]
   refine zm (by kernel_rfl) ?_ _
   exact ⟨rfl, w1.heap.size, w1.heap.size + 1, by kernel_rfl, (((Ext.refl w1).alloc _ _).alloc _ _).drew.bl, ((Bx.new w1 67 #[O ι a.xs.length, O ι xa0, O ι xa1, O ι xa2, O ι xa3, O ι sa0, O ι sa1, O ι sa2, O ι sa3, O ι a.off, O ι a.st, O ι Da, σ ya na ka] _ rfl).alloc _).drew, (Bx.new (w1.alloc (χ #[O ι a.xs.length, O ι xa0, O ι xa1, O ι xa2, O ι xa3, O ι sa0, O ι sa1, O ι sa2, O ι sa3, O ι a.off, O ι a.st, O ι Da, σ ya na ka] 67)) 67 #[O ι b.xs.length, O ι xb0, O ι xb1, O ι xb2, O ι xb3, O ι sb0, O ι sb1, O ι sb2, O ι sb3, O ι b.off, O ι b.st, O ι Db, σ yb nb kb] _ (by simp)).drew⟩
  ·refine ⟨_, rfl, fun K hK => ?_⟩
   go_simp
   refine hK.out _ _ (fun _ => HS4.out _ (((Ext.refl w1).alloc _ _).drew).bl) ?_
   clear hK K
   try simp only [aP, sT, sZ, sS]
   refine ze (i := 6) (by kernel_rfl) rfl (fun K hK => ?_)
   go_simp
   refine hK.out _ _ (fun _ => HS4.out _ ((((Ext.refl w1).alloc _ _).alloc _ _).drew).bl) ?_
   clear hK K
   try simp only [aP, sT, sZ, sS]
   refine ze (i := 8) (by kernel_rfl) rfl (fun K hK => ?_)
   go_simp
   refine hK.out _ _ (fun _ => HS4.out _ (((Ext.refl w1).alloc _ _).alloc _ _).drew.bl) ?_
   clear hK K
   try simp only [aP, sT, sZ, sS]
   refine ze (i := 9) (by kernel_rfl) rfl (fun K hK => ?_)
   go_simp
   refine hK.out _ _ (fun _ => HS4.out _ (((Ext.refl w1).alloc _ _).alloc _ _).drew.bl) ?_
   clear hK K
   try simp only [aP, sT, sZ, sS]
   refine zm (by kernel_rfl) ?_ _
   exact ⟨rfl, w1.heap.size + 1, w1.heap.size, by kernel_rfl, (((Ext.refl w1).alloc _ _).alloc _ _).drew.bl, (Bx.new (w1.alloc (χ #[O ι b.xs.length, O ι xb0, O ι xb1, O ι xb2, O ι xb3, O ι sb0, O ι sb1, O ι sb2, O ι sb3, O ι b.off, O ι b.st, O ι Db, σ yb nb kb] 67)) 67 #[O ι a.xs.length, O ι xa0, O ι xa1, O ι xa2, O ι xa3, O ι sa0, O ι sa1, O ι sa2, O ι sa3, O ι a.off, O ι a.st, O ι Da, σ ya na ka] _ (by simp)).drew, ((Bx.new w1 67 #[O ι b.xs.length, O ι xb0, O ι xb1, O ι xb2, O ι xb3, O ι sb0, O ι sb1, O ι sb2, O ι sb3, O ι b.off, O ι b.st, O ι Db, σ yb nb kb] _ rfl).alloc _).drew⟩
 rintro a' w2 ⟨B1, B2, rfl, b2, hA1, hA2⟩
 have HI2 : Hid (PU w w1 (σ sa ss.length cap) [O ι a.xs.length, O ι xa0, O ι xa1, O ι xa2, O ι xa3, O ι sa0, O ι sa1, O ι sa2, O ι sa3, O ι a.off, O ι a.st, O ι Da, σ ya na ka] [O ι b.xs.length, O ι xb0, O ι xb1, O ι xb2, O ι xb3, O ι sb0, O ι sb1, O ι sb2, O ι sb3, O ι b.off, O ι b.st, O ι Db, σ yb nb kb] B1 B2 w2) := ⟨HB1.out.b4.bel b2, HB1.out.b8.bel b2, hA1, hA2, Bel.tr HB1.out.bl b2, b2, HS1.out⟩
 clear b2 hA1 hA2 HS4 SA
 simp only [aP, sT, sZ, sS]
 go_upto_region 5 with fail
 go_cut [13] (fun s wx => s = .bool (fitB b ix) ∧ Bel w2 wx)
 case first =>
  have pb0 : w2.cell? ⟨B2, 0, none⟩ = some (O ι b.xs.length) := HI2.out.c2.cell 0 rfl
  have pb1 : w2.cell? ⟨B2, 1, none⟩ = some (O ι xb0) := HI2.out.c2.cell 1 rfl
  have pb2 : w2.cell? ⟨B2, 2, none⟩ = some (O ι xb1) := HI2.out.c2.cell 2 rfl
  have pb3 : w2.cell? ⟨B2, 3, none⟩ = some (O ι xb2) := HI2.out.c2.cell 3 rfl
  have pb4 : w2.cell? ⟨B2, 4, none⟩ = some (O ι xb3) := HI2.out.c2.cell 4 rfl
  have pb5 : w2.cell? ⟨B2, 5, none⟩ = some (O ι sb0) := HI2.out.c2.cell 5 rfl
  have pb6 : w2.cell? ⟨B2, 6, none⟩ = some (O ι sb1) := HI2.out.c2.cell 6 rfl
  have pb7 : w2.cell? ⟨B2, 7, none⟩ = some (O ι sb2) := HI2.out.c2.cell 7 rfl
  have pb8 : w2.cell? ⟨B2, 8, none⟩ = some (O ι sb3) := HI2.out.c2.cell 8 rfl
  have pb9 : w2.cell? ⟨B2, 9, none⟩ = some (O ι b.off) := HI2.out.c2.cell 9 rfl
  have pb10 : w2.cell? ⟨B2, 10, none⟩ = some (O ι b.st) := HI2.out.c2.cell 10 rfl
  have pb11 : w2.cell? ⟨B2, 11, none⟩ = some (O ι Db) := HI2.out.c2.cell 11 rfl
  have pb12 : w2.cell? ⟨B2, 12, none⟩ = some (σ yb nb kb) := HI2.out.c2.cell 12 rfl
  go_wp2_with fail
  refine (HCNb.out _).mono ?_
  rintro e w3 ⟨rfl, rfl⟩
  have x3 := (Ext.refl w2).alloc #[O ι b.xs.length, O ι xb0, O ι xb1, O ι xb2, O ι xb3] 63
  have HI3 := hide (HI2.out.bel x3.bl)
  have X3 := hide x3
  clear x3 pb0 pb1 pb2 pb3 pb4 pb5 pb6 pb7 pb8 pb9 pb10 pb11 pb12
  generalize w2.alloc (χ #[O ι b.xs.length, O ι xb0, O ι xb1, O ι xb2, O ι xb3] 63) = w3 at *
  have HFB : Hid (fitB b ix = (decide (prod b.xs = 1) || decide (prod b.xs = (ix.length : Int)))) := rfl
  generalize prod b.xs = Nb at *
  have pb0 : w3.cell? ⟨B2, 0, none⟩ = some (O ι b.xs.length) := HI3.out.c2.cell 0 rfl
  have pb1 : w3.cell? ⟨B2, 1, none⟩ = some (O ι xb0) := HI3.out.c2.cell 1 rfl
  have pb2 : w3.cell? ⟨B2, 2, none⟩ = some (O ι xb1) := HI3.out.c2.cell 2 rfl
  have pb3 : w3.cell? ⟨B2, 3, none⟩ = some (O ι xb2) := HI3.out.c2.cell 3 rfl
  have pb4 : w3.cell? ⟨B2, 4, none⟩ = some (O ι xb3) := HI3.out.c2.cell 4 rfl
  have pb5 : w3.cell? ⟨B2, 5, none⟩ = some (O ι sb0) := HI3.out.c2.cell 5 rfl
  have pb6 : w3.cell? ⟨B2, 6, none⟩ = some (O ι sb1) := HI3.out.c2.cell 6 rfl
  have pb7 : w3.cell? ⟨B2, 7, none⟩ = some (O ι sb2) := HI3.out.c2.cell 7 rfl
  have pb8 : w3.cell? ⟨B2, 8, none⟩ = some (O ι sb3) := HI3.out.c2.cell 8 rfl
  have pb9 : w3.cell? ⟨B2, 9, none⟩ = some (O ι b.off) := HI3.out.c2.cell 9 rfl
  have pb10 : w3.cell? ⟨B2, 10, none⟩ = some (O ι b.st) := HI3.out.c2.cell 10 rfl
  have pb11 : w3.cell? ⟨B2, 11, none⟩ = some (O ι Db) := HI3.out.c2.cell 11 rfl
  have pb12 : w3.cell? ⟨B2, 12, none⟩ = some (σ yb nb kb) := HI3.out.c2.cell 12 rfl
  rcases Classical.em (Nb = 1) with hq | hq
  ·have hq1 : (Nb == 1) = true := by simpa using hq
   have HQ := hide hq
   clear hq
   go_wp2_with fail
   go_meet
   case rel => exact ⟨by rw [HFB.out, decide_eq_true HQ.out]; simp, X3.out.bl⟩
  ·have hq1 : (Nb == 1) = false := by simpa using hq
   have HQ := hide hq
   clear hq
   go_wp2_with fail
   refine (HCNb.out _).mono ?_
   rintro e w4 ⟨rfl, rfl⟩
   have X4 := hide (X3.out.trans ((Ext.refl w3).alloc #[O ι b.xs.length, O ι xb0, O ι xb1, O ι xb2, O ι xb3] 63))
   go_wp2_with fail
   go_meet
   case rel => exact ⟨by rw [HFB.out, decide_eq_false HQ.out, Bool.false_or]; rfl, X4.out.bl⟩
 case rest =>
 obtain ⟨rfl, b3⟩ := hcut
 have HI3 := hide (HI2.out.bel b3)
 clear b3 HI2
 have HS6 : Hid (∀ W, Bel wc W → (fun w' : World => w'.cell? ⟨B1, 0, none⟩ = some (O ι a.xs.length) ∧ w'.cell? ⟨B1, 1, none⟩ = some (O ι xa0) ∧ w'.cell? ⟨B1, 2, none⟩ = some (O ι xa1) ∧ w'.cell? ⟨B1, 3, none⟩ = some (O ι xa2) ∧ w'.cell? ⟨B1, 4, none⟩ = some (O ι xa3) ∧ w'.cell? ⟨B1, 5, none⟩ = some (O ι sa0) ∧ w'.cell? ⟨B1, 6, none⟩ = some (O ι sa1) ∧ w'.cell? ⟨B1, 7, none⟩ = some (O ι sa2) ∧ w'.cell? ⟨B1, 8, none⟩ = some (O ι sa3) ∧ w'.cell? ⟨B1, 9, none⟩ = some (O ι a.off) ∧ w'.cell? ⟨B1, 10, none⟩ = some (O ι a.st) ∧ w'.cell? ⟨B1, 11, none⟩ = some (O ι Da) ∧ w'.cell? ⟨B1, 12, none⟩ = some (σ ya na ka) ∧ w'.cell? ⟨B2, 11, none⟩ = some (O ι Db)) W) := fun W x => by
  have q := HI3.out.bel x
  exact ⟨q.c1.cell 0 rfl, q.c1.cell 1 rfl, q.c1.cell 2 rfl, q.c1.cell 3 rfl, q.c1.cell 4 rfl, q.c1.cell 5 rfl, q.c1.cell 6 rfl, q.c1.cell 7 rfl, q.c1.cell 8 rfl, q.c1.cell 9 rfl, q.c1.cell 10 rfl, q.c1.cell 11 rfl, q.c1.cell 12 rfl, q.c2.cell 11 rfl⟩
 have SA := hide (HS6.out wc.drew (Ext.refl wc).drew.bl)
 have HIX : Hid (∀ W, Bel wc W → Row W bi oi ix) := fun W x j hj => Bel.box (Bel.tr HI3.out.bl x) (HI.out j hj)
 go_wp2_with fail
 refine zv (S := (fun w' : World => w'.cell? ⟨B1, 0, none⟩ = some (O ι a.xs.length) ∧ w'.cell? ⟨B1, 1, none⟩ = some (O ι xa0) ∧ w'.cell? ⟨B1, 2, none⟩ = some (O ι xa1) ∧ w'.cell? ⟨B1, 3, none⟩ = some (O ι xa2) ∧ w'.cell? ⟨B1, 4, none⟩ = some (O ι xa3) ∧ w'.cell? ⟨B1, 5, none⟩ = some (O ι sa0) ∧ w'.cell? ⟨B1, 6, none⟩ = some (O ι sa1) ∧ w'.cell? ⟨B1, 7, none⟩ = some (O ι sa2) ∧ w'.cell? ⟨B1, 8, none⟩ = some (O ι sa3) ∧ w'.cell? ⟨B1, 9, none⟩ = some (O ι a.off) ∧ w'.cell? ⟨B1, 10, none⟩ = some (O ι a.st) ∧ w'.cell? ⟨B1, 11, none⟩ = some (O ι Da) ∧ w'.cell? ⟨B1, 12, none⟩ = some (σ ya na ka) ∧ w'.cell? ⟨B2, 11, none⟩ = some (O ι Db))) (late := []) (by kernel_rfl) ?_
 refine zb23 0 51 (.bool (fitB b ix)) rfl (.inl ⟨by kernel_rfl, ?_⟩) SA.out ?_
 ·rintro w' ⟨z0, z1, z2, z3, z4, z5, z6, z7, z8, z9, z10, z11, z12, z13⟩
  go_simp
 simp only [aP, sT, sZ, sS]
 refine zb23 1 52 (.bool (!(fitB b ix))) rfl (.inl ⟨by kernel_rfl, ?_⟩) SA.out ?_
 ·rintro w' ⟨z0, z1, z2, z3, z4, z5, z6, z7, z8, z9, z10, z11, z12, z13⟩
  go_simp
 simp only [aP, sT, sZ, sS]
 refine zb23 3 54 (σ (some ⟨bi, oi, none⟩) ix.length ci) rfl (.inl ⟨by kernel_rfl, ?_⟩) SA.out ?_
 ·rintro w' ⟨z0, z1, z2, z3, z4, z5, z6, z7, z8, z9, z10, z11, z12, z13⟩
  go_simp
 simp only [aP, sT, sZ, sS]
 refine zb23 4 55 (π (some ⟨B1, 0, none⟩)) rfl (.inl ⟨by kernel_rfl, ?_⟩) SA.out ?_
 ·rintro w' ⟨z0, z1, z2, z3, z4, z5, z6, z7, z8, z9, z10, z11, z12, z13⟩
  go_simp
 simp only [aP, sT, sZ, sS]
 refine zb23 5 56 (π (some ⟨B1, 0, none⟩)) rfl (.inl ⟨by kernel_rfl, ?_⟩) SA.out ?_
 ·rintro w' ⟨z0, z1, z2, z3, z4, z5, z6, z7, z8, z9, z10, z11, z12, z13⟩
  go_simp
 simp only [aP, sT, sZ, sS]
 refine zb23 6 57 (γ #[O ι a.xs.length, O ι xa0, O ι xa1, O ι xa2, O ι xa3]) rfl (.inl ⟨by kernel_rfl, ?_⟩) SA.out ?_
 ·rintro w' ⟨z0, z1, z2, z3, z4, z5, z6, z7, z8, z9, z10, z11, z12, z13⟩
  go_simp
 simp only [aP, sT, sZ, sS]
 refine zb23 9 60 (γ #[O ι a.xs.length, O ι xa0, O ι xa1, O ι xa2, O ι xa3, O ι sa0, O ι sa1, O ι sa2, O ι sa3, O ι a.off, O ι a.st, O ι Da, σ ya na ka]) rfl (.inl ⟨by kernel_rfl, ?_⟩) SA.out ?_
 ·rintro w' ⟨z0, z1, z2, z3, z4, z5, z6, z7, z8, z9, z10, z11, z12, z13⟩
  go_simp
 simp only [aP, sT, sZ, sS]
 refine zb23 10 61 (π (some ⟨B2, 11, none⟩)) rfl (.inl ⟨by kernel_rfl, ?_⟩) SA.out ?_
 ·rintro w' ⟨z0, z1, z2, z3, z4, z5, z6, z7, z8, z9, z10, z11, z12, z13⟩
  go_simp
 simp only [aP, sT, sZ, sS]
 refine zb23 11 62 (O ι Db) rfl (.inl ⟨by kernel_rfl, ?_⟩) SA.out ?_
 ·rintro w' ⟨z0, z1, z2, z3, z4, z5, z6, z7, z8, z9, z10, z11, z12, z13⟩
  go_simp
 simp only [aP, sT, sZ, sS]
 refine ze (i := 2) (by kernel_rfl) rfl (fun K hK => ?_)
 go_simp
 refine (zn2 _ 6 _).mono ?_
 rintro e t1 ⟨rfl, rfl⟩
 generalize hk1 : (if (!(fitB b ix)) = true then (6 : Int) else 0) = k1
 have HK1 := hide hk1
 clear hk1
 refine hK.out _ _ (fun _ => SA.out) ?_
 clear hK K
 try simp only [aP, sT, sZ, sS]
 refine ze (i := 7) (by kernel_rfl) rfl (fun K hK => ?_)
 go_simp
 refine (HCNa.out _).mono ?_
 rintro e t2 ⟨rfl, rfl⟩
 have X2 := hide (((Ext.refl wc).drew.alloc #[O ι a.xs.length, O ι xa0, O ι xa1, O ι xa2, O ι xa3] 63).bl)
 have SB := hide (HS6.out _ X2.out)
 refine hK.out _ _ (fun _ => SB.out) ?_
 clear hK K
 try simp only [aP, sT, sZ, sS]
 generalize wc.drew.alloc (χ #[O ι a.xs.length, O ι xa0, O ι xa1, O ι xa2, O ι xa3] 63) = t2 at X2 SB ⊢
 refine ze (i := 8) (by kernel_rfl) rfl (fun K hK => ?_)
 go_simp
 refine (zg5 (prod a.xs) (HIX.out _ X2.out) (by omega) (by have := HNa.out; omega)).mono ?_
 rintro e t3 ⟨rfl, rfl⟩
 refine hK.out _ _ (fun _ => SB.out) ?_
 clear hK K
 try simp only [aP, sT, sZ, sS]
 refine ze (i := 12) (by kernel_rfl) rfl (fun K hK => ?_)
 go_simp
 refine (HWC.out _).mono ?_
 rintro e t4 ⟨rfl, y4⟩
 have X4 := hide (Bel.tr X2.out y4)
 have SC := hide (HS6.out _ X4.out)
 clear y4
 refine hK.out _ _ (fun _ => SC.out) ?_
 clear hK K
 try simp only [aP, sT, sZ, sS]
 have HC6 : Hid (smallL [k1, ixCd ix (prod a.xs), wrC (decide (offsL a.xs a.sv a.off).Nodup) (castL Db Da 1)] = putCd ss a b ix) := by
  show _ = _
  unfold putCd dtA
  rw [hfe, if_neg (show ¬ ((0 : Int) ≠ 0) by simp), Hda.out, Hdb.out, ← HK1.out]
 have HAL := hide (zj13 t4 (k1) (ixCd ix (prod a.xs)) (wrC (decide (offsL a.xs a.sv a.off).Nodup) (castL Db Da 1)) 2)
 generalize ixCd ix (prod a.xs) = k2 at HAL HC6 ⊢
 generalize wrC (decide (offsL a.xs a.sv a.off).Nodup) (castL Db Da 1) = k3 at HAL HC6 ⊢
 refine ze (i := 13) (by kernel_rfl) rfl (fun K hK => ?_)
 go_simp
 have X5 := hide (Bel.tr X4.out ((Ext.refl t4).alloc #[O ι k1, O ι k2, O ι k3] 2).bl)
 have SD := hide (HS6.out _ X5.out)
 refine hK.out _ _ (fun _ => SD.out) ?_
 clear hK K
 try simp only [aP, sT, sZ, sS]
 refine ze (i := 14) (by kernel_rfl) rfl (fun K hK => ?_)
 go_simp
 refine (zv1 (cap := 3) HAL.out (by simp)).mono ?_
 rintro e t6 ⟨rfl, rfl⟩
 rw [HC6.out]
 refine hK.out _ _ (fun _ => SD.out) ?_
 clear hK K
 try simp only [aP, sT, sZ, sS]
 refine zb23 15 10 (O ι (putCd ss a b ix)) rfl (.inl ⟨by kernel_rfl, ?_⟩) SD.out ?_
 ·rintro w' ⟨z0, z1, z2, z3, z4, z5, z6, z7, z8, z9, z10, z11, z12, z13⟩
  go_simp
 simp only [aP, sT, sZ, sS]
 refine zm (by kernel_rfl) ?_ _
 refine ⟨rfl, ?_⟩
 have HI6 := hide (HI3.out.bel X5.out)
 generalize t4.alloc (χ #[O ι k1, O ι k2, O ι k3] 2) = T at HI6 ⊢
 clear HAL HC6 SA SB SC SD X2 X4 X5 HS6 HIX HI3 HK1
 generalize hsc : putCd ss a b ix = sc
 by_cases hs0 : sc ≠ 0
 ·have hne : (sc == 0) = false := by rw [beq_eq_false_iff_ne]; exact hs0
  have r0 := HI6.out.b8.cell 0 rfl
  have r1 := HI6.out.b8.cell 1 rfl
  have f0 := HI6.out.b8.fz 0
  have f1 := HI6.out.b8.fz 1
  go_wp2
  refine bodyPost_ret (v := γ #[O ι sc, σ none 0 0]) (by simp [results, Tryz.results7, go_sem, r0, r1]) rfl ⟨_, by rw [hsc], by (first | exact (HI6.out.bl.setCell (p := ⟨w.heap.size + 1 + 1 + 1, 0, none⟩) (by show _ ≤ w.heap.size + 1 + 1 + 1; omega) _).setCell (p := ⟨w.heap.size + 1 + 1 + 1, 1, none⟩) (by show _ ≤ w.heap.size + 1 + 1 + 1; omega) _ | exact HI6.out.bl.setCell (p := ⟨w.heap.size + 1 + 1 + 1, 0, none⟩) (by show _ ≤ w.heap.size + 1 + 1 + 1; omega) _), fun q => absurd (hsc.symm.trans q) hs0⟩
 have hs00 : sc = 0 := by omega
 subst hs00
 clear hs0
 have pb0 : T.cell? ⟨B2, 0, none⟩ = some (O ι b.xs.length) := HI6.out.c2.cell 0 rfl
 have pb1 : T.cell? ⟨B2, 1, none⟩ = some (O ι xb0) := HI6.out.c2.cell 1 rfl
 have pb2 : T.cell? ⟨B2, 2, none⟩ = some (O ι xb1) := HI6.out.c2.cell 2 rfl
 have pb3 : T.cell? ⟨B2, 3, none⟩ = some (O ι xb2) := HI6.out.c2.cell 3 rfl
 have pb4 : T.cell? ⟨B2, 4, none⟩ = some (O ι xb3) := HI6.out.c2.cell 4 rfl
 have pb5 : T.cell? ⟨B2, 5, none⟩ = some (O ι sb0) := HI6.out.c2.cell 5 rfl
 have pb6 : T.cell? ⟨B2, 6, none⟩ = some (O ι sb1) := HI6.out.c2.cell 6 rfl
 have pb7 : T.cell? ⟨B2, 7, none⟩ = some (O ι sb2) := HI6.out.c2.cell 7 rfl
 have pb8 : T.cell? ⟨B2, 8, none⟩ = some (O ι sb3) := HI6.out.c2.cell 8 rfl
 have pb9 : T.cell? ⟨B2, 9, none⟩ = some (O ι b.off) := HI6.out.c2.cell 9 rfl
 have pb10 : T.cell? ⟨B2, 10, none⟩ = some (O ι b.st) := HI6.out.c2.cell 10 rfl
 have pb11 : T.cell? ⟨B2, 11, none⟩ = some (O ι Db) := HI6.out.c2.cell 11 rfl
 have pb12 : T.cell? ⟨B2, 12, none⟩ = some (σ yb nb kb) := HI6.out.c2.cell 12 rfl
 go_wp2_with fail
 refine (HRD.out _ HI6.out.b1).mono ?_
 rintro e T1 ⟨sx, cx, rfl, hox, bx, _⟩
 generalize hXX : ((offsL b.xs b.sv b.off).map fun p => (ss.getD b.st.toNat s0).2.getD p.toNat k0) = X at hox ⊢
 have HXE : Hid (rdA ss b = X) := hXX
 have HI7 := hide (HI6.out.bel bx)
 have HXC : Hid (CV T1 (σ sx X.length cx) X) := hox.cv
 clear hXX
 clear hox bx HI6 pb0 pb1 pb2 pb3 pb4 pb5 pb6 pb7 pb8 pb9 pb10 pb11 pb12 HRD
 have pa0 : T1.cell? ⟨B1, 0, none⟩ = some (O ι a.xs.length) := HI7.out.c1.cell 0 rfl
 have pa1 : T1.cell? ⟨B1, 1, none⟩ = some (O ι xa0) := HI7.out.c1.cell 1 rfl
 have pa2 : T1.cell? ⟨B1, 2, none⟩ = some (O ι xa1) := HI7.out.c1.cell 2 rfl
 have pa3 : T1.cell? ⟨B1, 3, none⟩ = some (O ι xa2) := HI7.out.c1.cell 3 rfl
 have pa4 : T1.cell? ⟨B1, 4, none⟩ = some (O ι xa3) := HI7.out.c1.cell 4 rfl
 have pa5 : T1.cell? ⟨B1, 5, none⟩ = some (O ι sa0) := HI7.out.c1.cell 5 rfl
 have pa6 : T1.cell? ⟨B1, 6, none⟩ = some (O ι sa1) := HI7.out.c1.cell 6 rfl
 have pa7 : T1.cell? ⟨B1, 7, none⟩ = some (O ι sa2) := HI7.out.c1.cell 7 rfl
 have pa8 : T1.cell? ⟨B1, 8, none⟩ = some (O ι sa3) := HI7.out.c1.cell 8 rfl
 have pa9 : T1.cell? ⟨B1, 9, none⟩ = some (O ι a.off) := HI7.out.c1.cell 9 rfl
 have pa10 : T1.cell? ⟨B1, 10, none⟩ = some (O ι a.st) := HI7.out.c1.cell 10 rfl
 have pa11 : T1.cell? ⟨B1, 11, none⟩ = some (O ι Da) := HI7.out.c1.cell 11 rfl
 have pa12 : T1.cell? ⟨B1, 12, none⟩ = some (σ ya na ka) := HI7.out.c1.cell 12 rfl
 go_wp2_with fail
 refine (HPF.out _).mono ?_
 rintro e T2 ⟨rfl, rfl⟩
 have xp := (Ext.refl T1).alloc #[O ι a.xs.length, O ι xa0, O ι xa1, O ι xa2, O ι xa3, O ι sa0, O ι sa1, O ι sa2, O ι sa3, O ι a.off] 65
 have HI8 := hide (HI7.out.bel xp.bl)
 have HX8 := hide (HXC.out.keep xp.bl)
 have HBF : Hid (∀ j, j < 10 → (T1.alloc (χ #[O ι a.xs.length, O ι xa0, O ι xa1, O ι xa2, O ι xa3, O ι sa0, O ι sa1, O ι sa2, O ι sa3, O ι a.off] 65)).cell? ⟨T1.heap.size, j, none⟩ = (#[O ι a.xs.length, O ι xa0, O ι xa1, O ι xa2, O ι xa3, O ι sa0, O ι sa1, O ι sa2, O ι sa3, O ι a.off] : Array Value)[j]?) := fun j hj => zg T1 #[O ι a.xs.length, O ι xa0, O ι xa1, O ι xa2, O ι xa3, O ι sa0, O ι sa1, O ι sa2, O ι sa3, O ι a.off] 65 T1.heap.size rfl j
 have HBS : Hid (T1.heap.size < (T1.alloc (χ #[O ι a.xs.length, O ι xa0, O ι xa1, O ι xa2, O ι xa3, O ι sa0, O ι sa1, O ι sa2, O ι sa3, O ι a.off] 65)).heap.size) := (show _ < _ by simp)
 clear xp pa0 pa1 pa2 pa3 pa4 pa5 pa6 pa7 pa8 pa9 pa10 pa11 pa12 HXC HI7
 generalize T1.heap.size = kf at *
 generalize T1.alloc (χ #[O ι a.xs.length, O ι xa0, O ι xa1, O ι xa2, O ι xa3, O ι sa0, O ι sa1, O ι sa2, O ι sa3, O ι a.off] 65) = T2 at *
 go_wp2_with fail
 refine (HCO.out _ kf HBS.out HBF.out).mono ?_
 rintro e T3 ⟨vp, rfl, hop, bp⟩
 have HI9 := hide (HI8.out.bel bp)
 have HX9 := hide (HX8.out.keep bp)
 have HPL := hide (zy hop)
 clear hop bp HBF HBS HX8 HI8 HCO HPF
 have pa0 : T3.cell? ⟨B1, 0, none⟩ = some (O ι a.xs.length) := HI9.out.c1.cell 0 rfl
 have pa1 : T3.cell? ⟨B1, 1, none⟩ = some (O ι xa0) := HI9.out.c1.cell 1 rfl
 have pa2 : T3.cell? ⟨B1, 2, none⟩ = some (O ι xa1) := HI9.out.c1.cell 2 rfl
 have pa3 : T3.cell? ⟨B1, 3, none⟩ = some (O ι xa2) := HI9.out.c1.cell 3 rfl
 have pa4 : T3.cell? ⟨B1, 4, none⟩ = some (O ι xa3) := HI9.out.c1.cell 4 rfl
 have pa5 : T3.cell? ⟨B1, 5, none⟩ = some (O ι sa0) := HI9.out.c1.cell 5 rfl
 have pa6 : T3.cell? ⟨B1, 6, none⟩ = some (O ι sa1) := HI9.out.c1.cell 6 rfl
 have pa7 : T3.cell? ⟨B1, 7, none⟩ = some (O ι sa2) := HI9.out.c1.cell 7 rfl
 have pa8 : T3.cell? ⟨B1, 8, none⟩ = some (O ι sa3) := HI9.out.c1.cell 8 rfl
 have pa9 : T3.cell? ⟨B1, 9, none⟩ = some (O ι a.off) := HI9.out.c1.cell 9 rfl
 have pa10 : T3.cell? ⟨B1, 10, none⟩ = some (O ι a.st) := HI9.out.c1.cell 10 rfl
 have pa11 : T3.cell? ⟨B1, 11, none⟩ = some (O ι Da) := HI9.out.c1.cell 11 rfl
 have pa12 : T3.cell? ⟨B1, 12, none⟩ = some (σ ya na ka) := HI9.out.c1.cell 12 rfl
 have pb0 : T3.cell? ⟨B2, 0, none⟩ = some (O ι b.xs.length) := HI9.out.c2.cell 0 rfl
 have pb1 : T3.cell? ⟨B2, 1, none⟩ = some (O ι xb0) := HI9.out.c2.cell 1 rfl
 have pb2 : T3.cell? ⟨B2, 2, none⟩ = some (O ι xb1) := HI9.out.c2.cell 2 rfl
 have pb3 : T3.cell? ⟨B2, 3, none⟩ = some (O ι xb2) := HI9.out.c2.cell 3 rfl
 have pb4 : T3.cell? ⟨B2, 4, none⟩ = some (O ι xb3) := HI9.out.c2.cell 4 rfl
 have pb5 : T3.cell? ⟨B2, 5, none⟩ = some (O ι sb0) := HI9.out.c2.cell 5 rfl
 have pb6 : T3.cell? ⟨B2, 6, none⟩ = some (O ι sb1) := HI9.out.c2.cell 6 rfl
 have pb7 : T3.cell? ⟨B2, 7, none⟩ = some (O ι sb2) := HI9.out.c2.cell 7 rfl
 have pb8 : T3.cell? ⟨B2, 8, none⟩ = some (O ι sb3) := HI9.out.c2.cell 8 rfl
 have pb9 : T3.cell? ⟨B2, 9, none⟩ = some (O ι b.off) := HI9.out.c2.cell 9 rfl
 have pb10 : T3.cell? ⟨B2, 10, none⟩ = some (O ι b.st) := HI9.out.c2.cell 10 rfl
 have pb11 : T3.cell? ⟨B2, 11, none⟩ = some (O ι Db) := HI9.out.c2.cell 11 rfl
 have pb12 : T3.cell? ⟨B2, 12, none⟩ = some (σ yb nb kb) := HI9.out.c2.cell 12 rfl
 have b40 := HI9.out.b4.cell 0 rfl
 go_wp2_with fail
 refine (HDR.out _ HI9.out.bl).mono ?_
 rintro e T4 ⟨g2, cb, sb, cp, rfl, hO, hB, hcg⟩
 rw [Hna.out] at hcg ⊢
 have hm : a.st.toNat < ss.length := by have := hga.1; omega
 have hsb : Hid (0 < na → sb = some ⟨cb a.st.toNat, 0, none⟩) := fun hp => by
  obtain ⟨s1', c1', q1, q2⟩ := hO.sl _ hm
  have e := hcg.symm.trans q1
  simp only [Option.some.injEq, Value.slice.injEq] at e
  rw [e.1]
  exact q2.resolve_left (fun z => by rw [← Hna.out, z] at hp; simp at hp)
 have xd := (Ext.refl T4).alloc #[σ (some ⟨g2, 0, none⟩) ss.length ss.length, σ sb na cp, O ι Db, O ι Da] 79
 have HB5 : Hid (Bel T3 (T4.alloc (χ #[σ (some ⟨g2, 0, none⟩) ss.length ss.length, σ sb na cp, O ι Db, O ι Da] 79))) := Bel.tr hB xd.bl
 have HO5 : Hid (HOwn (T4.alloc (χ #[σ (some ⟨g2, 0, none⟩) ss.length ss.length, σ sb na cp, O ι Db, O ι Da] 79)) T3.heap.size g2 cb ss) := hO.keep (fun b _ hb => xd.bl.block b hb) xd.bl.size
 have HD5 : Hid (Bx (T4.alloc (χ #[σ (some ⟨g2, 0, none⟩) ss.length ss.length, σ sb na cp, O ι Db, O ι Da] 79)) T4.heap.size 79 [σ (some ⟨g2, 0, none⟩) ss.length ss.length, σ sb na cp, O ι Db, O ι Da]) := Bx.new T4 79 #[σ (some ⟨g2, 0, none⟩) ss.length ss.length, σ sb na cp, O ι Db, O ι Da] _ rfl
 have HK5 : Hid ((∀ j, j < ss.length → (ss.getD j s0).2 ≠ [] → T3.heap.size ≤ cb j ∧ cb j < T4.heap.size) ∧ T3.heap.size ≤ g2 ∧ g2 < T4.heap.size) := ⟨fun j hj hne => ⟨by have := hO.g_cb j hj hne; have := hO.lo_g; omega, zl (hO.row j hj hne 0 (List.length_pos_iff.2 hne)).1⟩, hO.lo_g, hO.g_lt⟩
 clear b40 pa0 pa1 pa2 pa3 pa4 pa5 pa6 pa7 pa8 pa9 pa10 pa11 pa12 pb0 pb1 pb2 pb3 pb4 pb5 pb6 pb7 pb8 pb9 pb10 pb11 pb12 HDR xd hO hB hcg
 go_wp2_with fail
 generalize T4.heap.size = kd at *
 generalize T4.alloc (χ #[σ (some ⟨g2, 0, none⟩) ss.length ss.length, σ sb na cp, O ι Db, O ι Da] 79) = T5 at *
 obtain ⟨sp, cpp, rfl, hplr⟩ := HPL.out
 obtain ⟨_, hfit, hixc, _⟩ := zi8 hsc
 have HIR := hide (zv20 hixc)
 have HSC := hide hsc
 clear hsc
 have HPLR := hide hplr
 obtain ⟨sx', cx', exx, hxr⟩ := HX9.out
 have HXR := hide hxr
 injection exx with exx1 _ exx2
 subst exx1 exx2
 clear hplr hfit hixc hxr HX9 HPL
 have n0 : (0 : Int) ≤ (ix.length : Int) := Int.natCast_nonneg _
 go_loopw [17, 18, 83] (fun s17 s18 i wr => ∃ k : Nat, i = O ι k ∧ k ≤ ix.length ∧ HOwn wr T3.heap.size g2 cb (putT ss a.st.toNat (putL a (ix.take k)) Y k) ∧ Bel T3 wr ∧ Bx wr kd 79 [σ (some ⟨g2, 0, none⟩) ss.length ss.length, σ sb na cp, O ι Db, O ι Da]) (fun s17 s18 i _ => ix.length - (intOf i).toNat)
 case atStart =>
  refine ⟨0, rfl, by omega, ?_, HB5.out, HD5.out⟩
  rw [za16 _ _ _ _ hm]
  exact HO5.out
 case round =>
  obtain ⟨k, rfl, hk, hOw, hBw, hDw⟩ := hrel
  have HOw := hide hOw
  have HBw := hide hBw
  have HDw := hide hDw
  clear hOw hBw hDw
  by_cases hkn : k < ix.length
  ·have hir := HIR.out k hkn
   have q0 := (show wr.cell? ⟨bi, oi + k, none⟩ = _ from Bel.box (Bel.tr HI9.out.bl HBw.out) (HI.out k hkn))
   have k0' : (0 : Int) ≤ (k : Int) := Int.natCast_nonneg _
   have k1' : (k : Int) < (ix.length : Int) := by omega
   obtain ⟨c, hc⟩ : ∃ c, c = ix.getD k 0 := ⟨_, rfl⟩
   rw [← hc] at q0 hir
   have HC := hide hc
   have hNa := HNa.out
   have hcount := zd3 hga.2.1
   have hfr : 0 ≤ frS c (prod a.xs) ∧ frS c (prod a.xs) < prod a.xs := by unfold frS; split <;> omega
   obtain ⟨q, hq⟩ : ∃ q : Nat, frS c (prod a.xs) = (q : Int) := ⟨(frS c (prod a.xs)).toNat, by omega⟩
   have HQ := hide hq
   have hqq : (frS c (prod a.xs)).toNat = q := by omega
   have hql : q < (offsL a.xs a.sv a.off).length := by omega
   obtain ⟨bp, op, rfl, hrow⟩ := HPLR.out.resolve_left (fun z => by rw [z] at hql; simp at hql)
   have hpm : (offsL a.xs a.sv a.off).getD q 0 ∈ offsL a.xs a.sv a.off := by rw [List.getD_eq_getElem?_getD, List.getElem?_eq_getElem hql]; exact List.getElem_mem _
   have hp0 := (zj3 hga.2.1 _ hpm).1
   have hp1 := hga.2.2 _ hpm
   rw [Hna.out] at hp1
   obtain ⟨p, hp⟩ : ∃ p : Nat, (offsL a.xs a.sv a.off).getD q 0 = (p : Int) := ⟨((offsL a.xs a.sv a.off).getD q 0).toNat, by omega⟩
   have hpl : p < na := by omega
   have hpc := hrow _ hql
   rw [hp] at hpc
   have hXl : X.length = ix.length := by rw [← HXE.out]; exact HBL.out HSC.out (fun z => by rw [z] at hkn; simp at hkn)
   obtain ⟨bx, ox, rfl, hxrow⟩ := HXR.out.resolve_left (fun z => by rw [z] at hXl; simp at hXl; omega)
   obtain ⟨hx0, hx1, hx2⟩ := hxrow k (by omega)
   have HCVk := hide (HCV.out HSC.out k hkn)
   unfold dtA at HCVk
   rw [Hda.out, Hdb.out, HXE.out] at HCVk
   obtain ⟨xc, hxc⟩ : ∃ xc, X.getD k k0 = xc := ⟨_, rfl⟩
   rw [hxc] at hx0 hx1 hx2 HCVk
   obtain ⟨xi, xf, xg⟩ := xc
   have hsb' := hsb.out (by omega)
   subst hsb'
   have HS : Hid (∀ W, Bel T3 W → Bx W kd 79 [σ (some ⟨g2, 0, none⟩) ss.length ss.length, σ (some ⟨cb a.st.toNat, 0, none⟩) na cp, O ι Db, O ι Da] → (fun w' : World => w'.cell? ⟨kd, 0, none⟩ = some (σ (some ⟨g2, 0, none⟩) ss.length ss.length) ∧ w'.cell? ⟨kd, 1, none⟩ = some (σ (some ⟨cb a.st.toNat, 0, none⟩) na cp) ∧ w'.cell? ⟨kd, 2, none⟩ = some (O ι Db) ∧ w'.cell? ⟨kd, 3, none⟩ = some (O ι Da) ∧ w'.cell? ⟨B1, 0, none⟩ = some (O ι a.xs.length) ∧ w'.cell? ⟨B1, 1, none⟩ = some (O ι xa0) ∧ w'.cell? ⟨B1, 2, none⟩ = some (O ι xa1) ∧ w'.cell? ⟨B1, 3, none⟩ = some (O ι xa2) ∧ w'.cell? ⟨B1, 4, none⟩ = some (O ι xa3) ∧ w'.cell? ⟨bp, op + q, none⟩ = some (O ι (p : Int)) ∧ w'.cell? ⟨bx, ox + k * 3, none⟩ = some (O ι xi) ∧ w'.cell? ⟨bx, ox + k * 3 + 1, none⟩ = some (.float .f64 xf) ∧ w'.cell? ⟨bx, ox + k * 3 + 2, none⟩ = some (.float .f64 xg)) W) := fun W y d => by
    have z := HI9.out.bel y
    exact ⟨d.cell 0 rfl, d.cell 1 rfl, d.cell 2 rfl, d.cell 3 rfl, z.c1.cell 0 rfl, z.c1.cell 1 rfl, z.c1.cell 2 rfl, z.c1.cell 3 rfl, z.c1.cell 4 rfl, Bel.box y hpc, Bel.box y hx0, Bel.box y hx1, Bel.box y hx2⟩
   have HP := hide hp
   have HX := hide hXl
   have HXc := hide hxc
   have HPl := hide hpl
   have HQL := hide hql
   have HIRk := hide hir
   have hmin : min (k : Int) ((X.length : Int) - 1) = (k : Int) := by omega
   have hwr : IntKind.i64.wrap ((X.length : Int) - 1) = (X.length : Int) - 1 := by rw [IntKind.wrap_i64]; omega
   have hkX : (k : Int) < (X.length : Int) := by omega
   have hXb : X.length ≤ 4096 := by omega
   have hq1 : (q : Int) < ((offsL a.xs a.sv a.off).length : Int) := by omega
   clear hq hqq hc hcount hfr hql hpm hp0 hp1 hpl hpc hp hXl hx0 hx1 hx2 hxc hir hrow hxrow hNa
   have SA := hide (HS.out wr.drew (Bel.tr HBw.out (Ext.refl wr).drew.bl) HDw.out.drew)
   go_wp2_with fail
   refine zv (S := (fun w' : World => w'.cell? ⟨kd, 0, none⟩ = some (σ (some ⟨g2, 0, none⟩) ss.length ss.length) ∧ w'.cell? ⟨kd, 1, none⟩ = some (σ (some ⟨cb a.st.toNat, 0, none⟩) na cp) ∧ w'.cell? ⟨kd, 2, none⟩ = some (O ι Db) ∧ w'.cell? ⟨kd, 3, none⟩ = some (O ι Da) ∧ w'.cell? ⟨B1, 0, none⟩ = some (O ι a.xs.length) ∧ w'.cell? ⟨B1, 1, none⟩ = some (O ι xa0) ∧ w'.cell? ⟨B1, 2, none⟩ = some (O ι xa1) ∧ w'.cell? ⟨B1, 3, none⟩ = some (O ι xa2) ∧ w'.cell? ⟨B1, 4, none⟩ = some (O ι xa3) ∧ w'.cell? ⟨bp, op + q, none⟩ = some (O ι (p : Int)) ∧ w'.cell? ⟨bx, ox + k * 3, none⟩ = some (O ι xi) ∧ w'.cell? ⟨bx, ox + k * 3 + 1, none⟩ = some (.float .f64 xf) ∧ w'.cell? ⟨bx, ox + k * 3 + 2, none⟩ = some (.float .f64 xg))) (late := []) (by kernel_rfl) ?_
   refine zb23 0 88 (γ #[σ (some ⟨g2, 0, none⟩) ss.length ss.length, σ (some ⟨cb a.st.toNat, 0, none⟩) na cp, O ι Db, O ι Da]) rfl (.inl ⟨by kernel_rfl, ?_⟩) SA.out ?_
   ·rintro w' ⟨z0, z1, z2, z3, z4, z5, z6, z7, z8, z9, z10, z11, z12⟩
    go_simp
   simp only [aP, sT, sZ, sS]
   refine zb23 1 89 (σ (some ⟨bp, op, none⟩) (offsL a.xs a.sv a.off).length cpp) rfl (.inl ⟨by kernel_rfl, ?_⟩) SA.out ?_
   ·rintro w' ⟨z0, z1, z2, z3, z4, z5, z6, z7, z8, z9, z10, z11, z12⟩
    go_simp
   simp only [aP, sT, sZ, sS]
   refine zb23 2 90 (O ι c) rfl (.inl ⟨by kernel_rfl, ?_⟩) SA.out ?_
   ·rintro w' ⟨z0, z1, z2, z3, z4, z5, z6, z7, z8, z9, z10, z11, z12⟩
    go_simp
   simp only [aP, sT, sZ, sS]
   refine zb23 3 91 (π (some ⟨B1, 0, none⟩)) rfl (.inl ⟨by kernel_rfl, ?_⟩) SA.out ?_
   ·rintro w' ⟨z0, z1, z2, z3, z4, z5, z6, z7, z8, z9, z10, z11, z12⟩
    go_simp
   simp only [aP, sT, sZ, sS]
   refine zb23 4 92 (π (some ⟨B1, 0, none⟩)) rfl (.inl ⟨by kernel_rfl, ?_⟩) SA.out ?_
   ·rintro w' ⟨z0, z1, z2, z3, z4, z5, z6, z7, z8, z9, z10, z11, z12⟩
    go_simp
   simp only [aP, sT, sZ, sS]
   refine zb23 5 93 (γ #[O ι a.xs.length, O ι xa0, O ι xa1, O ι xa2, O ι xa3]) rfl (.inl ⟨by kernel_rfl, ?_⟩) SA.out ?_
   ·rintro w' ⟨z0, z1, z2, z3, z4, z5, z6, z7, z8, z9, z10, z11, z12⟩
    go_simp
   simp only [aP, sT, sZ, sS]
   refine zb23 10 98 (σ (some ⟨bx, ox, none⟩) X.length cx) rfl (.inl ⟨by kernel_rfl, ?_⟩) SA.out ?_
   ·rintro w' ⟨z0, z1, z2, z3, z4, z5, z6, z7, z8, z9, z10, z11, z12⟩
    go_simp
   simp only [aP, sT, sZ, sS]
   refine zb23 11 99 (O ι k) rfl (.inl ⟨by kernel_rfl, ?_⟩) SA.out ?_
   ·rintro w' ⟨z0, z1, z2, z3, z4, z5, z6, z7, z8, z9, z10, z11, z12⟩
    go_simp
   simp only [aP, sT, sZ, sS]
   refine zb23 12 100 (σ (some ⟨bx, ox, none⟩) X.length cx) rfl (.inl ⟨by kernel_rfl, ?_⟩) SA.out ?_
   ·rintro w' ⟨z0, z1, z2, z3, z4, z5, z6, z7, z8, z9, z10, z11, z12⟩
    go_simp
   simp only [aP, sT, sZ, sS]
   refine zb23 13 101 (O ι X.length) rfl (.inl ⟨by kernel_rfl, ?_⟩) SA.out ?_
   ·rintro w' ⟨z0, z1, z2, z3, z4, z5, z6, z7, z8, z9, z10, z11, z12⟩
    go_simp
   simp only [aP, sT, sZ, sS]
   refine zb23 14 102 (O ι ((X.length : Int) - 1)) rfl (.inl ⟨by kernel_rfl, ?_⟩) SA.out ?_
   ·rintro w' ⟨z0, z1, z2, z3, z4, z5, z6, z7, z8, z9, z10, z11, z12⟩
    go_simp
    try exact hwr
   simp only [aP, sT, sZ, sS]
   refine zb23 15 103 (O ι k) rfl (.inl ⟨by kernel_rfl, ?_⟩) SA.out ?_
   ·rintro w' ⟨z0, z1, z2, z3, z4, z5, z6, z7, z8, z9, z10, z11, z12⟩
    go_simp
    try omega
   simp only [aP, sT, sZ, sS]
   refine zb23 16 104 (π (some ⟨bx, ox + k * 3, none⟩)) rfl (.inl ⟨by kernel_rfl, ?_⟩) SA.out ?_
   ·rintro w' ⟨z0, z1, z2, z3, z4, z5, z6, z7, z8, z9, z10, z11, z12⟩
    go_simp
   simp only [aP, sT, sZ, sS]
   refine zb23 17 105 (γ #[O ι xi, .float .f64 xf, .float .f64 xg]) rfl (.inl ⟨by kernel_rfl, ?_⟩) SA.out ?_
   ·rintro w' ⟨z0, z1, z2, z3, z4, z5, z6, z7, z8, z9, z10, z11, z12⟩
    go_simp
   simp only [aP, sT, sZ, sS]
   refine ze (i := 6) (by kernel_rfl) rfl (fun K hK => ?_)
   go_simp
   refine (HCNa.out _).mono ?_
   rintro e t2 ⟨rfl, rfl⟩
   have X2 := hide (((Ext.refl wr).drew.alloc #[O ι a.xs.length, O ι xa0, O ι xa1, O ι xa2, O ι xa3] 63))
   have SB := hide (HS.out _ (Bel.tr HBw.out X2.out.bl) (HDw.out.bel X2.out.bl))
   refine hK.out _ _ (fun _ => SB.out) ?_
   clear hK K
   try simp only [aP, sT, sZ, sS]
   generalize wr.drew.alloc (χ #[O ι a.xs.length, O ι xa0, O ι xa1, O ι xa2, O ι xa3] 63) = t2 at X2 SB ⊢
   refine ze (i := 7) (by kernel_rfl) rfl (fun K hK => ?_)
   go_simp
   refine (zj5 c (prod a.xs) (by have := HIRk.out; have := HNa.out; omega) (by have := HNa.out; omega) _).mono ?_
   rintro e t2 ⟨rfl, rfl⟩
   rw [HQ.out]
   refine hK.out _ _ (fun _ => SB.out) ?_
   clear hK K
   try simp only [aP, sT, sZ, sS]
   refine zb23 8 96 (π (some ⟨bp, op + q, none⟩)) rfl (.inl ⟨by kernel_rfl, ?_⟩) SB.out ?_
   ·rintro w' ⟨z0, z1, z2, z3, z4, z5, z6, z7, z8, z9, z10, z11, z12⟩
    go_simp
   simp only [aP, sT, sZ, sS]
   refine zb23 9 97 (O ι (p : Int)) rfl (.inl ⟨by kernel_rfl, ?_⟩) SB.out ?_
   ·rintro w' ⟨z0, z1, z2, z3, z4, z5, z6, z7, z8, z9, z10, z11, z12⟩
    go_simp
   simp only [aP, sT, sZ, sS]
   have HO2 : Hid (HOwn t2 T3.heap.size g2 cb (putT ss a.st.toNat (putL a (ix.take k)) Y k)) := HOw.out.keep (fun b _ hb => X2.out.bl.block b hb) X2.out.bl.size
   have HNE : Hid ((ss.getD a.st.toNat s0).2 ≠ []) := (show _ ≠ _ from fun z => by have h1 := Hna.out; have h2 := HPl.out; rw [z] at h1; simp only [List.length_nil] at h1; omega)
   have hml : a.st.toNat < (putT ss a.st.toNat (putL a (ix.take k)) Y k).length := by rw [zp]; exact hm
   have hlen2 := (zb1 ss a.st.toNat (putL a (ix.take k)) Y k a.st.toNat).2.1
   have hne2 : ((putT ss a.st.toNat (putL a (ix.take k)) Y k).getD a.st.toNat s0).2 ≠ [] := fun z => by have h1 := Hna.out; have h2 := HPl.out; rw [z] at hlen2; simp only [List.length_nil] at hlen2; omega
   have hrow2 := HO2.out.row _ hml hne2 p (by rw [hlen2, Hna.out]; exact HPl.out)
   simp only [Nat.zero_add] at hrow2
   have HPT := hide (zo13 (g := g2) (n := ss.length) (n' := ss.length) (cp := cp) (y := Y.getD k k0) HPl.out HCVk.out hrow2.1 hrow2.2.1 hrow2.2.2 (HO2.out.fzr _ hml hne2))
   clear hml hlen2 hne2 hrow2
   refine ze (i := 18) (by kernel_rfl) rfl (fun K hK => ?_)
   go_simp
   refine HPT.out.mono ?_
   rintro e t4 ⟨rfl, w4, x4, rfl⟩
   have hkc := HK5.out.1 _ hm HNE.out
   have HBw4 : Hid (Bel T3 (setC w4 (cb a.st.toNat) (p * 3) (Y.getD k k0))) := zg8 (Bel.tr HBw.out (X2.out.trans x4).bl) hkc.1 _ _
   have HDw4 : Hid (Bx (setC w4 (cb a.st.toNat) (p * 3) (Y.getD k k0)) kd 79 [σ (some ⟨g2, 0, none⟩) ss.length ss.length, σ (some ⟨cb a.st.toNat, 0, none⟩) na cp, O ι Db, O ι Da]) := (HDw.out.bel (X2.out.trans x4).bl).setC (by omega)
   have SC := hide (HS.out _ HBw4.out HDw4.out)
   have HO4 : Hid (HOwn (setC w4 (cb a.st.toNat) (p * 3) (Y.getD k k0)) T3.heap.size g2 cb (putT ss a.st.toNat (putL a (ix.take (k + 1))) Y (k + 1))) := by
    have e := zb16 a ix k hkn
    rw [← HC.out, HQ.out, Int.toNat_natCast, HP.out] at e
    show HOwn _ _ _ _ _
    rw [e]
    exact HOwn.putc HO2.out hm (by rw [Hna.out]; exact HPl.out) (zx17 a ix k (by omega)) x4 rfl
   refine hK.out _ _ (fun _ => SC.out) ?_
   clear hK K
   try simp only [aP, sT, sZ, sS]
   refine zm (by kernel_rfl) ?_ _
   refine ⟨rfl, ?_⟩
   clear HPT SA SB SC HS HO2 HCVk X2 x4 hkc
   generalize setC w4 (cb a.st.toNat) (p * 3) (Y.getD k k0) = W9 at *
   go_wp2_with fail
   go_roundw
   ·exact ⟨k + 1, by go_num, by omega, HO4.out, HBw4.out, HDw4.out⟩
   ·simp [intOf]; omega
  ·have hkk : k = ix.length := by omega
   subst hkk
   have HI10 := hide (HI9.out.bel HBw.out)
   have r0 := HI10.out.b8.cell 0 rfl
   have r1 := HI10.out.b8.cell 1 rfl
   have f0 := HI10.out.b8.fz 0
   have f1 := HI10.out.b8.fz 1
   have d0 := HDw.out.cell 0 rfl
   have hsc := HSC.out
   go_wp2
   refine bodyPost_ret (v := γ #[O ι 0, σ (some ⟨g2, 0, none⟩) ss.length ss.length]) (by simp [results, Tryz.results7, go_sem, r0, r1]) rfl ⟨_, by first | rfl | rw [HSC.out], by (first | exact (HI10.out.bl.setCell (p := ⟨w.heap.size + 1 + 1 + 1, 0, none⟩) (by show _ ≤ w.heap.size + 1 + 1 + 1; omega) _).setCell (p := ⟨w.heap.size + 1 + 1 + 1, 1, none⟩) (by show _ ≤ w.heap.size + 1 + 1 + 1; omega) _ | exact HI10.out.bl.setCell (p := ⟨w.heap.size + 1 + 1 + 1, 0, none⟩) (by show _ ≤ w.heap.size + 1 + 1 + 1; omega) _), ?_⟩
   have hlo : w.heap.size + 1 + 1 + 1 < T3.heap.size := HI9.out.b8.lt
   have key : ∀ W, HOwn W T3.heap.size g2 cb (putT ss a.st.toNat (putL a (ix.take ix.length)) Y ix.length) → SV W (σ (some ⟨g2, 0, none⟩) ss.length ss.length) (putT ss a.st.toNat (putL a ix) Y ix.length) := fun W hW => by
    have q := HOwn.sv (cap := ss.length) hW
    rw [zp, List.take_length] at q
    exact q
   first
    | exact fun _ => key _ ((HOw.out.low hlo).low hlo)
    | exact fun _ => key _ (HOw.out.low hlo)
    | exact key _ ((HOw.out.low hlo).low hlo)
    | exact key _ (HOw.out.low hlo)
theorem zz10 {w : World} {v va vb : Value} {ss : List St} {a b : Ar} {bi oi ci : Nat} {ix : List Int} {Y : List C3} (h : SV w v ss) (hg : SG ss) (hl : SL ss 1048576) (ha : AV w va a) (hb : AV w vb b) (hi : Row w bi oi ix) (hil : ix.length ≤ 4096) (hcv : takeCd ss a b ix = 0 → ∀ j, j < ix.length → ∀ W, Calls Tryz.prog 69 #[O ι (dtA ss a), O ι (dtA ss b), cellV ((takeX ss a ix).getD j k0)] W fun e W' => e = .returned (cellV (Y.getD j k0)) ∧ Ext W W') :
  Calls Tryz.prog 12 #[γ #[v], va, σ (some ⟨bi, oi, none⟩) ix.length ci, vb] w fun e w' => ∃ u, e = .returned (γ #[O ι (takeCd ss a b ix), u]) ∧ Bel w w' ∧ (takeCd ss a b ix = 0 → SV w' u (putT ss b.st.toNat (offsL b.xs b.sv b.off) Y (offsL b.xs b.sv b.off).length)) := by
 obtain ⟨sa, cap, rfl, hx⟩ := h
 have h : SV w (σ sa ss.length cap) ss := ⟨sa, cap, rfl, hx⟩
 obtain ⟨p1, c1, q1, d1, rfl, ia1, ia2, la⟩ := ha
 obtain ⟨p2, c2, q2, d2, rfl, ib1, ib2, lb⟩ := hb
 have BX0 := PT.start w (σ sa ss.length cap) [O ι a.st, σ p1 a.xs.length c1, σ q1 a.sv.length d1, O ι a.off] [O ι b.st, σ p2 b.xs.length c2, σ q2 b.sv.length d2, O ι b.off]
 have AR := zz21 (B := w.heap.size + 4) (W := ((((w.alloc (χ #[σ sa ss.length cap] 25)).alloc (χ #[O ι a.st, σ p1 a.xs.length c1, σ q1 a.sv.length d1, O ι a.off] 30)).alloc (χ #[O ι b.st, σ p2 b.xs.length c2, σ q2 b.sv.length d2, O ι b.off] 30)).alloc (χ #[O ι 0, σ none 0 0] 36))) (by simp) ia1 ia2 ib1 ib2 BX0.bl
 have HH := hide h
 have xr : Ext ((((w.alloc (χ #[σ sa ss.length cap] 25)).alloc (χ #[O ι a.st, σ p1 a.xs.length c1, σ q1 a.sv.length d1, O ι a.off] 30)).alloc (χ #[O ι b.st, σ p2 b.xs.length c2, σ q2 b.sv.length d2, O ι b.off] 30)).alloc (χ #[O ι 0, σ none 0 0] 36)) ((((((w.alloc (χ #[σ sa ss.length cap] 25)).alloc (χ #[O ι a.st, σ p1 a.xs.length c1, σ q1 a.sv.length d1, O ι a.off] 30)).alloc (χ #[O ι b.st, σ p2 b.xs.length c2, σ q2 b.sv.length d2, O ι b.off] 30)).alloc (χ #[O ι 0, σ none 0 0] 36))).alloc (χ #[O ι a.st, σ p1 a.xs.length c1, σ q1 a.sv.length d1, O ι a.off, O ι b.st, σ p2 b.xs.length c2, σ q2 b.sv.length d2, O ι b.off] 30)) := (Ext.refl _).alloc _ _
 have HF := hide (zp10 (oa := 0) (cp := 2) (h.keep (Bel.tr BX0.bl xr.bl)) hg hl AR (fun x hx => by simp at hx; rcases hx with rfl | rfl <;> assumption) (by simp) (by simp))
 have HB0 := hide (BX0.bel xr.bl)
 have b0 := BX0.b4.cell 0 rfl
 have a0 := BX0.b5.cell 0 rfl
 have e0 := BX0.b7.cell 0 rfl
 have a1 := BX0.b5.cell 1 rfl
 have e1 := BX0.b7.cell 1 rfl
 have a2 := BX0.b5.cell 2 rfl
 have e2 := BX0.b7.cell 2 rfl
 have a3 := BX0.b5.cell 3 rfl
 have e3 := BX0.b7.cell 3 rfl
 have HSZ : Hid (w.heap.size + 4 ≤ (((((w.alloc (χ #[σ sa ss.length cap] 25)).alloc (χ #[O ι a.st, σ p1 a.xs.length c1, σ q1 a.sv.length d1, O ι a.off] 30)).alloc (χ #[O ι b.st, σ p2 b.xs.length c2, σ q2 b.sv.length d2, O ι b.off] 30)).alloc (χ #[O ι 0, σ none 0 0] 36))).heap.size) := (show _ ≤ _ by simp)
 have HI := hide hi
 have HCV := hide hcv
 have HG := hide hg
 have HL := hide hl
 clear AR BX0 xr hx h ia1 ia2 ib1 ib2 la lb hi hcv hg hl
 go_enter Tryz.func12, Tryz.ntmps12
 go_wp2_with fail
 refine HF.out.mono ?_
 rintro e w1 ⟨vO, rfl, b1, hcase⟩
 have HB1 := hide (HB0.out.bel b1)
 have HS1 : Hid (w.heap.size + 4 ≤ w1.heap.size) := (show _ ≤ _ from Nat.le_trans HSZ.out (Nat.le_trans (Nat.le_of_lt (by simp)) b1.size))
 have HB01 := hide b1
 clear b1 HF b0 a0 a1 a2 a3 e0 e1 e2 e3 HSZ
 generalize hfe : firstL ss [a, b] = fc at hcase ⊢
 by_cases hfc : fc ≠ 0
 ·have hok : Hid (takeCd ss a b ix = fc) := by show _ = _; unfold takeCd; rw [hfe, if_pos hfc]
  have hne : (fc == 0) = false := by rw [beq_eq_false_iff_ne]; exact hfc
  clear hcase
  have r0 := HB1.out.b8.cell 0 rfl
  have r1 := HB1.out.b8.cell 1 rfl
  have f0 := HB1.out.b8.fz 0
  have f1 := HB1.out.b8.fz 1
  go_wp2
  refine bodyPost_ret (v := γ #[O ι fc, σ none 0 0]) (by simp [results, Tryz.results12, go_sem, r0, r1]) rfl ⟨_, by rw [hok.out], by (first | exact (HB1.out.bl.setCell (p := ⟨w.heap.size + 1 + 1 + 1, 0, none⟩) (by show _ ≤ w.heap.size + 1 + 1 + 1; omega) _).setCell (p := ⟨w.heap.size + 1 + 1 + 1, 1, none⟩) (by show _ ≤ w.heap.size + 1 + 1 + 1; omega) _ | exact HB1.out.bl.setCell (p := ⟨w.heap.size + 1 + 1 + 1, 0, none⟩) (by show _ ≤ w.heap.size + 1 + 1 + 1; omega) _), fun q => absurd (hok.out.symm.trans q) hfc⟩
 have hfc0 : fc = 0 := by omega
 subst hfc0
 obtain ⟨g, cg, U, rfl, hgl, hgood, hU, hcells⟩ := hcase.resolve_left (by omega)
 have HU1 : Hid (∀ j, j < ss.length → CV w1 (U j) (ss.getD j s0).2) := fun j hj => (hU j hj).keep HB01.out
 have hga := hgood a (by simp)
 have hgb := hgood b (by simp)
 obtain ⟨xa0, Hxa0⟩ : ∃ z, Hid (a.xs.getD 0 0 = z) := ⟨_, rfl⟩
 obtain ⟨xa1, Hxa1⟩ : ∃ z, Hid (a.xs.getD 1 0 = z) := ⟨_, rfl⟩
 obtain ⟨xa2, Hxa2⟩ : ∃ z, Hid (a.xs.getD 2 0 = z) := ⟨_, rfl⟩
 obtain ⟨xa3, Hxa3⟩ : ∃ z, Hid (a.xs.getD 3 0 = z) := ⟨_, rfl⟩
 obtain ⟨sa0, Hsa0⟩ : ∃ z, Hid (a.sv.getD 0 0 = z) := ⟨_, rfl⟩
 obtain ⟨sa1, Hsa1⟩ : ∃ z, Hid (a.sv.getD 1 0 = z) := ⟨_, rfl⟩
 obtain ⟨sa2, Hsa2⟩ : ∃ z, Hid (a.sv.getD 2 0 = z) := ⟨_, rfl⟩
 obtain ⟨sa3, Hsa3⟩ : ∃ z, Hid (a.sv.getD 3 0 = z) := ⟨_, rfl⟩
 obtain ⟨Da, Hda⟩ : ∃ z, Hid ((ss.getD a.st.toNat s0).1 = z) := ⟨_, rfl⟩
 obtain ⟨ya, ka, na, Hua, Hna⟩ : ∃ (y : Option Addr) (k n : Nat), Hid (U a.st.toNat = σ y n k) ∧ Hid ((ss.getD a.st.toNat s0).2.length = n) := by
  have hst := hga.1
  obtain ⟨y, k, e, _⟩ := hU a.st.toNat (by omega)
  exact ⟨y, k, _, e, rfl⟩
 obtain ⟨xb0, Hxb0⟩ : ∃ z, Hid (b.xs.getD 0 0 = z) := ⟨_, rfl⟩
 obtain ⟨xb1, Hxb1⟩ : ∃ z, Hid (b.xs.getD 1 0 = z) := ⟨_, rfl⟩
 obtain ⟨xb2, Hxb2⟩ : ∃ z, Hid (b.xs.getD 2 0 = z) := ⟨_, rfl⟩
 obtain ⟨xb3, Hxb3⟩ : ∃ z, Hid (b.xs.getD 3 0 = z) := ⟨_, rfl⟩
 obtain ⟨sb0, Hsb0⟩ : ∃ z, Hid (b.sv.getD 0 0 = z) := ⟨_, rfl⟩
 obtain ⟨sb1, Hsb1⟩ : ∃ z, Hid (b.sv.getD 1 0 = z) := ⟨_, rfl⟩
 obtain ⟨sb2, Hsb2⟩ : ∃ z, Hid (b.sv.getD 2 0 = z) := ⟨_, rfl⟩
 obtain ⟨sb3, Hsb3⟩ : ∃ z, Hid (b.sv.getD 3 0 = z) := ⟨_, rfl⟩
 obtain ⟨Db, Hdb⟩ : ∃ z, Hid ((ss.getD b.st.toNat s0).1 = z) := ⟨_, rfl⟩
 obtain ⟨yb, kb, nb, Hub, Hnb⟩ : ∃ (y : Option Addr) (k n : Nat), Hid (U b.st.toNat = σ y n k) ∧ Hid ((ss.getD b.st.toNat s0).2.length = n) := by
  have hst := hgb.1
  obtain ⟨y, k, e, _⟩ := hU b.st.toNat (by omega)
  exact ⟨y, k, _, e, rfl⟩
 have HCa : Hid (∀ i y, ([O ι a.xs.length, O ι xa0, O ι xa1, O ι xa2, O ι xa3, O ι sa0, O ι sa1, O ι sa2, O ι sa3, O ι a.off, O ι a.st, O ι Da, σ ya na ka] : List Value)[i]? = some y → w1.cell? ⟨g, 0 * 13 + i, none⟩ = some y) := fun i y hy => hcells 0 i y (by simp) (by
  rw [← Hxa0.out, ← Hxa1.out, ← Hxa2.out, ← Hxa3.out, ← Hsa0.out, ← Hsa1.out, ← Hsa2.out, ← Hsa3.out, ← Hda.out, ← Hua.out] at hy
  exact hy)
 have ca0 : w1.cell? ⟨g, 0, none⟩ = some (O ι a.xs.length) := HCa.out 0 _ rfl
 have ca1 : w1.cell? ⟨g, 1, none⟩ = some (O ι xa0) := HCa.out 1 _ rfl
 have ca2 : w1.cell? ⟨g, 2, none⟩ = some (O ι xa1) := HCa.out 2 _ rfl
 have ca3 : w1.cell? ⟨g, 3, none⟩ = some (O ι xa2) := HCa.out 3 _ rfl
 have ca4 : w1.cell? ⟨g, 4, none⟩ = some (O ι xa3) := HCa.out 4 _ rfl
 have ca5 : w1.cell? ⟨g, 5, none⟩ = some (O ι sa0) := HCa.out 5 _ rfl
 have ca6 : w1.cell? ⟨g, 6, none⟩ = some (O ι sa1) := HCa.out 6 _ rfl
 have ca7 : w1.cell? ⟨g, 7, none⟩ = some (O ι sa2) := HCa.out 7 _ rfl
 have ca8 : w1.cell? ⟨g, 8, none⟩ = some (O ι sa3) := HCa.out 8 _ rfl
 have ca9 : w1.cell? ⟨g, 9, none⟩ = some (O ι a.off) := HCa.out 9 _ rfl
 have ca10 : w1.cell? ⟨g, 10, none⟩ = some (O ι a.st) := HCa.out 10 _ rfl
 have ca11 : w1.cell? ⟨g, 11, none⟩ = some (O ι Da) := HCa.out 11 _ rfl
 have ca12 : w1.cell? ⟨g, 12, none⟩ = some (σ ya na ka) := HCa.out 12 _ rfl
 have HCb : Hid (∀ i y, ([O ι b.xs.length, O ι xb0, O ι xb1, O ι xb2, O ι xb3, O ι sb0, O ι sb1, O ι sb2, O ι sb3, O ι b.off, O ι b.st, O ι Db, σ yb nb kb] : List Value)[i]? = some y → w1.cell? ⟨g, 1 * 13 + i, none⟩ = some y) := fun i y hy => hcells 1 i y (by simp) (by
  rw [← Hxb0.out, ← Hxb1.out, ← Hxb2.out, ← Hxb3.out, ← Hsb0.out, ← Hsb1.out, ← Hsb2.out, ← Hsb3.out, ← Hdb.out, ← Hub.out] at hy
  exact hy)
 have cb0 : w1.cell? ⟨g, 13, none⟩ = some (O ι b.xs.length) := HCb.out 0 _ rfl
 have cb1 : w1.cell? ⟨g, 14, none⟩ = some (O ι xb0) := HCb.out 1 _ rfl
 have cb2 : w1.cell? ⟨g, 15, none⟩ = some (O ι xb1) := HCb.out 2 _ rfl
 have cb3 : w1.cell? ⟨g, 16, none⟩ = some (O ι xb2) := HCb.out 3 _ rfl
 have cb4 : w1.cell? ⟨g, 17, none⟩ = some (O ι xb3) := HCb.out 4 _ rfl
 have cb5 : w1.cell? ⟨g, 18, none⟩ = some (O ι sb0) := HCb.out 5 _ rfl
 have cb6 : w1.cell? ⟨g, 19, none⟩ = some (O ι sb1) := HCb.out 6 _ rfl
 have cb7 : w1.cell? ⟨g, 20, none⟩ = some (O ι sb2) := HCb.out 7 _ rfl
 have cb8 : w1.cell? ⟨g, 21, none⟩ = some (O ι sb3) := HCb.out 8 _ rfl
 have cb9 : w1.cell? ⟨g, 22, none⟩ = some (O ι b.off) := HCb.out 9 _ rfl
 have cb10 : w1.cell? ⟨g, 23, none⟩ = some (O ι b.st) := HCb.out 10 _ rfl
 have cb11 : w1.cell? ⟨g, 24, none⟩ = some (O ι Db) := HCb.out 11 _ rfl
 have cb12 : w1.cell? ⟨g, 25, none⟩ = some (σ yb nb kb) := HCb.out 12 _ rfl
 have HNa : Hid (0 ≤ prod a.xs ∧ prod a.xs ≤ 4096) := by
  have h1 := zc1 (fun n hn => (zx hga.2.1.1 n hn).1)
  have h2 := hga.2.1.1.2.2
  exact ⟨by omega, h2⟩
 have HNb : Hid (0 ≤ prod b.xs ∧ prod b.xs ≤ 4096) := by
  have h1 := zc1 (fun n hn => (zx hgb.2.1.1 n hn).1)
  have h2 := hgb.2.1.1.2.2
  exact ⟨by omega, h2⟩
 have HCNa := hide (fun W => zp1 W a.xs hga.2.1.1.1 hga.2.1.1.2.1)
 have HCNb := hide (fun W => zp1 W b.xs hgb.2.1.1.1 hgb.2.1.1.2.1)
 unfold shp at HCNa HCNb
 rw [Hxa0.out, Hxa1.out, Hxa2.out, Hxa3.out] at HCNa
 rw [Hxb0.out, Hxb1.out, Hxb2.out, Hxb3.out] at HCNb
 have HWC := hide (fun W => zi4 b.xs b.sv b.off b.st Db Da (σ yb nb kb) hgb.2.1 W)
 rw [Hxb0.out, Hxb1.out, Hxb2.out, Hxb3.out, Hsb0.out, Hsb1.out, Hsb2.out, Hsb3.out] at HWC
 have HCA : Hid (CV w1 (σ ya na ka) (ss.getD a.st.toNat s0).2) := by
  have q := HU1.out a.st.toNat (by have := hga.1; omega)
  rw [Hua.out] at q
  exact q
 have HRD := hide (fun W (hW : Bel w1 W) => callsIn_wide.1 (zk9 3 (Nat.le_refl _) a.xs a.sv a.off a.st Da (w := W) (su := ya) (cu := ka) (cs := (ss.getD a.st.toNat s0).2) (by rw [Hna.out]; exact HCA.out.keep hW) (HL.out.at a.st.toNat (by have := hga.1; omega)) hga.2.1 hga.2.2))
 rw [Hxa0.out, Hxa1.out, Hxa2.out, Hxa3.out, Hsa0.out, Hsa1.out, Hsa2.out, Hsa3.out, Hna.out] at HRD
 have HLN : Hid (lnB b ix = decide ((b.xs.length : Int) = 1 ∧ xb0 = (ix.length : Int) ∧ xb1 = 0 ∧ xb2 = 0 ∧ xb3 = 0)) := by
  show _ = _
  unfold lnB
  rw [Hxb0.out, Hxb1.out, Hxb2.out, Hxb3.out]
 have HHW := hide (fun (W : World) (hW : Bel w W) (sx : Option Addr) (cx : Nat) (hX : CV W (σ sx (takeX ss a ix).length cx) (takeX ss a ix)) hcv hXl hX4 => callsIn_wide.1 (zb11 3 (Nat.le_refl _) b.xs b.sv b.off b.st.toNat (σ yb nb kb) (fr := Da) (tq := Db) (Y := Y) (HH.out.keep hW) HL.out (by have := hgb.1; omega) hgb.2.1 hgb.2.2 hX hcv hXl hX4))
 rw [Hxb0.out, Hxb1.out, Hxb2.out, Hxb3.out, Hsb0.out, Hsb1.out, Hsb2.out, Hsb3.out, Int.toNat_of_nonneg hgb.1.1] at HHW
 go_wp2_with fail
 have HS4 : Hid (∀ W, Bel w1 W → (fun w' : World => w'.cell? ⟨g, 0, none⟩ = some (O ι a.xs.length) ∧ w'.cell? ⟨g, 1, none⟩ = some (O ι xa0) ∧ w'.cell? ⟨g, 2, none⟩ = some (O ι xa1) ∧ w'.cell? ⟨g, 3, none⟩ = some (O ι xa2) ∧ w'.cell? ⟨g, 4, none⟩ = some (O ι xa3) ∧ w'.cell? ⟨g, 5, none⟩ = some (O ι sa0) ∧ w'.cell? ⟨g, 6, none⟩ = some (O ι sa1) ∧ w'.cell? ⟨g, 7, none⟩ = some (O ι sa2) ∧ w'.cell? ⟨g, 8, none⟩ = some (O ι sa3) ∧ w'.cell? ⟨g, 9, none⟩ = some (O ι a.off) ∧ w'.cell? ⟨g, 10, none⟩ = some (O ι a.st) ∧ w'.cell? ⟨g, 11, none⟩ = some (O ι Da) ∧ w'.cell? ⟨g, 12, none⟩ = some (σ ya na ka) ∧ w'.cell? ⟨g, 13, none⟩ = some (O ι b.xs.length) ∧ w'.cell? ⟨g, 14, none⟩ = some (O ι xb0) ∧ w'.cell? ⟨g, 15, none⟩ = some (O ι xb1) ∧ w'.cell? ⟨g, 16, none⟩ = some (O ι xb2) ∧ w'.cell? ⟨g, 17, none⟩ = some (O ι xb3) ∧ w'.cell? ⟨g, 18, none⟩ = some (O ι sb0) ∧ w'.cell? ⟨g, 19, none⟩ = some (O ι sb1) ∧ w'.cell? ⟨g, 20, none⟩ = some (O ι sb2) ∧ w'.cell? ⟨g, 21, none⟩ = some (O ι sb3) ∧ w'.cell? ⟨g, 22, none⟩ = some (O ι b.off) ∧ w'.cell? ⟨g, 23, none⟩ = some (O ι b.st) ∧ w'.cell? ⟨g, 24, none⟩ = some (O ι Db) ∧ w'.cell? ⟨g, 25, none⟩ = some (σ yb nb kb)) W) := fun W x => ⟨Bel.box x ca0, Bel.box x ca1, Bel.box x ca2, Bel.box x ca3, Bel.box x ca4, Bel.box x ca5, Bel.box x ca6, Bel.box x ca7, Bel.box x ca8, Bel.box x ca9, Bel.box x ca10, Bel.box x ca11, Bel.box x ca12, Bel.box x cb0, Bel.box x cb1, Bel.box x cb2, Bel.box x cb3, Bel.box x cb4, Bel.box x cb5, Bel.box x cb6, Bel.box x cb7, Bel.box x cb8, Bel.box x cb9, Bel.box x cb10, Bel.box x cb11, Bel.box x cb12⟩
 have SA := hide (HS4.out w1.drew (Ext.refl w1).drew.bl)
 clear ca0 ca1 ca2 ca3 ca4 ca5 ca6 ca7 ca8 ca9 ca10 ca11 ca12 cb0 cb1 cb2 cb3 cb4 cb5 cb6 cb7 cb8 cb9 cb10 cb11 cb12
 refine zl13 (fun ac a' w' => ∃ B1 B2 : Nat, a' = ((((((((ac.put (some 30) (σ (some ⟨g, 0, none⟩) 2 cg)).put (some 31) (π (some ⟨g, 0, none⟩))).put (some 32) (γ #[O ι a.xs.length, O ι xa0, O ι xa1, O ι xa2, O ι xa3, O ι sa0, O ι sa1, O ι sa2, O ι sa3, O ι a.off, O ι a.st, O ι Da, σ ya na ka])).put (some 33) (σ (some ⟨g, 0, none⟩) 2 cg)).put (some 34) (π (some ⟨g, 13, none⟩))).put (some 35) (γ #[O ι b.xs.length, O ι xb0, O ι xb1, O ι xb2, O ι xb3, O ι sb0, O ι sb1, O ι sb2, O ι sb3, O ι b.off, O ι b.st, O ι Db, σ yb nb kb])).put (some 11) (π (some ⟨B1, 0, none⟩))).put (some 12) (π (some ⟨B2, 0, none⟩))) ∧ Bel w1 w' ∧ Bx w' B1 67 [O ι a.xs.length, O ι xa0, O ι xa1, O ι xa2, O ι xa3, O ι sa0, O ι sa1, O ι sa2, O ι sa3, O ι a.off, O ι a.st, O ι Da, σ ya na ka] ∧ Bx w' B2 67 [O ι b.xs.length, O ι xb0, O ι xb1, O ι xb2, O ι xb3, O ι sb0, O ι sb1, O ι sb2, O ι sb3, O ι b.off, O ι b.st, O ι Db, σ yb nb kb]) (S := (fun w' : World => w'.cell? ⟨g, 0, none⟩ = some (O ι a.xs.length) ∧ w'.cell? ⟨g, 1, none⟩ = some (O ι xa0) ∧ w'.cell? ⟨g, 2, none⟩ = some (O ι xa1) ∧ w'.cell? ⟨g, 3, none⟩ = some (O ι xa2) ∧ w'.cell? ⟨g, 4, none⟩ = some (O ι xa3) ∧ w'.cell? ⟨g, 5, none⟩ = some (O ι sa0) ∧ w'.cell? ⟨g, 6, none⟩ = some (O ι sa1) ∧ w'.cell? ⟨g, 7, none⟩ = some (O ι sa2) ∧ w'.cell? ⟨g, 8, none⟩ = some (O ι sa3) ∧ w'.cell? ⟨g, 9, none⟩ = some (O ι a.off) ∧ w'.cell? ⟨g, 10, none⟩ = some (O ι a.st) ∧ w'.cell? ⟨g, 11, none⟩ = some (O ι Da) ∧ w'.cell? ⟨g, 12, none⟩ = some (σ ya na ka) ∧ w'.cell? ⟨g, 13, none⟩ = some (O ι b.xs.length) ∧ w'.cell? ⟨g, 14, none⟩ = some (O ι xb0) ∧ w'.cell? ⟨g, 15, none⟩ = some (O ι xb1) ∧ w'.cell? ⟨g, 16, none⟩ = some (O ι xb2) ∧ w'.cell? ⟨g, 17, none⟩ = some (O ι xb3) ∧ w'.cell? ⟨g, 18, none⟩ = some (O ι sb0) ∧ w'.cell? ⟨g, 19, none⟩ = some (O ι sb1) ∧ w'.cell? ⟨g, 20, none⟩ = some (O ι sb2) ∧ w'.cell? ⟨g, 21, none⟩ = some (O ι sb3) ∧ w'.cell? ⟨g, 22, none⟩ = some (O ι b.off) ∧ w'.cell? ⟨g, 23, none⟩ = some (O ι b.st) ∧ w'.cell? ⟨g, 24, none⟩ = some (O ι Db) ∧ w'.cell? ⟨g, 25, none⟩ = some (σ yb nb kb))) (late := []) (by kernel_rfl) ?rest ?_
 rotate_left
 as_aux_lemma =>
  refine zb23 0 30 (σ (some ⟨g, 0, none⟩) 2 cg) rfl (.inl ⟨by kernel_rfl, ?_⟩) SA.out ?_
  ·rintro w' ⟨z0, z1, z2, z3, z4, z5, z6, z7, z8, z9, z10, z11, z12, z13, z14, z15, z16, z17, z18, z19, z20, z21, z22, z23, z24, z25⟩
   go_simp
  simp only [aP, sT, sZ, sS]
  refine zb23 1 31 (π (some ⟨g, 0, none⟩)) rfl (.inl ⟨by kernel_rfl, ?_⟩) SA.out ?_
  ·rintro w' ⟨z0, z1, z2, z3, z4, z5, z6, z7, z8, z9, z10, z11, z12, z13, z14, z15, z16, z17, z18, z19, z20, z21, z22, z23, z24, z25⟩
   go_simp
  simp only [aP, sT, sZ, sS]
  refine zb23 2 32 (γ #[O ι a.xs.length, O ι xa0, O ι xa1, O ι xa2, O ι xa3, O ι sa0, O ι sa1, O ι sa2, O ι sa3, O ι a.off, O ι a.st, O ι Da, σ ya na ka]) rfl (.inl ⟨by kernel_rfl, ?_⟩) SA.out ?_
  ·rintro w' ⟨z0, z1, z2, z3, z4, z5, z6, z7, z8, z9, z10, z11, z12, z13, z14, z15, z16, z17, z18, z19, z20, z21, z22, z23, z24, z25⟩
   go_simp
  simp only [aP, sT, sZ, sS]
  refine zb23 3 33 (σ (some ⟨g, 0, none⟩) 2 cg) rfl (.inl ⟨by kernel_rfl, ?_⟩) SA.out ?_
  ·rintro w' ⟨z0, z1, z2, z3, z4, z5, z6, z7, z8, z9, z10, z11, z12, z13, z14, z15, z16, z17, z18, z19, z20, z21, z22, z23, z24, z25⟩
   go_simp
  simp only [aP, sT, sZ, sS]
  refine zb23 4 34 (π (some ⟨g, 13, none⟩)) rfl (.inl ⟨by kernel_rfl, ?_⟩) SA.out ?_
  ·rintro w' ⟨z0, z1, z2, z3, z4, z5, z6, z7, z8, z9, z10, z11, z12, z13, z14, z15, z16, z17, z18, z19, z20, z21, z22, z23, z24, z25⟩
   go_simp
  simp only [aP, sT, sZ, sS]
  refine zb23 5 35 (γ #[O ι b.xs.length, O ι xb0, O ι xb1, O ι xb2, O ι xb3, O ι sb0, O ι sb1, O ι sb2, O ι sb3, O ι b.off, O ι b.st, O ι Db, σ yb nb kb]) rfl (.inl ⟨by kernel_rfl, ?_⟩) SA.out ?_
  ·rintro w' ⟨z0, z1, z2, z3, z4, z5, z6, z7, z8, z9, z10, z11, z12, z13, z14, z15, z16, z17, z18, z19, z20, z21, z22, z23, z24, z25⟩
   go_simp
  simp only [aP, sT, sZ, sS]
  refine zx6 (rs := [6, 7]) (by kernel_rfl) (by simp) (fun i hi => ?_)
  simp only [List.mem_cons, List.not_mem_nil, or_false] at hi
  rcases hi with rfl | rfl
  ·refine ⟨_, rfl, fun K hK => ?_⟩
   go_simp
   refine hK.out _ _ (fun _ => HS4.out _ (((Ext.refl w1).alloc _ _).drew).bl) ?_
   clear hK K
   try simp only [aP, sT, sZ, sS]
   refine ze (i := 7) (by kernel_rfl) rfl (fun K hK => ?_)
   go_simp
   refine hK.out _ _ (fun _ => HS4.out _ ((((Ext.refl w1).alloc _ _).alloc _ _).drew).bl) ?_
   clear hK K
   try simp only [aP, sT, sZ, sS]
   refine ze (i := 8) (by kernel_rfl) rfl (fun K hK => ?_)
   go_simp
   refine hK.out _ _ (fun _ => HS4.out _ (((Ext.refl w1).alloc _ _).alloc _ _).drew.bl) ?_
   clear hK K
   try simp only [aP, sT, sZ, sS]
   refine ze (i := 9) (by kernel_rfl) rfl (fun K hK => ?_)
   go_simp
   refine hK.out _ _ (fun _ => HS4.out _ (((Ext.refl w1).alloc _ _).alloc _ _).drew.bl) ?_
   clear hK K
   try simp only [aP, sT, sZ, sS]
   refine zm (by kernel_rfl) ?_ _
   exact ⟨rfl, w1.heap.size, w1.heap.size + 1, by kernel_rfl, (((Ext.refl w1).alloc _ _).alloc _ _).drew.bl, ((Bx.new w1 67 #[O ι a.xs.length, O ι xa0, O ι xa1, O ι xa2, O ι xa3, O ι sa0, O ι sa1, O ι sa2, O ι sa3, O ι a.off, O ι a.st, O ι Da, σ ya na ka] _ rfl).alloc _).drew, (Bx.new (w1.alloc (χ #[O ι a.xs.length, O ι xa0, O ι xa1, O ι xa2, O ι xa3, O ι sa0, O ι sa1, O ι sa2, O ι sa3, O ι a.off, O ι a.st, O ι Da, σ ya na ka] 67)) 67 #[O ι b.xs.length, O ι xb0, O ι xb1, O ι xb2, O ι xb3, O ι sb0, O ι sb1, O ι sb2, O ι sb3, O ι b.off, O ι b.st, O ι Db, σ yb nb kb] _ (by simp)).drew⟩
  ·refine ⟨_, rfl, fun K hK => ?_⟩
   go_simp
   refine hK.out _ _ (fun _ => HS4.out _ (((Ext.refl w1).alloc _ _).drew).bl) ?_
   clear hK K
   try simp only [aP, sT, sZ, sS]
   refine ze (i := 6) (by kernel_rfl) rfl (fun K hK => ?_)
   go_simp
   refine hK.out _ _ (fun _ => HS4.out _ ((((Ext.refl w1).alloc _ _).alloc _ _).drew).bl) ?_
   clear hK K
   try simp only [aP, sT, sZ, sS]
   refine ze (i := 8) (by kernel_rfl) rfl (fun K hK => ?_)
   go_simp
   refine hK.out _ _ (fun _ => HS4.out _ (((Ext.refl w1).alloc _ _).alloc _ _).drew.bl) ?_
   clear hK K
   try simp only [aP, sT, sZ, sS]
   refine ze (i := 9) (by kernel_rfl) rfl (fun K hK => ?_)
   go_simp
   refine hK.out _ _ (fun _ => HS4.out _ (((Ext.refl w1).alloc _ _).alloc _ _).drew.bl) ?_
   clear hK K
   try simp only [aP, sT, sZ, sS]
   refine zm (by kernel_rfl) ?_ _
   exact ⟨rfl, w1.heap.size + 1, w1.heap.size, by kernel_rfl, (((Ext.refl w1).alloc _ _).alloc _ _).drew.bl, (Bx.new (w1.alloc (χ #[O ι b.xs.length, O ι xb0, O ι xb1, O ι xb2, O ι xb3, O ι sb0, O ι sb1, O ι sb2, O ι sb3, O ι b.off, O ι b.st, O ι Db, σ yb nb kb] 67)) 67 #[O ι a.xs.length, O ι xa0, O ι xa1, O ι xa2, O ι xa3, O ι sa0, O ι sa1, O ι sa2, O ι sa3, O ι a.off, O ι a.st, O ι Da, σ ya na ka] _ (by simp)).drew, ((Bx.new w1 67 #[O ι b.xs.length, O ι xb0, O ι xb1, O ι xb2, O ι xb3, O ι sb0, O ι sb1, O ι sb2, O ι sb3, O ι b.off, O ι b.st, O ι Db, σ yb nb kb] _ rfl).alloc _).drew⟩
 rintro a' w2 ⟨B1, B2, rfl, b2, hA1, hA2⟩
 have HI2 : Hid (PU w w1 (σ sa ss.length cap) [O ι a.xs.length, O ι xa0, O ι xa1, O ι xa2, O ι xa3, O ι sa0, O ι sa1, O ι sa2, O ι sa3, O ι a.off, O ι a.st, O ι Da, σ ya na ka] [O ι b.xs.length, O ι xb0, O ι xb1, O ι xb2, O ι xb3, O ι sb0, O ι sb1, O ι sb2, O ι sb3, O ι b.off, O ι b.st, O ι Db, σ yb nb kb] B1 B2 w2) := ⟨HB1.out.b4.bel b2, HB1.out.b8.bel b2, hA1, hA2, Bel.tr HB1.out.bl b2, b2, HS1.out⟩
 clear b2 hA1 hA2 HS4 SA
 simp only [aP, sT, sZ, sS]
 go_wp2_with fail
 refine (ze10 (cap := 1) (L := (ix.length : Int)) (zg w2 #[O ι ix.length] 2 w2.heap.size rfl 0)).mono ?_
 rintro e w3 ⟨rfl, x3⟩
 have HB3 : Hid (Bel w2 (w3.alloc (χ #[O ι 1, O ι ix.length, O ι 0, O ι 0, O ι 0] 63))) := (((Ext.refl w2).alloc #[O ι ix.length] 2).trans (x3.alloc #[O ι 1, O ι ix.length, O ι 0, O ι 0, O ι 0] 63)).bl
 have B13 : Hid (Bx (w3.alloc (χ #[O ι 1, O ι ix.length, O ι 0, O ι 0, O ι 0] 63)) w3.heap.size 63 [O ι 1, O ι ix.length, O ι 0, O ι 0, O ι 0]) := Bx.new w3 63 #[O ι 1, O ι ix.length, O ι 0, O ι 0, O ι 0] _ rfl
 clear x3
 have HI3 := hide (HI2.out.bel HB3.out)
 go_wp2_with fail
 generalize w3.heap.size = k13 at *
 generalize w3.alloc (χ #[O ι 1, O ι ix.length, O ι 0, O ι 0, O ι 0] 63) = wc at *
 clear HB3 HI2
 have HS6 : Hid (∀ W, Bel wc W → (fun w' : World => w'.cell? ⟨B1, 0, none⟩ = some (O ι a.xs.length) ∧ w'.cell? ⟨B1, 1, none⟩ = some (O ι xa0) ∧ w'.cell? ⟨B1, 2, none⟩ = some (O ι xa1) ∧ w'.cell? ⟨B1, 3, none⟩ = some (O ι xa2) ∧ w'.cell? ⟨B1, 4, none⟩ = some (O ι xa3) ∧ w'.cell? ⟨B1, 11, none⟩ = some (O ι Da) ∧ w'.cell? ⟨B2, 0, none⟩ = some (O ι b.xs.length) ∧ w'.cell? ⟨B2, 1, none⟩ = some (O ι xb0) ∧ w'.cell? ⟨B2, 2, none⟩ = some (O ι xb1) ∧ w'.cell? ⟨B2, 3, none⟩ = some (O ι xb2) ∧ w'.cell? ⟨B2, 4, none⟩ = some (O ι xb3) ∧ w'.cell? ⟨B2, 5, none⟩ = some (O ι sb0) ∧ w'.cell? ⟨B2, 6, none⟩ = some (O ι sb1) ∧ w'.cell? ⟨B2, 7, none⟩ = some (O ι sb2) ∧ w'.cell? ⟨B2, 8, none⟩ = some (O ι sb3) ∧ w'.cell? ⟨B2, 9, none⟩ = some (O ι b.off) ∧ w'.cell? ⟨B2, 10, none⟩ = some (O ι b.st) ∧ w'.cell? ⟨B2, 11, none⟩ = some (O ι Db) ∧ w'.cell? ⟨B2, 12, none⟩ = some (σ yb nb kb) ∧ w'.cell? ⟨k13, 0, none⟩ = some (O ι 1) ∧ w'.cell? ⟨k13, 1, none⟩ = some (O ι ix.length) ∧ w'.cell? ⟨k13, 2, none⟩ = some (O ι 0) ∧ w'.cell? ⟨k13, 3, none⟩ = some (O ι 0) ∧ w'.cell? ⟨k13, 4, none⟩ = some (O ι 0)) W) := fun W x => by
  have q := HI3.out.bel x
  exact ⟨q.c1.cell 0 rfl, q.c1.cell 1 rfl, q.c1.cell 2 rfl, q.c1.cell 3 rfl, q.c1.cell 4 rfl, q.c1.cell 11 rfl, q.c2.cell 0 rfl, q.c2.cell 1 rfl, q.c2.cell 2 rfl, q.c2.cell 3 rfl, q.c2.cell 4 rfl, q.c2.cell 5 rfl, q.c2.cell 6 rfl, q.c2.cell 7 rfl, q.c2.cell 8 rfl, q.c2.cell 9 rfl, q.c2.cell 10 rfl, q.c2.cell 11 rfl, q.c2.cell 12 rfl, (B13.out.bel x).cell 0 rfl, (B13.out.bel x).cell 1 rfl, (B13.out.bel x).cell 2 rfl, (B13.out.bel x).cell 3 rfl, (B13.out.bel x).cell 4 rfl⟩
 have SA := hide (HS6.out wc.drew (Ext.refl wc).drew.bl)
 have HIX : Hid (∀ W, Bel wc W → Row W bi oi ix) := fun W x j hj => Bel.box (Bel.tr HI3.out.bl x) (HI.out j hj)
 refine zv (S := (fun w' : World => w'.cell? ⟨B1, 0, none⟩ = some (O ι a.xs.length) ∧ w'.cell? ⟨B1, 1, none⟩ = some (O ι xa0) ∧ w'.cell? ⟨B1, 2, none⟩ = some (O ι xa1) ∧ w'.cell? ⟨B1, 3, none⟩ = some (O ι xa2) ∧ w'.cell? ⟨B1, 4, none⟩ = some (O ι xa3) ∧ w'.cell? ⟨B1, 11, none⟩ = some (O ι Da) ∧ w'.cell? ⟨B2, 0, none⟩ = some (O ι b.xs.length) ∧ w'.cell? ⟨B2, 1, none⟩ = some (O ι xb0) ∧ w'.cell? ⟨B2, 2, none⟩ = some (O ι xb1) ∧ w'.cell? ⟨B2, 3, none⟩ = some (O ι xb2) ∧ w'.cell? ⟨B2, 4, none⟩ = some (O ι xb3) ∧ w'.cell? ⟨B2, 5, none⟩ = some (O ι sb0) ∧ w'.cell? ⟨B2, 6, none⟩ = some (O ι sb1) ∧ w'.cell? ⟨B2, 7, none⟩ = some (O ι sb2) ∧ w'.cell? ⟨B2, 8, none⟩ = some (O ι sb3) ∧ w'.cell? ⟨B2, 9, none⟩ = some (O ι b.off) ∧ w'.cell? ⟨B2, 10, none⟩ = some (O ι b.st) ∧ w'.cell? ⟨B2, 11, none⟩ = some (O ι Db) ∧ w'.cell? ⟨B2, 12, none⟩ = some (σ yb nb kb) ∧ w'.cell? ⟨k13, 0, none⟩ = some (O ι 1) ∧ w'.cell? ⟨k13, 1, none⟩ = some (O ι ix.length) ∧ w'.cell? ⟨k13, 2, none⟩ = some (O ι 0) ∧ w'.cell? ⟨k13, 3, none⟩ = some (O ι 0) ∧ w'.cell? ⟨k13, 4, none⟩ = some (O ι 0))) (late := []) (by kernel_rfl) ?_
 refine zb23 0 40 (π (some ⟨B2, 0, none⟩)) rfl (.inl ⟨by kernel_rfl, ?_⟩) SA.out ?_
 ·rintro w' ⟨z0, z1, z2, z3, z4, z5, z6, z7, z8, z9, z10, z11, z12, z13, z14, z15, z16, z17, z18, z19, z20, z21, z22, z23⟩
  go_simp
 simp only [aP, sT, sZ, sS]
 refine zb23 1 41 (π (some ⟨B2, 0, none⟩)) rfl (.inl ⟨by kernel_rfl, ?_⟩) SA.out ?_
 ·rintro w' ⟨z0, z1, z2, z3, z4, z5, z6, z7, z8, z9, z10, z11, z12, z13, z14, z15, z16, z17, z18, z19, z20, z21, z22, z23⟩
  go_simp
 simp only [aP, sT, sZ, sS]
 refine zb23 2 42 (γ #[O ι b.xs.length, O ι xb0, O ι xb1, O ι xb2, O ι xb3]) rfl (.inl ⟨by kernel_rfl, ?_⟩) SA.out ?_
 ·rintro w' ⟨z0, z1, z2, z3, z4, z5, z6, z7, z8, z9, z10, z11, z12, z13, z14, z15, z16, z17, z18, z19, z20, z21, z22, z23⟩
  go_simp
 simp only [aP, sT, sZ, sS]
 refine zb23 3 43 (γ #[O ι 1, O ι ix.length, O ι 0, O ι 0, O ι 0]) rfl (.inl ⟨by kernel_rfl, ?_⟩) SA.out ?_
 ·rintro w' ⟨z0, z1, z2, z3, z4, z5, z6, z7, z8, z9, z10, z11, z12, z13, z14, z15, z16, z17, z18, z19, z20, z21, z22, z23⟩
  go_simp
 simp only [aP, sT, sZ, sS]
 refine zb23 4 44 (.bool (!(lnB b ix))) rfl (.inl ⟨by kernel_rfl, ?_⟩) SA.out ?_
 ·rintro w' ⟨z0, z1, z2, z3, z4, z5, z6, z7, z8, z9, z10, z11, z12, z13, z14, z15, z16, z17, z18, z19, z20, z21, z22, z23⟩
  clear HS6 HI3 HIX
  go_simp
  rw [HLN.out, zy22]
  clear HLN HHW HCV HCA HWC HRD HCNa HCNb
  by_cases h0 : (b.xs.length : Int) = 1 <;> by_cases h1 : xb0 = (ix.length : Int) <;> by_cases h2 : xb1 = 0 <;> by_cases h3 : xb2 = 0 <;> by_cases h4 : xb3 = 0 <;> simp [h0, h1, h2, h3, h4]
 simp only [aP, sT, sZ, sS]
 refine zb23 6 46 (σ (some ⟨bi, oi, none⟩) ix.length ci) rfl (.inl ⟨by kernel_rfl, ?_⟩) SA.out ?_
 ·rintro w' ⟨z0, z1, z2, z3, z4, z5, z6, z7, z8, z9, z10, z11, z12, z13, z14, z15, z16, z17, z18, z19, z20, z21, z22, z23⟩
  go_simp
 simp only [aP, sT, sZ, sS]
 refine zb23 7 47 (π (some ⟨B1, 0, none⟩)) rfl (.inl ⟨by kernel_rfl, ?_⟩) SA.out ?_
 ·rintro w' ⟨z0, z1, z2, z3, z4, z5, z6, z7, z8, z9, z10, z11, z12, z13, z14, z15, z16, z17, z18, z19, z20, z21, z22, z23⟩
  go_simp
 simp only [aP, sT, sZ, sS]
 refine zb23 8 48 (π (some ⟨B1, 0, none⟩)) rfl (.inl ⟨by kernel_rfl, ?_⟩) SA.out ?_
 ·rintro w' ⟨z0, z1, z2, z3, z4, z5, z6, z7, z8, z9, z10, z11, z12, z13, z14, z15, z16, z17, z18, z19, z20, z21, z22, z23⟩
  go_simp
 simp only [aP, sT, sZ, sS]
 refine zb23 9 49 (γ #[O ι a.xs.length, O ι xa0, O ι xa1, O ι xa2, O ι xa3]) rfl (.inl ⟨by kernel_rfl, ?_⟩) SA.out ?_
 ·rintro w' ⟨z0, z1, z2, z3, z4, z5, z6, z7, z8, z9, z10, z11, z12, z13, z14, z15, z16, z17, z18, z19, z20, z21, z22, z23⟩
  go_simp
 simp only [aP, sT, sZ, sS]
 refine zb23 12 52 (γ #[O ι b.xs.length, O ι xb0, O ι xb1, O ι xb2, O ι xb3, O ι sb0, O ι sb1, O ι sb2, O ι sb3, O ι b.off, O ι b.st, O ι Db, σ yb nb kb]) rfl (.inl ⟨by kernel_rfl, ?_⟩) SA.out ?_
 ·rintro w' ⟨z0, z1, z2, z3, z4, z5, z6, z7, z8, z9, z10, z11, z12, z13, z14, z15, z16, z17, z18, z19, z20, z21, z22, z23⟩
  go_simp
 simp only [aP, sT, sZ, sS]
 refine zb23 13 53 (π (some ⟨B1, 11, none⟩)) rfl (.inl ⟨by kernel_rfl, ?_⟩) SA.out ?_
 ·rintro w' ⟨z0, z1, z2, z3, z4, z5, z6, z7, z8, z9, z10, z11, z12, z13, z14, z15, z16, z17, z18, z19, z20, z21, z22, z23⟩
  go_simp
 simp only [aP, sT, sZ, sS]
 refine zb23 14 54 (O ι Da) rfl (.inl ⟨by kernel_rfl, ?_⟩) SA.out ?_
 ·rintro w' ⟨z0, z1, z2, z3, z4, z5, z6, z7, z8, z9, z10, z11, z12, z13, z14, z15, z16, z17, z18, z19, z20, z21, z22, z23⟩
  go_simp
 simp only [aP, sT, sZ, sS]
 refine ze (i := 5) (by kernel_rfl) rfl (fun K hK => ?_)
 go_simp
 refine (zn2 _ 6 _).mono ?_
 rintro e t1 ⟨rfl, rfl⟩
 generalize hk1 : (if (!(lnB b ix)) = true then (6 : Int) else 0) = k1
 have HK1 := hide hk1
 clear hk1
 refine hK.out _ _ (fun _ => SA.out) ?_
 clear hK K
 try simp only [aP, sT, sZ, sS]
 refine ze (i := 10) (by kernel_rfl) rfl (fun K hK => ?_)
 go_simp
 refine (HCNa.out _).mono ?_
 rintro e t2 ⟨rfl, rfl⟩
 have X2 := hide (((Ext.refl wc).drew.alloc #[O ι a.xs.length, O ι xa0, O ι xa1, O ι xa2, O ι xa3] 63).bl)
 have SB := hide (HS6.out _ X2.out)
 refine hK.out _ _ (fun _ => SB.out) ?_
 clear hK K
 try simp only [aP, sT, sZ, sS]
 generalize wc.drew.alloc (χ #[O ι a.xs.length, O ι xa0, O ι xa1, O ι xa2, O ι xa3] 63) = t2 at X2 SB ⊢
 refine ze (i := 11) (by kernel_rfl) rfl (fun K hK => ?_)
 go_simp
 refine (zg5 (prod a.xs) (HIX.out _ X2.out) (by omega) (by have := HNa.out; omega)).mono ?_
 rintro e t3 ⟨rfl, rfl⟩
 refine hK.out _ _ (fun _ => SB.out) ?_
 clear hK K
 try simp only [aP, sT, sZ, sS]
 refine ze (i := 15) (by kernel_rfl) rfl (fun K hK => ?_)
 go_simp
 refine (HWC.out _).mono ?_
 rintro e t4 ⟨rfl, y4⟩
 have X4 := hide (Bel.tr X2.out y4)
 have SC := hide (HS6.out _ X4.out)
 clear y4
 refine hK.out _ _ (fun _ => SC.out) ?_
 clear hK K
 try simp only [aP, sT, sZ, sS]
 have HC6 : Hid (smallL [k1, ixCd ix (prod a.xs), wrC (decide (offsL b.xs b.sv b.off).Nodup) (castL Da Db 1)] = takeCd ss a b ix) := by
  show _ = _
  unfold takeCd dtA
  rw [hfe, if_neg (show ¬ ((0 : Int) ≠ 0) by simp), Hda.out, Hdb.out, ← HK1.out]
 have HAL := hide (zj13 t4 (k1) (ixCd ix (prod a.xs)) (wrC (decide (offsL b.xs b.sv b.off).Nodup) (castL Da Db 1)) 2)
 generalize ixCd ix (prod a.xs) = k2 at HAL HC6 ⊢
 generalize wrC (decide (offsL b.xs b.sv b.off).Nodup) (castL Da Db 1) = k3 at HAL HC6 ⊢
 refine ze (i := 16) (by kernel_rfl) rfl (fun K hK => ?_)
 go_simp
 have X5 := hide (Bel.tr X4.out ((Ext.refl t4).alloc #[O ι k1, O ι k2, O ι k3] 2).bl)
 have SD := hide (HS6.out _ X5.out)
 refine hK.out _ _ (fun _ => SD.out) ?_
 clear hK K
 try simp only [aP, sT, sZ, sS]
 refine ze (i := 17) (by kernel_rfl) rfl (fun K hK => ?_)
 go_simp
 refine (zv1 (cap := 3) HAL.out (by simp)).mono ?_
 rintro e t6 ⟨rfl, rfl⟩
 rw [HC6.out]
 refine hK.out _ _ (fun _ => SD.out) ?_
 clear hK K
 try simp only [aP, sT, sZ, sS]
 refine zb23 18 10 (O ι (takeCd ss a b ix)) rfl (.inl ⟨by kernel_rfl, ?_⟩) SD.out ?_
 ·rintro w' ⟨z0, z1, z2, z3, z4, z5, z6, z7, z8, z9, z10, z11, z12, z13, z14, z15, z16, z17, z18, z19, z20, z21, z22, z23⟩
  go_simp
 simp only [aP, sT, sZ, sS]
 refine zm (by kernel_rfl) ?_ _
 refine ⟨rfl, ?_⟩
 have HI6 := hide (HI3.out.bel X5.out)
 generalize t4.alloc (χ #[O ι k1, O ι k2, O ι k3] 2) = T at HI6 ⊢
 clear HAL HC6 SA SB SC SD X2 X4 X5 HS6 HIX HI3 HK1 B13
 generalize hsc : takeCd ss a b ix = sc
 by_cases hs0 : sc ≠ 0
 ·have hne : (sc == 0) = false := by rw [beq_eq_false_iff_ne]; exact hs0
  have r0 := HI6.out.b8.cell 0 rfl
  have r1 := HI6.out.b8.cell 1 rfl
  have f0 := HI6.out.b8.fz 0
  have f1 := HI6.out.b8.fz 1
  go_wp2
  refine bodyPost_ret (v := γ #[O ι sc, σ none 0 0]) (by simp [results, Tryz.results12, go_sem, r0, r1]) rfl ⟨_, by rw [hsc], by (first | exact (HI6.out.bl.setCell (p := ⟨w.heap.size + 1 + 1 + 1, 0, none⟩) (by show _ ≤ w.heap.size + 1 + 1 + 1; omega) _).setCell (p := ⟨w.heap.size + 1 + 1 + 1, 1, none⟩) (by show _ ≤ w.heap.size + 1 + 1 + 1; omega) _ | exact HI6.out.bl.setCell (p := ⟨w.heap.size + 1 + 1 + 1, 0, none⟩) (by show _ ≤ w.heap.size + 1 + 1 + 1; omega) _), fun q => absurd (hsc.symm.trans q) hs0⟩
 have hs00 : sc = 0 := by omega
 subst hs00
 clear hs0
 have HSC := hide hsc
 clear hsc
 have pa0 : T.cell? ⟨B1, 0, none⟩ = some (O ι a.xs.length) := HI6.out.c1.cell 0 rfl
 have pa1 : T.cell? ⟨B1, 1, none⟩ = some (O ι xa0) := HI6.out.c1.cell 1 rfl
 have pa2 : T.cell? ⟨B1, 2, none⟩ = some (O ι xa1) := HI6.out.c1.cell 2 rfl
 have pa3 : T.cell? ⟨B1, 3, none⟩ = some (O ι xa2) := HI6.out.c1.cell 3 rfl
 have pa4 : T.cell? ⟨B1, 4, none⟩ = some (O ι xa3) := HI6.out.c1.cell 4 rfl
 have pa5 : T.cell? ⟨B1, 5, none⟩ = some (O ι sa0) := HI6.out.c1.cell 5 rfl
 have pa6 : T.cell? ⟨B1, 6, none⟩ = some (O ι sa1) := HI6.out.c1.cell 6 rfl
 have pa7 : T.cell? ⟨B1, 7, none⟩ = some (O ι sa2) := HI6.out.c1.cell 7 rfl
 have pa8 : T.cell? ⟨B1, 8, none⟩ = some (O ι sa3) := HI6.out.c1.cell 8 rfl
 have pa9 : T.cell? ⟨B1, 9, none⟩ = some (O ι a.off) := HI6.out.c1.cell 9 rfl
 have pa10 : T.cell? ⟨B1, 10, none⟩ = some (O ι a.st) := HI6.out.c1.cell 10 rfl
 have pa11 : T.cell? ⟨B1, 11, none⟩ = some (O ι Da) := HI6.out.c1.cell 11 rfl
 have pa12 : T.cell? ⟨B1, 12, none⟩ = some (σ ya na ka) := HI6.out.c1.cell 12 rfl
 go_wp2_with fail
 refine (HRD.out _ HI6.out.b1).mono ?_
 rintro e T1 ⟨sx, cx, rfl, hox, bx, _⟩
 generalize hXX : ((offsL a.xs a.sv a.off).map fun p => (ss.getD a.st.toNat s0).2.getD p.toNat k0) = X at hox ⊢
 have HXE : Hid (rdA ss a = X) := hXX
 have HI7 := hide (HI6.out.bel bx)
 have HXC : Hid (CV T1 (σ sx X.length cx) X) := hox.cv
 have HXN : Hid (X.length = (prod a.xs).toNat) := by
  show _ = _
  rw [← hXX, List.length_map, zd3 hga.2.1]
 clear hox bx hXX HI6 pa0 pa1 pa2 pa3 pa4 pa5 pa6 pa7 pa8 pa9 pa10 pa11 pa12 HRD
 have hmk := zp8 T1 (ix.length : Int) (by omega) (by omega)
 rw [Int.toNat_natCast] at hmk
 have HOM : Hid ((T1.alloc (χ (madeCells #[O ι 0, .float .f64 0, .float .f64 0] (ix.length * 3)) 47)).ownsRow T1.heap.size 47 3 (σ (some ⟨T1.heap.size, 0, none⟩) 0 ix.length) 0 []) := World.ownsRow_made (base := T1.heap.size) (e := 47) (size := 3) T1 _ ix.length (Nat.le_refl _) (by unfold maxLen; omega) (by simp [madeCells])
 have HBM : Hid (Bel T1 (T1.alloc (χ (madeCells #[O ι 0, .float .f64 0, .float .f64 0] (ix.length * 3)) 47))) := ((Ext.refl T1).alloc _ _).bl
 go_wp2_with fail
 clear hmk
 generalize T1.alloc (χ (madeCells #[O ι 0, .float .f64 0, .float .f64 0] (ix.length * 3)) 47) = T2 at HOM HBM ⊢
 obtain ⟨hcd1, hcd2, hcd3⟩ := zb7 HSC.out
 have HIR := hide (zv20 hcd3)
 have HLB := hide hcd2
 obtain ⟨sx', cx', exx, hxr⟩ := HXC.out
 have HXR := hide hxr
 injection exx with exx1 _ exx2
 subst exx1 exx2
 clear hcd1 hcd2 hcd3 hxr HXC
 obtain ⟨i6, hi6, hx0, hx1, hx2⟩ := info_parts zk4
 have n0 : (0 : Int) ≤ (ix.length : Int) := Int.natCast_nonneg _
 have HTL : Hid ((takeX ss a ix).length = ix.length) := (show _ = _ by unfold takeX; rw [List.length_map])
 go_loopw [15, 17, 69] (fun s15 s17 i wr => ∃ (k : Nat) (v : Value), v = s15 ∧ i = O ι k ∧ k ≤ ix.length ∧ wr.ownsRow T1.heap.size 47 3 v k (flat ((takeX ss a ix).take k)) ∧ Bel T1 wr) (fun s15 s17 i _ => ix.length - (intOf i).toNat)
 case atStart => exact ⟨0, _, rfl, rfl, by omega, HOM.out, HBM.out⟩
 case round =>
  obtain ⟨k, v15, rfl, rfl, hk, hOw, hBw⟩ := hrel
  have HOw := hide hOw
  have HBw := hide hBw
  clear hOw hBw
  by_cases hkn : k < ix.length
  ·have hir := HIR.out k hkn
   have q0 := (show wr.cell? ⟨bi, oi + k, none⟩ = _ from Bel.box (Bel.tr HI7.out.bl HBw.out) (HI.out k hkn))
   have k0' : (0 : Int) ≤ (k : Int) := Int.natCast_nonneg _
   have k1' : (k : Int) < (ix.length : Int) := by omega
   obtain ⟨c, hc⟩ : ∃ c, c = ix.getD k 0 := ⟨_, rfl⟩
   rw [← hc] at q0 hir
   have HC := hide hc
   have hNa := HNa.out
   have hXn := HXN.out
   have hfr : 0 ≤ frS c (prod a.xs) ∧ frS c (prod a.xs) < prod a.xs := by unfold frS; split <;> omega
   obtain ⟨q, hq⟩ : ∃ q : Nat, frS c (prod a.xs) = (q : Int) := ⟨(frS c (prod a.xs)).toNat, by omega⟩
   have HQ := hide hq
   have hql : q < X.length := by omega
   obtain ⟨bx, ox, rfl, hxrow⟩ := HXR.out.resolve_left (fun z => by rw [z] at hql; simp at hql)
   obtain ⟨hx0', hx1', hx2'⟩ := hxrow q hql
   obtain ⟨xc, hxc⟩ : ∃ xc, X.getD q k0 = xc := ⟨_, rfl⟩
   rw [hxc] at hx0' hx1' hx2'
   obtain ⟨xi, xf, xg⟩ := xc
   have HTK : Hid ((takeX ss a ix).take (k + 1) = (takeX ss a ix).take k ++ [(xi, xf, xg)]) := by
    show _ = _
    rw [List.take_add_one]
    congr 1
    unfold takeX
    rw [List.getElem?_map, List.getElem?_eq_getElem hkn, ← zc11 hkn, ← hc]
    show [(rdA ss a).getD (frS c (prod a.xs)).toNat k0] = _
    rw [hq, HXE.out, Int.toNat_natCast, hxc]
   have HIRk := hide hir
   have hq0 : (0 : Int) ≤ (q : Int) := Int.natCast_nonneg _
   have hq1 : (q : Int) < (X.length : Int) := by omega
   have z := HI7.out.bel HBw.out
   have pa0 := z.c1.cell 0 rfl
   have pa1 := z.c1.cell 1 rfl
   have pa2 := z.c1.cell 2 rfl
   have pa3 := z.c1.cell 3 rfl
   have pa4 := z.c1.cell 4 rfl
   have HX0 := hide (Bel.box HBw.out hx0')
   have HX1 := hide (Bel.box HBw.out hx1')
   have HX2 := hide (Bel.box HBw.out hx2')
   clear hc hfr hql hir hxrow hNa hXn hq hxc hx0' hx1' hx2' z
   go_wp2_with fail
   refine (HCNa.out _).mono ?_
   rintro e t2 ⟨rfl, rfl⟩
   have xa := (Ext.refl wr).alloc #[O ι a.xs.length, O ι xa0, O ι xa1, O ι xa2, O ι xa3] 63
   have HO2 : Hid ((wr.alloc (χ #[O ι a.xs.length, O ι xa0, O ι xa1, O ι xa2, O ι xa3] 63)).ownsRow T1.heap.size 47 3 v15 k (flat ((takeX ss a ix).take k))) := HOw.out.alloc _
   have HB2 := hide (Bel.tr HBw.out xa.bl)
   have e0 := xa.box HX0.out
   have e1 := xa.box HX1.out
   have e2 := xa.box HX2.out
   clear pa0 pa1 pa2 pa3 pa4 xa HX0 HX1 HX2 q0 HOw HBw
   generalize wr.alloc (χ #[O ι a.xs.length, O ι xa0, O ι xa1, O ι xa2, O ι xa3] 63) = t2 at *
   go_wp2_with fail
   refine (zj5 c (prod a.xs) (by have := HIRk.out; have := HNa.out; omega) (by have := HNa.out; omega) _).mono ?_
   rintro e t2 ⟨rfl, rfl⟩
   rw [HQ.out]
   have HNW : Hid (∀ q u, (c3v (xi, xf, xg))[q]? = some u → (t2.alloc (χ #[O ι xi, .float .f64 xf, .float .f64 xg] 47)).cell? ((⟨t2.heap.size, 0, none⟩ : Addr).add q) = some u) := fun q u hq => by
    rw [Addr.add_lit, Nat.zero_add, zg t2 _ 47 _ rfl q]
    simpa [c3v] using hq
   have HS2 : Hid (T1.heap.size ≤ t2.heap.size) := HB2.out.size
   have HB3 : Hid (Bel T1 (t2.alloc (χ #[O ι xi, .float .f64 xf, .float .f64 xg] 47))) := Bel.tr HB2.out ((Ext.refl t2).alloc _ _).bl
   have HOB : Hid (∀ j, v15.ownBlock = some j → T1.heap.size ≤ j) := fun j hj => (HO2.out.lt j hj).1
   go_wp2_with (at_builtin; go_loud ((refine wpList_append_lies _ rfl _ _ 39 rfl T1.heap.size 47 i6 (γ #[O ι 0, .float .f64 0, .float .f64 0]) 3 24 Tryz.underlying39 hi6 hx0 hx1 hx2 rfl (by decide) v15 k (flat ((takeX ss a ix).take k)) rfl (HO2.out.alloc _) ⟨t2.heap.size, 0, none⟩ 1 1 (c3v (xi, xf, xg)) rfl rfl HNW.out (zp3 _) (by omega) (by unfold maxLen; omega) (by omega) (by have := HS2.out; simp; omega) (t2.heap.size + 1) (by simp) ?_); intro g9 c9 w9 hown9 hgrow9 hat9 hlt9; have HO9 := hide hown9; have HB9 := hide (Below.grown HB3.out hgrow9 (by have := HS2.out; simp; omega) (fun j hj => HOB.out j hj)); clear hown9 hgrow9 hat9 hlt9))
   rw [← zw2, ← HTK.out] at HO9
   go_roundw
   ·exact ⟨k + 1, _, rfl, by go_num, by omega, HO9.out, HB9.out⟩
   ·simp [intOf]; omega
  ·have hkk : k = ix.length := by omega
   subst hkk
   have HI8 := hide (HI7.out.bel HBw.out)
   rw [show (takeX ss a ix).take ix.length = takeX ss a ix by rw [← HTL.out, List.take_length]] at HOw
   rw [← HTL.out] at HOw
   have hcvT := za18 HOw.out
   obtain ⟨st', ct', rfl, hcr⟩ := hcvT
   have hcvT : CV wr (σ st' (takeX ss a ix).length ct') (takeX ss a ix) := ⟨st', ct', rfl, hcr⟩
   have hXl : (offsL b.xs b.sv b.off).length ≤ (takeX ss a ix).length := by
    rw [HTL.out, zd3 hgb.2.1]
    have e := of_decide_eq_true (HLN.out.symm.trans HLB.out)
    have e2 := Hxb0.out
    have hl1 : b.xs.length = 1 := by have := e.1; omega
    match hb : b.xs, hl1 with
    | [x], _ => rw [hb] at e2; simp [prod]; simp at e2; have := e.2.1; omega
   have HCC := hide (HHW.out wr (Bel.tr HI7.out.bl HBw.out) st' ct' hcvT (fun j hj W => by
    have q := HCV.out HSC.out j (by rw [← HTL.out]; exact hj) W
    unfold dtA at q
    rw [Hda.out, Hdb.out] at q
    exact q) hXl (by rw [HTL.out]; exact hil))
   rw [HTL.out] at HCC
   clear hcvT hXl hcr
   have pa0 : wr.cell? ⟨B1, 0, none⟩ = some (O ι a.xs.length) := HI8.out.c1.cell 0 rfl
   have pa1 : wr.cell? ⟨B1, 1, none⟩ = some (O ι xa0) := HI8.out.c1.cell 1 rfl
   have pa2 : wr.cell? ⟨B1, 2, none⟩ = some (O ι xa1) := HI8.out.c1.cell 2 rfl
   have pa3 : wr.cell? ⟨B1, 3, none⟩ = some (O ι xa2) := HI8.out.c1.cell 3 rfl
   have pa4 : wr.cell? ⟨B1, 4, none⟩ = some (O ι xa3) := HI8.out.c1.cell 4 rfl
   have pa5 : wr.cell? ⟨B1, 5, none⟩ = some (O ι sa0) := HI8.out.c1.cell 5 rfl
   have pa6 : wr.cell? ⟨B1, 6, none⟩ = some (O ι sa1) := HI8.out.c1.cell 6 rfl
   have pa7 : wr.cell? ⟨B1, 7, none⟩ = some (O ι sa2) := HI8.out.c1.cell 7 rfl
   have pa8 : wr.cell? ⟨B1, 8, none⟩ = some (O ι sa3) := HI8.out.c1.cell 8 rfl
   have pa9 : wr.cell? ⟨B1, 9, none⟩ = some (O ι a.off) := HI8.out.c1.cell 9 rfl
   have pa10 : wr.cell? ⟨B1, 10, none⟩ = some (O ι a.st) := HI8.out.c1.cell 10 rfl
   have pa11 : wr.cell? ⟨B1, 11, none⟩ = some (O ι Da) := HI8.out.c1.cell 11 rfl
   have pa12 : wr.cell? ⟨B1, 12, none⟩ = some (σ ya na ka) := HI8.out.c1.cell 12 rfl
   have pb0 : wr.cell? ⟨B2, 0, none⟩ = some (O ι b.xs.length) := HI8.out.c2.cell 0 rfl
   have pb1 : wr.cell? ⟨B2, 1, none⟩ = some (O ι xb0) := HI8.out.c2.cell 1 rfl
   have pb2 : wr.cell? ⟨B2, 2, none⟩ = some (O ι xb1) := HI8.out.c2.cell 2 rfl
   have pb3 : wr.cell? ⟨B2, 3, none⟩ = some (O ι xb2) := HI8.out.c2.cell 3 rfl
   have pb4 : wr.cell? ⟨B2, 4, none⟩ = some (O ι xb3) := HI8.out.c2.cell 4 rfl
   have pb5 : wr.cell? ⟨B2, 5, none⟩ = some (O ι sb0) := HI8.out.c2.cell 5 rfl
   have pb6 : wr.cell? ⟨B2, 6, none⟩ = some (O ι sb1) := HI8.out.c2.cell 6 rfl
   have pb7 : wr.cell? ⟨B2, 7, none⟩ = some (O ι sb2) := HI8.out.c2.cell 7 rfl
   have pb8 : wr.cell? ⟨B2, 8, none⟩ = some (O ι sb3) := HI8.out.c2.cell 8 rfl
   have pb9 : wr.cell? ⟨B2, 9, none⟩ = some (O ι b.off) := HI8.out.c2.cell 9 rfl
   have pb10 : wr.cell? ⟨B2, 10, none⟩ = some (O ι b.st) := HI8.out.c2.cell 10 rfl
   have pb11 : wr.cell? ⟨B2, 11, none⟩ = some (O ι Db) := HI8.out.c2.cell 11 rfl
   have pb12 : wr.cell? ⟨B2, 12, none⟩ = some (σ yb nb kb) := HI8.out.c2.cell 12 rfl
   have b40 := HI8.out.b4.cell 0 rfl
   have hszw : w.heap.size + 1 + 1 + 1 < wr.heap.size := HI8.out.b8.lt
   rw [HTL.out]
   go_wp2_with fail
   refine HCC.out.mono ?_
   rintro e T4 ⟨g4, cb4, rfl, hO4, hB4⟩
   have HI9 := hide (HI8.out.bel hB4)
   have HO4 := hide hO4
   clear hO4 hB4 HCC b40 pa0 pa1 pa2 pa3 pa4 pa5 pa6 pa7 pa8 pa9 pa10 pa11 pa12 pb0 pb1 pb2 pb3 pb4 pb5 pb6 pb7 pb8 pb9 pb10 pb11 pb12
   have r0 := HI9.out.b8.cell 0 rfl
   have r1 := HI9.out.b8.cell 1 rfl
   have f0 := HI9.out.b8.fz 0
   have f1 := HI9.out.b8.fz 1
   have hsc := HSC.out
   go_wp2
   refine bodyPost_ret (v := γ #[O ι 0, σ (some ⟨g4, 0, none⟩) ss.length ss.length]) (by simp [results, Tryz.results12, go_sem, r0, r1]) rfl ⟨_, by first | rfl | rw [HSC.out], by (first | exact (HI9.out.bl.setCell (p := ⟨w.heap.size + 1 + 1 + 1, 0, none⟩) (by show _ ≤ w.heap.size + 1 + 1 + 1; omega) _).setCell (p := ⟨w.heap.size + 1 + 1 + 1, 1, none⟩) (by show _ ≤ w.heap.size + 1 + 1 + 1; omega) _ | exact HI9.out.bl.setCell (p := ⟨w.heap.size + 1 + 1 + 1, 0, none⟩) (by show _ ≤ w.heap.size + 1 + 1 + 1; omega) _), ?_⟩
   have key : ∀ W, HOwn W wr.heap.size g4 cb4 (putT ss b.st.toNat (offsL b.xs b.sv b.off) Y (offsL b.xs b.sv b.off).length) → SV W (σ (some ⟨g4, 0, none⟩) ss.length ss.length) (putT ss b.st.toNat (offsL b.xs b.sv b.off) Y (offsL b.xs b.sv b.off).length) := fun W hW => by
    have q := HOwn.sv (cap := ss.length) hW
    rw [zp] at q
    exact q
   first
    | exact fun _ => key _ ((HO4.out.low hszw).low hszw)
    | exact fun _ => key _ (HO4.out.low hszw)
    | exact key _ ((HO4.out.low hszw).low hszw)
    | exact key _ (HO4.out.low hszw)
end
section
open Go.ChangeShapes Go.RowKit FL
theorem zt17 {L : List Dst} {a : Ar} {d : Int} {v1 v2 : Value} {X : List C3} {ix : List Int} (hd : d = dtA (ssOf L) a) : ssOf ((L ++ [(d, v1, X)]) ++ [(d, v2, List.replicate ix.length k0)]) = ss2 (ssOf L) a X ix := by
 subst hd
 simp [ssOf, ss2]
theorem zi21 {L : List Dst} {m : Nat} {t : Dst} {xs ss : List Int} {off : Int} {X : List C3} {ix : List Int} {N : Int} {k : Nat} (hvh : vHeap (ssOf L) = true) (hdg : DG L) (hga : GoodA (ssOf L) (m : Int) xs ss off) (hwv : WrV xs ss off) (hk2 : L.length + 2 ≤ 64) (hm0 : 0 < ix.length) (hm4 : ix.length ≤ 4096) (hxl : X.length = ix.length) (hdt : t.1 = dtA (ssOf L) ⟨(m : Int), xs, ss, off⟩) (hok : ∀ j, j < ix.length → OkC t.1 (X.getD j k0)) (hN : prod xs = N) (hix : IxI ix k N) : TPu (ssOf L) ⟨(m : Int), xs, ss, off⟩ X ix := by
 subst hN
 exact ⟨hvh, hdg.sg, hga, hwv.2, by rw [ze2]; exact hk2, hm0, hm4, hxl, fun j hj => hdt ▸ hok j hj, fun j hj => ⟨(hix.inr j hj).1, (hix.inr j hj).2.1⟩, fun i j hi hj e => hix.id i j hi hj e⟩
section
variable {w W : World} {L : List Dst} {sv sb : Value} {sA zp23 : Option Addr} {c1 c2 : Nat} {st off : Int} {xs ss : List Int} {k5 k9 : Nat} {vI : Value} {ix : List Int} {ks : Nat} {AR : List (Nat × Value × Value × Int)}
theorem LX.avT (h : LX w W L sv sb (σ sA xs.length c1) (σ zp23 ss.length c2) st off xs ss k5 k9 vI ix ks AR) (hx : xs.length ≤ 1048576) (hs : ss.length ≤ 1048576) : AV W (γ #[O ι st, σ sA xs.length c1, σ zp23 ss.length c2, O ι off]) ⟨st, xs, ss, off⟩ :=
 ⟨sA, c1, zp23, c2, rfl, zy h.a, zy h.c, hx, hs⟩
theorem LX.avR (h : LX w W L sv sb (σ sA xs.length c1) (σ zp23 ss.length c2) st off xs ss k5 k9 vI ix ks AR) {k : Nat} {p q : Option Addr} {c d : Nat} {s : Int} (hr : (k, Value.slice p 1 c, Value.slice q 1 d, s) ∈ AR) : AV W (γ #[O ι s, σ p 1 c, σ q 1 d, O ι 0]) ⟨s, [(ix.length : Int)], [if ix.length = 0 then (0 : Int) else 1], 0⟩ :=
 ⟨p, c, q, d, rfl, zy (h.ar _ hr).2.2.1, zy (h.ar _ hr).2.2.2, by show 1 ≤ _; omega, by show 1 ≤ _; omega⟩
theorem LX.boxR (h : LX w W L sv sb (σ sA xs.length c1) (σ zp23 ss.length c2) st off xs ss k5 k9 vI ix ks AR) {k : Nat} {p q : Value} {s : Int} (hr : (k, p, q, s) ∈ AR) : Bx W k 30 [O ι s, p, q, O ι 0] := (h.ar _ hr).2.1
end
theorem zx22 {S : List St} {st off : Int} {xs ss : List Int} (hga : GoodA S st xs ss off) : xs.length ≤ 1048576 ∧ ss.length ≤ 1048576 := by
 have h1 := hga.2.1.1.1
 have h2 := hga.2.1.2.1
 omega
theorem zn21 {W : World} {v va vb : Value} {S : List St} {a : Ar} {X : List C3} {ix : List Int} {g cI : Nat} (h : SV W v (ss2 S a X ix)) (hT : TPu S a X ix) (hl : SL (ss2 S a X ix) 1048576) (ha : AV W va a) (hb : AV W vb (arB S ix)) (hi : Row W g 0 ix) :
  Calls Tryz.prog 7 #[γ #[v], va, σ (some ⟨g, 0, none⟩) ix.length cI, vb] W fun e w' => ∃ sa n cap, e = .returned (γ #[O ι 0, σ sa n cap]) ∧ Bel W w' ∧ SV w' (σ sa n cap) (ss3 S a X ix) := by
 have h0 := hT.pcd
 refine (ze14 (Y := X) (ci := cI) h hT.vs2.2 hl ha hb hi hT.m4 (fun _ _ => by rw [hT.rdb, hT.xl]) (fun _ j hj W' => ?_)).mono ?_
 ·rw [hT.dts.1, hT.dts.2, hT.rdb]
  exact zd19 (hT.ok j hj) hT.dt W'
 ·rintro e w' ⟨u, rfl, b, hs⟩
  have q := hs h0
  obtain ⟨sa, cap, rfl, hx⟩ := q
  rw [h0]
  exact ⟨sa, _, cap, rfl, b, sa, cap, rfl, hx⟩
theorem zn19 {W : World} {v va vb : Value} {S : List St} {a : Ar} {X : List C3} {ix : List Int} {g cI : Nat} (h : SV W v (ss3 S a X ix)) (hT : TPu S a X ix) (hl : SL (ss3 S a X ix) 1048576) (ha : AV W va a) (hb : AV W vb (arO S ix)) (hi : Row W g 0 ix) :
  Calls Tryz.prog 12 #[γ #[v], va, σ (some ⟨g, 0, none⟩) ix.length cI, vb] W fun e w' => ∃ sa n cap, e = .returned (γ #[O ι 0, σ sa n cap]) ∧ Bel W w' ∧ SV w' (σ sa n cap) (ss4 S a X ix) := by
 have h0 := hT.tcd
 refine (zz10 (Y := X) (ci := cI) h hT.good3.2 hl ha hb hi hT.m4 (fun _ j hj W' => ?_)).mono ?_
 ·rw [hT.dts3.1, hT.dts3.2, hT.tx]
  exact zd19 (hT.ok j hj) hT.dt W'
 ·rintro e w' ⟨u, rfl, b, hs⟩
  have q := hs h0
  obtain ⟨sa, cap, rfl, hx⟩ := q
  rw [h0]
  exact ⟨sa, _, cap, rfl, b, sa, cap, rfl, hx⟩
theorem zo19 {W : World} {v va vb : Value} {S : List St} {a b : Ar} {g cI : Nat} {N : Int} (h : SV W v S) (hg : SG S) (hl : SL S 1048576) (ha : AV W va a) (hb : AV W vb b) (hi : Row W g 0 [N]) (hN : prod a.xs = N) :
  Calls Tryz.prog 12 #[γ #[v], va, σ (some ⟨g, 0, none⟩) 1 cI, vb] W fun e w' => ∃ (c : Int) (u : Value), e = .returned (γ #[O ι c, u]) ∧ Bel W w' ∧ (c == 0) = false := by
 have hne : takeCd S a b [N] ≠ 0 := fun q => by
  have := zv20 (zb7 q).2.2 0 (by simp)
  simp only [List.getD_cons_zero] at this
  omega
 refine (zz10 (ix := [N]) (Y := []) (ci := cI) h hg hl ha hb hi (by simp) (fun q => absurd q hne)).mono ?_
 rintro e w' ⟨u, rfl, b, _⟩
 exact ⟨_, u, rfl, b, by rw [beq_eq_false_iff_ne]; exact hne⟩
theorem zi14 {W w' : World} {cs : List C3} {e : Ending} (h : CellsOk W cs e w') : ∃ sa cap, e = .returned (σ sa cs.length cap) ∧ Bel W w' ∧ CV w' (σ sa cs.length cap) cs := by
 obtain ⟨sa, cap, rfl, ho, b⟩ := h
 refine ⟨sa, cap, rfl, b, sa, cap, rfl, ?_⟩
 rcases ho with q | ⟨g, h1, _, h2, _⟩
 ·exact Or.inl q
 ·exact Or.inr ⟨g, 0, h1, h2⟩
theorem zm21 {W : World} {v : Value} {S : List St} {a : Ar} {X : List C3} {ix : List Int} {p q : Option Addr} {c d : Nat} {s : Int} (h : SV W v (ss4 S a X ix)) (hT : TPu S a X ix) (hl : SL (ss4 S a X ix) 1048576) (hb : AV W (γ #[O ι s, σ p 1 c, σ q 1 d, O ι 0]) (arO S ix)) :
  Calls Tryz.prog 14 #[γ #[v], γ #[O ι s, σ p 1 c, σ q 1 d, O ι 0]] W fun e w' => ∃ sa cap, e = .returned (σ sa X.length cap) ∧ Bel W w' ∧ CV w' (σ sa X.length cap) X := by
 obtain ⟨p', c', q', d', e, i1, i2, l⟩ := hb
 simp only [Value.agg.injEq, arO, List.length_cons, List.length_nil] at e
 rw [e]
 refine (zx20 (xs := (arO S ix).xs) (sv := (arO S ix).sv) h hT.good4.2.1 hl _ i1 i2 _ l.1 l.2).mono ?_
 intro e w' hc
 have hr := hT.rd4
 simp only [arO] at hr
 simp only [arO] at hc
 rw [hr] at hc
 exact zi14 hc
theorem zl21 {W : World} {v : Value} {S : List St} {a : Ar} {X : List C3} {ix : List Int} {p q : Option Addr} {c d : Nat} {s : Int} (h : SV W v (ss2 S a X ix)) (hT : TPu S a X ix) (hl : SL (ss2 S a X ix) 1048576) (hb : AV W (γ #[O ι s, σ p 1 c, σ q 1 d, O ι 0]) (arB S ix)) :
  Calls Tryz.prog 15 #[γ #[v], γ #[O ι s, σ p 1 c, σ q 1 d, O ι 0]] W fun e w' => ∃ sa cap, e = .returned (σ sa X.length cap) ∧ Bel W w' ∧ CV w' (σ sa X.length cap) X := by
 obtain ⟨p', c', q', d', e, i1, i2, l⟩ := hb
 simp only [Value.agg.injEq, arB, List.length_cons, List.length_nil] at e
 rw [e]
 refine (zu19 (xs := (arB S ix).xs) (sv := (arB S ix).sv) h hT.vs2.2 hl _ i1 i2 _ l.1 l.2).mono ?_
 intro e w' hc
 have hr := hT.rd2
 simp only [arB] at hr
 simp only [arB] at hc
 rw [hr] at hc
 exact zi14 hc
theorem TPu.sls {S : List St} {a : Ar} {X : List C3} {ix : List Int} (h : TPu S a X ix) (hl : SL (ss2 S a X ix) 1048576) : SL (ss3 S a X ix) 1048576 ∧ SL (ss4 S a X ix) 1048576 := ⟨zs15 hl _ _ _ _, zs15 (zs15 hl _ _ _ _) _ _ _ _⟩
theorem TPu.cgX {S : List St} {a : Ar} {X : List C3} {ix : List Int} (h : TPu S a X ix) : CG X := fun c hc => by
 obtain ⟨j, hj, rfl⟩ := List.getElem_of_mem hc
 have q := zd18 (h.ok j (by rw [← h.xl]; exact hj))
 rw [List.getD_eq_getElem?_getD, List.getElem?_eq_getElem hj] at q
 exact q
end
section
open Go.ChangeShapes Go.RowKit FL
theorem zi5 (sa : Option Addr) (c : Nat) (n : Int) (w : World) : Calls Tryz.prog 36 #[σ sa 0 c, O ι n] w fun e w' => e = .returned (.bool true) ∧ w' = w := by
 go_enter Tryz.func36, Tryz.ntmps36
 go_wp2_with fail
 refine wp_loop_rounds 1 ?_
 rw [rounds_succ]
 go_wp2
 go_ret
 exact ⟨rfl, rfl⟩
theorem zt16 {w : World} {v vS vT : Value} {ss : List St} {xs sv : List Int} (h : SV w v ss) (st off dt : Int) (h0 : 0 ≤ st) (h1 : st < ss.length) (hS : Ints w vS xs) (hT : Ints w vT sv) (lx : xs.length ≤ 1048576) (ls : sv.length ≤ 1048576) (hw : WrV xs sv off) (hc : castL dt (ss.getD st.toNat s0).1 1 = true) :
  Calls Tryz.prog 37 #[γ #[v], O ι dt, γ #[O ι st, vS, vT, O ι off]] w fun e w' => e = .returned (O ι 0) ∧ Bel w w' := by
 obtain ⟨sa, cap, rfl, hx⟩ := h
 have h : SV w (σ sa ss.length cap) ss := ⟨sa, cap, rfl, hx⟩
 obtain ⟨tS, cS, rfl, hSo⟩ := hS
 have hS : Ints w (σ tS xs.length cS) xs := ⟨tS, cS, rfl, hSo⟩
 obtain ⟨tT, cT, rfl, hTo⟩ := hT
 have hT : Ints w (σ tT sv.length cT) sv := ⟨tT, cT, rfl, hTo⟩
 have x0 : Ext w ((w.alloc (χ #[σ sa ss.length cap] 25)).alloc (χ #[O ι st, σ tS xs.length cS, σ tT sv.length cT, O ι off] 30)) := ((Ext.refl w).alloc _ _).alloc _ _
 have B0 : Hid (Bx ((w.alloc (χ #[σ sa ss.length cap] 25)).alloc (χ #[O ι st, σ tS xs.length cS, σ tT sv.length cT, O ι off] 30)) w.heap.size 25 [σ sa ss.length cap]) := (Bx.new w 25 #[σ sa ss.length cap] _ rfl).alloc _
 have B1 : Hid (Bx ((w.alloc (χ #[σ sa ss.length cap] 25)).alloc (χ #[O ι st, σ tS xs.length cS, σ tT sv.length cT, O ι off] 30)) (w.heap.size + 1) 30 [O ι st, σ tS xs.length cS, σ tT sv.length cT, O ι off]) := Bx.new (w.alloc (χ #[σ sa ss.length cap] 25)) 30 #[O ι st, σ tS xs.length cS, σ tT sv.length cT, O ι off] _ (by simp)
 have HH := hide (h.keep x0.bl)
 have HS := hide (hS.ext x0)
 have HT := hide (hT.ext x0)
 have X0 := hide x0.bl
 have hwd : (dcWrV xs sv off) = true := decide_eq_true hw
 have HWD := hide hwd
 have HC := hide hc
 clear x0 h hS hT hx hSo hTo hw hwd hc
 go_enter Tryz.func37, Tryz.ntmps37
 go_wp2_with fail
 generalize (w.alloc (χ #[σ sa ss.length cap] 25)).alloc (χ #[O ι st, σ tS xs.length cS, σ tT sv.length cT, O ι off] 30) = W0 at B0 B1 HH HS HT X0 ⊢
 refine (zu15 HS.out HT.out off lx ls).mono ?_
 rintro e W1 ⟨rfl, x1⟩
 rw [HWD.out]
 have b0 := (B0.out.bel x1).cell 0 rfl
 have b10 := (B1.out.bel x1).cell 0 rfl
 have b11 := (B1.out.bel x1).cell 1 rfl
 have b12 := (B1.out.bel x1).cell 2 rfl
 have b13 := (B1.out.bel x1).cell 3 rfl
 have H1 := hide (HH.out.keep x1)
 have X1 := hide (Bel.tr X0.out x1)
 clear x1
 go_wp2_with fail
 refine (ze3 H1.out st off h0 h1).mono ?_
 rintro e W2 ⟨rfl, x2⟩
 generalize (ss.getD st.toNat s0).1 = dd at HC ⊢
 have X2 := hide (Bel.tr X1.out x2.bl)
 clear x2 b0 b10 b11 b12 b13
 go_wp2_with fail
 refine (zf10 _ _ _ _).mono ?_
 rintro e W3 ⟨rfl, rfl⟩
 rw [HC.out]
 go_wp2
 go_ret
 exact ⟨rfl, X2.out⟩
end
end Go.Proofs.YtjbbodfdpbcnhaaGreat
