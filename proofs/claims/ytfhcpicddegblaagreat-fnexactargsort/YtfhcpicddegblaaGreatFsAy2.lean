import Derived.Test.YtfhcpicddegblaaGreatM12
import Derived.Test.YtfhcpicddegblaaGreatM13
import Derived.Test.YtfhcpicddegblaaGreatM13
import Derived.Laws.EntriesVeiled
namespace Go.Proofs.YtfhcpicddegblaaGreat
open List renaming setIfInBounds_toArray → sT, set_cons_zero → sZ, set_cons_succ → sS
open Go.Value renaming int → O, slice → σ, pointer → π, agg → γ
open Go.IntKind renaming i64 → ι
open Go.Obj renaming cells → χ
open Go.Act renaming put → aP
set_option maxRecDepth 100000
set_option maxHeartbeats 8000000
open Go.ChangeShapes Go.RowKit FL
set_option linter.unusedSimpArgs false
set_option linter.unusedVariables false
section
attribute [local go_sem] zk27
theorem zj27 (a b c d x e f g h y : Int) (w : World) : (Op.equalIn 10000 81 (γ #[O ι x, O ι a, O ι b, O ι c, O ι d]) (γ #[O ι y, O ι e, O ι f, O ι g, O ι h])).run Tryz.prog w = .ok (decide (x = y ∧ a = e ∧ b = f ∧ c = g ∧ d = h)) w := by
 rw [show (10000 : Nat) = 9999 + 1 from rfl, Op.equalIn]
 simp only [Sem.run_bind, run_underlying Tryz.underlying81, Result.andThen_ok]
 go_simp
 by_cases h1 : x = y <;> by_cases h2 : a = e <;> by_cases h3 : b = f <;> by_cases h4 : c = g <;> by_cases h5 : d = h <;> simp [h1, h2, h3, h4, h5]
end
theorem zt20 {xs ys : List Int} (hx : xs.length ≤ 4) (hy : ys.length ≤ 4) : ((ys.length : Int) = xs.length ∧ ys.getD 0 0 = xs.getD 0 0 ∧ ys.getD 1 0 = xs.getD 1 0 ∧ ys.getD 2 0 = xs.getD 2 0 ∧ ys.getD 3 0 = xs.getD 3 0) ↔ xs = ys := by
 constructor
 ·rintro ⟨h, h0, h1, h2, h3⟩
  have hl : xs.length = ys.length := by omega
  apply List.ext_getElem hl
  intro i g1 g2
  have key : xs.getD i 0 = ys.getD i 0 := by
   rcases (show i = 0 ∨ i = 1 ∨ i = 2 ∨ i = 3 by omega) with rfl | rfl | rfl | rfl
   ·exact h0.symm
   ·exact h1.symm
   ·exact h2.symm
   ·exact h3.symm
  rw [List.getD_eq_getElem?_getD, List.getD_eq_getElem?_getD, List.getElem?_eq_getElem g1, List.getElem?_eq_getElem g2] at key
  exact key
 ·rintro rfl
  exact ⟨rfl, rfl, rfl, rfl, rfl⟩
theorem zh23 (ax : Int) (n : Nat) (sh nd ct : Bool) : smallL [axC ax n, (if (!sh) = true then 6 else 0), wrC nd ct] = if ax < 0 ∨ (n : Int) ≤ ax then 5 else if sh = true then (if nd = true then (if ct = true then 0 else 10) else 9) else 6 := by
 unfold axC
 by_cases h : ax < 0 ∨ (n : Int) ≤ ax
 ·rw [if_pos h, if_pos h]
  cases sh <;> cases nd <;> cases ct <;> decide
 ·rw [if_neg h, if_neg h]
  cases sh <;> cases nd <;> cases ct <;> decide
theorem zz17 (W : World) (X Y : List Value) (n1 : Nat) (h1 : n1 = W.heap.size + 1) : Ext W (((W.alloc (.cells X.toArray 85)).alloc (.cells Y.toArray 85)).drew) ∧ AtB (((W.alloc (.cells X.toArray 85)).alloc (.cells Y.toArray 85)).drew) W.heap.size X ∧ AtB (((W.alloc (.cells X.toArray 85)).alloc (.cells Y.toArray 85)).drew) n1 Y := by
 have e0 := (((Ext.refl W).alloc X.toArray 85).alloc Y.toArray 85).drew
 have e1 := ((Ext.refl (W.alloc (.cells X.toArray 85))).alloc Y.toArray 85).drew
 have e2 := (Ext.refl ((W.alloc (.cells X.toArray 85)).alloc (.cells Y.toArray 85))).drew
 subst h1
 exact ⟨e0, fun j x hx => e1.box ((zd W X.toArray 85 _ rfl j).trans (by simpa using hx)), fun j x hx => e2.box ((zd _ Y.toArray 85 (W.heap.size + 1) (by simp) j).trans (by simpa using hx))⟩
def IarOk (w : World) (ss : List St) (a : Ar) (ax : Int) (o : Ar) (e : Ending) (w' : World) : Prop := ∃ c u ts, e = .returned (γ #[O ι c, u]) ∧ ArgOk ss a ax o c ts ∧ MOwn w' w.heap.size u ts ∧ Bel w w'
theorem za4 {w : World} {v va vo : Value} {ss : List St} {a o : Ar} (ax : Int) (h : SV w v ss) (hg : SG ss) (hl : SL ss 1048576) (ha : AV w va a) (ho : AV w vo o) :
  Calls Tryz.prog 22 #[γ #[v], va, O ι ax, vo] w fun e w' => IarOk w ss a ax o e w' := by
 obtain ⟨sa, cap, rfl, hx⟩ := h
 have h : SV w (σ sa ss.length cap) ss := ⟨sa, cap, rfl, hx⟩
 obtain ⟨p1, c1, q1, d1, rfl, ia1, ia2, la⟩ := ha
 obtain ⟨p2, c2, q2, d2, rfl, io1, io2, lo⟩ := ho
 have BX0 := SBz.start w (σ sa ss.length cap) [O ι a.st, σ p1 a.xs.length c1, σ q1 a.sv.length d1, O ι a.off] [O ι o.st, σ p2 o.xs.length c2, σ q2 o.sv.length d2, O ι o.off]
 have AR := zz26 (B := w.heap.size + 4) (W := ((((w.alloc (χ #[σ sa ss.length cap] 34)).alloc (χ #[O ι a.st, σ p1 a.xs.length c1, σ q1 a.sv.length d1, O ι a.off] 41)).alloc (χ #[O ι o.st, σ p2 o.xs.length c2, σ q2 o.sv.length d2, O ι o.off] 41)).alloc (χ #[O ι 0, σ none 0 0] 36))) (by simp) ia1 ia2 io1 io2 BX0.bl
 have HH := hide h
 have xr : Ext ((((w.alloc (χ #[σ sa ss.length cap] 34)).alloc (χ #[O ι a.st, σ p1 a.xs.length c1, σ q1 a.sv.length d1, O ι a.off] 41)).alloc (χ #[O ι o.st, σ p2 o.xs.length c2, σ q2 o.sv.length d2, O ι o.off] 41)).alloc (χ #[O ι 0, σ none 0 0] 36)) ((((((w.alloc (χ #[σ sa ss.length cap] 34)).alloc (χ #[O ι a.st, σ p1 a.xs.length c1, σ q1 a.sv.length d1, O ι a.off] 41)).alloc (χ #[O ι o.st, σ p2 o.xs.length c2, σ q2 o.sv.length d2, O ι o.off] 41)).alloc (χ #[O ι 0, σ none 0 0] 36))).alloc (χ #[O ι a.st, σ p1 a.xs.length c1, σ q1 a.sv.length d1, O ι a.off, O ι o.st, σ p2 o.xs.length c2, σ q2 o.sv.length d2, O ι o.off] 41)) := (Ext.refl _).alloc _ _
 have HF := hide (zt18 (oa := 0) (cp := 2) (h.keep (Bel.tr BX0.bl xr.bl)) hg hl AR (fun x hx => by simp at hx; rcases hx with rfl | rfl <;> assumption) (by simp) (by simp))
 have HB0 := hide (BX0.keep xr.bl)
 have b0 := BX0.h
 have a0 := BX0.a 0 _ rfl
 have a1 := BX0.a 1 _ rfl
 have a2 := BX0.a 2 _ rfl
 have a3 := BX0.a 3 _ rfl
 have o0 := BX0.o 0 _ rfl
 have o1 := BX0.o 1 _ rfl
 have o2 := BX0.o 2 _ rfl
 have o3 := BX0.o 3 _ rfl
 have HG := hide hg
 have HL := hide hl
 clear AR BX0 xr hx h ia1 ia2 io1 io2 hg hl
 go_enter Tryz.func22, Tryz.ntmps22
 go_wp2_with fail
 refine HF.out.mono ?_
 rintro e w1 ⟨vo, rfl, b1, hres⟩
 have HB1 := hide (HB0.out.keep b1)
 have HB01 := hide b1
 clear b1 HF b0 a0 a1 a2 a3 o0 o1 o2 o3
 have b0 := HB1.out.h
 have a0 := HB1.out.a 0 _ rfl
 have a1 := HB1.out.a 1 _ rfl
 have a2 := HB1.out.a 2 _ rfl
 have a3 := HB1.out.a 3 _ rfl
 have o0 := HB1.out.o 0 _ rfl
 have o1 := HB1.out.o 1 _ rfl
 have o2 := HB1.out.o 2 _ rfl
 have o3 := HB1.out.o 3 _ rfl
 have r0 := HB1.out.r0
 have r1 := HB1.out.r1
 have f0 := HB1.out.fz 0
 have f1 := HB1.out.fz 1
 generalize hfe : firstL ss [a, o] = fc at hres ⊢
 by_cases hfc : fc ≠ 0
 ·have hok : Hid (fc = argC ss a ax o) := by show fc = _; unfold argC; rw [hfe, if_pos hfc]
  have hne : (fc == 0) = false := by rw [beq_eq_false_iff_ne]; exact hfc
  clear hres
  go_wp2
  refine bodyPost_ret (v := γ #[O ι fc, σ none 0 0]) (by simp [results, Tryz.results22, go_sem, r0, r1]) rfl ⟨fc, _, [], rfl, ⟨hok.out, .inl ⟨hfc, rfl⟩⟩, .inl ⟨rfl, rfl⟩, by (first | exact (HB1.out.bl.setCell (p := ⟨w.heap.size + 1 + 1 + 1, 0, none⟩) (by show _ ≤ w.heap.size + 1 + 1 + 1; omega) _).setCell (p := ⟨w.heap.size + 1 + 1 + 1, 1, none⟩) (by show _ ≤ w.heap.size + 1 + 1 + 1; omega) _ | exact HB1.out.bl.setCell (p := ⟨w.heap.size + 1 + 1 + 1, 0, none⟩) (by show _ ≤ w.heap.size + 1 + 1 + 1; omega) _)⟩
 have hfc0 : fc = 0 := by omega
 subst hfc0
 obtain ⟨hvh, hga, hgo⟩ := zw11 hfe
 obtain ⟨g, cg, U, rfl, hgl, hall, hU, hcells⟩ := hres.resolve_left hfc
 have hc5 : Hid (argC ss a ax o = if ax < 0 ∨ (a.xs.length : Int) ≤ ax then 5 else if a.xs = o.xs then lastC o.xs o.sv o.off 6 (o.dt ss) else 6) := by show _ = _; unfold argC; rw [hfe, if_neg (by simp)]
 obtain ⟨hdt, hok⟩ := zw19 hvh HG.out hga
 have HOK := hide hok
 have hopa : ∀ i x, (a.open U ss)[i]? = some x → w1.cell? ⟨g, i, none⟩ = some x := fun i x hx => by
  have := hcells 0 i x (by simp) hx
  simpa using this
 have hopo : ∀ i x, (o.open U ss)[i]? = some x → w1.cell? ⟨g, 13 + i, none⟩ = some x := fun i x hx => by
  have := hcells 1 i x (by simp) hx
  simpa using this
 obtain ⟨su, cu, hus, hcu⟩ := hU a.st.toNat (by have := hga.1; omega)
 obtain ⟨sq, cq, huq, hcq⟩ := hU o.st.toNat (by have := hgo.1; omega)
 have HUA : Hid (CV w1 (σ su (ss.getD a.st.toNat s0).2.length cu) (ss.getD a.st.toNat s0).2) := CV.keep ⟨su, cu, rfl, hcu⟩ HB01.out
 have hao : a.open U ss = [O ι a.xs.length, O ι (a.xs.getD 0 0), O ι (a.xs.getD 1 0), O ι (a.xs.getD 2 0), O ι (a.xs.getD 3 0), O ι (a.sv.getD 0 0), O ι (a.sv.getD 1 0), O ι (a.sv.getD 2 0), O ι (a.sv.getD 3 0), O ι a.off, O ι a.st, O ι (a.dt ss), σ su (ss.getD a.st.toNat s0).2.length cu] := by
  unfold Ar.open
  rw [hus]
  rfl
 have hoo : o.open U ss = [O ι o.xs.length, O ι (o.xs.getD 0 0), O ι (o.xs.getD 1 0), O ι (o.xs.getD 2 0), O ι (o.xs.getD 3 0), O ι (o.sv.getD 0 0), O ι (o.sv.getD 1 0), O ι (o.sv.getD 2 0), O ι (o.sv.getD 3 0), O ι o.off, O ι o.st, O ι (o.dt ss), σ sq (ss.getD o.st.toNat s0).2.length cq] := by
  unfold Ar.open
  rw [huq]
  rfl
 rw [hao] at hopa
 rw [hoo] at hopo
 have hga2 := hga.2.1
 have HGA := hide hga
 have HGO := hide hgo
 have hnu := HL.out.at a.st.toNat (by have := hga.1; omega)
 obtain ⟨dt, hDT⟩ : ∃ dt, dt = a.dt ss := ⟨_, rfl⟩
 obtain ⟨to, hTO⟩ : ∃ to, to = o.dt ss := ⟨_, rfl⟩
 have HDT := hide hDT
 have HTO := hide hTO
 rw [← hDT] at hopa hdt HOK
 rw [← hTO] at hopo hc5
 have HAX := hide (fun W => zm12 a.xs a.sv a.off ax W)
 have HWC := hide (fun W => zu7 o.xs o.sv o.off o.st to 6 (σ sq (ss.getD o.st.toNat s0).2.length cq) hgo.2.1 W)
 have HEQ := hide (fun W => zj27 (o.xs.getD 0 0) (o.xs.getD 1 0) (o.xs.getD 2 0) (o.xs.getD 3 0) (o.xs.length : Int) (a.xs.getD 0 0) (a.xs.getD 1 0) (a.xs.getD 2 0) (a.xs.getD 3 0) (a.xs.length : Int) W)
 unfold vw at HAX
 have HNB : Hid (decide (offsL o.xs o.sv o.off).Nodup = (dcWrV o.xs o.sv o.off)) := by
  show _ = _
  exact decide_eq_decide.2 ⟨fun q => ⟨hgo.2.1, q⟩, fun q => q.2⟩
 rw [HNB.out] at HWC
 obtain ⟨sh, hSH⟩ : ∃ sh : Bool, sh = decide ((o.xs.length : Int) = a.xs.length ∧ o.xs.getD 0 0 = a.xs.getD 0 0 ∧ o.xs.getD 1 0 = a.xs.getD 1 0 ∧ o.xs.getD 2 0 = a.xs.getD 2 0 ∧ o.xs.getD 3 0 = a.xs.getD 3 0) := ⟨_, rfl⟩
 rw [← hSH] at HEQ
 have HSH : Hid (sh = decide (a.xs = o.xs)) := by
  show _ = _
  rw [hSH, decide_eq_decide]
  exact zt20 hga2.1.1 hgo.2.1.1.1
 have HHB := hide (fun (W : World) (m K : Nat) (hxe : a.xs = o.xs) (hm : m < a.xs.length) (hK : a.xs.getD m 0 = (K : Int)) (hS : SV W (σ sa ss.length cap) ss) (hC : CV W (σ su (ss.getD a.st.toNat s0).2.length cu) (ss.getD a.st.toNat s0).2) (Y : List C3) (OB DB : Nat) (hO : W.cell? ⟨OB, 0, none⟩ = some (.func (.func 97) #[] #[π (some ⟨DB, 0, none⟩)])) (hD : W.cell? ⟨DB, 0, none⟩ = some (O ι dt)) (hK4 : K ≤ 4096) hcv hokc => zy7 8 (Nat.le_refl _) a.xs o.sv a.sv o.off a.off a.st dt 6 to o.st.toNat m K (σ sq (ss.getD o.st.toNat s0).2.length cq) (Y := Y) (dt := dt) (out := idxO dt K) hS HL.out (by have := hgo.1; omega) (by rw [hxe]; exact hgo.2.1) (by rw [hxe]; exact hgo.2.2) hC hnu hga2 hga.2.2 hm hK hokc zu24 (fun f g h i hi => zs19 f g h i hi) (zn25 hO hD hK4) hcv)
 rw [Int.toNat_of_nonneg hgo.1.1] at HHB
 obtain ⟨nu, hNU⟩ : ∃ nu, nu = (ss.getD a.st.toNat s0).2.length := ⟨_, rfl⟩
 obtain ⟨nq, hNQ⟩ : ∃ nu, nu = (ss.getD o.st.toNat s0).2.length := ⟨_, rfl⟩
 have HNU := hide hNU
 rw [← hNU] at hopa HHB
 rw [← hNQ] at hopo HWC HHB
 obtain ⟨x0, hX0⟩ : ∃ x, x = a.xs.getD 0 0 := ⟨_, rfl⟩
 obtain ⟨x1, hX1⟩ : ∃ x, x = a.xs.getD 1 0 := ⟨_, rfl⟩
 obtain ⟨x2, hX2⟩ : ∃ x, x = a.xs.getD 2 0 := ⟨_, rfl⟩
 obtain ⟨x3, hX3⟩ : ∃ x, x = a.xs.getD 3 0 := ⟨_, rfl⟩
 obtain ⟨s0', hS0⟩ : ∃ x, x = a.sv.getD 0 0 := ⟨_, rfl⟩
 obtain ⟨s1, hS1⟩ : ∃ x, x = a.sv.getD 1 0 := ⟨_, rfl⟩
 obtain ⟨s2, hS2⟩ : ∃ x, x = a.sv.getD 2 0 := ⟨_, rfl⟩
 obtain ⟨s3, hS3⟩ : ∃ x, x = a.sv.getD 3 0 := ⟨_, rfl⟩
 obtain ⟨y0, hY0⟩ : ∃ x, x = o.xs.getD 0 0 := ⟨_, rfl⟩
 obtain ⟨y1, hY1⟩ : ∃ x, x = o.xs.getD 1 0 := ⟨_, rfl⟩
 obtain ⟨y2, hY2⟩ : ∃ x, x = o.xs.getD 2 0 := ⟨_, rfl⟩
 obtain ⟨y3, hY3⟩ : ∃ x, x = o.xs.getD 3 0 := ⟨_, rfl⟩
 obtain ⟨t0, hT0⟩ : ∃ x, x = o.sv.getD 0 0 := ⟨_, rfl⟩
 obtain ⟨t1, hT1⟩ : ∃ x, x = o.sv.getD 1 0 := ⟨_, rfl⟩
 obtain ⟨t2, hT2⟩ : ∃ x, x = o.sv.getD 2 0 := ⟨_, rfl⟩
 obtain ⟨t3, hT3⟩ : ∃ x, x = o.sv.getD 3 0 := ⟨_, rfl⟩
 obtain ⟨no, hNO⟩ : ∃ x, x = o.xs.length := ⟨_, rfl⟩
 rw [← hX0, ← hX1, ← hX2, ← hX3, ← hS0, ← hS1, ← hS2, ← hS3] at hopa HAX
 rw [← hNO, ← hY0, ← hY1, ← hY2, ← hY3, ← hT0, ← hT1, ← hT2, ← hT3] at hopo HWC
 rw [← hX0, ← hX1, ← hX2, ← hX3, ← hNO, ← hY0, ← hY1, ← hY2, ← hY3] at HEQ
 rw [← hX0, ← hX1, ← hX2, ← hX3, ← hS0, ← hS1, ← hS2, ← hS3, ← hT0, ← hT1, ← hT2, ← hT3] at HHB
 have HXY : Hid (a.xs = o.xs → no = a.xs.length ∧ y0 = x0 ∧ y1 = x1 ∧ y2 = x2 ∧ y3 = x3) := fun e => by
  rw [hNO, hY0, hY1, hY2, hY3, hX0, hX1, hX2, hX3, e]
  exact ⟨rfl, rfl, rfl, rfl, rfl⟩
 have ca0 : w1.cell? ⟨g, 0, none⟩ = some (O ι a.xs.length) := hopa 0 _ rfl
 have ca1 : w1.cell? ⟨g, 1, none⟩ = some (O ι x0) := hopa 1 _ rfl
 have ca2 : w1.cell? ⟨g, 2, none⟩ = some (O ι x1) := hopa 2 _ rfl
 have ca3 : w1.cell? ⟨g, 3, none⟩ = some (O ι x2) := hopa 3 _ rfl
 have ca4 : w1.cell? ⟨g, 4, none⟩ = some (O ι x3) := hopa 4 _ rfl
 have ca5 : w1.cell? ⟨g, 5, none⟩ = some (O ι s0') := hopa 5 _ rfl
 have ca6 : w1.cell? ⟨g, 6, none⟩ = some (O ι s1) := hopa 6 _ rfl
 have ca7 : w1.cell? ⟨g, 7, none⟩ = some (O ι s2) := hopa 7 _ rfl
 have ca8 : w1.cell? ⟨g, 8, none⟩ = some (O ι s3) := hopa 8 _ rfl
 have ca9 : w1.cell? ⟨g, 9, none⟩ = some (O ι a.off) := hopa 9 _ rfl
 have ca10 : w1.cell? ⟨g, 10, none⟩ = some (O ι a.st) := hopa 10 _ rfl
 have ca11 : w1.cell? ⟨g, 11, none⟩ = some (O ι dt) := hopa 11 _ rfl
 have ca12 : w1.cell? ⟨g, 12, none⟩ = some (σ su nu cu) := hopa 12 _ rfl
 have co0 : w1.cell? ⟨g, 13, none⟩ = some (O ι no) := hopo 0 _ rfl
 have co1 : w1.cell? ⟨g, 14, none⟩ = some (O ι y0) := hopo 1 _ rfl
 have co2 : w1.cell? ⟨g, 15, none⟩ = some (O ι y1) := hopo 2 _ rfl
 have co3 : w1.cell? ⟨g, 16, none⟩ = some (O ι y2) := hopo 3 _ rfl
 have co4 : w1.cell? ⟨g, 17, none⟩ = some (O ι y3) := hopo 4 _ rfl
 have co5 : w1.cell? ⟨g, 18, none⟩ = some (O ι t0) := hopo 5 _ rfl
 have co6 : w1.cell? ⟨g, 19, none⟩ = some (O ι t1) := hopo 6 _ rfl
 have co7 : w1.cell? ⟨g, 20, none⟩ = some (O ι t2) := hopo 7 _ rfl
 have co8 : w1.cell? ⟨g, 21, none⟩ = some (O ι t3) := hopo 8 _ rfl
 have co9 : w1.cell? ⟨g, 22, none⟩ = some (O ι o.off) := hopo 9 _ rfl
 have co10 : w1.cell? ⟨g, 23, none⟩ = some (O ι o.st) := hopo 10 _ rfl
 have co11 : w1.cell? ⟨g, 24, none⟩ = some (O ι to) := hopo 11 _ rfl
 have co12 : w1.cell? ⟨g, 25, none⟩ = some (σ sq nq cq) := hopo 12 _ rfl
 have heq : ∀ W, (Op.equalIn 10000 81 (γ #[O ι no, O ι y0, O ι y1, O ι y2, O ι y3]) (γ #[O ι a.xs.length, O ι x0, O ι x1, O ι x2, O ι x3])).run Tryz.prog W = .ok sh W := HEQ.out
 clear hX0 hX1 hX2 hX3 hS0 hS1 hS2 hS3 hY0 hY1 hY2 hY3 hT0 hT1 hT2 hT3 hNO hNU hNQ hDT hTO hao hoo hus hcu huq hcq hU hcells hall hopa hopo hok hvh hga hgo hga2 hfe hres HB01 HB0 hSH HEQ
 go_wp2_with fail
 have HS4 : Hid (∀ W, Bel w1 W → (fun w' : World => w'.cell? ⟨g, 0, none⟩ = some (O ι a.xs.length) ∧ w'.cell? ⟨g, 1, none⟩ = some (O ι x0) ∧ w'.cell? ⟨g, 2, none⟩ = some (O ι x1) ∧ w'.cell? ⟨g, 3, none⟩ = some (O ι x2) ∧ w'.cell? ⟨g, 4, none⟩ = some (O ι x3) ∧ w'.cell? ⟨g, 5, none⟩ = some (O ι s0') ∧ w'.cell? ⟨g, 6, none⟩ = some (O ι s1) ∧ w'.cell? ⟨g, 7, none⟩ = some (O ι s2) ∧ w'.cell? ⟨g, 8, none⟩ = some (O ι s3) ∧ w'.cell? ⟨g, 9, none⟩ = some (O ι a.off) ∧ w'.cell? ⟨g, 10, none⟩ = some (O ι a.st) ∧ w'.cell? ⟨g, 11, none⟩ = some (O ι dt) ∧ w'.cell? ⟨g, 12, none⟩ = some (σ su nu cu) ∧ w'.cell? ⟨g, 13, none⟩ = some (O ι no) ∧ w'.cell? ⟨g, 14, none⟩ = some (O ι y0) ∧ w'.cell? ⟨g, 15, none⟩ = some (O ι y1) ∧ w'.cell? ⟨g, 16, none⟩ = some (O ι y2) ∧ w'.cell? ⟨g, 17, none⟩ = some (O ι y3) ∧ w'.cell? ⟨g, 18, none⟩ = some (O ι t0) ∧ w'.cell? ⟨g, 19, none⟩ = some (O ι t1) ∧ w'.cell? ⟨g, 20, none⟩ = some (O ι t2) ∧ w'.cell? ⟨g, 21, none⟩ = some (O ι t3) ∧ w'.cell? ⟨g, 22, none⟩ = some (O ι o.off) ∧ w'.cell? ⟨g, 23, none⟩ = some (O ι o.st) ∧ w'.cell? ⟨g, 24, none⟩ = some (O ι to) ∧ w'.cell? ⟨g, 25, none⟩ = some (σ sq nq cq)) W) := fun W x => ⟨Bel.box x ca0, Bel.box x ca1, Bel.box x ca2, Bel.box x ca3, Bel.box x ca4, Bel.box x ca5, Bel.box x ca6, Bel.box x ca7, Bel.box x ca8, Bel.box x ca9, Bel.box x ca10, Bel.box x ca11, Bel.box x ca12, Bel.box x co0, Bel.box x co1, Bel.box x co2, Bel.box x co3, Bel.box x co4, Bel.box x co5, Bel.box x co6, Bel.box x co7, Bel.box x co8, Bel.box x co9, Bel.box x co10, Bel.box x co11, Bel.box x co12⟩
 have SA := hide (HS4.out w1.drew (Ext.refl w1).drew.bl)
 clear ca0 ca1 ca2 ca3 ca4 ca5 ca6 ca7 ca8 ca9 ca10 ca11 ca12 co0 co1 co2 co3 co4 co5 co6 co7 co8 co9 co10 co11 co12
 refine zq (fun ac a' w' => ∃ B1 B2 : Nat, a' = ((((((((ac.put (some 26) (σ (some ⟨g, 0, none⟩) 2 cg)).put (some 27) (π (some ⟨g, 0, none⟩))).put (some 28) (γ #[O ι a.xs.length, O ι x0, O ι x1, O ι x2, O ι x3, O ι s0', O ι s1, O ι s2, O ι s3, O ι a.off, O ι a.st, O ι dt, σ su nu cu])).put (some 29) (σ (some ⟨g, 0, none⟩) 2 cg)).put (some 30) (π (some ⟨g, 13, none⟩))).put (some 31) (γ #[O ι no, O ι y0, O ι y1, O ι y2, O ι y3, O ι t0, O ι t1, O ι t2, O ι t3, O ι o.off, O ι o.st, O ι to, σ sq nq cq])).put (some 11) (π (some ⟨B1, 0, none⟩))).put (some 12) (π (some ⟨B2, 0, none⟩))) ∧ Bel w1 w' ∧ AtB w' B1 [O ι a.xs.length, O ι x0, O ι x1, O ι x2, O ι x3, O ι s0', O ι s1, O ι s2, O ι s3, O ι a.off, O ι a.st, O ι dt, σ su nu cu] ∧ AtB w' B2 [O ι no, O ι y0, O ι y1, O ι y2, O ι y3, O ι t0, O ι t1, O ι t2, O ι t3, O ι o.off, O ι o.st, O ι to, σ sq nq cq] ∧ w1.heap.size ≤ B1 ∧ w1.heap.size ≤ B2) (S := (fun w' : World => w'.cell? ⟨g, 0, none⟩ = some (O ι a.xs.length) ∧ w'.cell? ⟨g, 1, none⟩ = some (O ι x0) ∧ w'.cell? ⟨g, 2, none⟩ = some (O ι x1) ∧ w'.cell? ⟨g, 3, none⟩ = some (O ι x2) ∧ w'.cell? ⟨g, 4, none⟩ = some (O ι x3) ∧ w'.cell? ⟨g, 5, none⟩ = some (O ι s0') ∧ w'.cell? ⟨g, 6, none⟩ = some (O ι s1) ∧ w'.cell? ⟨g, 7, none⟩ = some (O ι s2) ∧ w'.cell? ⟨g, 8, none⟩ = some (O ι s3) ∧ w'.cell? ⟨g, 9, none⟩ = some (O ι a.off) ∧ w'.cell? ⟨g, 10, none⟩ = some (O ι a.st) ∧ w'.cell? ⟨g, 11, none⟩ = some (O ι dt) ∧ w'.cell? ⟨g, 12, none⟩ = some (σ su nu cu) ∧ w'.cell? ⟨g, 13, none⟩ = some (O ι no) ∧ w'.cell? ⟨g, 14, none⟩ = some (O ι y0) ∧ w'.cell? ⟨g, 15, none⟩ = some (O ι y1) ∧ w'.cell? ⟨g, 16, none⟩ = some (O ι y2) ∧ w'.cell? ⟨g, 17, none⟩ = some (O ι y3) ∧ w'.cell? ⟨g, 18, none⟩ = some (O ι t0) ∧ w'.cell? ⟨g, 19, none⟩ = some (O ι t1) ∧ w'.cell? ⟨g, 20, none⟩ = some (O ι t2) ∧ w'.cell? ⟨g, 21, none⟩ = some (O ι t3) ∧ w'.cell? ⟨g, 22, none⟩ = some (O ι o.off) ∧ w'.cell? ⟨g, 23, none⟩ = some (O ι o.st) ∧ w'.cell? ⟨g, 24, none⟩ = some (O ι to) ∧ w'.cell? ⟨g, 25, none⟩ = some (σ sq nq cq))) (late := []) (by kernel_rfl) ?_ ?_
 rotate_left
 ·refine zl27 0 26 (σ (some ⟨g, 0, none⟩) 2 cg) rfl (.inl ⟨by kernel_rfl, ?_⟩) SA.out ?_
  ·rintro w' ⟨z0, z1, z2, z3, z4, z5, z6, z7, z8, z9, z10, z11, z12, z13, z14, z15, z16, z17, z18, z19, z20, z21, z22, z23, z24, z25⟩
   go_simp
  simp only [aP, sT, sZ, sS]
  refine zl27 1 27 (π (some ⟨g, 0, none⟩)) rfl (.inl ⟨by kernel_rfl, ?_⟩) SA.out ?_
  ·rintro w' ⟨z0, z1, z2, z3, z4, z5, z6, z7, z8, z9, z10, z11, z12, z13, z14, z15, z16, z17, z18, z19, z20, z21, z22, z23, z24, z25⟩
   go_simp
  simp only [aP, sT, sZ, sS]
  refine zl27 2 28 (γ #[O ι a.xs.length, O ι x0, O ι x1, O ι x2, O ι x3, O ι s0', O ι s1, O ι s2, O ι s3, O ι a.off, O ι a.st, O ι dt, σ su nu cu]) rfl (.inl ⟨by kernel_rfl, ?_⟩) SA.out ?_
  ·rintro w' ⟨z0, z1, z2, z3, z4, z5, z6, z7, z8, z9, z10, z11, z12, z13, z14, z15, z16, z17, z18, z19, z20, z21, z22, z23, z24, z25⟩
   go_simp
  simp only [aP, sT, sZ, sS]
  refine zl27 3 29 (σ (some ⟨g, 0, none⟩) 2 cg) rfl (.inl ⟨by kernel_rfl, ?_⟩) SA.out ?_
  ·rintro w' ⟨z0, z1, z2, z3, z4, z5, z6, z7, z8, z9, z10, z11, z12, z13, z14, z15, z16, z17, z18, z19, z20, z21, z22, z23, z24, z25⟩
   go_simp
  simp only [aP, sT, sZ, sS]
  refine zl27 4 30 (π (some ⟨g, 13, none⟩)) rfl (.inl ⟨by kernel_rfl, ?_⟩) SA.out ?_
  ·rintro w' ⟨z0, z1, z2, z3, z4, z5, z6, z7, z8, z9, z10, z11, z12, z13, z14, z15, z16, z17, z18, z19, z20, z21, z22, z23, z24, z25⟩
   go_simp
  simp only [aP, sT, sZ, sS]
  refine zl27 5 31 (γ #[O ι no, O ι y0, O ι y1, O ι y2, O ι y3, O ι t0, O ι t1, O ι t2, O ι t3, O ι o.off, O ι o.st, O ι to, σ sq nq cq]) rfl (.inl ⟨by kernel_rfl, ?_⟩) SA.out ?_
  ·rintro w' ⟨z0, z1, z2, z3, z4, z5, z6, z7, z8, z9, z10, z11, z12, z13, z14, z15, z16, z17, z18, z19, z20, z21, z22, z23, z24, z25⟩
   go_simp
  simp only [aP, sT, sZ, sS]
  refine zk1 (rs := [6, 7]) (by kernel_rfl) (by simp) (fun i hi => ?_)
  simp only [List.mem_cons, List.not_mem_nil, or_false] at hi
  rcases hi with rfl | rfl
  ·refine ⟨_, rfl, fun K hK => ?_⟩
   go_simp
   refine hK.out _ _ (fun _ => HS4.out _ (((Ext.refl w1).alloc _ _).drew).bl) ?_
   clear hK K
   try simp only [aP, sT, sZ, sS]
   refine ze (i := 7) (by kernel_rfl) rfl (fun K hK => ?_)
   go_simp
   refine hK.out _ _ (fun _ => HS4.out _ ((((Ext.refl w1).alloc _ _).alloc _ _).drew).bl) ?_
   clear hK K
   try simp only [aP, sT, sZ, sS]
   refine ze (i := 8) (by kernel_rfl) rfl (fun K hK => ?_)
   go_simp
   refine hK.out _ _ (fun _ => HS4.out _ ((((Ext.refl w1).alloc _ _).alloc _ _).drew).bl) ?_
   clear hK K
   try simp only [aP, sT, sZ, sS]
   refine ze (i := 9) (by kernel_rfl) rfl (fun K hK => ?_)
   go_simp
   refine hK.out _ _ (fun _ => HS4.out _ ((((Ext.refl w1).alloc _ _).alloc _ _).drew).bl) ?_
   clear hK K
   try simp only [aP, sT, sZ, sS]
   refine zg (by kernel_rfl) ?_ _
   have h2 := zz17 w1 [O ι a.xs.length, O ι x0, O ι x1, O ι x2, O ι x3, O ι s0', O ι s1, O ι s2, O ι s3, O ι a.off, O ι a.st, O ι dt, σ su nu cu] [O ι no, O ι y0, O ι y1, O ι y2, O ι y3, O ι t0, O ι t1, O ι t2, O ι t3, O ι o.off, O ι o.st, O ι to, σ sq nq cq] (w1.heap.size + 1) rfl
   exact ⟨rfl, w1.heap.size, w1.heap.size + 1, by kernel_rfl, h2.1.bl, h2.2.1, h2.2.2, Nat.le_refl _, by omega⟩
  ·refine ⟨_, rfl, fun K hK => ?_⟩
   go_simp
   refine hK.out _ _ (fun _ => HS4.out _ (((Ext.refl w1).alloc _ _).drew).bl) ?_
   clear hK K
   try simp only [aP, sT, sZ, sS]
   refine ze (i := 6) (by kernel_rfl) rfl (fun K hK => ?_)
   go_simp
   refine hK.out _ _ (fun _ => HS4.out _ ((((Ext.refl w1).alloc _ _).alloc _ _).drew).bl) ?_
   clear hK K
   try simp only [aP, sT, sZ, sS]
   refine ze (i := 8) (by kernel_rfl) rfl (fun K hK => ?_)
   go_simp
   refine hK.out _ _ (fun _ => HS4.out _ ((((Ext.refl w1).alloc _ _).alloc _ _).drew).bl) ?_
   clear hK K
   try simp only [aP, sT, sZ, sS]
   refine ze (i := 9) (by kernel_rfl) rfl (fun K hK => ?_)
   go_simp
   refine hK.out _ _ (fun _ => HS4.out _ ((((Ext.refl w1).alloc _ _).alloc _ _).drew).bl) ?_
   clear hK K
   try simp only [aP, sT, sZ, sS]
   refine zg (by kernel_rfl) ?_ _
   have h2 := zz17 w1 [O ι no, O ι y0, O ι y1, O ι y2, O ι y3, O ι t0, O ι t1, O ι t2, O ι t3, O ι o.off, O ι o.st, O ι to, σ sq nq cq] [O ι a.xs.length, O ι x0, O ι x1, O ι x2, O ι x3, O ι s0', O ι s1, O ι s2, O ι s3, O ι a.off, O ι a.st, O ι dt, σ su nu cu] (w1.heap.size + 1) rfl
   exact ⟨rfl, w1.heap.size + 1, w1.heap.size, by kernel_rfl, h2.1.bl, h2.2.2, h2.2.1, by omega, Nat.le_refl _⟩
 rintro a' W9 ⟨B1, B2, rfl, hb9, hA9, hO9, hl1, hl2⟩
 simp only [aP, sT, sZ, sS]
 have HB9 := hide (HB1.out.keep hb9)
 have HUA9 := hide (HUA.out.keep hb9)
 have SN : Hid ((fun w' : World => w'.cell? ⟨B1, 0, none⟩ = some (O ι a.xs.length) ∧ w'.cell? ⟨B1, 1, none⟩ = some (O ι x0) ∧ w'.cell? ⟨B1, 2, none⟩ = some (O ι x1) ∧ w'.cell? ⟨B1, 3, none⟩ = some (O ι x2) ∧ w'.cell? ⟨B1, 4, none⟩ = some (O ι x3) ∧ w'.cell? ⟨B1, 5, none⟩ = some (O ι s0') ∧ w'.cell? ⟨B1, 6, none⟩ = some (O ι s1) ∧ w'.cell? ⟨B1, 7, none⟩ = some (O ι s2) ∧ w'.cell? ⟨B1, 8, none⟩ = some (O ι s3) ∧ w'.cell? ⟨B1, 9, none⟩ = some (O ι a.off) ∧ w'.cell? ⟨B1, 10, none⟩ = some (O ι a.st) ∧ w'.cell? ⟨B1, 11, none⟩ = some (O ι dt) ∧ w'.cell? ⟨B1, 12, none⟩ = some (σ su nu cu) ∧ w'.cell? ⟨B2, 0, none⟩ = some (O ι no) ∧ w'.cell? ⟨B2, 1, none⟩ = some (O ι y0) ∧ w'.cell? ⟨B2, 2, none⟩ = some (O ι y1) ∧ w'.cell? ⟨B2, 3, none⟩ = some (O ι y2) ∧ w'.cell? ⟨B2, 4, none⟩ = some (O ι y3) ∧ w'.cell? ⟨B2, 5, none⟩ = some (O ι t0) ∧ w'.cell? ⟨B2, 6, none⟩ = some (O ι t1) ∧ w'.cell? ⟨B2, 7, none⟩ = some (O ι t2) ∧ w'.cell? ⟨B2, 8, none⟩ = some (O ι t3) ∧ w'.cell? ⟨B2, 9, none⟩ = some (O ι o.off) ∧ w'.cell? ⟨B2, 10, none⟩ = some (O ι o.st) ∧ w'.cell? ⟨B2, 11, none⟩ = some (O ι to) ∧ w'.cell? ⟨B2, 12, none⟩ = some (σ sq nq cq)) W9.drew) := ⟨hA9 0 _ rfl, hA9 1 _ rfl, hA9 2 _ rfl, hA9 3 _ rfl, hA9 4 _ rfl, hA9 5 _ rfl, hA9 6 _ rfl, hA9 7 _ rfl, hA9 8 _ rfl, hA9 9 _ rfl, hA9 10 _ rfl, hA9 11 _ rfl, hA9 12 _ rfl, hO9 0 _ rfl, hO9 1 _ rfl, hO9 2 _ rfl, hO9 3 _ rfl, hO9 4 _ rfl, hO9 5 _ rfl, hO9 6 _ rfl, hO9 7 _ rfl, hO9 8 _ rfl, hO9 9 _ rfl, hO9 10 _ rfl, hO9 11 _ rfl, hO9 12 _ rfl⟩
 have hw1 := HB1.out.sz
 clear hb9 hA9 hO9 SA HUA HB1 HS4 b0 a0 a1 a2 a3 o0 o1 o2 o3 r0 r1 f0 f1
 obtain ⟨k3, hk3⟩ : ∃ k : Int, k = (if (!sh) = true then 6 else 0) := ⟨_, rfl⟩
 have HCI := hide (fun W => zv1 (!sh) 6 W)
 rw [← hk3] at HCI
 have HK3 := hide hk3
 clear hk3
 have SA := hide SN.out
 clear SN
 go_wp2_with fail
 refine zs2 (S := (fun w' : World => w'.cell? ⟨B1, 0, none⟩ = some (O ι a.xs.length) ∧ w'.cell? ⟨B1, 1, none⟩ = some (O ι x0) ∧ w'.cell? ⟨B1, 2, none⟩ = some (O ι x1) ∧ w'.cell? ⟨B1, 3, none⟩ = some (O ι x2) ∧ w'.cell? ⟨B1, 4, none⟩ = some (O ι x3) ∧ w'.cell? ⟨B1, 5, none⟩ = some (O ι s0') ∧ w'.cell? ⟨B1, 6, none⟩ = some (O ι s1) ∧ w'.cell? ⟨B1, 7, none⟩ = some (O ι s2) ∧ w'.cell? ⟨B1, 8, none⟩ = some (O ι s3) ∧ w'.cell? ⟨B1, 9, none⟩ = some (O ι a.off) ∧ w'.cell? ⟨B1, 10, none⟩ = some (O ι a.st) ∧ w'.cell? ⟨B1, 11, none⟩ = some (O ι dt) ∧ w'.cell? ⟨B1, 12, none⟩ = some (σ su nu cu) ∧ w'.cell? ⟨B2, 0, none⟩ = some (O ι no) ∧ w'.cell? ⟨B2, 1, none⟩ = some (O ι y0) ∧ w'.cell? ⟨B2, 2, none⟩ = some (O ι y1) ∧ w'.cell? ⟨B2, 3, none⟩ = some (O ι y2) ∧ w'.cell? ⟨B2, 4, none⟩ = some (O ι y3) ∧ w'.cell? ⟨B2, 5, none⟩ = some (O ι t0) ∧ w'.cell? ⟨B2, 6, none⟩ = some (O ι t1) ∧ w'.cell? ⟨B2, 7, none⟩ = some (O ι t2) ∧ w'.cell? ⟨B2, 8, none⟩ = some (O ι t3) ∧ w'.cell? ⟨B2, 9, none⟩ = some (O ι o.off) ∧ w'.cell? ⟨B2, 10, none⟩ = some (O ι o.st) ∧ w'.cell? ⟨B2, 11, none⟩ = some (O ι to) ∧ w'.cell? ⟨B2, 12, none⟩ = some (σ sq nq cq))) (late := []) (by kernel_rfl) ?_
 refine zl27 0 32 (π (some ⟨B1, 0, none⟩)) rfl (.inl ⟨by kernel_rfl, ?_⟩) SA.out ?_
 ·rintro w' ⟨z0, z1, z2, z3, z4, z5, z6, z7, z8, z9, z10, z11, z12, z13, z14, z15, z16, z17, z18, z19, z20, z21, z22, z23, z24, z25⟩
  go_simp
 simp only [aP, sT, sZ, sS]
 refine zl27 1 33 (γ #[O ι a.xs.length, O ι x0, O ι x1, O ι x2, O ι x3, O ι s0', O ι s1, O ι s2, O ι s3, O ι a.off]) rfl (.inl ⟨by kernel_rfl, ?_⟩) SA.out ?_
 ·rintro w' ⟨z0, z1, z2, z3, z4, z5, z6, z7, z8, z9, z10, z11, z12, z13, z14, z15, z16, z17, z18, z19, z20, z21, z22, z23, z24, z25⟩
  go_simp
 simp only [aP, sT, sZ, sS]
 refine zl27 2 34 (O ι ax) rfl (.inl ⟨by kernel_rfl, ?_⟩) SA.out ?_
 ·rintro w' ⟨z0, z1, z2, z3, z4, z5, z6, z7, z8, z9, z10, z11, z12, z13, z14, z15, z16, z17, z18, z19, z20, z21, z22, z23, z24, z25⟩
  go_simp
 simp only [aP, sT, sZ, sS]
 refine zl27 4 36 (π (some ⟨B2, 0, none⟩)) rfl (.inl ⟨by kernel_rfl, ?_⟩) SA.out ?_
 ·rintro w' ⟨z0, z1, z2, z3, z4, z5, z6, z7, z8, z9, z10, z11, z12, z13, z14, z15, z16, z17, z18, z19, z20, z21, z22, z23, z24, z25⟩
  go_simp
 simp only [aP, sT, sZ, sS]
 refine zl27 5 37 (π (some ⟨B2, 0, none⟩)) rfl (.inl ⟨by kernel_rfl, ?_⟩) SA.out ?_
 ·rintro w' ⟨z0, z1, z2, z3, z4, z5, z6, z7, z8, z9, z10, z11, z12, z13, z14, z15, z16, z17, z18, z19, z20, z21, z22, z23, z24, z25⟩
  go_simp
 simp only [aP, sT, sZ, sS]
 refine zl27 6 38 (γ #[O ι no, O ι y0, O ι y1, O ι y2, O ι y3]) rfl (.inl ⟨by kernel_rfl, ?_⟩) SA.out ?_
 ·rintro w' ⟨z0, z1, z2, z3, z4, z5, z6, z7, z8, z9, z10, z11, z12, z13, z14, z15, z16, z17, z18, z19, z20, z21, z22, z23, z24, z25⟩
  go_simp
 simp only [aP, sT, sZ, sS]
 refine zl27 7 39 (π (some ⟨B1, 0, none⟩)) rfl (.inl ⟨by kernel_rfl, ?_⟩) SA.out ?_
 ·rintro w' ⟨z0, z1, z2, z3, z4, z5, z6, z7, z8, z9, z10, z11, z12, z13, z14, z15, z16, z17, z18, z19, z20, z21, z22, z23, z24, z25⟩
  go_simp
 simp only [aP, sT, sZ, sS]
 refine zl27 8 40 (π (some ⟨B1, 0, none⟩)) rfl (.inl ⟨by kernel_rfl, ?_⟩) SA.out ?_
 ·rintro w' ⟨z0, z1, z2, z3, z4, z5, z6, z7, z8, z9, z10, z11, z12, z13, z14, z15, z16, z17, z18, z19, z20, z21, z22, z23, z24, z25⟩
  go_simp
 simp only [aP, sT, sZ, sS]
 refine zl27 9 41 (γ #[O ι a.xs.length, O ι x0, O ι x1, O ι x2, O ι x3]) rfl (.inl ⟨by kernel_rfl, ?_⟩) SA.out ?_
 ·rintro w' ⟨z0, z1, z2, z3, z4, z5, z6, z7, z8, z9, z10, z11, z12, z13, z14, z15, z16, z17, z18, z19, z20, z21, z22, z23, z24, z25⟩
  go_simp
 simp only [aP, sT, sZ, sS]
 refine zl27 10 42 (.bool (!sh)) rfl (.inl ⟨by kernel_rfl, ?_⟩) SA.out ?_
 ·rintro w' ⟨z0, z1, z2, z3, z4, z5, z6, z7, z8, z9, z10, z11, z12, z13, z14, z15, z16, z17, z18, z19, z20, z21, z22, z23, z24, z25⟩
  go_simp
 simp only [aP, sT, sZ, sS]
 refine zl27 12 44 (γ #[O ι no, O ι y0, O ι y1, O ι y2, O ι y3, O ι t0, O ι t1, O ι t2, O ι t3, O ι o.off, O ι o.st, O ι to, σ sq nq cq]) rfl (.inl ⟨by kernel_rfl, ?_⟩) SA.out ?_
 ·rintro w' ⟨z0, z1, z2, z3, z4, z5, z6, z7, z8, z9, z10, z11, z12, z13, z14, z15, z16, z17, z18, z19, z20, z21, z22, z23, z24, z25⟩
  go_simp
 simp only [aP, sT, sZ, sS]
 refine ze (i := 3) (by kernel_rfl) rfl (fun K hK => ?_)
 go_simp
 refine (HAX.out _).mono ?_
 rintro e u1 ⟨rfl, xx1⟩
 have XB : Hid (Bel W9 u1) := Bel.tr (show Bel W9 W9.drew from (Below.refl _ _).drew) xx1.bl
 have SB : Hid ((fun w' : World => w'.cell? ⟨B1, 0, none⟩ = some (O ι a.xs.length) ∧ w'.cell? ⟨B1, 1, none⟩ = some (O ι x0) ∧ w'.cell? ⟨B1, 2, none⟩ = some (O ι x1) ∧ w'.cell? ⟨B1, 3, none⟩ = some (O ι x2) ∧ w'.cell? ⟨B1, 4, none⟩ = some (O ι x3) ∧ w'.cell? ⟨B1, 5, none⟩ = some (O ι s0') ∧ w'.cell? ⟨B1, 6, none⟩ = some (O ι s1) ∧ w'.cell? ⟨B1, 7, none⟩ = some (O ι s2) ∧ w'.cell? ⟨B1, 8, none⟩ = some (O ι s3) ∧ w'.cell? ⟨B1, 9, none⟩ = some (O ι a.off) ∧ w'.cell? ⟨B1, 10, none⟩ = some (O ι a.st) ∧ w'.cell? ⟨B1, 11, none⟩ = some (O ι dt) ∧ w'.cell? ⟨B1, 12, none⟩ = some (σ su nu cu) ∧ w'.cell? ⟨B2, 0, none⟩ = some (O ι no) ∧ w'.cell? ⟨B2, 1, none⟩ = some (O ι y0) ∧ w'.cell? ⟨B2, 2, none⟩ = some (O ι y1) ∧ w'.cell? ⟨B2, 3, none⟩ = some (O ι y2) ∧ w'.cell? ⟨B2, 4, none⟩ = some (O ι y3) ∧ w'.cell? ⟨B2, 5, none⟩ = some (O ι t0) ∧ w'.cell? ⟨B2, 6, none⟩ = some (O ι t1) ∧ w'.cell? ⟨B2, 7, none⟩ = some (O ι t2) ∧ w'.cell? ⟨B2, 8, none⟩ = some (O ι t3) ∧ w'.cell? ⟨B2, 9, none⟩ = some (O ι o.off) ∧ w'.cell? ⟨B2, 10, none⟩ = some (O ι o.st) ∧ w'.cell? ⟨B2, 11, none⟩ = some (O ι to) ∧ w'.cell? ⟨B2, 12, none⟩ = some (σ sq nq cq)) u1) := ⟨xx1.box (SA.out.1), xx1.box (SA.out.2.1), xx1.box (SA.out.2.2.1), xx1.box (SA.out.2.2.2.1), xx1.box (SA.out.2.2.2.2.1), xx1.box (SA.out.2.2.2.2.2.1), xx1.box (SA.out.2.2.2.2.2.2.1), xx1.box (SA.out.2.2.2.2.2.2.2.1), xx1.box (SA.out.2.2.2.2.2.2.2.2.1), xx1.box (SA.out.2.2.2.2.2.2.2.2.2.1), xx1.box (SA.out.2.2.2.2.2.2.2.2.2.2.1), xx1.box (SA.out.2.2.2.2.2.2.2.2.2.2.2.1), xx1.box (SA.out.2.2.2.2.2.2.2.2.2.2.2.2.1), xx1.box (SA.out.2.2.2.2.2.2.2.2.2.2.2.2.2.1), xx1.box (SA.out.2.2.2.2.2.2.2.2.2.2.2.2.2.2.1), xx1.box (SA.out.2.2.2.2.2.2.2.2.2.2.2.2.2.2.2.1), xx1.box (SA.out.2.2.2.2.2.2.2.2.2.2.2.2.2.2.2.2.1), xx1.box (SA.out.2.2.2.2.2.2.2.2.2.2.2.2.2.2.2.2.2.1), xx1.box (SA.out.2.2.2.2.2.2.2.2.2.2.2.2.2.2.2.2.2.2.1), xx1.box (SA.out.2.2.2.2.2.2.2.2.2.2.2.2.2.2.2.2.2.2.2.1), xx1.box (SA.out.2.2.2.2.2.2.2.2.2.2.2.2.2.2.2.2.2.2.2.2.1), xx1.box (SA.out.2.2.2.2.2.2.2.2.2.2.2.2.2.2.2.2.2.2.2.2.2.1), xx1.box (SA.out.2.2.2.2.2.2.2.2.2.2.2.2.2.2.2.2.2.2.2.2.2.2.1), xx1.box (SA.out.2.2.2.2.2.2.2.2.2.2.2.2.2.2.2.2.2.2.2.2.2.2.2.1), xx1.box (SA.out.2.2.2.2.2.2.2.2.2.2.2.2.2.2.2.2.2.2.2.2.2.2.2.2.1), xx1.box (SA.out.2.2.2.2.2.2.2.2.2.2.2.2.2.2.2.2.2.2.2.2.2.2.2.2.2)⟩
 refine hK.out _ _ (fun _ => SB.out) ?_
 clear hK K xx1 SA HAX
 try simp only [aP, sT, sZ, sS]
 have SA := hide SB.out
 clear SB
 refine ze (i := 11) (by kernel_rfl) rfl (fun K hK => ?_)
 go_simp
 refine (HCI.out _).mono ?_
 rintro e u2 ⟨rfl, rfl⟩
 refine hK.out _ _ (fun _ => SA.out) ?_
 clear hK K
 try simp only [aP, sT, sZ, sS]
 refine ze (i := 13) (by kernel_rfl) rfl (fun K hK => ?_)
 go_simp
 refine (HWC.out _).mono ?_
 rintro e u2 ⟨rfl, xx2⟩
 replace XB := hide (Bel.tr XB.out xx2)
 have SC : Hid ((fun w' : World => w'.cell? ⟨B1, 0, none⟩ = some (O ι a.xs.length) ∧ w'.cell? ⟨B1, 1, none⟩ = some (O ι x0) ∧ w'.cell? ⟨B1, 2, none⟩ = some (O ι x1) ∧ w'.cell? ⟨B1, 3, none⟩ = some (O ι x2) ∧ w'.cell? ⟨B1, 4, none⟩ = some (O ι x3) ∧ w'.cell? ⟨B1, 5, none⟩ = some (O ι s0') ∧ w'.cell? ⟨B1, 6, none⟩ = some (O ι s1) ∧ w'.cell? ⟨B1, 7, none⟩ = some (O ι s2) ∧ w'.cell? ⟨B1, 8, none⟩ = some (O ι s3) ∧ w'.cell? ⟨B1, 9, none⟩ = some (O ι a.off) ∧ w'.cell? ⟨B1, 10, none⟩ = some (O ι a.st) ∧ w'.cell? ⟨B1, 11, none⟩ = some (O ι dt) ∧ w'.cell? ⟨B1, 12, none⟩ = some (σ su nu cu) ∧ w'.cell? ⟨B2, 0, none⟩ = some (O ι no) ∧ w'.cell? ⟨B2, 1, none⟩ = some (O ι y0) ∧ w'.cell? ⟨B2, 2, none⟩ = some (O ι y1) ∧ w'.cell? ⟨B2, 3, none⟩ = some (O ι y2) ∧ w'.cell? ⟨B2, 4, none⟩ = some (O ι y3) ∧ w'.cell? ⟨B2, 5, none⟩ = some (O ι t0) ∧ w'.cell? ⟨B2, 6, none⟩ = some (O ι t1) ∧ w'.cell? ⟨B2, 7, none⟩ = some (O ι t2) ∧ w'.cell? ⟨B2, 8, none⟩ = some (O ι t3) ∧ w'.cell? ⟨B2, 9, none⟩ = some (O ι o.off) ∧ w'.cell? ⟨B2, 10, none⟩ = some (O ι o.st) ∧ w'.cell? ⟨B2, 11, none⟩ = some (O ι to) ∧ w'.cell? ⟨B2, 12, none⟩ = some (σ sq nq cq)) u2) := ⟨Bel.box xx2 (SA.out.1), Bel.box xx2 (SA.out.2.1), Bel.box xx2 (SA.out.2.2.1), Bel.box xx2 (SA.out.2.2.2.1), Bel.box xx2 (SA.out.2.2.2.2.1), Bel.box xx2 (SA.out.2.2.2.2.2.1), Bel.box xx2 (SA.out.2.2.2.2.2.2.1), Bel.box xx2 (SA.out.2.2.2.2.2.2.2.1), Bel.box xx2 (SA.out.2.2.2.2.2.2.2.2.1), Bel.box xx2 (SA.out.2.2.2.2.2.2.2.2.2.1), Bel.box xx2 (SA.out.2.2.2.2.2.2.2.2.2.2.1), Bel.box xx2 (SA.out.2.2.2.2.2.2.2.2.2.2.2.1), Bel.box xx2 (SA.out.2.2.2.2.2.2.2.2.2.2.2.2.1), Bel.box xx2 (SA.out.2.2.2.2.2.2.2.2.2.2.2.2.2.1), Bel.box xx2 (SA.out.2.2.2.2.2.2.2.2.2.2.2.2.2.2.1), Bel.box xx2 (SA.out.2.2.2.2.2.2.2.2.2.2.2.2.2.2.2.1), Bel.box xx2 (SA.out.2.2.2.2.2.2.2.2.2.2.2.2.2.2.2.2.1), Bel.box xx2 (SA.out.2.2.2.2.2.2.2.2.2.2.2.2.2.2.2.2.2.1), Bel.box xx2 (SA.out.2.2.2.2.2.2.2.2.2.2.2.2.2.2.2.2.2.2.1), Bel.box xx2 (SA.out.2.2.2.2.2.2.2.2.2.2.2.2.2.2.2.2.2.2.2.1), Bel.box xx2 (SA.out.2.2.2.2.2.2.2.2.2.2.2.2.2.2.2.2.2.2.2.2.1), Bel.box xx2 (SA.out.2.2.2.2.2.2.2.2.2.2.2.2.2.2.2.2.2.2.2.2.2.1), Bel.box xx2 (SA.out.2.2.2.2.2.2.2.2.2.2.2.2.2.2.2.2.2.2.2.2.2.2.1), Bel.box xx2 (SA.out.2.2.2.2.2.2.2.2.2.2.2.2.2.2.2.2.2.2.2.2.2.2.2.1), Bel.box xx2 (SA.out.2.2.2.2.2.2.2.2.2.2.2.2.2.2.2.2.2.2.2.2.2.2.2.2.1), Bel.box xx2 (SA.out.2.2.2.2.2.2.2.2.2.2.2.2.2.2.2.2.2.2.2.2.2.2.2.2.2)⟩
 refine hK.out _ _ (fun _ => SC.out) ?_
 clear hK K xx2 SA HWC
 try simp only [aP, sT, sZ, sS]
 have HC6 := hide (zh23 ax a.xs.length sh (dcWrV o.xs o.sv o.off) (castL 6 to 1))
 have HAL := hide (zb21 u2 (axC ax a.xs.length) k3 (wrC (dcWrV o.xs o.sv o.off) (castL 6 to 1)) 2)
 have hcode : Hid ((if ax < 0 ∨ (a.xs.length : Int) ≤ ax then 5 else if sh = true then (if (dcWrV o.xs o.sv o.off) = true then (if castL 6 to 1 = true then 0 else 10) else 9) else 6) = argC ss a ax o) := by
  show _ = _
  rw [hc5.out, HSH.out]
  unfold lastC
  simp only [decide_eq_true_eq, show ((dcWrV o.xs o.sv o.off) = true) = WrV o.xs o.sv o.off from decide_eq_true_eq]
 rw [hcode.out, ← HK3.out] at HC6
 generalize axC ax a.xs.length = k1 at HAL HC6 ⊢
 generalize wrC (dcWrV o.xs o.sv o.off) (castL 6 to 1) = k2 at HAL HC6 ⊢
 refine ze (i := 14) (by kernel_rfl) rfl (fun K hK => ?_)
 go_simp
 have xx3 : Ext u2 (u2.alloc (χ #[O ι k1, O ι k3, O ι k2] 2)) := (Ext.refl u2).alloc _ _
 have SD : Hid ((fun w' : World => w'.cell? ⟨B1, 0, none⟩ = some (O ι a.xs.length) ∧ w'.cell? ⟨B1, 1, none⟩ = some (O ι x0) ∧ w'.cell? ⟨B1, 2, none⟩ = some (O ι x1) ∧ w'.cell? ⟨B1, 3, none⟩ = some (O ι x2) ∧ w'.cell? ⟨B1, 4, none⟩ = some (O ι x3) ∧ w'.cell? ⟨B1, 5, none⟩ = some (O ι s0') ∧ w'.cell? ⟨B1, 6, none⟩ = some (O ι s1) ∧ w'.cell? ⟨B1, 7, none⟩ = some (O ι s2) ∧ w'.cell? ⟨B1, 8, none⟩ = some (O ι s3) ∧ w'.cell? ⟨B1, 9, none⟩ = some (O ι a.off) ∧ w'.cell? ⟨B1, 10, none⟩ = some (O ι a.st) ∧ w'.cell? ⟨B1, 11, none⟩ = some (O ι dt) ∧ w'.cell? ⟨B1, 12, none⟩ = some (σ su nu cu) ∧ w'.cell? ⟨B2, 0, none⟩ = some (O ι no) ∧ w'.cell? ⟨B2, 1, none⟩ = some (O ι y0) ∧ w'.cell? ⟨B2, 2, none⟩ = some (O ι y1) ∧ w'.cell? ⟨B2, 3, none⟩ = some (O ι y2) ∧ w'.cell? ⟨B2, 4, none⟩ = some (O ι y3) ∧ w'.cell? ⟨B2, 5, none⟩ = some (O ι t0) ∧ w'.cell? ⟨B2, 6, none⟩ = some (O ι t1) ∧ w'.cell? ⟨B2, 7, none⟩ = some (O ι t2) ∧ w'.cell? ⟨B2, 8, none⟩ = some (O ι t3) ∧ w'.cell? ⟨B2, 9, none⟩ = some (O ι o.off) ∧ w'.cell? ⟨B2, 10, none⟩ = some (O ι o.st) ∧ w'.cell? ⟨B2, 11, none⟩ = some (O ι to) ∧ w'.cell? ⟨B2, 12, none⟩ = some (σ sq nq cq)) (u2.alloc (χ #[O ι k1, O ι k3, O ι k2] 2))) := ⟨xx3.box (SC.out.1), xx3.box (SC.out.2.1), xx3.box (SC.out.2.2.1), xx3.box (SC.out.2.2.2.1), xx3.box (SC.out.2.2.2.2.1), xx3.box (SC.out.2.2.2.2.2.1), xx3.box (SC.out.2.2.2.2.2.2.1), xx3.box (SC.out.2.2.2.2.2.2.2.1), xx3.box (SC.out.2.2.2.2.2.2.2.2.1), xx3.box (SC.out.2.2.2.2.2.2.2.2.2.1), xx3.box (SC.out.2.2.2.2.2.2.2.2.2.2.1), xx3.box (SC.out.2.2.2.2.2.2.2.2.2.2.2.1), xx3.box (SC.out.2.2.2.2.2.2.2.2.2.2.2.2.1), xx3.box (SC.out.2.2.2.2.2.2.2.2.2.2.2.2.2.1), xx3.box (SC.out.2.2.2.2.2.2.2.2.2.2.2.2.2.2.1), xx3.box (SC.out.2.2.2.2.2.2.2.2.2.2.2.2.2.2.2.1), xx3.box (SC.out.2.2.2.2.2.2.2.2.2.2.2.2.2.2.2.2.1), xx3.box (SC.out.2.2.2.2.2.2.2.2.2.2.2.2.2.2.2.2.2.1), xx3.box (SC.out.2.2.2.2.2.2.2.2.2.2.2.2.2.2.2.2.2.2.1), xx3.box (SC.out.2.2.2.2.2.2.2.2.2.2.2.2.2.2.2.2.2.2.2.1), xx3.box (SC.out.2.2.2.2.2.2.2.2.2.2.2.2.2.2.2.2.2.2.2.2.1), xx3.box (SC.out.2.2.2.2.2.2.2.2.2.2.2.2.2.2.2.2.2.2.2.2.2.1), xx3.box (SC.out.2.2.2.2.2.2.2.2.2.2.2.2.2.2.2.2.2.2.2.2.2.2.1), xx3.box (SC.out.2.2.2.2.2.2.2.2.2.2.2.2.2.2.2.2.2.2.2.2.2.2.2.1), xx3.box (SC.out.2.2.2.2.2.2.2.2.2.2.2.2.2.2.2.2.2.2.2.2.2.2.2.2.1), xx3.box (SC.out.2.2.2.2.2.2.2.2.2.2.2.2.2.2.2.2.2.2.2.2.2.2.2.2.2)⟩
 refine hK.out _ _ (fun _ => SD.out) ?_
 clear hK K SC
 replace XB := hide (Bel.tr XB.out xx3.bl)
 clear xx3
 try simp only [aP, sT, sZ, sS]
 refine ze (i := 15) (by kernel_rfl) rfl (fun K hK => ?_)
 go_simp
 refine (zf2 (cap := 3) HAL.out (by simp)).mono ?_
 rintro e t4 ⟨rfl, rfl⟩
 rw [HC6.out]
 refine hK.out _ _ (fun _ => SD.out) ?_
 clear hK K
 try simp only [aP, sT, sZ, sS]
 refine zl27 16 10 (O ι (argC ss a ax o)) rfl (.inl ⟨by kernel_rfl, ?_⟩) SD.out ?_
 ·rintro w' ⟨z0, z1, z2, z3, z4, z5, z6, z7, z8, z9, z10, z11, z12, z13, z14, z15, z16, z17, z18, z19, z20, z21, z22, z23, z24, z25⟩
  go_simp
 simp only [aP, sT, sZ, sS]
 refine zg (by kernel_rfl) ?_ _
 refine ⟨rfl, ?_⟩
 generalize u2.alloc (χ #[O ι k1, O ι k3, O ι k2] 2) = T at SD XB ⊢
 have HBT := hide (HB9.out.keep XB.out)
 have HUT := hide (HUA9.out.keep XB.out)
 have b0 := HBT.out.h
 have a0 := HBT.out.a 0 _ rfl
 have a1 := HBT.out.a 1 _ rfl
 have a2 := HBT.out.a 2 _ rfl
 have a3 := HBT.out.a 3 _ rfl
 have o0 := HBT.out.o 0 _ rfl
 have o1 := HBT.out.o 1 _ rfl
 have o2 := HBT.out.o 2 _ rfl
 have o3 := HBT.out.o 3 _ rfl
 have r0 := HBT.out.r0
 have r1 := HBT.out.r1
 have f0 := HBT.out.fz 0
 have f1 := HBT.out.fz 1
 have ca0 := SD.out.1
 have ca1 := SD.out.2.1
 have ca2 := SD.out.2.2.1
 have ca3 := SD.out.2.2.2.1
 have ca4 := SD.out.2.2.2.2.1
 have ca5 := SD.out.2.2.2.2.2.1
 have ca6 := SD.out.2.2.2.2.2.2.1
 have ca7 := SD.out.2.2.2.2.2.2.2.1
 have ca8 := SD.out.2.2.2.2.2.2.2.2.1
 have ca9 := SD.out.2.2.2.2.2.2.2.2.2.1
 have ca10 := SD.out.2.2.2.2.2.2.2.2.2.2.1
 have ca11 := SD.out.2.2.2.2.2.2.2.2.2.2.2.1
 have ca12 := SD.out.2.2.2.2.2.2.2.2.2.2.2.2.1
 have co0 := SD.out.2.2.2.2.2.2.2.2.2.2.2.2.2.1
 have co1 := SD.out.2.2.2.2.2.2.2.2.2.2.2.2.2.2.1
 have co2 := SD.out.2.2.2.2.2.2.2.2.2.2.2.2.2.2.2.1
 have co3 := SD.out.2.2.2.2.2.2.2.2.2.2.2.2.2.2.2.2.1
 have co4 := SD.out.2.2.2.2.2.2.2.2.2.2.2.2.2.2.2.2.2.1
 have co5 := SD.out.2.2.2.2.2.2.2.2.2.2.2.2.2.2.2.2.2.2.1
 have co6 := SD.out.2.2.2.2.2.2.2.2.2.2.2.2.2.2.2.2.2.2.2.1
 have co7 := SD.out.2.2.2.2.2.2.2.2.2.2.2.2.2.2.2.2.2.2.2.2.1
 have co8 := SD.out.2.2.2.2.2.2.2.2.2.2.2.2.2.2.2.2.2.2.2.2.2.1
 have co9 := SD.out.2.2.2.2.2.2.2.2.2.2.2.2.2.2.2.2.2.2.2.2.2.2.1
 have co10 := SD.out.2.2.2.2.2.2.2.2.2.2.2.2.2.2.2.2.2.2.2.2.2.2.2.1
 have co11 := SD.out.2.2.2.2.2.2.2.2.2.2.2.2.2.2.2.2.2.2.2.2.2.2.2.2.1
 have co12 := SD.out.2.2.2.2.2.2.2.2.2.2.2.2.2.2.2.2.2.2.2.2.2.2.2.2.2
 clear HAL HC6 SD XB HB9 HUA9
 generalize hsc : argC ss a ax o = sc at hc5 ⊢
 by_cases hs0 : sc ≠ 0
 ·have hne : (sc == 0) = false := by rw [beq_eq_false_iff_ne]; exact hs0
  have hok := hide hsc.symm
  clear hsc hc5 hcode HHB
  go_wp2
  refine bodyPost_ret (v := γ #[O ι sc, σ none 0 0]) (by simp [results, Tryz.results22, go_sem, r0, r1]) rfl ⟨sc, _, [], rfl, ⟨hok.out, .inl ⟨hs0, rfl⟩⟩, .inl ⟨rfl, rfl⟩, by (first | exact (HBT.out.bl.setCell (p := ⟨w.heap.size + 1 + 1 + 1, 0, none⟩) (by show _ ≤ w.heap.size + 1 + 1 + 1; omega) _).setCell (p := ⟨w.heap.size + 1 + 1 + 1, 1, none⟩) (by show _ ≤ w.heap.size + 1 + 1 + 1; omega) _ | exact HBT.out.bl.setCell (p := ⟨w.heap.size + 1 + 1 + 1, 0, none⟩) (by show _ ≤ w.heap.size + 1 + 1 + 1; omega) _)⟩
 have hs00 : sc = 0 := by omega
 subst hs00
 go_wp2_with fail
 refine (zg13 T dt).mono ?_
 rintro e T2 ⟨rfl, hD2, y5⟩
 have x6 : Ext T2 (T2.alloc (χ #[.func (.func 97) #[] #[π (some ⟨T.heap.size, 0, none⟩)]] 109)) := (Ext.refl T2).alloc _ _
 have HB6 := hide (HBT.out.keep (y5.trans x6).bl)
 have HU6 := hide (HUT.out.keep (y5.trans x6).bl)
 have HD6 := hide (x6.box hD2)
 have HO6 := hide (zd T2 #[.func (.func 97) #[] #[π (some ⟨T.heap.size, 0, none⟩)]] 109 T2.heap.size rfl 0)
 have yx := y5.trans x6
 replace ca0 := yx.box ca0
 replace ca1 := yx.box ca1
 replace ca2 := yx.box ca2
 replace ca3 := yx.box ca3
 replace ca4 := yx.box ca4
 replace ca5 := yx.box ca5
 replace ca6 := yx.box ca6
 replace ca7 := yx.box ca7
 replace ca8 := yx.box ca8
 replace ca9 := yx.box ca9
 replace ca10 := yx.box ca10
 replace ca11 := yx.box ca11
 replace ca12 := yx.box ca12
 replace co0 := yx.box co0
 replace co1 := yx.box co1
 replace co2 := yx.box co2
 replace co3 := yx.box co3
 replace co4 := yx.box co4
 replace co5 := yx.box co5
 replace co6 := yx.box co6
 replace co7 := yx.box co7
 replace co8 := yx.box co8
 replace co9 := yx.box co9
 replace co10 := yx.box co10
 replace co11 := yx.box co11
 replace co12 := yx.box co12
 clear hD2 y5 x6 yx HBT HUT b0 a0 a1 a2 a3 o0 o1 o2 o3 r0 r1 f0 f1
 have b0 := HB6.out.h
 have a0 := HB6.out.a 0 _ rfl
 have a1 := HB6.out.a 1 _ rfl
 have a2 := HB6.out.a 2 _ rfl
 have a3 := HB6.out.a 3 _ rfl
 have o0 := HB6.out.o 0 _ rfl
 have o1 := HB6.out.o 1 _ rfl
 have o2 := HB6.out.o 2 _ rfl
 have o3 := HB6.out.o 3 _ rfl
 have r0 := HB6.out.r0
 have r1 := HB6.out.r1
 have f0 := HB6.out.fz 0
 have f1 := HB6.out.fz 1
 obtain ⟨hxr, hxe, hlz⟩ : ¬ (ax < 0 ∨ (a.xs.length : Int) ≤ ax) ∧ a.xs = o.xs ∧ lastC o.xs o.sv o.off 6 to = 0 := by
  have q := hc5.out
  by_cases z : ax < 0 ∨ (a.xs.length : Int) ≤ ax
  ·rw [if_pos z] at q; omega
  ·rw [if_neg z] at q
   by_cases z2 : a.xs = o.xs
   ·rw [if_pos z2] at q; exact ⟨z, z2, q.symm⟩
   ·rw [if_neg z2] at q; omega
 obtain ⟨hw, _, hto⟩ := zh11 hlz
 obtain ⟨rfl, rfl, rfl, rfl, rfl⟩ := HXY.out hxe
 obtain ⟨m, hm⟩ : ∃ m : Nat, ax = (m : Int) := ⟨ax.toNat, by omega⟩
 subst hm
 have hml : m < a.xs.length := by omega
 have hga := HGA.out
 have hgo := HGO.out
 have hgn := zy hga.2.1.1
 have hKb := zd2 hgn m hml
 obtain ⟨K, hKe⟩ : ∃ K : Nat, K = (a.xs.getD m 0).toNat := ⟨_, rfl⟩
 have hKK : a.xs.getD m 0 = (K : Int) := by omega
 have hrl : (a.rd ss).length = (offsL a.xs a.sv a.off).length := by unfold Ar.rd readL; rw [List.length_map]
 have hRK : plen a.xs = plen (a.xs.eraseIdx m) * K := by rw [zt2 m a.xs hml, hKe]
 have hpp := zw (fun n hn => (hgn n hn).1)
 have hcnt := zx hga.2.1
 have hcno := zx hgo.2.1
 rw [← hxe] at hcno
 have hzj : ∀ j, j < (a.rd ss).length → (ZL (idxO dt K) ((offsL (mvL m a.xs) (mvL m a.sv) a.off).map fun p => (ss.getD a.st.toNat s0).2.getD p.toNat k0) K (plen (a.xs.eraseIdx m))).getD j k0 = (ordQ dt (a.rd ss) a.xs m (kapJ m a.xs j), 0, 0) ∧ I64 (ordQ dt (a.rd ss) a.xs m (kapJ m a.xs j)) := fun j hj => by
  have hz : prod a.xs ≠ 0 := fun e => by
   rw [e] at hcnt
   have : (0 : Int).toNat = 0 := rfl
   omega
  have hp : ∀ n ∈ a.xs, 1 ≤ n := fun n hn => (zg1 hga.2.1.1 hz n hn).1
  have hKp := zm20 hp hml
  rw [za27 _ _ (by omega)]
  unfold idxO
  rw [hKe, zf26 hga hml hz dt hj]
  refine ⟨rfl, ?_⟩
  have b := zh13 (laneC (a.rd ss) a.xs m (kapJ m a.xs j)) dt hKp (a.xs.getD m 0).toNat (Nat.le_refl _) ((idxL a.xs (kapJ m a.xs j)).getD m 0).toNat
  unfold I64 ordQ
  omega
 have hokc : ∀ p ∈ offsL a.xs a.sv a.off, OkC dt ((ss.getD a.st.toNat s0).2.getD p.toNat k0) := fun p hp => by
  obtain ⟨j, hj, e⟩ := List.getElem_of_mem hp
  have q := HOK.out j (by omega)
  unfold Ar.rd readL at q
  rw [zh19 hj, List.getD_eq_getElem?_getD (l := offsL a.xs a.sv a.off), List.getElem?_eq_getElem hj, Option.getD_some, e] at q
  exact q
 have hyj : ∀ j, j < plen (a.xs.eraseIdx m) * K → ((ZL (idxO dt K) ((offsL (mvL m a.xs) (mvL m a.sv) a.off).map fun p => (ss.getD a.st.toNat s0).2.getD p.toNat k0) K (plen (a.xs.eraseIdx m))).map fun c => cvI to c.1).getD j k0 = cvI to (ordQ dt (a.rd ss) a.xs m (kapJ m a.xs j)) := fun j hj => by
  have q := hzj j (by omega)
  have hjl : j < (ZL (idxO dt K) ((offsL (mvL m a.xs) (mvL m a.sv) a.off).map fun p => (ss.getD a.st.toNat s0).2.getD p.toNat k0) K (plen (a.xs.eraseIdx m))).length := by rw [zd5]; exact hj
  have q1 := q.1
  rw [List.getD_eq_getElem?_getD, List.getElem?_eq_getElem hjl, Option.getD_some] at q1
  rw [List.getD_eq_getElem?_getD, List.getElem?_map, List.getElem?_eq_getElem hjl, Option.map_some, Option.getD_some, q1]
 have HC := hide (HHB.out _ m K hxe hml hKK (HH.out.keep HB6.out.bl) (by rw [← HNU.out] at HU6; exact HU6.out) ((ZL (idxO dt K) ((offsL (mvL m a.xs) (mvL m a.sv) a.off).map fun p => (ss.getD a.st.toNat s0).2.getD p.toNat k0) K (plen (a.xs.eraseIdx m))).map fun c => cvI to c.1) T2.heap.size T.heap.size HO6.out HD6.out (by omega) (fun j hj W => by
  have q := hzj j (by omega)
  rw [q.1, hyj j hj]
  exact zt26 q.2 hto W) hokc)
 have HPUT : Hid (ArgOk ss a (m : Int) o 0 (putT ss o.st.toNat (offsL (mvL m a.xs) (mvL m o.sv) o.off) ((ZL (idxO dt K) ((offsL (mvL m a.xs) (mvL m a.sv) a.off).map fun p => (ss.getD a.st.toNat s0).2.getD p.toNat k0) K (plen (a.xs.eraseIdx m))).map fun c => cvI to c.1) (offsL (mvL m a.xs) (mvL m o.sv) o.off).length)) := by
  refine ⟨hsc.symm, Or.inr ⟨rfl, ?_⟩⟩
  have P := zc26 (Z := (ZL (idxO dt K) ((offsL (mvL m a.xs) (mvL m a.sv) a.off).map fun p => (ss.getD a.st.toNat s0).2.getD p.toNat k0) K (plen (a.xs.eraseIdx m))).map fun c => cvI to c.1) (ax := m) (Y := fun q => cvI (o.dt ss) (ordQ (a.dt ss) (a.rd ss) a.xs (m : Int).toNat q)) hgo (by rw [← hxe]; exact hml) hw (by rw [List.length_map, zd5]; show _ = (offsL o.xs o.sv o.off).length; rw [← hxe]; omega) fun j hj => by
   rw [List.length_map, zd5] at hj
   have q := hzj j (by omega)
   rw [hyj j hj, Int.toNat_natCast, ← HDT.out, ← HTO.out, ← hxe]
   exact ⟨C3.Sm.refl _, zy22 q.2 hto⟩
  rw [← hxe] at P
  exact P
 have hs6 := HB6.out.sz
 clear hzj hyj hokc hcnt hcno hpp hRK hrl hKK hKe hKb hgn hga hgo hw hto hlz hxr hxe hsc hc5 hcode HHB HO6 HD6 hs0 hdt hnu HXY HSH
 generalize offsL (mvL m a.xs) (mvL m o.sv) o.off = OL at HC HPUT
 go_wp2_with fail
 refine (callsIn_wide.1 HC.out).mono ?_
 rintro e T4 ⟨g4, cb4, rfl, hO4, hB4⟩
 have HB7 := hide (HB6.out.keep hB4)
 have HO4 := hide hO4
 clear hO4 hB4 HC b0 a0 a1 a2 a3 o0 o1 o2 o3 r0 r1 f0 f1 ca0 ca1 ca2 ca3 ca4 ca5 ca6 ca7 ca8 ca9 ca10 ca11 ca12 co0 co1 co2 co3 co4 co5 co6 co7 co8 co9 co10 co11 co12
 have b0 := HB7.out.h
 have a0 := HB7.out.a 0 _ rfl
 have a1 := HB7.out.a 1 _ rfl
 have a2 := HB7.out.a 2 _ rfl
 have a3 := HB7.out.a 3 _ rfl
 have o0 := HB7.out.o 0 _ rfl
 have o1 := HB7.out.o 1 _ rfl
 have o2 := HB7.out.o 2 _ rfl
 have o3 := HB7.out.o 3 _ rfl
 have r0 := HB7.out.r0
 have r1 := HB7.out.r1
 have f0 := HB7.out.fz 0
 have f1 := HB7.out.fz 1
 go_wp2
 refine bodyPost_ret (v := γ #[O ι 0, σ (some ⟨g4, 0, none⟩) ss.length ss.length]) (by simp [results, Tryz.results22, go_sem, r0, r1]) rfl ⟨0, _, _, rfl, HPUT.out, Or.inr ⟨g4, ss.length, cb4, by rw [zo], ?_⟩, by (first | exact (HB7.out.bl.setCell (p := ⟨w.heap.size + 1 + 1 + 1, 0, none⟩) (by show _ ≤ w.heap.size + 1 + 1 + 1; omega) _).setCell (p := ⟨w.heap.size + 1 + 1 + 1, 1, none⟩) (by show _ ≤ w.heap.size + 1 + 1 + 1; omega) _ | exact HB7.out.bl.setCell (p := ⟨w.heap.size + 1 + 1 + 1, 0, none⟩) (by show _ ≤ w.heap.size + 1 + 1 + 1; omega) _)⟩
 refine HOwn.lower (lo := (T2.alloc (χ #[.func (.func 97) #[] #[π (some ⟨T.heap.size, 0, none⟩)]] 109)).heap.size) ?_ (by omega)
 first
  | exact (HO4.out.low (by omega)).low (by omega)
  | exact HO4.out.low (by omega)
end Go.Proofs.YtfhcpicddegblaaGreat
