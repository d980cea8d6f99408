import Derived.Test.YtfhcpicddegblaaGreatM6
import Derived.Test.YtfhcpicddegblaaGreatM7
import Derived.Test.YtfhcpicddegblaaGreatM7
import Derived.BigRegion
namespace Go.Proofs.YtfhcpicddegblaaGreat
open List renaming setIfInBounds_toArray → sT, set_cons_zero → sZ, set_cons_succ → sS
open Go.Value renaming int → O, slice → σ, pointer → π, agg → γ
open Go.IntKind renaming i64 → ι
open Go.Obj renaming cells → χ
open Go.Act renaming put → aP
set_option maxRecDepth 100000
set_option maxHeartbeats 8000000
open Go.RowKit Go.ChangeShapes
set_option linter.unusedSimpArgs false
set_option linter.unusedVariables false
theorem AtB.set1 {W : World} {B j : Nat} {L : List Value} (h : AtB W B L) (hj : j < L.length) (v : Value) : AtB (W.setCell ⟨B, j, none⟩ v) B (L.set j v) := fun i y hy => by
 by_cases e : i = j
 ·subst e
  rw [List.getElem?_set_self hj] at hy
  have q := h i _ (List.getElem?_eq_getElem hj)
  cases hy
  exact World.cell?_setCell_same _ _ _ q
 ·rw [List.getElem?_set_ne (Ne.symm e)] at hy
  exact ze1 (Ne.symm e) (h i y hy)
theorem Ext.fresh {w W : World} (x : Ext w W) {B : Nat} (hB : w.heap.size ≤ B) (j : Nat) (v : Value) : Ext w (W.setCell ⟨B, j, none⟩ v) := ((Mut.refl B W).setCell j v).ext x hB
theorem AtB.other {W : World} {B C j : Nat} {L : List Value} (h : AtB W C L) (hne : C ≠ B) (v : Value) : AtB (W.setCell ⟨B, j, none⟩ v) C L := fun i y hy => (World.cell?_of_block (w := W) (a := ⟨C, i, none⟩) (Below.heap_setCell _ _ _ _ hne)).trans (h i y hy)
theorem zz14 (w : World) (a0 a1 a2 a3 s0 s1 s2 s3 off : Int) :
  Calls Tryz.prog 83 #[γ #[O ι 1, O ι a0, O ι a1, O ι a2, O ι a3, O ι s0, O ι s1, O ι s2, O ι s3, O ι off], O ι 0] w fun e w' => e = .returned (γ #[O ι 1, O ι a0, O ι a1, O ι a2, O ι a3, O ι s0, O ι s1, O ι s2, O ι s3, O ι off]) ∧ Ext w w' := by
 have x0 : Ext w ((w.alloc (χ #[O ι 1, O ι a0, O ι a1, O ι a2, O ι a3, O ι s0, O ι s1, O ι s2, O ι s3, O ι off] 83)).alloc (χ #[O ι 0, O ι 0, O ι 0, O ι 0, O ι 0, O ι 0, O ι 0, O ι 0, O ι 0, O ι 0] 83)) := ((Ext.refl w).alloc _ _).alloc _ _
 have x1 : Ext (w.alloc (χ #[O ι 1, O ι a0, O ι a1, O ι a2, O ι a3, O ι s0, O ι s1, O ι s2, O ι s3, O ι off] 83)) ((w.alloc (χ #[O ι 1, O ι a0, O ι a1, O ι a2, O ι a3, O ι s0, O ι s1, O ι s2, O ι s3, O ι off] 83)).alloc (χ #[O ι 0, O ι 0, O ι 0, O ι 0, O ι 0, O ι 0, O ι 0, O ι 0, O ι 0, O ι 0] 83)) := (Ext.refl _).alloc _ _
 have A0 : AtB ((w.alloc (χ #[O ι 1, O ι a0, O ι a1, O ι a2, O ι a3, O ι s0, O ι s1, O ι s2, O ι s3, O ι off] 83)).alloc (χ #[O ι 0, O ι 0, O ι 0, O ι 0, O ι 0, O ι 0, O ι 0, O ι 0, O ι 0, O ι 0] 83)) w.heap.size [O ι 1, O ι a0, O ι a1, O ι a2, O ι a3, O ι s0, O ι s1, O ι s2, O ι s3, O ι off] := fun j x hx => x1.box ((zd w _ 83 _ rfl j).trans (by simpa using hx))
 have Z0 : AtB ((w.alloc (χ #[O ι 1, O ι a0, O ι a1, O ι a2, O ι a3, O ι s0, O ι s1, O ι s2, O ι s3, O ι off] 83)).alloc (χ #[O ι 0, O ι 0, O ι 0, O ι 0, O ι 0, O ι 0, O ι 0, O ι 0, O ι 0, O ι 0] 83)) (w.heap.size + 1) [O ι 0, O ι 0, O ι 0, O ι 0, O ι 0, O ι 0, O ι 0, O ι 0, O ι 0, O ι 0] := fun j x hx => (zd _ _ 83 _ (by simp) j).trans (by simpa using hx)
 have HA := hide A0
 have HZ := hide Z0
 have HX := hide x0
 clear x0 x1 A0 Z0
 go_enter Tryz.func83, Tryz.ntmps83
 go_wp2_with fail
 generalize (w.alloc (χ #[O ι 1, O ι a0, O ι a1, O ι a2, O ι a3, O ι s0, O ι s1, O ι s2, O ι s3, O ι off] 83)).alloc (χ #[O ι 0, O ι 0, O ι 0, O ι 0, O ι 0, O ι 0, O ι 0, O ι 0, O ι 0, O ι 0] 83) = W0 at HA HZ HX ⊢
 have c0 : (_ : Option Value) = some (O ι 1) := HA.out 0 _ rfl
 have c1 : (_ : Option Value) = some (O ι a0) := HA.out 1 _ rfl
 have c2 : (_ : Option Value) = some (O ι a1) := HA.out 2 _ rfl
 have c3 : (_ : Option Value) = some (O ι a2) := HA.out 3 _ rfl
 have c4 : (_ : Option Value) = some (O ι a3) := HA.out 4 _ rfl
 have c5 : (_ : Option Value) = some (O ι s0) := HA.out 5 _ rfl
 have c6 : (_ : Option Value) = some (O ι s1) := HA.out 6 _ rfl
 have c7 : (_ : Option Value) = some (O ι s2) := HA.out 7 _ rfl
 have c8 : (_ : Option Value) = some (O ι s3) := HA.out 8 _ rfl
 have c9 : (_ : Option Value) = some (O ι off) := HA.out 9 _ rfl
 go_region
 go_wp2_with fail
 replace HX := hide (HX.out.trans (Ext.refl W0).drew)
 replace HA := hide (HA.out.keep (Ext.refl W0).drew.bl)
 replace HZ := hide (HZ.out.keep (Ext.refl W0).drew.bl)
 clear c0 c1 c2 c3 c4 c5 c6 c7 c8 c9
 try generalize W0.drew = W1 at HA HZ HX ⊢
 have SA : Hid ((fun _ : World => True) W1.drew) := trivial
 refine zq (fun ac a' w' => a' = (((((((((((ac.put (some 21) (π (some ⟨w.heap.size, 0, none⟩))).put (some 22) (π (some ⟨w.heap.size, 1, none⟩))).put (some 23) (O ι 0)).put (some 24) (O ι 0)).put (some 25) (σ (some ⟨w.heap.size, 1, none⟩) 0 4)).put (some 26) (π (some ⟨w.heap.size, 0, none⟩))).put (some 27) (π (some ⟨w.heap.size, 1, none⟩))).put (some 28) (O ι 0)).put (some 29) (O ι 1)).put (some 30) (σ (some ⟨w.heap.size, 2, none⟩) 3 3)).put (some 31) (O ι 0)) ∧ Ext w w' ∧ AtB w' w.heap.size [O ι 1, O ι a0, O ι a1, O ι a2, O ι a3, O ι s0, O ι s1, O ι s2, O ι s3, O ι off] ∧ AtB w' (w.heap.size + 1) [O ι 0, O ι 0, O ι 0, O ι 0, O ι 0, O ι 0, O ι 0, O ι 0, O ι 0, O ι 0]) (S := (fun _ : World => True)) (late := []) (by kernel_rfl) ?_ ?_
 rotate_left
 ·replace HX := hide (HX.out.trans (Ext.refl W1).drew)
  replace HA := hide (HA.out.keep (Ext.refl W1).drew.bl)
  replace HZ := hide (HZ.out.keep (Ext.refl W1).drew.bl)
  generalize W1.drew = t0 at HA HZ HX SA ⊢
  refine zl27 0 21 (π (some ⟨w.heap.size, 0, none⟩)) rfl (.inl ⟨by kernel_rfl, ?_⟩) SA.out ?_
  ·intro w' z0
   go_simp
   try rfl
  simp only [aP, sT, sZ, sS]
  refine zl27 1 22 (π (some ⟨w.heap.size, 1, none⟩)) rfl (.inl ⟨by kernel_rfl, ?_⟩) SA.out ?_
  ·intro w' z0
   go_simp
   try rfl
  simp only [aP, sT, sZ, sS]
  refine zl27 2 23 (O ι 0) rfl (.inl ⟨by kernel_rfl, ?_⟩) SA.out ?_
  ·intro w' z0
   go_simp
   try rfl
  simp only [aP, sT, sZ, sS]
  refine zl27 3 24 (O ι 0) rfl (.inl ⟨by kernel_rfl, ?_⟩) SA.out ?_
  ·intro w' z0
   go_simp
   try rfl
  simp only [aP, sT, sZ, sS]
  refine zl27 4 25 (σ (some ⟨w.heap.size, 1, none⟩) 0 4) rfl (.inl ⟨by kernel_rfl, ?_⟩) SA.out ?_
  ·intro w' z0
   go_simp
   try rfl
  simp only [aP, sT, sZ, sS]
  refine zl27 5 26 (π (some ⟨w.heap.size, 0, none⟩)) rfl (.inl ⟨by kernel_rfl, ?_⟩) SA.out ?_
  ·intro w' z0
   go_simp
   try rfl
  simp only [aP, sT, sZ, sS]
  refine zl27 6 27 (π (some ⟨w.heap.size, 1, none⟩)) rfl (.inl ⟨by kernel_rfl, ?_⟩) SA.out ?_
  ·intro w' z0
   go_simp
   try rfl
  simp only [aP, sT, sZ, sS]
  refine zl27 7 28 (O ι 0) rfl (.inl ⟨by kernel_rfl, ?_⟩) SA.out ?_
  ·intro w' z0
   go_simp
   try rfl
  simp only [aP, sT, sZ, sS]
  refine zl27 8 29 (O ι 1) rfl (.inl ⟨by kernel_rfl, ?_⟩) SA.out ?_
  ·intro w' z0
   go_simp
   try rfl
  simp only [aP, sT, sZ, sS]
  refine zl27 9 30 (σ (some ⟨w.heap.size, 2, none⟩) 3 3) rfl (.inl ⟨by kernel_rfl, ?_⟩) SA.out ?_
  ·intro w' z0
   go_simp
   try rfl
  simp only [aP, sT, sZ, sS]
  have hcp := run_copy_none (P := Tryz.prog) t0 25 25 3 2 (some ⟨w.heap.size, 1, none⟩) (some ⟨w.heap.size, 2, none⟩) 0 4 3 3 Tryz.underlying25 zz2 rfl
  refine ze (i := 10) (by kernel_rfl) rfl (fun K hK => ?_)
  go_simp
  refine hK.out _ _ (fun _ => trivial) ?_
  clear hK K
  try simp only [aP, sT, sZ, sS]
  refine zg (by kernel_rfl) ?_ _
  exact ⟨rfl, by kernel_rfl, HX.out, HA.out, HZ.out⟩
 rintro a' W2 ⟨rfl, hx, ha, hz⟩
 replace HX := hide hx
 replace HA := hide ha
 replace HZ := hide hz
 clear hx ha hz SA
 simp only [aP, sT, sZ, sS]
 go_wp2_with fail
 have SA : Hid ((fun _ : World => True) W2.drew) := trivial
 refine zq (fun ac a' w' => a' = (((((((((ac.put (some 32) (π (some ⟨w.heap.size, 5, none⟩))).put (some 33) (O ι 0)).put (some 34) (O ι 0)).put (some 35) (σ (some ⟨w.heap.size, 5, none⟩) 0 4)).put (some 36) (π (some ⟨w.heap.size, 5, none⟩))).put (some 37) (O ι 0)).put (some 38) (O ι 1)).put (some 39) (σ (some ⟨w.heap.size, 6, none⟩) 3 3)).put (some 40) (O ι 0)) ∧ Ext w w' ∧ AtB w' w.heap.size [O ι 1, O ι a0, O ι a1, O ι a2, O ι a3, O ι s0, O ι s1, O ι s2, O ι s3, O ι off] ∧ AtB w' (w.heap.size + 1) [O ι 0, O ι 0, O ι 0, O ι 0, O ι 0, O ι 0, O ι 0, O ι 0, O ι 0, O ι 0]) (S := (fun _ : World => True)) (late := []) (by kernel_rfl) ?_ ?_
 rotate_left
 ·replace HX := hide (HX.out.trans (Ext.refl W2).drew)
  replace HA := hide (HA.out.keep (Ext.refl W2).drew.bl)
  replace HZ := hide (HZ.out.keep (Ext.refl W2).drew.bl)
  generalize W2.drew = t0 at HA HZ HX SA ⊢
  refine zl27 0 32 (π (some ⟨w.heap.size, 5, none⟩)) rfl (.inl ⟨by kernel_rfl, ?_⟩) SA.out ?_
  ·intro w' z0
   go_simp
   try rfl
  simp only [aP, sT, sZ, sS]
  refine zl27 1 33 (O ι 0) rfl (.inl ⟨by kernel_rfl, ?_⟩) SA.out ?_
  ·intro w' z0
   go_simp
   try rfl
  simp only [aP, sT, sZ, sS]
  refine zl27 2 34 (O ι 0) rfl (.inl ⟨by kernel_rfl, ?_⟩) SA.out ?_
  ·intro w' z0
   go_simp
   try rfl
  simp only [aP, sT, sZ, sS]
  refine zl27 3 35 (σ (some ⟨w.heap.size, 5, none⟩) 0 4) rfl (.inl ⟨by kernel_rfl, ?_⟩) SA.out ?_
  ·intro w' z0
   go_simp
   try rfl
  simp only [aP, sT, sZ, sS]
  refine zl27 4 36 (π (some ⟨w.heap.size, 5, none⟩)) rfl (.inl ⟨by kernel_rfl, ?_⟩) SA.out ?_
  ·intro w' z0
   go_simp
   try rfl
  simp only [aP, sT, sZ, sS]
  refine zl27 5 37 (O ι 0) rfl (.inl ⟨by kernel_rfl, ?_⟩) SA.out ?_
  ·intro w' z0
   go_simp
   try rfl
  simp only [aP, sT, sZ, sS]
  refine zl27 6 38 (O ι 1) rfl (.inl ⟨by kernel_rfl, ?_⟩) SA.out ?_
  ·intro w' z0
   go_simp
   try rfl
  simp only [aP, sT, sZ, sS]
  refine zl27 7 39 (σ (some ⟨w.heap.size, 6, none⟩) 3 3) rfl (.inl ⟨by kernel_rfl, ?_⟩) SA.out ?_
  ·intro w' z0
   go_simp
   try rfl
  simp only [aP, sT, sZ, sS]
  have hcp := run_copy_none (P := Tryz.prog) t0 25 25 3 2 (some ⟨w.heap.size, 5, none⟩) (some ⟨w.heap.size, 6, none⟩) 0 4 3 3 Tryz.underlying25 zz2 rfl
  refine ze (i := 8) (by kernel_rfl) rfl (fun K hK => ?_)
  go_simp
  refine hK.out _ _ (fun _ => trivial) ?_
  clear hK K
  try simp only [aP, sT, sZ, sS]
  refine zg (by kernel_rfl) ?_ _
  exact ⟨rfl, by kernel_rfl, HX.out, HA.out, HZ.out⟩
 rintro a' W3 ⟨rfl, hx, ha, hz⟩
 replace HX := hide hx
 replace HA := hide ha
 replace HZ := hide hz
 clear hx ha hz SA
 simp only [aP, sT, sZ, sS]
 have c0 : (_ : Option Value) = some (O ι 1) := HA.out 0 _ rfl
 have c1 : (_ : Option Value) = some (O ι a0) := HA.out 1 _ rfl
 have c2 : (_ : Option Value) = some (O ι a1) := HA.out 2 _ rfl
 have c3 : (_ : Option Value) = some (O ι a2) := HA.out 3 _ rfl
 have c4 : (_ : Option Value) = some (O ι a3) := HA.out 4 _ rfl
 have c5 : (_ : Option Value) = some (O ι s0) := HA.out 5 _ rfl
 have c6 : (_ : Option Value) = some (O ι s1) := HA.out 6 _ rfl
 have c7 : (_ : Option Value) = some (O ι s2) := HA.out 7 _ rfl
 have c8 : (_ : Option Value) = some (O ι s3) := HA.out 8 _ rfl
 have c9 : (_ : Option Value) = some (O ι off) := HA.out 9 _ rfl
 have z0 : (_ : Option Value) = some (O ι 0) := HZ.out 0 _ rfl
 have z1 : (_ : Option Value) = some (O ι 0) := HZ.out 1 _ rfl
 have z2 : (_ : Option Value) = some (O ι 0) := HZ.out 2 _ rfl
 have z3 : (_ : Option Value) = some (O ι 0) := HZ.out 3 _ rfl
 have z4 : (_ : Option Value) = some (O ι 0) := HZ.out 4 _ rfl
 have z5 : (_ : Option Value) = some (O ι 0) := HZ.out 5 _ rfl
 have z6 : (_ : Option Value) = some (O ι 0) := HZ.out 6 _ rfl
 have z7 : (_ : Option Value) = some (O ι 0) := HZ.out 7 _ rfl
 have z8 : (_ : Option Value) = some (O ι 0) := HZ.out 8 _ rfl
 have z9 : (_ : Option Value) = some (O ι 0) := HZ.out 9 _ rfl
 have fzn : ∀ q, W3.frozen? ⟨w.heap.size, q, none⟩ = false := fun q => HX.out.unfrozen (Nat.le_refl _) q
 have fzm : ∀ q, W3.frozen? ⟨w.heap.size + 1, q, none⟩ = false := fun q => HX.out.unfrozen (by omega) q
 have HA2 := hide ((HA.out.set1 (j := 1) (by simp) (O ι a0)).set1 (j := 5) (by simp) (O ι s0))
 have HZ2 := hide ((HZ.out.other (B := w.heap.size) (j := 1) (by omega) (O ι a0)).other (B := w.heap.size) (j := 5) (by omega) (O ι s0))
 have HX2 := hide ((HX.out.fresh (Nat.le_refl _) 1 (O ι a0)).fresh (Nat.le_refl _) 5 (O ι s0))
 have HZ3 := hide ((((((((((HZ2.out.set1 (j := 0) (by simp) (O ι 1)).set1 (j := 1) (by simp) (O ι a0)).set1 (j := 2) (by simp) (O ι a1)).set1 (j := 3) (by simp) (O ι a2)).set1 (j := 4) (by simp) (O ι a3)).set1 (j := 5) (by simp) (O ι s0)).set1 (j := 6) (by simp) (O ι s1)).set1 (j := 7) (by simp) (O ι s2)).set1 (j := 8) (by simp) (O ι s3)).set1 (j := 9) (by simp) (O ι off))
 have HX3 := hide ((((((((((HX2.out.fresh (B := w.heap.size + 1) (by omega) 0 (O ι 1)).fresh (B := w.heap.size + 1) (by omega) 1 (O ι a0)).fresh (B := w.heap.size + 1) (by omega) 2 (O ι a1)).fresh (B := w.heap.size + 1) (by omega) 3 (O ι a2)).fresh (B := w.heap.size + 1) (by omega) 4 (O ι a3)).fresh (B := w.heap.size + 1) (by omega) 5 (O ι s0)).fresh (B := w.heap.size + 1) (by omega) 6 (O ι s1)).fresh (B := w.heap.size + 1) (by omega) 7 (O ι s2)).fresh (B := w.heap.size + 1) (by omega) 8 (O ι s3)).fresh (B := w.heap.size + 1) (by omega) 9 (O ι off))
 have y0 := HZ3.out 0 _ rfl
 have y1 := HZ3.out 1 _ rfl
 have y2 := HZ3.out 2 _ rfl
 have y3 := HZ3.out 3 _ rfl
 have y4 := HZ3.out 4 _ rfl
 have y5 := HZ3.out 5 _ rfl
 have y6 := HZ3.out 6 _ rfl
 have y7 := HZ3.out 7 _ rfl
 have y8 := HZ3.out 8 _ rfl
 have y9 := HZ3.out 9 _ rfl
 have HY : Hid True := trivial
 have d0 := HA2.out 0 _ rfl
 have d1 := HA2.out 1 _ rfl
 have d2 := HA2.out 2 _ rfl
 have d3 := HA2.out 3 _ rfl
 have d4 := HA2.out 4 _ rfl
 have d5 := HA2.out 5 _ rfl
 have d6 := HA2.out 6 _ rfl
 have d7 := HA2.out 7 _ rfl
 have d8 := HA2.out 8 _ rfl
 have d9 := HA2.out 9 _ rfl
 go_wp2_with fail
 refine bodyPost_ret (v := γ #[O ι 1, O ι a0, O ι a1, O ι a2, O ι a3, O ι s0, O ι s1, O ι s2, O ι s3, O ι off]) (by simp [results, Tryz.results83, go_sem, y0, y1, y2, y3, y4, y5, y6, y7, y8, y9]) rfl ⟨rfl, HX3.out⟩
theorem zy14 (w : World) (a0 a1 a2 a3 s0 s1 s2 s3 off : Int) :
  Calls Tryz.prog 83 #[γ #[O ι 2, O ι a0, O ι a1, O ι a2, O ι a3, O ι s0, O ι s1, O ι s2, O ι s3, O ι off], O ι 0] w fun e w' => e = .returned (γ #[O ι 2, O ι a1, O ι a0, O ι a2, O ι a3, O ι s1, O ι s0, O ι s2, O ι s3, O ι off]) ∧ Ext w w' := by
 have x0 : Ext w ((w.alloc (χ #[O ι 2, O ι a0, O ι a1, O ι a2, O ι a3, O ι s0, O ι s1, O ι s2, O ι s3, O ι off] 83)).alloc (χ #[O ι 0, O ι 0, O ι 0, O ι 0, O ι 0, O ι 0, O ι 0, O ι 0, O ι 0, O ι 0] 83)) := ((Ext.refl w).alloc _ _).alloc _ _
 have x1 : Ext (w.alloc (χ #[O ι 2, O ι a0, O ι a1, O ι a2, O ι a3, O ι s0, O ι s1, O ι s2, O ι s3, O ι off] 83)) ((w.alloc (χ #[O ι 2, O ι a0, O ι a1, O ι a2, O ι a3, O ι s0, O ι s1, O ι s2, O ι s3, O ι off] 83)).alloc (χ #[O ι 0, O ι 0, O ι 0, O ι 0, O ι 0, O ι 0, O ι 0, O ι 0, O ι 0, O ι 0] 83)) := (Ext.refl _).alloc _ _
 have A0 : AtB ((w.alloc (χ #[O ι 2, O ι a0, O ι a1, O ι a2, O ι a3, O ι s0, O ι s1, O ι s2, O ι s3, O ι off] 83)).alloc (χ #[O ι 0, O ι 0, O ι 0, O ι 0, O ι 0, O ι 0, O ι 0, O ι 0, O ι 0, O ι 0] 83)) w.heap.size [O ι 2, O ι a0, O ι a1, O ι a2, O ι a3, O ι s0, O ι s1, O ι s2, O ι s3, O ι off] := fun j x hx => x1.box ((zd w _ 83 _ rfl j).trans (by simpa using hx))
 have Z0 : AtB ((w.alloc (χ #[O ι 2, O ι a0, O ι a1, O ι a2, O ι a3, O ι s0, O ι s1, O ι s2, O ι s3, O ι off] 83)).alloc (χ #[O ι 0, O ι 0, O ι 0, O ι 0, O ι 0, O ι 0, O ι 0, O ι 0, O ι 0, O ι 0] 83)) (w.heap.size + 1) [O ι 0, O ι 0, O ι 0, O ι 0, O ι 0, O ι 0, O ι 0, O ι 0, O ι 0, O ι 0] := fun j x hx => (zd _ _ 83 _ (by simp) j).trans (by simpa using hx)
 have HA := hide A0
 have HZ := hide Z0
 have HX := hide x0
 clear x0 x1 A0 Z0
 go_enter Tryz.func83, Tryz.ntmps83
 go_wp2_with fail
 generalize (w.alloc (χ #[O ι 2, O ι a0, O ι a1, O ι a2, O ι a3, O ι s0, O ι s1, O ι s2, O ι s3, O ι off] 83)).alloc (χ #[O ι 0, O ι 0, O ι 0, O ι 0, O ι 0, O ι 0, O ι 0, O ι 0, O ι 0, O ι 0] 83) = W0 at HA HZ HX ⊢
 have c0 : (_ : Option Value) = some (O ι 2) := HA.out 0 _ rfl
 have c1 : (_ : Option Value) = some (O ι a0) := HA.out 1 _ rfl
 have c2 : (_ : Option Value) = some (O ι a1) := HA.out 2 _ rfl
 have c3 : (_ : Option Value) = some (O ι a2) := HA.out 3 _ rfl
 have c4 : (_ : Option Value) = some (O ι a3) := HA.out 4 _ rfl
 have c5 : (_ : Option Value) = some (O ι s0) := HA.out 5 _ rfl
 have c6 : (_ : Option Value) = some (O ι s1) := HA.out 6 _ rfl
 have c7 : (_ : Option Value) = some (O ι s2) := HA.out 7 _ rfl
 have c8 : (_ : Option Value) = some (O ι s3) := HA.out 8 _ rfl
 have c9 : (_ : Option Value) = some (O ι off) := HA.out 9 _ rfl
 go_region
 go_wp2_with fail
 replace HX := hide (HX.out.trans (Ext.refl W0).drew)
 replace HA := hide (HA.out.keep (Ext.refl W0).drew.bl)
 replace HZ := hide (HZ.out.keep (Ext.refl W0).drew.bl)
 clear c0 c1 c2 c3 c4 c5 c6 c7 c8 c9
 try generalize W0.drew = W1 at HA HZ HX ⊢
 have SA : Hid ((fun _ : World => True) W1.drew) := trivial
 refine zq (fun ac a' w' => a' = (((((((((((ac.put (some 21) (π (some ⟨w.heap.size, 0, none⟩))).put (some 22) (π (some ⟨w.heap.size, 1, none⟩))).put (some 23) (O ι 0)).put (some 24) (O ι 1)).put (some 25) (σ (some ⟨w.heap.size, 1, none⟩) 1 4)).put (some 26) (π (some ⟨w.heap.size, 0, none⟩))).put (some 27) (π (some ⟨w.heap.size, 1, none⟩))).put (some 28) (O ι 0)).put (some 29) (O ι 1)).put (some 30) (σ (some ⟨w.heap.size, 2, none⟩) 3 3)).put (some 31) (O ι 1)) ∧ Ext w w' ∧ AtB w' w.heap.size [O ι 2, O ι a1, O ι a1, O ι a2, O ι a3, O ι s0, O ι s1, O ι s2, O ι s3, O ι off] ∧ AtB w' (w.heap.size + 1) [O ι 0, O ι 0, O ι 0, O ι 0, O ι 0, O ι 0, O ι 0, O ι 0, O ι 0, O ι 0]) (S := (fun _ : World => True)) (late := []) (by kernel_rfl) ?_ ?_
 rotate_left
 ·replace HX := hide (HX.out.trans (Ext.refl W1).drew)
  replace HA := hide (HA.out.keep (Ext.refl W1).drew.bl)
  replace HZ := hide (HZ.out.keep (Ext.refl W1).drew.bl)
  generalize W1.drew = t0 at HA HZ HX SA ⊢
  refine zl27 0 21 (π (some ⟨w.heap.size, 0, none⟩)) rfl (.inl ⟨by kernel_rfl, ?_⟩) SA.out ?_
  ·intro w' z0
   go_simp
   try rfl
  simp only [aP, sT, sZ, sS]
  refine zl27 1 22 (π (some ⟨w.heap.size, 1, none⟩)) rfl (.inl ⟨by kernel_rfl, ?_⟩) SA.out ?_
  ·intro w' z0
   go_simp
   try rfl
  simp only [aP, sT, sZ, sS]
  refine zl27 2 23 (O ι 0) rfl (.inl ⟨by kernel_rfl, ?_⟩) SA.out ?_
  ·intro w' z0
   go_simp
   try rfl
  simp only [aP, sT, sZ, sS]
  refine zl27 3 24 (O ι 1) rfl (.inl ⟨by kernel_rfl, ?_⟩) SA.out ?_
  ·intro w' z0
   go_simp
   try rfl
  simp only [aP, sT, sZ, sS]
  refine zl27 4 25 (σ (some ⟨w.heap.size, 1, none⟩) 1 4) rfl (.inl ⟨by kernel_rfl, ?_⟩) SA.out ?_
  ·intro w' z0
   go_simp
   try rfl
  simp only [aP, sT, sZ, sS]
  refine zl27 5 26 (π (some ⟨w.heap.size, 0, none⟩)) rfl (.inl ⟨by kernel_rfl, ?_⟩) SA.out ?_
  ·intro w' z0
   go_simp
   try rfl
  simp only [aP, sT, sZ, sS]
  refine zl27 6 27 (π (some ⟨w.heap.size, 1, none⟩)) rfl (.inl ⟨by kernel_rfl, ?_⟩) SA.out ?_
  ·intro w' z0
   go_simp
   try rfl
  simp only [aP, sT, sZ, sS]
  refine zl27 7 28 (O ι 0) rfl (.inl ⟨by kernel_rfl, ?_⟩) SA.out ?_
  ·intro w' z0
   go_simp
   try rfl
  simp only [aP, sT, sZ, sS]
  refine zl27 8 29 (O ι 1) rfl (.inl ⟨by kernel_rfl, ?_⟩) SA.out ?_
  ·intro w' z0
   go_simp
   try rfl
  simp only [aP, sT, sZ, sS]
  refine zl27 9 30 (σ (some ⟨w.heap.size, 2, none⟩) 3 3) rfl (.inl ⟨by kernel_rfl, ?_⟩) SA.out ?_
  ·intro w' z0
   go_simp
   try rfl
  simp only [aP, sT, sZ, sS]
  have hcp : (Builtin.copy_ #[25, 25] 3 #[σ (some ⟨w.heap.size, 1, none⟩) 1 4, σ (some ⟨w.heap.size, 2, none⟩) 3 3]).run Tryz.prog t0 = .ok (goInt 1) (t0.setCell ⟨w.heap.size, 1, none⟩ (O ι a1)) := by
   have fzn := fun (q : Nat) => HX.out.unfrozen (b := w.heap.size) (Nat.le_refl _) q
   refine run_copy_cells (P := Tryz.prog) t0 25 25 3 2 w.heap.size 1 1 4 ⟨w.heap.size, 2, none⟩ 3 3 [O ι a1] Tryz.underlying25 zz2 rfl ?_ ?_ (fun j _ => fzn _) (by simp [Value.oneCell'])
   ·intro j v hv
    have q := HA.out (2 + j) v (by
     rw [← hv]
     match j with
     | 0 => rfl
     | j + 1 => simp at hv)
    rw [Addr.add_lit]
    exact q
   ·intro j hj
    have hj' : j < 1 := hj
    have q := HA.out (1 + j) _ (List.getElem?_eq_getElem (by simp; omega))
    rw [q]; rfl
  refine ze (i := 10) (by kernel_rfl) rfl (fun K hK => ?_)
  go_simp
  refine hK.out _ _ (fun _ => trivial) ?_
  clear hK K
  try simp only [aP, sT, sZ, sS]
  refine zg (by kernel_rfl) ?_ _
  exact ⟨rfl, by kernel_rfl, (HX.out.fresh (Nat.le_refl _) 1 (O ι a1)), (HA.out.set1 (j := 1) (by simp) (O ι a1)), (HZ.out.other (B := w.heap.size) (j := 1) (by omega) (O ι a1))⟩
 rintro a' W2 ⟨rfl, hx, ha, hz⟩
 replace HX := hide hx
 replace HA := hide ha
 replace HZ := hide hz
 clear hx ha hz SA
 simp only [aP, sT, sZ, sS]
 go_wp2_with fail
 have SA : Hid ((fun _ : World => True) W2.drew) := trivial
 refine zq (fun ac a' w' => a' = (((((((((ac.put (some 32) (π (some ⟨w.heap.size, 5, none⟩))).put (some 33) (O ι 0)).put (some 34) (O ι 1)).put (some 35) (σ (some ⟨w.heap.size, 5, none⟩) 1 4)).put (some 36) (π (some ⟨w.heap.size, 5, none⟩))).put (some 37) (O ι 0)).put (some 38) (O ι 1)).put (some 39) (σ (some ⟨w.heap.size, 6, none⟩) 3 3)).put (some 40) (O ι 1)) ∧ Ext w w' ∧ AtB w' w.heap.size [O ι 2, O ι a1, O ι a1, O ι a2, O ι a3, O ι s1, O ι s1, O ι s2, O ι s3, O ι off] ∧ AtB w' (w.heap.size + 1) [O ι 0, O ι 0, O ι 0, O ι 0, O ι 0, O ι 0, O ι 0, O ι 0, O ι 0, O ι 0]) (S := (fun _ : World => True)) (late := []) (by kernel_rfl) ?_ ?_
 rotate_left
 ·replace HX := hide (HX.out.trans (Ext.refl W2).drew)
  replace HA := hide (HA.out.keep (Ext.refl W2).drew.bl)
  replace HZ := hide (HZ.out.keep (Ext.refl W2).drew.bl)
  generalize W2.drew = t0 at HA HZ HX SA ⊢
  refine zl27 0 32 (π (some ⟨w.heap.size, 5, none⟩)) rfl (.inl ⟨by kernel_rfl, ?_⟩) SA.out ?_
  ·intro w' z0
   go_simp
   try rfl
  simp only [aP, sT, sZ, sS]
  refine zl27 1 33 (O ι 0) rfl (.inl ⟨by kernel_rfl, ?_⟩) SA.out ?_
  ·intro w' z0
   go_simp
   try rfl
  simp only [aP, sT, sZ, sS]
  refine zl27 2 34 (O ι 1) rfl (.inl ⟨by kernel_rfl, ?_⟩) SA.out ?_
  ·intro w' z0
   go_simp
   try rfl
  simp only [aP, sT, sZ, sS]
  refine zl27 3 35 (σ (some ⟨w.heap.size, 5, none⟩) 1 4) rfl (.inl ⟨by kernel_rfl, ?_⟩) SA.out ?_
  ·intro w' z0
   go_simp
   try rfl
  simp only [aP, sT, sZ, sS]
  refine zl27 4 36 (π (some ⟨w.heap.size, 5, none⟩)) rfl (.inl ⟨by kernel_rfl, ?_⟩) SA.out ?_
  ·intro w' z0
   go_simp
   try rfl
  simp only [aP, sT, sZ, sS]
  refine zl27 5 37 (O ι 0) rfl (.inl ⟨by kernel_rfl, ?_⟩) SA.out ?_
  ·intro w' z0
   go_simp
   try rfl
  simp only [aP, sT, sZ, sS]
  refine zl27 6 38 (O ι 1) rfl (.inl ⟨by kernel_rfl, ?_⟩) SA.out ?_
  ·intro w' z0
   go_simp
   try rfl
  simp only [aP, sT, sZ, sS]
  refine zl27 7 39 (σ (some ⟨w.heap.size, 6, none⟩) 3 3) rfl (.inl ⟨by kernel_rfl, ?_⟩) SA.out ?_
  ·intro w' z0
   go_simp
   try rfl
  simp only [aP, sT, sZ, sS]
  have hcp : (Builtin.copy_ #[25, 25] 3 #[σ (some ⟨w.heap.size, 5, none⟩) 1 4, σ (some ⟨w.heap.size, 6, none⟩) 3 3]).run Tryz.prog t0 = .ok (goInt 1) (t0.setCell ⟨w.heap.size, 5, none⟩ (O ι s1)) := by
   have fzn := fun (q : Nat) => HX.out.unfrozen (b := w.heap.size) (Nat.le_refl _) q
   refine run_copy_cells (P := Tryz.prog) t0 25 25 3 2 w.heap.size 5 1 4 ⟨w.heap.size, 6, none⟩ 3 3 [O ι s1] Tryz.underlying25 zz2 rfl ?_ ?_ (fun j _ => fzn _) (by simp [Value.oneCell'])
   ·intro j v hv
    have q := HA.out (6 + j) v (by
     rw [← hv]
     match j with
     | 0 => rfl
     | j + 1 => simp at hv)
    rw [Addr.add_lit]
    exact q
   ·intro j hj
    have hj' : j < 1 := hj
    have q := HA.out (5 + j) _ (List.getElem?_eq_getElem (by simp; omega))
    rw [q]; rfl
  refine ze (i := 8) (by kernel_rfl) rfl (fun K hK => ?_)
  go_simp
  refine hK.out _ _ (fun _ => trivial) ?_
  clear hK K
  try simp only [aP, sT, sZ, sS]
  refine zg (by kernel_rfl) ?_ _
  exact ⟨rfl, by kernel_rfl, (HX.out.fresh (Nat.le_refl _) 5 (O ι s1)), (HA.out.set1 (j := 5) (by simp) (O ι s1)), (HZ.out.other (B := w.heap.size) (j := 5) (by omega) (O ι s1))⟩
 rintro a' W3 ⟨rfl, hx, ha, hz⟩
 replace HX := hide hx
 replace HA := hide ha
 replace HZ := hide hz
 clear hx ha hz SA
 simp only [aP, sT, sZ, sS]
 have c0 : (_ : Option Value) = some (O ι 2) := HA.out 0 _ rfl
 have c1 : (_ : Option Value) = some (O ι a1) := HA.out 1 _ rfl
 have c2 : (_ : Option Value) = some (O ι a1) := HA.out 2 _ rfl
 have c3 : (_ : Option Value) = some (O ι a2) := HA.out 3 _ rfl
 have c4 : (_ : Option Value) = some (O ι a3) := HA.out 4 _ rfl
 have c5 : (_ : Option Value) = some (O ι s1) := HA.out 5 _ rfl
 have c6 : (_ : Option Value) = some (O ι s1) := HA.out 6 _ rfl
 have c7 : (_ : Option Value) = some (O ι s2) := HA.out 7 _ rfl
 have c8 : (_ : Option Value) = some (O ι s3) := HA.out 8 _ rfl
 have c9 : (_ : Option Value) = some (O ι off) := HA.out 9 _ rfl
 have z0 : (_ : Option Value) = some (O ι 0) := HZ.out 0 _ rfl
 have z1 : (_ : Option Value) = some (O ι 0) := HZ.out 1 _ rfl
 have z2 : (_ : Option Value) = some (O ι 0) := HZ.out 2 _ rfl
 have z3 : (_ : Option Value) = some (O ι 0) := HZ.out 3 _ rfl
 have z4 : (_ : Option Value) = some (O ι 0) := HZ.out 4 _ rfl
 have z5 : (_ : Option Value) = some (O ι 0) := HZ.out 5 _ rfl
 have z6 : (_ : Option Value) = some (O ι 0) := HZ.out 6 _ rfl
 have z7 : (_ : Option Value) = some (O ι 0) := HZ.out 7 _ rfl
 have z8 : (_ : Option Value) = some (O ι 0) := HZ.out 8 _ rfl
 have z9 : (_ : Option Value) = some (O ι 0) := HZ.out 9 _ rfl
 have fzn : ∀ q, W3.frozen? ⟨w.heap.size, q, none⟩ = false := fun q => HX.out.unfrozen (Nat.le_refl _) q
 have fzm : ∀ q, W3.frozen? ⟨w.heap.size + 1, q, none⟩ = false := fun q => HX.out.unfrozen (by omega) q
 have HA2 := hide ((HA.out.set1 (j := 2) (by simp) (O ι a0)).set1 (j := 6) (by simp) (O ι s0))
 have HZ2 := hide ((HZ.out.other (B := w.heap.size) (j := 2) (by omega) (O ι a0)).other (B := w.heap.size) (j := 6) (by omega) (O ι s0))
 have HX2 := hide ((HX.out.fresh (Nat.le_refl _) 2 (O ι a0)).fresh (Nat.le_refl _) 6 (O ι s0))
 have HZ3 := hide ((((((((((HZ2.out.set1 (j := 0) (by simp) (O ι 2)).set1 (j := 1) (by simp) (O ι a1)).set1 (j := 2) (by simp) (O ι a0)).set1 (j := 3) (by simp) (O ι a2)).set1 (j := 4) (by simp) (O ι a3)).set1 (j := 5) (by simp) (O ι s1)).set1 (j := 6) (by simp) (O ι s0)).set1 (j := 7) (by simp) (O ι s2)).set1 (j := 8) (by simp) (O ι s3)).set1 (j := 9) (by simp) (O ι off))
 have HX3 := hide ((((((((((HX2.out.fresh (B := w.heap.size + 1) (by omega) 0 (O ι 2)).fresh (B := w.heap.size + 1) (by omega) 1 (O ι a1)).fresh (B := w.heap.size + 1) (by omega) 2 (O ι a0)).fresh (B := w.heap.size + 1) (by omega) 3 (O ι a2)).fresh (B := w.heap.size + 1) (by omega) 4 (O ι a3)).fresh (B := w.heap.size + 1) (by omega) 5 (O ι s1)).fresh (B := w.heap.size + 1) (by omega) 6 (O ι s0)).fresh (B := w.heap.size + 1) (by omega) 7 (O ι s2)).fresh (B := w.heap.size + 1) (by omega) 8 (O ι s3)).fresh (B := w.heap.size + 1) (by omega) 9 (O ι off))
 have y0 := HZ3.out 0 _ rfl
 have y1 := HZ3.out 1 _ rfl
 have y2 := HZ3.out 2 _ rfl
 have y3 := HZ3.out 3 _ rfl
 have y4 := HZ3.out 4 _ rfl
 have y5 := HZ3.out 5 _ rfl
 have y6 := HZ3.out 6 _ rfl
 have y7 := HZ3.out 7 _ rfl
 have y8 := HZ3.out 8 _ rfl
 have y9 := HZ3.out 9 _ rfl
 have HY : Hid True := trivial
 have d0 := HA2.out 0 _ rfl
 have d1 := HA2.out 1 _ rfl
 have d2 := HA2.out 2 _ rfl
 have d3 := HA2.out 3 _ rfl
 have d4 := HA2.out 4 _ rfl
 have d5 := HA2.out 5 _ rfl
 have d6 := HA2.out 6 _ rfl
 have d7 := HA2.out 7 _ rfl
 have d8 := HA2.out 8 _ rfl
 have d9 := HA2.out 9 _ rfl
 go_wp2_with fail
 refine bodyPost_ret (v := γ #[O ι 2, O ι a1, O ι a0, O ι a2, O ι a3, O ι s1, O ι s0, O ι s2, O ι s3, O ι off]) (by simp [results, Tryz.results83, go_sem, y0, y1, y2, y3, y4, y5, y6, y7, y8, y9]) rfl ⟨rfl, HX3.out⟩
theorem zx14 (w : World) (a0 a1 a2 a3 s0 s1 s2 s3 off : Int) :
  Calls Tryz.prog 83 #[γ #[O ι 2, O ι a0, O ι a1, O ι a2, O ι a3, O ι s0, O ι s1, O ι s2, O ι s3, O ι off], O ι 1] w fun e w' => e = .returned (γ #[O ι 2, O ι a0, O ι a1, O ι a2, O ι a3, O ι s0, O ι s1, O ι s2, O ι s3, O ι off]) ∧ Ext w w' := by
 have x0 : Ext w ((w.alloc (χ #[O ι 2, O ι a0, O ι a1, O ι a2, O ι a3, O ι s0, O ι s1, O ι s2, O ι s3, O ι off] 83)).alloc (χ #[O ι 0, O ι 0, O ι 0, O ι 0, O ι 0, O ι 0, O ι 0, O ι 0, O ι 0, O ι 0] 83)) := ((Ext.refl w).alloc _ _).alloc _ _
 have x1 : Ext (w.alloc (χ #[O ι 2, O ι a0, O ι a1, O ι a2, O ι a3, O ι s0, O ι s1, O ι s2, O ι s3, O ι off] 83)) ((w.alloc (χ #[O ι 2, O ι a0, O ι a1, O ι a2, O ι a3, O ι s0, O ι s1, O ι s2, O ι s3, O ι off] 83)).alloc (χ #[O ι 0, O ι 0, O ι 0, O ι 0, O ι 0, O ι 0, O ι 0, O ι 0, O ι 0, O ι 0] 83)) := (Ext.refl _).alloc _ _
 have A0 : AtB ((w.alloc (χ #[O ι 2, O ι a0, O ι a1, O ι a2, O ι a3, O ι s0, O ι s1, O ι s2, O ι s3, O ι off] 83)).alloc (χ #[O ι 0, O ι 0, O ι 0, O ι 0, O ι 0, O ι 0, O ι 0, O ι 0, O ι 0, O ι 0] 83)) w.heap.size [O ι 2, O ι a0, O ι a1, O ι a2, O ι a3, O ι s0, O ι s1, O ι s2, O ι s3, O ι off] := fun j x hx => x1.box ((zd w _ 83 _ rfl j).trans (by simpa using hx))
 have Z0 : AtB ((w.alloc (χ #[O ι 2, O ι a0, O ι a1, O ι a2, O ι a3, O ι s0, O ι s1, O ι s2, O ι s3, O ι off] 83)).alloc (χ #[O ι 0, O ι 0, O ι 0, O ι 0, O ι 0, O ι 0, O ι 0, O ι 0, O ι 0, O ι 0] 83)) (w.heap.size + 1) [O ι 0, O ι 0, O ι 0, O ι 0, O ι 0, O ι 0, O ι 0, O ι 0, O ι 0, O ι 0] := fun j x hx => (zd _ _ 83 _ (by simp) j).trans (by simpa using hx)
 have HA := hide A0
 have HZ := hide Z0
 have HX := hide x0
 clear x0 x1 A0 Z0
 go_enter Tryz.func83, Tryz.ntmps83
 go_wp2_with fail
 generalize (w.alloc (χ #[O ι 2, O ι a0, O ι a1, O ι a2, O ι a3, O ι s0, O ι s1, O ι s2, O ι s3, O ι off] 83)).alloc (χ #[O ι 0, O ι 0, O ι 0, O ι 0, O ι 0, O ι 0, O ι 0, O ι 0, O ι 0, O ι 0] 83) = W0 at HA HZ HX ⊢
 have c0 : (_ : Option Value) = some (O ι 2) := HA.out 0 _ rfl
 have c1 : (_ : Option Value) = some (O ι a0) := HA.out 1 _ rfl
 have c2 : (_ : Option Value) = some (O ι a1) := HA.out 2 _ rfl
 have c3 : (_ : Option Value) = some (O ι a2) := HA.out 3 _ rfl
 have c4 : (_ : Option Value) = some (O ι a3) := HA.out 4 _ rfl
 have c5 : (_ : Option Value) = some (O ι s0) := HA.out 5 _ rfl
 have c6 : (_ : Option Value) = some (O ι s1) := HA.out 6 _ rfl
 have c7 : (_ : Option Value) = some (O ι s2) := HA.out 7 _ rfl
 have c8 : (_ : Option Value) = some (O ι s3) := HA.out 8 _ rfl
 have c9 : (_ : Option Value) = some (O ι off) := HA.out 9 _ rfl
 go_region
 go_wp2_with fail
 replace HX := hide (HX.out.trans (Ext.refl W0).drew)
 replace HA := hide (HA.out.keep (Ext.refl W0).drew.bl)
 replace HZ := hide (HZ.out.keep (Ext.refl W0).drew.bl)
 clear c0 c1 c2 c3 c4 c5 c6 c7 c8 c9
 try generalize W0.drew = W1 at HA HZ HX ⊢
 have SA : Hid ((fun _ : World => True) W1.drew) := trivial
 refine zq (fun ac a' w' => a' = (((((((((((ac.put (some 21) (π (some ⟨w.heap.size, 0, none⟩))).put (some 22) (π (some ⟨w.heap.size, 1, none⟩))).put (some 23) (O ι 1)).put (some 24) (O ι 1)).put (some 25) (σ (some ⟨w.heap.size, 2, none⟩) 0 3)).put (some 26) (π (some ⟨w.heap.size, 0, none⟩))).put (some 27) (π (some ⟨w.heap.size, 1, none⟩))).put (some 28) (O ι 1)).put (some 29) (O ι 2)).put (some 30) (σ (some ⟨w.heap.size, 3, none⟩) 2 2)).put (some 31) (O ι 0)) ∧ Ext w w' ∧ AtB w' w.heap.size [O ι 2, O ι a0, O ι a1, O ι a2, O ι a3, O ι s0, O ι s1, O ι s2, O ι s3, O ι off] ∧ AtB w' (w.heap.size + 1) [O ι 0, O ι 0, O ι 0, O ι 0, O ι 0, O ι 0, O ι 0, O ι 0, O ι 0, O ι 0]) (S := (fun _ : World => True)) (late := []) (by kernel_rfl) ?_ ?_
 rotate_left
 ·replace HX := hide (HX.out.trans (Ext.refl W1).drew)
  replace HA := hide (HA.out.keep (Ext.refl W1).drew.bl)
  replace HZ := hide (HZ.out.keep (Ext.refl W1).drew.bl)
  generalize W1.drew = t0 at HA HZ HX SA ⊢
  refine zl27 0 21 (π (some ⟨w.heap.size, 0, none⟩)) rfl (.inl ⟨by kernel_rfl, ?_⟩) SA.out ?_
  ·intro w' z0
   go_simp
   try rfl
  simp only [aP, sT, sZ, sS]
  refine zl27 1 22 (π (some ⟨w.heap.size, 1, none⟩)) rfl (.inl ⟨by kernel_rfl, ?_⟩) SA.out ?_
  ·intro w' z0
   go_simp
   try rfl
  simp only [aP, sT, sZ, sS]
  refine zl27 2 23 (O ι 1) rfl (.inl ⟨by kernel_rfl, ?_⟩) SA.out ?_
  ·intro w' z0
   go_simp
   try rfl
  simp only [aP, sT, sZ, sS]
  refine zl27 3 24 (O ι 1) rfl (.inl ⟨by kernel_rfl, ?_⟩) SA.out ?_
  ·intro w' z0
   go_simp
   try rfl
  simp only [aP, sT, sZ, sS]
  refine zl27 4 25 (σ (some ⟨w.heap.size, 2, none⟩) 0 3) rfl (.inl ⟨by kernel_rfl, ?_⟩) SA.out ?_
  ·intro w' z0
   go_simp
   try rfl
  simp only [aP, sT, sZ, sS]
  refine zl27 5 26 (π (some ⟨w.heap.size, 0, none⟩)) rfl (.inl ⟨by kernel_rfl, ?_⟩) SA.out ?_
  ·intro w' z0
   go_simp
   try rfl
  simp only [aP, sT, sZ, sS]
  refine zl27 6 27 (π (some ⟨w.heap.size, 1, none⟩)) rfl (.inl ⟨by kernel_rfl, ?_⟩) SA.out ?_
  ·intro w' z0
   go_simp
   try rfl
  simp only [aP, sT, sZ, sS]
  refine zl27 7 28 (O ι 1) rfl (.inl ⟨by kernel_rfl, ?_⟩) SA.out ?_
  ·intro w' z0
   go_simp
   try rfl
  simp only [aP, sT, sZ, sS]
  refine zl27 8 29 (O ι 2) rfl (.inl ⟨by kernel_rfl, ?_⟩) SA.out ?_
  ·intro w' z0
   go_simp
   try rfl
  simp only [aP, sT, sZ, sS]
  refine zl27 9 30 (σ (some ⟨w.heap.size, 3, none⟩) 2 2) rfl (.inl ⟨by kernel_rfl, ?_⟩) SA.out ?_
  ·intro w' z0
   go_simp
   try rfl
  simp only [aP, sT, sZ, sS]
  have hcp := run_copy_none (P := Tryz.prog) t0 25 25 3 2 (some ⟨w.heap.size, 2, none⟩) (some ⟨w.heap.size, 3, none⟩) 0 3 2 2 Tryz.underlying25 zz2 rfl
  refine ze (i := 10) (by kernel_rfl) rfl (fun K hK => ?_)
  go_simp
  refine hK.out _ _ (fun _ => trivial) ?_
  clear hK K
  try simp only [aP, sT, sZ, sS]
  refine zg (by kernel_rfl) ?_ _
  exact ⟨rfl, by kernel_rfl, HX.out, HA.out, HZ.out⟩
 rintro a' W2 ⟨rfl, hx, ha, hz⟩
 replace HX := hide hx
 replace HA := hide ha
 replace HZ := hide hz
 clear hx ha hz SA
 simp only [aP, sT, sZ, sS]
 go_wp2_with fail
 have SA : Hid ((fun _ : World => True) W2.drew) := trivial
 refine zq (fun ac a' w' => a' = (((((((((ac.put (some 32) (π (some ⟨w.heap.size, 5, none⟩))).put (some 33) (O ι 1)).put (some 34) (O ι 1)).put (some 35) (σ (some ⟨w.heap.size, 6, none⟩) 0 3)).put (some 36) (π (some ⟨w.heap.size, 5, none⟩))).put (some 37) (O ι 1)).put (some 38) (O ι 2)).put (some 39) (σ (some ⟨w.heap.size, 7, none⟩) 2 2)).put (some 40) (O ι 0)) ∧ Ext w w' ∧ AtB w' w.heap.size [O ι 2, O ι a0, O ι a1, O ι a2, O ι a3, O ι s0, O ι s1, O ι s2, O ι s3, O ι off] ∧ AtB w' (w.heap.size + 1) [O ι 0, O ι 0, O ι 0, O ι 0, O ι 0, O ι 0, O ι 0, O ι 0, O ι 0, O ι 0]) (S := (fun _ : World => True)) (late := []) (by kernel_rfl) ?_ ?_
 rotate_left
 ·replace HX := hide (HX.out.trans (Ext.refl W2).drew)
  replace HA := hide (HA.out.keep (Ext.refl W2).drew.bl)
  replace HZ := hide (HZ.out.keep (Ext.refl W2).drew.bl)
  generalize W2.drew = t0 at HA HZ HX SA ⊢
  refine zl27 0 32 (π (some ⟨w.heap.size, 5, none⟩)) rfl (.inl ⟨by kernel_rfl, ?_⟩) SA.out ?_
  ·intro w' z0
   go_simp
   try rfl
  simp only [aP, sT, sZ, sS]
  refine zl27 1 33 (O ι 1) rfl (.inl ⟨by kernel_rfl, ?_⟩) SA.out ?_
  ·intro w' z0
   go_simp
   try rfl
  simp only [aP, sT, sZ, sS]
  refine zl27 2 34 (O ι 1) rfl (.inl ⟨by kernel_rfl, ?_⟩) SA.out ?_
  ·intro w' z0
   go_simp
   try rfl
  simp only [aP, sT, sZ, sS]
  refine zl27 3 35 (σ (some ⟨w.heap.size, 6, none⟩) 0 3) rfl (.inl ⟨by kernel_rfl, ?_⟩) SA.out ?_
  ·intro w' z0
   go_simp
   try rfl
  simp only [aP, sT, sZ, sS]
  refine zl27 4 36 (π (some ⟨w.heap.size, 5, none⟩)) rfl (.inl ⟨by kernel_rfl, ?_⟩) SA.out ?_
  ·intro w' z0
   go_simp
   try rfl
  simp only [aP, sT, sZ, sS]
  refine zl27 5 37 (O ι 1) rfl (.inl ⟨by kernel_rfl, ?_⟩) SA.out ?_
  ·intro w' z0
   go_simp
   try rfl
  simp only [aP, sT, sZ, sS]
  refine zl27 6 38 (O ι 2) rfl (.inl ⟨by kernel_rfl, ?_⟩) SA.out ?_
  ·intro w' z0
   go_simp
   try rfl
  simp only [aP, sT, sZ, sS]
  refine zl27 7 39 (σ (some ⟨w.heap.size, 7, none⟩) 2 2) rfl (.inl ⟨by kernel_rfl, ?_⟩) SA.out ?_
  ·intro w' z0
   go_simp
   try rfl
  simp only [aP, sT, sZ, sS]
  have hcp := run_copy_none (P := Tryz.prog) t0 25 25 3 2 (some ⟨w.heap.size, 6, none⟩) (some ⟨w.heap.size, 7, none⟩) 0 3 2 2 Tryz.underlying25 zz2 rfl
  refine ze (i := 8) (by kernel_rfl) rfl (fun K hK => ?_)
  go_simp
  refine hK.out _ _ (fun _ => trivial) ?_
  clear hK K
  try simp only [aP, sT, sZ, sS]
  refine zg (by kernel_rfl) ?_ _
  exact ⟨rfl, by kernel_rfl, HX.out, HA.out, HZ.out⟩
 rintro a' W3 ⟨rfl, hx, ha, hz⟩
 replace HX := hide hx
 replace HA := hide ha
 replace HZ := hide hz
 clear hx ha hz SA
 simp only [aP, sT, sZ, sS]
 have c0 : (_ : Option Value) = some (O ι 2) := HA.out 0 _ rfl
 have c1 : (_ : Option Value) = some (O ι a0) := HA.out 1 _ rfl
 have c2 : (_ : Option Value) = some (O ι a1) := HA.out 2 _ rfl
 have c3 : (_ : Option Value) = some (O ι a2) := HA.out 3 _ rfl
 have c4 : (_ : Option Value) = some (O ι a3) := HA.out 4 _ rfl
 have c5 : (_ : Option Value) = some (O ι s0) := HA.out 5 _ rfl
 have c6 : (_ : Option Value) = some (O ι s1) := HA.out 6 _ rfl
 have c7 : (_ : Option Value) = some (O ι s2) := HA.out 7 _ rfl
 have c8 : (_ : Option Value) = some (O ι s3) := HA.out 8 _ rfl
 have c9 : (_ : Option Value) = some (O ι off) := HA.out 9 _ rfl
 have z0 : (_ : Option Value) = some (O ι 0) := HZ.out 0 _ rfl
 have z1 : (_ : Option Value) = some (O ι 0) := HZ.out 1 _ rfl
 have z2 : (_ : Option Value) = some (O ι 0) := HZ.out 2 _ rfl
 have z3 : (_ : Option Value) = some (O ι 0) := HZ.out 3 _ rfl
 have z4 : (_ : Option Value) = some (O ι 0) := HZ.out 4 _ rfl
 have z5 : (_ : Option Value) = some (O ι 0) := HZ.out 5 _ rfl
 have z6 : (_ : Option Value) = some (O ι 0) := HZ.out 6 _ rfl
 have z7 : (_ : Option Value) = some (O ι 0) := HZ.out 7 _ rfl
 have z8 : (_ : Option Value) = some (O ι 0) := HZ.out 8 _ rfl
 have z9 : (_ : Option Value) = some (O ι 0) := HZ.out 9 _ rfl
 have fzn : ∀ q, W3.frozen? ⟨w.heap.size, q, none⟩ = false := fun q => HX.out.unfrozen (Nat.le_refl _) q
 have fzm : ∀ q, W3.frozen? ⟨w.heap.size + 1, q, none⟩ = false := fun q => HX.out.unfrozen (by omega) q
 have HA2 := hide ((HA.out.set1 (j := 2) (by simp) (O ι a1)).set1 (j := 6) (by simp) (O ι s1))
 have HZ2 := hide ((HZ.out.other (B := w.heap.size) (j := 2) (by omega) (O ι a1)).other (B := w.heap.size) (j := 6) (by omega) (O ι s1))
 have HX2 := hide ((HX.out.fresh (Nat.le_refl _) 2 (O ι a1)).fresh (Nat.le_refl _) 6 (O ι s1))
 have HZ3 := hide ((((((((((HZ2.out.set1 (j := 0) (by simp) (O ι 2)).set1 (j := 1) (by simp) (O ι a0)).set1 (j := 2) (by simp) (O ι a1)).set1 (j := 3) (by simp) (O ι a2)).set1 (j := 4) (by simp) (O ι a3)).set1 (j := 5) (by simp) (O ι s0)).set1 (j := 6) (by simp) (O ι s1)).set1 (j := 7) (by simp) (O ι s2)).set1 (j := 8) (by simp) (O ι s3)).set1 (j := 9) (by simp) (O ι off))
 have HX3 := hide ((((((((((HX2.out.fresh (B := w.heap.size + 1) (by omega) 0 (O ι 2)).fresh (B := w.heap.size + 1) (by omega) 1 (O ι a0)).fresh (B := w.heap.size + 1) (by omega) 2 (O ι a1)).fresh (B := w.heap.size + 1) (by omega) 3 (O ι a2)).fresh (B := w.heap.size + 1) (by omega) 4 (O ι a3)).fresh (B := w.heap.size + 1) (by omega) 5 (O ι s0)).fresh (B := w.heap.size + 1) (by omega) 6 (O ι s1)).fresh (B := w.heap.size + 1) (by omega) 7 (O ι s2)).fresh (B := w.heap.size + 1) (by omega) 8 (O ι s3)).fresh (B := w.heap.size + 1) (by omega) 9 (O ι off))
 have y0 := HZ3.out 0 _ rfl
 have y1 := HZ3.out 1 _ rfl
 have y2 := HZ3.out 2 _ rfl
 have y3 := HZ3.out 3 _ rfl
 have y4 := HZ3.out 4 _ rfl
 have y5 := HZ3.out 5 _ rfl
 have y6 := HZ3.out 6 _ rfl
 have y7 := HZ3.out 7 _ rfl
 have y8 := HZ3.out 8 _ rfl
 have y9 := HZ3.out 9 _ rfl
 have HY : Hid True := trivial
 have d0 := HA2.out 0 _ rfl
 have d1 := HA2.out 1 _ rfl
 have d2 := HA2.out 2 _ rfl
 have d3 := HA2.out 3 _ rfl
 have d4 := HA2.out 4 _ rfl
 have d5 := HA2.out 5 _ rfl
 have d6 := HA2.out 6 _ rfl
 have d7 := HA2.out 7 _ rfl
 have d8 := HA2.out 8 _ rfl
 have d9 := HA2.out 9 _ rfl
 go_wp2_with fail
 refine bodyPost_ret (v := γ #[O ι 2, O ι a0, O ι a1, O ι a2, O ι a3, O ι s0, O ι s1, O ι s2, O ι s3, O ι off]) (by simp [results, Tryz.results83, go_sem, y0, y1, y2, y3, y4, y5, y6, y7, y8, y9]) rfl ⟨rfl, HX3.out⟩
theorem zw14 (w : World) (a0 a1 a2 a3 s0 s1 s2 s3 off : Int) :
  Calls Tryz.prog 83 #[γ #[O ι 3, O ι a0, O ι a1, O ι a2, O ι a3, O ι s0, O ι s1, O ι s2, O ι s3, O ι off], O ι 0] w fun e w' => e = .returned (γ #[O ι 3, O ι a1, O ι a2, O ι a0, O ι a3, O ι s1, O ι s2, O ι s0, O ι s3, O ι off]) ∧ Ext w w' := by
 have x0 : Ext w ((w.alloc (χ #[O ι 3, O ι a0, O ι a1, O ι a2, O ι a3, O ι s0, O ι s1, O ι s2, O ι s3, O ι off] 83)).alloc (χ #[O ι 0, O ι 0, O ι 0, O ι 0, O ι 0, O ι 0, O ι 0, O ι 0, O ι 0, O ι 0] 83)) := ((Ext.refl w).alloc _ _).alloc _ _
 have x1 : Ext (w.alloc (χ #[O ι 3, O ι a0, O ι a1, O ι a2, O ι a3, O ι s0, O ι s1, O ι s2, O ι s3, O ι off] 83)) ((w.alloc (χ #[O ι 3, O ι a0, O ι a1, O ι a2, O ι a3, O ι s0, O ι s1, O ι s2, O ι s3, O ι off] 83)).alloc (χ #[O ι 0, O ι 0, O ι 0, O ι 0, O ι 0, O ι 0, O ι 0, O ι 0, O ι 0, O ι 0] 83)) := (Ext.refl _).alloc _ _
 have A0 : AtB ((w.alloc (χ #[O ι 3, O ι a0, O ι a1, O ι a2, O ι a3, O ι s0, O ι s1, O ι s2, O ι s3, O ι off] 83)).alloc (χ #[O ι 0, O ι 0, O ι 0, O ι 0, O ι 0, O ι 0, O ι 0, O ι 0, O ι 0, O ι 0] 83)) w.heap.size [O ι 3, O ι a0, O ι a1, O ι a2, O ι a3, O ι s0, O ι s1, O ι s2, O ι s3, O ι off] := fun j x hx => x1.box ((zd w _ 83 _ rfl j).trans (by simpa using hx))
 have Z0 : AtB ((w.alloc (χ #[O ι 3, O ι a0, O ι a1, O ι a2, O ι a3, O ι s0, O ι s1, O ι s2, O ι s3, O ι off] 83)).alloc (χ #[O ι 0, O ι 0, O ι 0, O ι 0, O ι 0, O ι 0, O ι 0, O ι 0, O ι 0, O ι 0] 83)) (w.heap.size + 1) [O ι 0, O ι 0, O ι 0, O ι 0, O ι 0, O ι 0, O ι 0, O ι 0, O ι 0, O ι 0] := fun j x hx => (zd _ _ 83 _ (by simp) j).trans (by simpa using hx)
 have HA := hide A0
 have HZ := hide Z0
 have HX := hide x0
 clear x0 x1 A0 Z0
 go_enter Tryz.func83, Tryz.ntmps83
 go_wp2_with fail
 generalize (w.alloc (χ #[O ι 3, O ι a0, O ι a1, O ι a2, O ι a3, O ι s0, O ι s1, O ι s2, O ι s3, O ι off] 83)).alloc (χ #[O ι 0, O ι 0, O ι 0, O ι 0, O ι 0, O ι 0, O ι 0, O ι 0, O ι 0, O ι 0] 83) = W0 at HA HZ HX ⊢
 have c0 : (_ : Option Value) = some (O ι 3) := HA.out 0 _ rfl
 have c1 : (_ : Option Value) = some (O ι a0) := HA.out 1 _ rfl
 have c2 : (_ : Option Value) = some (O ι a1) := HA.out 2 _ rfl
 have c3 : (_ : Option Value) = some (O ι a2) := HA.out 3 _ rfl
 have c4 : (_ : Option Value) = some (O ι a3) := HA.out 4 _ rfl
 have c5 : (_ : Option Value) = some (O ι s0) := HA.out 5 _ rfl
 have c6 : (_ : Option Value) = some (O ι s1) := HA.out 6 _ rfl
 have c7 : (_ : Option Value) = some (O ι s2) := HA.out 7 _ rfl
 have c8 : (_ : Option Value) = some (O ι s3) := HA.out 8 _ rfl
 have c9 : (_ : Option Value) = some (O ι off) := HA.out 9 _ rfl
 go_region
 go_wp2_with fail
 replace HX := hide (HX.out.trans (Ext.refl W0).drew)
 replace HA := hide (HA.out.keep (Ext.refl W0).drew.bl)
 replace HZ := hide (HZ.out.keep (Ext.refl W0).drew.bl)
 clear c0 c1 c2 c3 c4 c5 c6 c7 c8 c9
 try generalize W0.drew = W1 at HA HZ HX ⊢
 have SA : Hid ((fun _ : World => True) W1.drew) := trivial
 refine zq (fun ac a' w' => a' = (((((((((((ac.put (some 21) (π (some ⟨w.heap.size, 0, none⟩))).put (some 22) (π (some ⟨w.heap.size, 1, none⟩))).put (some 23) (O ι 0)).put (some 24) (O ι 2)).put (some 25) (σ (some ⟨w.heap.size, 1, none⟩) 2 4)).put (some 26) (π (some ⟨w.heap.size, 0, none⟩))).put (some 27) (π (some ⟨w.heap.size, 1, none⟩))).put (some 28) (O ι 0)).put (some 29) (O ι 1)).put (some 30) (σ (some ⟨w.heap.size, 2, none⟩) 3 3)).put (some 31) (O ι 2)) ∧ Ext w w' ∧ AtB w' w.heap.size [O ι 3, O ι a1, O ι a2, O ι a2, O ι a3, O ι s0, O ι s1, O ι s2, O ι s3, O ι off] ∧ AtB w' (w.heap.size + 1) [O ι 0, O ι 0, O ι 0, O ι 0, O ι 0, O ι 0, O ι 0, O ι 0, O ι 0, O ι 0]) (S := (fun _ : World => True)) (late := []) (by kernel_rfl) ?_ ?_
 rotate_left
 ·replace HX := hide (HX.out.trans (Ext.refl W1).drew)
  replace HA := hide (HA.out.keep (Ext.refl W1).drew.bl)
  replace HZ := hide (HZ.out.keep (Ext.refl W1).drew.bl)
  generalize W1.drew = t0 at HA HZ HX SA ⊢
  refine zl27 0 21 (π (some ⟨w.heap.size, 0, none⟩)) rfl (.inl ⟨by kernel_rfl, ?_⟩) SA.out ?_
  ·intro w' z0
   go_simp
   try rfl
  simp only [aP, sT, sZ, sS]
  refine zl27 1 22 (π (some ⟨w.heap.size, 1, none⟩)) rfl (.inl ⟨by kernel_rfl, ?_⟩) SA.out ?_
  ·intro w' z0
   go_simp
   try rfl
  simp only [aP, sT, sZ, sS]
  refine zl27 2 23 (O ι 0) rfl (.inl ⟨by kernel_rfl, ?_⟩) SA.out ?_
  ·intro w' z0
   go_simp
   try rfl
  simp only [aP, sT, sZ, sS]
  refine zl27 3 24 (O ι 2) rfl (.inl ⟨by kernel_rfl, ?_⟩) SA.out ?_
  ·intro w' z0
   go_simp
   try rfl
  simp only [aP, sT, sZ, sS]
  refine zl27 4 25 (σ (some ⟨w.heap.size, 1, none⟩) 2 4) rfl (.inl ⟨by kernel_rfl, ?_⟩) SA.out ?_
  ·intro w' z0
   go_simp
   try rfl
  simp only [aP, sT, sZ, sS]
  refine zl27 5 26 (π (some ⟨w.heap.size, 0, none⟩)) rfl (.inl ⟨by kernel_rfl, ?_⟩) SA.out ?_
  ·intro w' z0
   go_simp
   try rfl
  simp only [aP, sT, sZ, sS]
  refine zl27 6 27 (π (some ⟨w.heap.size, 1, none⟩)) rfl (.inl ⟨by kernel_rfl, ?_⟩) SA.out ?_
  ·intro w' z0
   go_simp
   try rfl
  simp only [aP, sT, sZ, sS]
  refine zl27 7 28 (O ι 0) rfl (.inl ⟨by kernel_rfl, ?_⟩) SA.out ?_
  ·intro w' z0
   go_simp
   try rfl
  simp only [aP, sT, sZ, sS]
  refine zl27 8 29 (O ι 1) rfl (.inl ⟨by kernel_rfl, ?_⟩) SA.out ?_
  ·intro w' z0
   go_simp
   try rfl
  simp only [aP, sT, sZ, sS]
  refine zl27 9 30 (σ (some ⟨w.heap.size, 2, none⟩) 3 3) rfl (.inl ⟨by kernel_rfl, ?_⟩) SA.out ?_
  ·intro w' z0
   go_simp
   try rfl
  simp only [aP, sT, sZ, sS]
  have hcp : (Builtin.copy_ #[25, 25] 3 #[σ (some ⟨w.heap.size, 1, none⟩) 2 4, σ (some ⟨w.heap.size, 2, none⟩) 3 3]).run Tryz.prog t0 = .ok (goInt 2) ((t0.setCell ⟨w.heap.size, 1, none⟩ (O ι a1)).setCell ⟨w.heap.size, 2, none⟩ (O ι a2)) := by
   have fzn := fun (q : Nat) => HX.out.unfrozen (b := w.heap.size) (Nat.le_refl _) q
   refine run_copy_cells (P := Tryz.prog) t0 25 25 3 2 w.heap.size 1 2 4 ⟨w.heap.size, 2, none⟩ 3 3 [O ι a1, O ι a2] Tryz.underlying25 zz2 rfl ?_ ?_ (fun j _ => fzn _) (by simp [Value.oneCell'])
   ·intro j v hv
    have q := HA.out (2 + j) v (by
     rw [← hv]
     match j with
     | 0 => rfl
     | 1 => rfl
     | j + 2 => simp at hv)
    rw [Addr.add_lit]
    exact q
   ·intro j hj
    have hj' : j < 2 := hj
    have q := HA.out (1 + j) _ (List.getElem?_eq_getElem (by simp; omega))
    rw [q]; rfl
  refine ze (i := 10) (by kernel_rfl) rfl (fun K hK => ?_)
  go_simp
  refine hK.out _ _ (fun _ => trivial) ?_
  clear hK K
  try simp only [aP, sT, sZ, sS]
  refine zg (by kernel_rfl) ?_ _
  exact ⟨rfl, by kernel_rfl, ((HX.out.fresh (Nat.le_refl _) 1 (O ι a1)).fresh (Nat.le_refl _) 2 (O ι a2)), ((HA.out.set1 (j := 1) (by simp) (O ι a1)).set1 (j := 2) (by simp) (O ι a2)), ((HZ.out.other (B := w.heap.size) (j := 1) (by omega) (O ι a1)).other (B := w.heap.size) (j := 2) (by omega) (O ι a2))⟩
 rintro a' W2 ⟨rfl, hx, ha, hz⟩
 replace HX := hide hx
 replace HA := hide ha
 replace HZ := hide hz
 clear hx ha hz SA
 simp only [aP, sT, sZ, sS]
 go_wp2_with fail
 have SA : Hid ((fun _ : World => True) W2.drew) := trivial
 refine zq (fun ac a' w' => a' = (((((((((ac.put (some 32) (π (some ⟨w.heap.size, 5, none⟩))).put (some 33) (O ι 0)).put (some 34) (O ι 2)).put (some 35) (σ (some ⟨w.heap.size, 5, none⟩) 2 4)).put (some 36) (π (some ⟨w.heap.size, 5, none⟩))).put (some 37) (O ι 0)).put (some 38) (O ι 1)).put (some 39) (σ (some ⟨w.heap.size, 6, none⟩) 3 3)).put (some 40) (O ι 2)) ∧ Ext w w' ∧ AtB w' w.heap.size [O ι 3, O ι a1, O ι a2, O ι a2, O ι a3, O ι s1, O ι s2, O ι s2, O ι s3, O ι off] ∧ AtB w' (w.heap.size + 1) [O ι 0, O ι 0, O ι 0, O ι 0, O ι 0, O ι 0, O ι 0, O ι 0, O ι 0, O ι 0]) (S := (fun _ : World => True)) (late := []) (by kernel_rfl) ?_ ?_
 rotate_left
 ·replace HX := hide (HX.out.trans (Ext.refl W2).drew)
  replace HA := hide (HA.out.keep (Ext.refl W2).drew.bl)
  replace HZ := hide (HZ.out.keep (Ext.refl W2).drew.bl)
  generalize W2.drew = t0 at HA HZ HX SA ⊢
  refine zl27 0 32 (π (some ⟨w.heap.size, 5, none⟩)) rfl (.inl ⟨by kernel_rfl, ?_⟩) SA.out ?_
  ·intro w' z0
   go_simp
   try rfl
  simp only [aP, sT, sZ, sS]
  refine zl27 1 33 (O ι 0) rfl (.inl ⟨by kernel_rfl, ?_⟩) SA.out ?_
  ·intro w' z0
   go_simp
   try rfl
  simp only [aP, sT, sZ, sS]
  refine zl27 2 34 (O ι 2) rfl (.inl ⟨by kernel_rfl, ?_⟩) SA.out ?_
  ·intro w' z0
   go_simp
   try rfl
  simp only [aP, sT, sZ, sS]
  refine zl27 3 35 (σ (some ⟨w.heap.size, 5, none⟩) 2 4) rfl (.inl ⟨by kernel_rfl, ?_⟩) SA.out ?_
  ·intro w' z0
   go_simp
   try rfl
  simp only [aP, sT, sZ, sS]
  refine zl27 4 36 (π (some ⟨w.heap.size, 5, none⟩)) rfl (.inl ⟨by kernel_rfl, ?_⟩) SA.out ?_
  ·intro w' z0
   go_simp
   try rfl
  simp only [aP, sT, sZ, sS]
  refine zl27 5 37 (O ι 0) rfl (.inl ⟨by kernel_rfl, ?_⟩) SA.out ?_
  ·intro w' z0
   go_simp
   try rfl
  simp only [aP, sT, sZ, sS]
  refine zl27 6 38 (O ι 1) rfl (.inl ⟨by kernel_rfl, ?_⟩) SA.out ?_
  ·intro w' z0
   go_simp
   try rfl
  simp only [aP, sT, sZ, sS]
  refine zl27 7 39 (σ (some ⟨w.heap.size, 6, none⟩) 3 3) rfl (.inl ⟨by kernel_rfl, ?_⟩) SA.out ?_
  ·intro w' z0
   go_simp
   try rfl
  simp only [aP, sT, sZ, sS]
  have hcp : (Builtin.copy_ #[25, 25] 3 #[σ (some ⟨w.heap.size, 5, none⟩) 2 4, σ (some ⟨w.heap.size, 6, none⟩) 3 3]).run Tryz.prog t0 = .ok (goInt 2) ((t0.setCell ⟨w.heap.size, 5, none⟩ (O ι s1)).setCell ⟨w.heap.size, 6, none⟩ (O ι s2)) := by
   have fzn := fun (q : Nat) => HX.out.unfrozen (b := w.heap.size) (Nat.le_refl _) q
   refine run_copy_cells (P := Tryz.prog) t0 25 25 3 2 w.heap.size 5 2 4 ⟨w.heap.size, 6, none⟩ 3 3 [O ι s1, O ι s2] Tryz.underlying25 zz2 rfl ?_ ?_ (fun j _ => fzn _) (by simp [Value.oneCell'])
   ·intro j v hv
    have q := HA.out (6 + j) v (by
     rw [← hv]
     match j with
     | 0 => rfl
     | 1 => rfl
     | j + 2 => simp at hv)
    rw [Addr.add_lit]
    exact q
   ·intro j hj
    have hj' : j < 2 := hj
    have q := HA.out (5 + j) _ (List.getElem?_eq_getElem (by simp; omega))
    rw [q]; rfl
  refine ze (i := 8) (by kernel_rfl) rfl (fun K hK => ?_)
  go_simp
  refine hK.out _ _ (fun _ => trivial) ?_
  clear hK K
  try simp only [aP, sT, sZ, sS]
  refine zg (by kernel_rfl) ?_ _
  exact ⟨rfl, by kernel_rfl, ((HX.out.fresh (Nat.le_refl _) 5 (O ι s1)).fresh (Nat.le_refl _) 6 (O ι s2)), ((HA.out.set1 (j := 5) (by simp) (O ι s1)).set1 (j := 6) (by simp) (O ι s2)), ((HZ.out.other (B := w.heap.size) (j := 5) (by omega) (O ι s1)).other (B := w.heap.size) (j := 6) (by omega) (O ι s2))⟩
 rintro a' W3 ⟨rfl, hx, ha, hz⟩
 replace HX := hide hx
 replace HA := hide ha
 replace HZ := hide hz
 clear hx ha hz SA
 simp only [aP, sT, sZ, sS]
 have c0 : (_ : Option Value) = some (O ι 3) := HA.out 0 _ rfl
 have c1 : (_ : Option Value) = some (O ι a1) := HA.out 1 _ rfl
 have c2 : (_ : Option Value) = some (O ι a2) := HA.out 2 _ rfl
 have c3 : (_ : Option Value) = some (O ι a2) := HA.out 3 _ rfl
 have c4 : (_ : Option Value) = some (O ι a3) := HA.out 4 _ rfl
 have c5 : (_ : Option Value) = some (O ι s1) := HA.out 5 _ rfl
 have c6 : (_ : Option Value) = some (O ι s2) := HA.out 6 _ rfl
 have c7 : (_ : Option Value) = some (O ι s2) := HA.out 7 _ rfl
 have c8 : (_ : Option Value) = some (O ι s3) := HA.out 8 _ rfl
 have c9 : (_ : Option Value) = some (O ι off) := HA.out 9 _ rfl
 have z0 : (_ : Option Value) = some (O ι 0) := HZ.out 0 _ rfl
 have z1 : (_ : Option Value) = some (O ι 0) := HZ.out 1 _ rfl
 have z2 : (_ : Option Value) = some (O ι 0) := HZ.out 2 _ rfl
 have z3 : (_ : Option Value) = some (O ι 0) := HZ.out 3 _ rfl
 have z4 : (_ : Option Value) = some (O ι 0) := HZ.out 4 _ rfl
 have z5 : (_ : Option Value) = some (O ι 0) := HZ.out 5 _ rfl
 have z6 : (_ : Option Value) = some (O ι 0) := HZ.out 6 _ rfl
 have z7 : (_ : Option Value) = some (O ι 0) := HZ.out 7 _ rfl
 have z8 : (_ : Option Value) = some (O ι 0) := HZ.out 8 _ rfl
 have z9 : (_ : Option Value) = some (O ι 0) := HZ.out 9 _ rfl
 have fzn : ∀ q, W3.frozen? ⟨w.heap.size, q, none⟩ = false := fun q => HX.out.unfrozen (Nat.le_refl _) q
 have fzm : ∀ q, W3.frozen? ⟨w.heap.size + 1, q, none⟩ = false := fun q => HX.out.unfrozen (by omega) q
 have HA2 := hide ((HA.out.set1 (j := 3) (by simp) (O ι a0)).set1 (j := 7) (by simp) (O ι s0))
 have HZ2 := hide ((HZ.out.other (B := w.heap.size) (j := 3) (by omega) (O ι a0)).other (B := w.heap.size) (j := 7) (by omega) (O ι s0))
 have HX2 := hide ((HX.out.fresh (Nat.le_refl _) 3 (O ι a0)).fresh (Nat.le_refl _) 7 (O ι s0))
 have HZ3 := hide ((((((((((HZ2.out.set1 (j := 0) (by simp) (O ι 3)).set1 (j := 1) (by simp) (O ι a1)).set1 (j := 2) (by simp) (O ι a2)).set1 (j := 3) (by simp) (O ι a0)).set1 (j := 4) (by simp) (O ι a3)).set1 (j := 5) (by simp) (O ι s1)).set1 (j := 6) (by simp) (O ι s2)).set1 (j := 7) (by simp) (O ι s0)).set1 (j := 8) (by simp) (O ι s3)).set1 (j := 9) (by simp) (O ι off))
 have HX3 := hide ((((((((((HX2.out.fresh (B := w.heap.size + 1) (by omega) 0 (O ι 3)).fresh (B := w.heap.size + 1) (by omega) 1 (O ι a1)).fresh (B := w.heap.size + 1) (by omega) 2 (O ι a2)).fresh (B := w.heap.size + 1) (by omega) 3 (O ι a0)).fresh (B := w.heap.size + 1) (by omega) 4 (O ι a3)).fresh (B := w.heap.size + 1) (by omega) 5 (O ι s1)).fresh (B := w.heap.size + 1) (by omega) 6 (O ι s2)).fresh (B := w.heap.size + 1) (by omega) 7 (O ι s0)).fresh (B := w.heap.size + 1) (by omega) 8 (O ι s3)).fresh (B := w.heap.size + 1) (by omega) 9 (O ι off))
 have y0 := HZ3.out 0 _ rfl
 have y1 := HZ3.out 1 _ rfl
 have y2 := HZ3.out 2 _ rfl
 have y3 := HZ3.out 3 _ rfl
 have y4 := HZ3.out 4 _ rfl
 have y5 := HZ3.out 5 _ rfl
 have y6 := HZ3.out 6 _ rfl
 have y7 := HZ3.out 7 _ rfl
 have y8 := HZ3.out 8 _ rfl
 have y9 := HZ3.out 9 _ rfl
 have HY : Hid True := trivial
 have d0 := HA2.out 0 _ rfl
 have d1 := HA2.out 1 _ rfl
 have d2 := HA2.out 2 _ rfl
 have d3 := HA2.out 3 _ rfl
 have d4 := HA2.out 4 _ rfl
 have d5 := HA2.out 5 _ rfl
 have d6 := HA2.out 6 _ rfl
 have d7 := HA2.out 7 _ rfl
 have d8 := HA2.out 8 _ rfl
 have d9 := HA2.out 9 _ rfl
 go_wp2_with fail
 refine bodyPost_ret (v := γ #[O ι 3, O ι a1, O ι a2, O ι a0, O ι a3, O ι s1, O ι s2, O ι s0, O ι s3, O ι off]) (by simp [results, Tryz.results83, go_sem, y0, y1, y2, y3, y4, y5, y6, y7, y8, y9]) rfl ⟨rfl, HX3.out⟩
theorem zv14 (w : World) (a0 a1 a2 a3 s0 s1 s2 s3 off : Int) :
  Calls Tryz.prog 83 #[γ #[O ι 3, O ι a0, O ι a1, O ι a2, O ι a3, O ι s0, O ι s1, O ι s2, O ι s3, O ι off], O ι 1] w fun e w' => e = .returned (γ #[O ι 3, O ι a0, O ι a2, O ι a1, O ι a3, O ι s0, O ι s2, O ι s1, O ι s3, O ι off]) ∧ Ext w w' := by
 have x0 : Ext w ((w.alloc (χ #[O ι 3, O ι a0, O ι a1, O ι a2, O ι a3, O ι s0, O ι s1, O ι s2, O ι s3, O ι off] 83)).alloc (χ #[O ι 0, O ι 0, O ι 0, O ι 0, O ι 0, O ι 0, O ι 0, O ι 0, O ι 0, O ι 0] 83)) := ((Ext.refl w).alloc _ _).alloc _ _
 have x1 : Ext (w.alloc (χ #[O ι 3, O ι a0, O ι a1, O ι a2, O ι a3, O ι s0, O ι s1, O ι s2, O ι s3, O ι off] 83)) ((w.alloc (χ #[O ι 3, O ι a0, O ι a1, O ι a2, O ι a3, O ι s0, O ι s1, O ι s2, O ι s3, O ι off] 83)).alloc (χ #[O ι 0, O ι 0, O ι 0, O ι 0, O ι 0, O ι 0, O ι 0, O ι 0, O ι 0, O ι 0] 83)) := (Ext.refl _).alloc _ _
 have A0 : AtB ((w.alloc (χ #[O ι 3, O ι a0, O ι a1, O ι a2, O ι a3, O ι s0, O ι s1, O ι s2, O ι s3, O ι off] 83)).alloc (χ #[O ι 0, O ι 0, O ι 0, O ι 0, O ι 0, O ι 0, O ι 0, O ι 0, O ι 0, O ι 0] 83)) w.heap.size [O ι 3, O ι a0, O ι a1, O ι a2, O ι a3, O ι s0, O ι s1, O ι s2, O ι s3, O ι off] := fun j x hx => x1.box ((zd w _ 83 _ rfl j).trans (by simpa using hx))
 have Z0 : AtB ((w.alloc (χ #[O ι 3, O ι a0, O ι a1, O ι a2, O ι a3, O ι s0, O ι s1, O ι s2, O ι s3, O ι off] 83)).alloc (χ #[O ι 0, O ι 0, O ι 0, O ι 0, O ι 0, O ι 0, O ι 0, O ι 0, O ι 0, O ι 0] 83)) (w.heap.size + 1) [O ι 0, O ι 0, O ι 0, O ι 0, O ι 0, O ι 0, O ι 0, O ι 0, O ι 0, O ι 0] := fun j x hx => (zd _ _ 83 _ (by simp) j).trans (by simpa using hx)
 have HA := hide A0
 have HZ := hide Z0
 have HX := hide x0
 clear x0 x1 A0 Z0
 go_enter Tryz.func83, Tryz.ntmps83
 go_wp2_with fail
 generalize (w.alloc (χ #[O ι 3, O ι a0, O ι a1, O ι a2, O ι a3, O ι s0, O ι s1, O ι s2, O ι s3, O ι off] 83)).alloc (χ #[O ι 0, O ι 0, O ι 0, O ι 0, O ι 0, O ι 0, O ι 0, O ι 0, O ι 0, O ι 0] 83) = W0 at HA HZ HX ⊢
 have c0 : (_ : Option Value) = some (O ι 3) := HA.out 0 _ rfl
 have c1 : (_ : Option Value) = some (O ι a0) := HA.out 1 _ rfl
 have c2 : (_ : Option Value) = some (O ι a1) := HA.out 2 _ rfl
 have c3 : (_ : Option Value) = some (O ι a2) := HA.out 3 _ rfl
 have c4 : (_ : Option Value) = some (O ι a3) := HA.out 4 _ rfl
 have c5 : (_ : Option Value) = some (O ι s0) := HA.out 5 _ rfl
 have c6 : (_ : Option Value) = some (O ι s1) := HA.out 6 _ rfl
 have c7 : (_ : Option Value) = some (O ι s2) := HA.out 7 _ rfl
 have c8 : (_ : Option Value) = some (O ι s3) := HA.out 8 _ rfl
 have c9 : (_ : Option Value) = some (O ι off) := HA.out 9 _ rfl
 go_region
 go_wp2_with fail
 replace HX := hide (HX.out.trans (Ext.refl W0).drew)
 replace HA := hide (HA.out.keep (Ext.refl W0).drew.bl)
 replace HZ := hide (HZ.out.keep (Ext.refl W0).drew.bl)
 clear c0 c1 c2 c3 c4 c5 c6 c7 c8 c9
 try generalize W0.drew = W1 at HA HZ HX ⊢
 have SA : Hid ((fun _ : World => True) W1.drew) := trivial
 refine zq (fun ac a' w' => a' = (((((((((((ac.put (some 21) (π (some ⟨w.heap.size, 0, none⟩))).put (some 22) (π (some ⟨w.heap.size, 1, none⟩))).put (some 23) (O ι 1)).put (some 24) (O ι 2)).put (some 25) (σ (some ⟨w.heap.size, 2, none⟩) 1 3)).put (some 26) (π (some ⟨w.heap.size, 0, none⟩))).put (some 27) (π (some ⟨w.heap.size, 1, none⟩))).put (some 28) (O ι 1)).put (some 29) (O ι 2)).put (some 30) (σ (some ⟨w.heap.size, 3, none⟩) 2 2)).put (some 31) (O ι 1)) ∧ Ext w w' ∧ AtB w' w.heap.size [O ι 3, O ι a0, O ι a2, O ι a2, O ι a3, O ι s0, O ι s1, O ι s2, O ι s3, O ι off] ∧ AtB w' (w.heap.size + 1) [O ι 0, O ι 0, O ι 0, O ι 0, O ι 0, O ι 0, O ι 0, O ι 0, O ι 0, O ι 0]) (S := (fun _ : World => True)) (late := []) (by kernel_rfl) ?_ ?_
 rotate_left
 ·replace HX := hide (HX.out.trans (Ext.refl W1).drew)
  replace HA := hide (HA.out.keep (Ext.refl W1).drew.bl)
  replace HZ := hide (HZ.out.keep (Ext.refl W1).drew.bl)
  generalize W1.drew = t0 at HA HZ HX SA ⊢
  refine zl27 0 21 (π (some ⟨w.heap.size, 0, none⟩)) rfl (.inl ⟨by kernel_rfl, ?_⟩) SA.out ?_
  ·intro w' z0
   go_simp
   try rfl
  simp only [aP, sT, sZ, sS]
  refine zl27 1 22 (π (some ⟨w.heap.size, 1, none⟩)) rfl (.inl ⟨by kernel_rfl, ?_⟩) SA.out ?_
  ·intro w' z0
   go_simp
   try rfl
  simp only [aP, sT, sZ, sS]
  refine zl27 2 23 (O ι 1) rfl (.inl ⟨by kernel_rfl, ?_⟩) SA.out ?_
  ·intro w' z0
   go_simp
   try rfl
  simp only [aP, sT, sZ, sS]
  refine zl27 3 24 (O ι 2) rfl (.inl ⟨by kernel_rfl, ?_⟩) SA.out ?_
  ·intro w' z0
   go_simp
   try rfl
  simp only [aP, sT, sZ, sS]
  refine zl27 4 25 (σ (some ⟨w.heap.size, 2, none⟩) 1 3) rfl (.inl ⟨by kernel_rfl, ?_⟩) SA.out ?_
  ·intro w' z0
   go_simp
   try rfl
  simp only [aP, sT, sZ, sS]
  refine zl27 5 26 (π (some ⟨w.heap.size, 0, none⟩)) rfl (.inl ⟨by kernel_rfl, ?_⟩) SA.out ?_
  ·intro w' z0
   go_simp
   try rfl
  simp only [aP, sT, sZ, sS]
  refine zl27 6 27 (π (some ⟨w.heap.size, 1, none⟩)) rfl (.inl ⟨by kernel_rfl, ?_⟩) SA.out ?_
  ·intro w' z0
   go_simp
   try rfl
  simp only [aP, sT, sZ, sS]
  refine zl27 7 28 (O ι 1) rfl (.inl ⟨by kernel_rfl, ?_⟩) SA.out ?_
  ·intro w' z0
   go_simp
   try rfl
  simp only [aP, sT, sZ, sS]
  refine zl27 8 29 (O ι 2) rfl (.inl ⟨by kernel_rfl, ?_⟩) SA.out ?_
  ·intro w' z0
   go_simp
   try rfl
  simp only [aP, sT, sZ, sS]
  refine zl27 9 30 (σ (some ⟨w.heap.size, 3, none⟩) 2 2) rfl (.inl ⟨by kernel_rfl, ?_⟩) SA.out ?_
  ·intro w' z0
   go_simp
   try rfl
  simp only [aP, sT, sZ, sS]
  have hcp : (Builtin.copy_ #[25, 25] 3 #[σ (some ⟨w.heap.size, 2, none⟩) 1 3, σ (some ⟨w.heap.size, 3, none⟩) 2 2]).run Tryz.prog t0 = .ok (goInt 1) (t0.setCell ⟨w.heap.size, 2, none⟩ (O ι a2)) := by
   have fzn := fun (q : Nat) => HX.out.unfrozen (b := w.heap.size) (Nat.le_refl _) q
   refine run_copy_cells (P := Tryz.prog) t0 25 25 3 2 w.heap.size 2 1 3 ⟨w.heap.size, 3, none⟩ 2 2 [O ι a2] Tryz.underlying25 zz2 rfl ?_ ?_ (fun j _ => fzn _) (by simp [Value.oneCell'])
   ·intro j v hv
    have q := HA.out (3 + j) v (by
     rw [← hv]
     match j with
     | 0 => rfl
     | j + 1 => simp at hv)
    rw [Addr.add_lit]
    exact q
   ·intro j hj
    have hj' : j < 1 := hj
    have q := HA.out (2 + j) _ (List.getElem?_eq_getElem (by simp; omega))
    rw [q]; rfl
  refine ze (i := 10) (by kernel_rfl) rfl (fun K hK => ?_)
  go_simp
  refine hK.out _ _ (fun _ => trivial) ?_
  clear hK K
  try simp only [aP, sT, sZ, sS]
  refine zg (by kernel_rfl) ?_ _
  exact ⟨rfl, by kernel_rfl, (HX.out.fresh (Nat.le_refl _) 2 (O ι a2)), (HA.out.set1 (j := 2) (by simp) (O ι a2)), (HZ.out.other (B := w.heap.size) (j := 2) (by omega) (O ι a2))⟩
 rintro a' W2 ⟨rfl, hx, ha, hz⟩
 replace HX := hide hx
 replace HA := hide ha
 replace HZ := hide hz
 clear hx ha hz SA
 simp only [aP, sT, sZ, sS]
 go_wp2_with fail
 have SA : Hid ((fun _ : World => True) W2.drew) := trivial
 refine zq (fun ac a' w' => a' = (((((((((ac.put (some 32) (π (some ⟨w.heap.size, 5, none⟩))).put (some 33) (O ι 1)).put (some 34) (O ι 2)).put (some 35) (σ (some ⟨w.heap.size, 6, none⟩) 1 3)).put (some 36) (π (some ⟨w.heap.size, 5, none⟩))).put (some 37) (O ι 1)).put (some 38) (O ι 2)).put (some 39) (σ (some ⟨w.heap.size, 7, none⟩) 2 2)).put (some 40) (O ι 1)) ∧ Ext w w' ∧ AtB w' w.heap.size [O ι 3, O ι a0, O ι a2, O ι a2, O ι a3, O ι s0, O ι s2, O ι s2, O ι s3, O ι off] ∧ AtB w' (w.heap.size + 1) [O ι 0, O ι 0, O ι 0, O ι 0, O ι 0, O ι 0, O ι 0, O ι 0, O ι 0, O ι 0]) (S := (fun _ : World => True)) (late := []) (by kernel_rfl) ?_ ?_
 rotate_left
 ·replace HX := hide (HX.out.trans (Ext.refl W2).drew)
  replace HA := hide (HA.out.keep (Ext.refl W2).drew.bl)
  replace HZ := hide (HZ.out.keep (Ext.refl W2).drew.bl)
  generalize W2.drew = t0 at HA HZ HX SA ⊢
  refine zl27 0 32 (π (some ⟨w.heap.size, 5, none⟩)) rfl (.inl ⟨by kernel_rfl, ?_⟩) SA.out ?_
  ·intro w' z0
   go_simp
   try rfl
  simp only [aP, sT, sZ, sS]
  refine zl27 1 33 (O ι 1) rfl (.inl ⟨by kernel_rfl, ?_⟩) SA.out ?_
  ·intro w' z0
   go_simp
   try rfl
  simp only [aP, sT, sZ, sS]
  refine zl27 2 34 (O ι 2) rfl (.inl ⟨by kernel_rfl, ?_⟩) SA.out ?_
  ·intro w' z0
   go_simp
   try rfl
  simp only [aP, sT, sZ, sS]
  refine zl27 3 35 (σ (some ⟨w.heap.size, 6, none⟩) 1 3) rfl (.inl ⟨by kernel_rfl, ?_⟩) SA.out ?_
  ·intro w' z0
   go_simp
   try rfl
  simp only [aP, sT, sZ, sS]
  refine zl27 4 36 (π (some ⟨w.heap.size, 5, none⟩)) rfl (.inl ⟨by kernel_rfl, ?_⟩) SA.out ?_
  ·intro w' z0
   go_simp
   try rfl
  simp only [aP, sT, sZ, sS]
  refine zl27 5 37 (O ι 1) rfl (.inl ⟨by kernel_rfl, ?_⟩) SA.out ?_
  ·intro w' z0
   go_simp
   try rfl
  simp only [aP, sT, sZ, sS]
  refine zl27 6 38 (O ι 2) rfl (.inl ⟨by kernel_rfl, ?_⟩) SA.out ?_
  ·intro w' z0
   go_simp
   try rfl
  simp only [aP, sT, sZ, sS]
  refine zl27 7 39 (σ (some ⟨w.heap.size, 7, none⟩) 2 2) rfl (.inl ⟨by kernel_rfl, ?_⟩) SA.out ?_
  ·intro w' z0
   go_simp
   try rfl
  simp only [aP, sT, sZ, sS]
  have hcp : (Builtin.copy_ #[25, 25] 3 #[σ (some ⟨w.heap.size, 6, none⟩) 1 3, σ (some ⟨w.heap.size, 7, none⟩) 2 2]).run Tryz.prog t0 = .ok (goInt 1) (t0.setCell ⟨w.heap.size, 6, none⟩ (O ι s2)) := by
   have fzn := fun (q : Nat) => HX.out.unfrozen (b := w.heap.size) (Nat.le_refl _) q
   refine run_copy_cells (P := Tryz.prog) t0 25 25 3 2 w.heap.size 6 1 3 ⟨w.heap.size, 7, none⟩ 2 2 [O ι s2] Tryz.underlying25 zz2 rfl ?_ ?_ (fun j _ => fzn _) (by simp [Value.oneCell'])
   ·intro j v hv
    have q := HA.out (7 + j) v (by
     rw [← hv]
     match j with
     | 0 => rfl
     | j + 1 => simp at hv)
    rw [Addr.add_lit]
    exact q
   ·intro j hj
    have hj' : j < 1 := hj
    have q := HA.out (6 + j) _ (List.getElem?_eq_getElem (by simp; omega))
    rw [q]; rfl
  refine ze (i := 8) (by kernel_rfl) rfl (fun K hK => ?_)
  go_simp
  refine hK.out _ _ (fun _ => trivial) ?_
  clear hK K
  try simp only [aP, sT, sZ, sS]
  refine zg (by kernel_rfl) ?_ _
  exact ⟨rfl, by kernel_rfl, (HX.out.fresh (Nat.le_refl _) 6 (O ι s2)), (HA.out.set1 (j := 6) (by simp) (O ι s2)), (HZ.out.other (B := w.heap.size) (j := 6) (by omega) (O ι s2))⟩
 rintro a' W3 ⟨rfl, hx, ha, hz⟩
 replace HX := hide hx
 replace HA := hide ha
 replace HZ := hide hz
 clear hx ha hz SA
 simp only [aP, sT, sZ, sS]
 have c0 : (_ : Option Value) = some (O ι 3) := HA.out 0 _ rfl
 have c1 : (_ : Option Value) = some (O ι a0) := HA.out 1 _ rfl
 have c2 : (_ : Option Value) = some (O ι a2) := HA.out 2 _ rfl
 have c3 : (_ : Option Value) = some (O ι a2) := HA.out 3 _ rfl
 have c4 : (_ : Option Value) = some (O ι a3) := HA.out 4 _ rfl
 have c5 : (_ : Option Value) = some (O ι s0) := HA.out 5 _ rfl
 have c6 : (_ : Option Value) = some (O ι s2) := HA.out 6 _ rfl
 have c7 : (_ : Option Value) = some (O ι s2) := HA.out 7 _ rfl
 have c8 : (_ : Option Value) = some (O ι s3) := HA.out 8 _ rfl
 have c9 : (_ : Option Value) = some (O ι off) := HA.out 9 _ rfl
 have z0 : (_ : Option Value) = some (O ι 0) := HZ.out 0 _ rfl
 have z1 : (_ : Option Value) = some (O ι 0) := HZ.out 1 _ rfl
 have z2 : (_ : Option Value) = some (O ι 0) := HZ.out 2 _ rfl
 have z3 : (_ : Option Value) = some (O ι 0) := HZ.out 3 _ rfl
 have z4 : (_ : Option Value) = some (O ι 0) := HZ.out 4 _ rfl
 have z5 : (_ : Option Value) = some (O ι 0) := HZ.out 5 _ rfl
 have z6 : (_ : Option Value) = some (O ι 0) := HZ.out 6 _ rfl
 have z7 : (_ : Option Value) = some (O ι 0) := HZ.out 7 _ rfl
 have z8 : (_ : Option Value) = some (O ι 0) := HZ.out 8 _ rfl
 have z9 : (_ : Option Value) = some (O ι 0) := HZ.out 9 _ rfl
 have fzn : ∀ q, W3.frozen? ⟨w.heap.size, q, none⟩ = false := fun q => HX.out.unfrozen (Nat.le_refl _) q
 have fzm : ∀ q, W3.frozen? ⟨w.heap.size + 1, q, none⟩ = false := fun q => HX.out.unfrozen (by omega) q
 have HA2 := hide ((HA.out.set1 (j := 3) (by simp) (O ι a1)).set1 (j := 7) (by simp) (O ι s1))
 have HZ2 := hide ((HZ.out.other (B := w.heap.size) (j := 3) (by omega) (O ι a1)).other (B := w.heap.size) (j := 7) (by omega) (O ι s1))
 have HX2 := hide ((HX.out.fresh (Nat.le_refl _) 3 (O ι a1)).fresh (Nat.le_refl _) 7 (O ι s1))
 have HZ3 := hide ((((((((((HZ2.out.set1 (j := 0) (by simp) (O ι 3)).set1 (j := 1) (by simp) (O ι a0)).set1 (j := 2) (by simp) (O ι a2)).set1 (j := 3) (by simp) (O ι a1)).set1 (j := 4) (by simp) (O ι a3)).set1 (j := 5) (by simp) (O ι s0)).set1 (j := 6) (by simp) (O ι s2)).set1 (j := 7) (by simp) (O ι s1)).set1 (j := 8) (by simp) (O ι s3)).set1 (j := 9) (by simp) (O ι off))
 have HX3 := hide ((((((((((HX2.out.fresh (B := w.heap.size + 1) (by omega) 0 (O ι 3)).fresh (B := w.heap.size + 1) (by omega) 1 (O ι a0)).fresh (B := w.heap.size + 1) (by omega) 2 (O ι a2)).fresh (B := w.heap.size + 1) (by omega) 3 (O ι a1)).fresh (B := w.heap.size + 1) (by omega) 4 (O ι a3)).fresh (B := w.heap.size + 1) (by omega) 5 (O ι s0)).fresh (B := w.heap.size + 1) (by omega) 6 (O ι s2)).fresh (B := w.heap.size + 1) (by omega) 7 (O ι s1)).fresh (B := w.heap.size + 1) (by omega) 8 (O ι s3)).fresh (B := w.heap.size + 1) (by omega) 9 (O ι off))
 have y0 := HZ3.out 0 _ rfl
 have y1 := HZ3.out 1 _ rfl
 have y2 := HZ3.out 2 _ rfl
 have y3 := HZ3.out 3 _ rfl
 have y4 := HZ3.out 4 _ rfl
 have y5 := HZ3.out 5 _ rfl
 have y6 := HZ3.out 6 _ rfl
 have y7 := HZ3.out 7 _ rfl
 have y8 := HZ3.out 8 _ rfl
 have y9 := HZ3.out 9 _ rfl
 have HY : Hid True := trivial
 have d0 := HA2.out 0 _ rfl
 have d1 := HA2.out 1 _ rfl
 have d2 := HA2.out 2 _ rfl
 have d3 := HA2.out 3 _ rfl
 have d4 := HA2.out 4 _ rfl
 have d5 := HA2.out 5 _ rfl
 have d6 := HA2.out 6 _ rfl
 have d7 := HA2.out 7 _ rfl
 have d8 := HA2.out 8 _ rfl
 have d9 := HA2.out 9 _ rfl
 go_wp2_with fail
 refine bodyPost_ret (v := γ #[O ι 3, O ι a0, O ι a2, O ι a1, O ι a3, O ι s0, O ι s2, O ι s1, O ι s3, O ι off]) (by simp [results, Tryz.results83, go_sem, y0, y1, y2, y3, y4, y5, y6, y7, y8, y9]) rfl ⟨rfl, HX3.out⟩
theorem zu14 (w : World) (a0 a1 a2 a3 s0 s1 s2 s3 off : Int) :
  Calls Tryz.prog 83 #[γ #[O ι 3, O ι a0, O ι a1, O ι a2, O ι a3, O ι s0, O ι s1, O ι s2, O ι s3, O ι off], O ι 2] w fun e w' => e = .returned (γ #[O ι 3, O ι a0, O ι a1, O ι a2, O ι a3, O ι s0, O ι s1, O ι s2, O ι s3, O ι off]) ∧ Ext w w' := by
 have x0 : Ext w ((w.alloc (χ #[O ι 3, O ι a0, O ι a1, O ι a2, O ι a3, O ι s0, O ι s1, O ι s2, O ι s3, O ι off] 83)).alloc (χ #[O ι 0, O ι 0, O ι 0, O ι 0, O ι 0, O ι 0, O ι 0, O ι 0, O ι 0, O ι 0] 83)) := ((Ext.refl w).alloc _ _).alloc _ _
 have x1 : Ext (w.alloc (χ #[O ι 3, O ι a0, O ι a1, O ι a2, O ι a3, O ι s0, O ι s1, O ι s2, O ι s3, O ι off] 83)) ((w.alloc (χ #[O ι 3, O ι a0, O ι a1, O ι a2, O ι a3, O ι s0, O ι s1, O ι s2, O ι s3, O ι off] 83)).alloc (χ #[O ι 0, O ι 0, O ι 0, O ι 0, O ι 0, O ι 0, O ι 0, O ι 0, O ι 0, O ι 0] 83)) := (Ext.refl _).alloc _ _
 have A0 : AtB ((w.alloc (χ #[O ι 3, O ι a0, O ι a1, O ι a2, O ι a3, O ι s0, O ι s1, O ι s2, O ι s3, O ι off] 83)).alloc (χ #[O ι 0, O ι 0, O ι 0, O ι 0, O ι 0, O ι 0, O ι 0, O ι 0, O ι 0, O ι 0] 83)) w.heap.size [O ι 3, O ι a0, O ι a1, O ι a2, O ι a3, O ι s0, O ι s1, O ι s2, O ι s3, O ι off] := fun j x hx => x1.box ((zd w _ 83 _ rfl j).trans (by simpa using hx))
 have Z0 : AtB ((w.alloc (χ #[O ι 3, O ι a0, O ι a1, O ι a2, O ι a3, O ι s0, O ι s1, O ι s2, O ι s3, O ι off] 83)).alloc (χ #[O ι 0, O ι 0, O ι 0, O ι 0, O ι 0, O ι 0, O ι 0, O ι 0, O ι 0, O ι 0] 83)) (w.heap.size + 1) [O ι 0, O ι 0, O ι 0, O ι 0, O ι 0, O ι 0, O ι 0, O ι 0, O ι 0, O ι 0] := fun j x hx => (zd _ _ 83 _ (by simp) j).trans (by simpa using hx)
 have HA := hide A0
 have HZ := hide Z0
 have HX := hide x0
 clear x0 x1 A0 Z0
 go_enter Tryz.func83, Tryz.ntmps83
 go_wp2_with fail
 generalize (w.alloc (χ #[O ι 3, O ι a0, O ι a1, O ι a2, O ι a3, O ι s0, O ι s1, O ι s2, O ι s3, O ι off] 83)).alloc (χ #[O ι 0, O ι 0, O ι 0, O ι 0, O ι 0, O ι 0, O ι 0, O ι 0, O ι 0, O ι 0] 83) = W0 at HA HZ HX ⊢
 have c0 : (_ : Option Value) = some (O ι 3) := HA.out 0 _ rfl
 have c1 : (_ : Option Value) = some (O ι a0) := HA.out 1 _ rfl
 have c2 : (_ : Option Value) = some (O ι a1) := HA.out 2 _ rfl
 have c3 : (_ : Option Value) = some (O ι a2) := HA.out 3 _ rfl
 have c4 : (_ : Option Value) = some (O ι a3) := HA.out 4 _ rfl
 have c5 : (_ : Option Value) = some (O ι s0) := HA.out 5 _ rfl
 have c6 : (_ : Option Value) = some (O ι s1) := HA.out 6 _ rfl
 have c7 : (_ : Option Value) = some (O ι s2) := HA.out 7 _ rfl
 have c8 : (_ : Option Value) = some (O ι s3) := HA.out 8 _ rfl
 have c9 : (_ : Option Value) = some (O ι off) := HA.out 9 _ rfl
 go_region
 go_wp2_with fail
 replace HX := hide (HX.out.trans (Ext.refl W0).drew)
 replace HA := hide (HA.out.keep (Ext.refl W0).drew.bl)
 replace HZ := hide (HZ.out.keep (Ext.refl W0).drew.bl)
 clear c0 c1 c2 c3 c4 c5 c6 c7 c8 c9
 try generalize W0.drew = W1 at HA HZ HX ⊢
 have SA : Hid ((fun _ : World => True) W1.drew) := trivial
 refine zq (fun ac a' w' => a' = (((((((((((ac.put (some 21) (π (some ⟨w.heap.size, 0, none⟩))).put (some 22) (π (some ⟨w.heap.size, 1, none⟩))).put (some 23) (O ι 2)).put (some 24) (O ι 2)).put (some 25) (σ (some ⟨w.heap.size, 3, none⟩) 0 2)).put (some 26) (π (some ⟨w.heap.size, 0, none⟩))).put (some 27) (π (some ⟨w.heap.size, 1, none⟩))).put (some 28) (O ι 2)).put (some 29) (O ι 3)).put (some 30) (σ (some ⟨w.heap.size, 4, none⟩) 1 1)).put (some 31) (O ι 0)) ∧ Ext w w' ∧ AtB w' w.heap.size [O ι 3, O ι a0, O ι a1, O ι a2, O ι a3, O ι s0, O ι s1, O ι s2, O ι s3, O ι off] ∧ AtB w' (w.heap.size + 1) [O ι 0, O ι 0, O ι 0, O ι 0, O ι 0, O ι 0, O ι 0, O ι 0, O ι 0, O ι 0]) (S := (fun _ : World => True)) (late := []) (by kernel_rfl) ?_ ?_
 rotate_left
 ·replace HX := hide (HX.out.trans (Ext.refl W1).drew)
  replace HA := hide (HA.out.keep (Ext.refl W1).drew.bl)
  replace HZ := hide (HZ.out.keep (Ext.refl W1).drew.bl)
  generalize W1.drew = t0 at HA HZ HX SA ⊢
  refine zl27 0 21 (π (some ⟨w.heap.size, 0, none⟩)) rfl (.inl ⟨by kernel_rfl, ?_⟩) SA.out ?_
  ·intro w' z0
   go_simp
   try rfl
  simp only [aP, sT, sZ, sS]
  refine zl27 1 22 (π (some ⟨w.heap.size, 1, none⟩)) rfl (.inl ⟨by kernel_rfl, ?_⟩) SA.out ?_
  ·intro w' z0
   go_simp
   try rfl
  simp only [aP, sT, sZ, sS]
  refine zl27 2 23 (O ι 2) rfl (.inl ⟨by kernel_rfl, ?_⟩) SA.out ?_
  ·intro w' z0
   go_simp
   try rfl
  simp only [aP, sT, sZ, sS]
  refine zl27 3 24 (O ι 2) rfl (.inl ⟨by kernel_rfl, ?_⟩) SA.out ?_
  ·intro w' z0
   go_simp
   try rfl
  simp only [aP, sT, sZ, sS]
  refine zl27 4 25 (σ (some ⟨w.heap.size, 3, none⟩) 0 2) rfl (.inl ⟨by kernel_rfl, ?_⟩) SA.out ?_
  ·intro w' z0
   go_simp
   try rfl
  simp only [aP, sT, sZ, sS]
  refine zl27 5 26 (π (some ⟨w.heap.size, 0, none⟩)) rfl (.inl ⟨by kernel_rfl, ?_⟩) SA.out ?_
  ·intro w' z0
   go_simp
   try rfl
  simp only [aP, sT, sZ, sS]
  refine zl27 6 27 (π (some ⟨w.heap.size, 1, none⟩)) rfl (.inl ⟨by kernel_rfl, ?_⟩) SA.out ?_
  ·intro w' z0
   go_simp
   try rfl
  simp only [aP, sT, sZ, sS]
  refine zl27 7 28 (O ι 2) rfl (.inl ⟨by kernel_rfl, ?_⟩) SA.out ?_
  ·intro w' z0
   go_simp
   try rfl
  simp only [aP, sT, sZ, sS]
  refine zl27 8 29 (O ι 3) rfl (.inl ⟨by kernel_rfl, ?_⟩) SA.out ?_
  ·intro w' z0
   go_simp
   try rfl
  simp only [aP, sT, sZ, sS]
  refine zl27 9 30 (σ (some ⟨w.heap.size, 4, none⟩) 1 1) rfl (.inl ⟨by kernel_rfl, ?_⟩) SA.out ?_
  ·intro w' z0
   go_simp
   try rfl
  simp only [aP, sT, sZ, sS]
  have hcp := run_copy_none (P := Tryz.prog) t0 25 25 3 2 (some ⟨w.heap.size, 3, none⟩) (some ⟨w.heap.size, 4, none⟩) 0 2 1 1 Tryz.underlying25 zz2 rfl
  refine ze (i := 10) (by kernel_rfl) rfl (fun K hK => ?_)
  go_simp
  refine hK.out _ _ (fun _ => trivial) ?_
  clear hK K
  try simp only [aP, sT, sZ, sS]
  refine zg (by kernel_rfl) ?_ _
  exact ⟨rfl, by kernel_rfl, HX.out, HA.out, HZ.out⟩
 rintro a' W2 ⟨rfl, hx, ha, hz⟩
 replace HX := hide hx
 replace HA := hide ha
 replace HZ := hide hz
 clear hx ha hz SA
 simp only [aP, sT, sZ, sS]
 go_wp2_with fail
 have SA : Hid ((fun _ : World => True) W2.drew) := trivial
 refine zq (fun ac a' w' => a' = (((((((((ac.put (some 32) (π (some ⟨w.heap.size, 5, none⟩))).put (some 33) (O ι 2)).put (some 34) (O ι 2)).put (some 35) (σ (some ⟨w.heap.size, 7, none⟩) 0 2)).put (some 36) (π (some ⟨w.heap.size, 5, none⟩))).put (some 37) (O ι 2)).put (some 38) (O ι 3)).put (some 39) (σ (some ⟨w.heap.size, 8, none⟩) 1 1)).put (some 40) (O ι 0)) ∧ Ext w w' ∧ AtB w' w.heap.size [O ι 3, O ι a0, O ι a1, O ι a2, O ι a3, O ι s0, O ι s1, O ι s2, O ι s3, O ι off] ∧ AtB w' (w.heap.size + 1) [O ι 0, O ι 0, O ι 0, O ι 0, O ι 0, O ι 0, O ι 0, O ι 0, O ι 0, O ι 0]) (S := (fun _ : World => True)) (late := []) (by kernel_rfl) ?_ ?_
 rotate_left
 ·replace HX := hide (HX.out.trans (Ext.refl W2).drew)
  replace HA := hide (HA.out.keep (Ext.refl W2).drew.bl)
  replace HZ := hide (HZ.out.keep (Ext.refl W2).drew.bl)
  generalize W2.drew = t0 at HA HZ HX SA ⊢
  refine zl27 0 32 (π (some ⟨w.heap.size, 5, none⟩)) rfl (.inl ⟨by kernel_rfl, ?_⟩) SA.out ?_
  ·intro w' z0
   go_simp
   try rfl
  simp only [aP, sT, sZ, sS]
  refine zl27 1 33 (O ι 2) rfl (.inl ⟨by kernel_rfl, ?_⟩) SA.out ?_
  ·intro w' z0
   go_simp
   try rfl
  simp only [aP, sT, sZ, sS]
  refine zl27 2 34 (O ι 2) rfl (.inl ⟨by kernel_rfl, ?_⟩) SA.out ?_
  ·intro w' z0
   go_simp
   try rfl
  simp only [aP, sT, sZ, sS]
  refine zl27 3 35 (σ (some ⟨w.heap.size, 7, none⟩) 0 2) rfl (.inl ⟨by kernel_rfl, ?_⟩) SA.out ?_
  ·intro w' z0
   go_simp
   try rfl
  simp only [aP, sT, sZ, sS]
  refine zl27 4 36 (π (some ⟨w.heap.size, 5, none⟩)) rfl (.inl ⟨by kernel_rfl, ?_⟩) SA.out ?_
  ·intro w' z0
   go_simp
   try rfl
  simp only [aP, sT, sZ, sS]
  refine zl27 5 37 (O ι 2) rfl (.inl ⟨by kernel_rfl, ?_⟩) SA.out ?_
  ·intro w' z0
   go_simp
   try rfl
  simp only [aP, sT, sZ, sS]
  refine zl27 6 38 (O ι 3) rfl (.inl ⟨by kernel_rfl, ?_⟩) SA.out ?_
  ·intro w' z0
   go_simp
   try rfl
  simp only [aP, sT, sZ, sS]
  refine zl27 7 39 (σ (some ⟨w.heap.size, 8, none⟩) 1 1) rfl (.inl ⟨by kernel_rfl, ?_⟩) SA.out ?_
  ·intro w' z0
   go_simp
   try rfl
  simp only [aP, sT, sZ, sS]
  have hcp := run_copy_none (P := Tryz.prog) t0 25 25 3 2 (some ⟨w.heap.size, 7, none⟩) (some ⟨w.heap.size, 8, none⟩) 0 2 1 1 Tryz.underlying25 zz2 rfl
  refine ze (i := 8) (by kernel_rfl) rfl (fun K hK => ?_)
  go_simp
  refine hK.out _ _ (fun _ => trivial) ?_
  clear hK K
  try simp only [aP, sT, sZ, sS]
  refine zg (by kernel_rfl) ?_ _
  exact ⟨rfl, by kernel_rfl, HX.out, HA.out, HZ.out⟩
 rintro a' W3 ⟨rfl, hx, ha, hz⟩
 replace HX := hide hx
 replace HA := hide ha
 replace HZ := hide hz
 clear hx ha hz SA
 simp only [aP, sT, sZ, sS]
 have c0 : (_ : Option Value) = some (O ι 3) := HA.out 0 _ rfl
 have c1 : (_ : Option Value) = some (O ι a0) := HA.out 1 _ rfl
 have c2 : (_ : Option Value) = some (O ι a1) := HA.out 2 _ rfl
 have c3 : (_ : Option Value) = some (O ι a2) := HA.out 3 _ rfl
 have c4 : (_ : Option Value) = some (O ι a3) := HA.out 4 _ rfl
 have c5 : (_ : Option Value) = some (O ι s0) := HA.out 5 _ rfl
 have c6 : (_ : Option Value) = some (O ι s1) := HA.out 6 _ rfl
 have c7 : (_ : Option Value) = some (O ι s2) := HA.out 7 _ rfl
 have c8 : (_ : Option Value) = some (O ι s3) := HA.out 8 _ rfl
 have c9 : (_ : Option Value) = some (O ι off) := HA.out 9 _ rfl
 have z0 : (_ : Option Value) = some (O ι 0) := HZ.out 0 _ rfl
 have z1 : (_ : Option Value) = some (O ι 0) := HZ.out 1 _ rfl
 have z2 : (_ : Option Value) = some (O ι 0) := HZ.out 2 _ rfl
 have z3 : (_ : Option Value) = some (O ι 0) := HZ.out 3 _ rfl
 have z4 : (_ : Option Value) = some (O ι 0) := HZ.out 4 _ rfl
 have z5 : (_ : Option Value) = some (O ι 0) := HZ.out 5 _ rfl
 have z6 : (_ : Option Value) = some (O ι 0) := HZ.out 6 _ rfl
 have z7 : (_ : Option Value) = some (O ι 0) := HZ.out 7 _ rfl
 have z8 : (_ : Option Value) = some (O ι 0) := HZ.out 8 _ rfl
 have z9 : (_ : Option Value) = some (O ι 0) := HZ.out 9 _ rfl
 have fzn : ∀ q, W3.frozen? ⟨w.heap.size, q, none⟩ = false := fun q => HX.out.unfrozen (Nat.le_refl _) q
 have fzm : ∀ q, W3.frozen? ⟨w.heap.size + 1, q, none⟩ = false := fun q => HX.out.unfrozen (by omega) q
 have HA2 := hide ((HA.out.set1 (j := 3) (by simp) (O ι a2)).set1 (j := 7) (by simp) (O ι s2))
 have HZ2 := hide ((HZ.out.other (B := w.heap.size) (j := 3) (by omega) (O ι a2)).other (B := w.heap.size) (j := 7) (by omega) (O ι s2))
 have HX2 := hide ((HX.out.fresh (Nat.le_refl _) 3 (O ι a2)).fresh (Nat.le_refl _) 7 (O ι s2))
 have HZ3 := hide ((((((((((HZ2.out.set1 (j := 0) (by simp) (O ι 3)).set1 (j := 1) (by simp) (O ι a0)).set1 (j := 2) (by simp) (O ι a1)).set1 (j := 3) (by simp) (O ι a2)).set1 (j := 4) (by simp) (O ι a3)).set1 (j := 5) (by simp) (O ι s0)).set1 (j := 6) (by simp) (O ι s1)).set1 (j := 7) (by simp) (O ι s2)).set1 (j := 8) (by simp) (O ι s3)).set1 (j := 9) (by simp) (O ι off))
 have HX3 := hide ((((((((((HX2.out.fresh (B := w.heap.size + 1) (by omega) 0 (O ι 3)).fresh (B := w.heap.size + 1) (by omega) 1 (O ι a0)).fresh (B := w.heap.size + 1) (by omega) 2 (O ι a1)).fresh (B := w.heap.size + 1) (by omega) 3 (O ι a2)).fresh (B := w.heap.size + 1) (by omega) 4 (O ι a3)).fresh (B := w.heap.size + 1) (by omega) 5 (O ι s0)).fresh (B := w.heap.size + 1) (by omega) 6 (O ι s1)).fresh (B := w.heap.size + 1) (by omega) 7 (O ι s2)).fresh (B := w.heap.size + 1) (by omega) 8 (O ι s3)).fresh (B := w.heap.size + 1) (by omega) 9 (O ι off))
 have y0 := HZ3.out 0 _ rfl
 have y1 := HZ3.out 1 _ rfl
 have y2 := HZ3.out 2 _ rfl
 have y3 := HZ3.out 3 _ rfl
 have y4 := HZ3.out 4 _ rfl
 have y5 := HZ3.out 5 _ rfl
 have y6 := HZ3.out 6 _ rfl
 have y7 := HZ3.out 7 _ rfl
 have y8 := HZ3.out 8 _ rfl
 have y9 := HZ3.out 9 _ rfl
 have HY : Hid True := trivial
 have d0 := HA2.out 0 _ rfl
 have d1 := HA2.out 1 _ rfl
 have d2 := HA2.out 2 _ rfl
 have d3 := HA2.out 3 _ rfl
 have d4 := HA2.out 4 _ rfl
 have d5 := HA2.out 5 _ rfl
 have d6 := HA2.out 6 _ rfl
 have d7 := HA2.out 7 _ rfl
 have d8 := HA2.out 8 _ rfl
 have d9 := HA2.out 9 _ rfl
 go_wp2_with fail
 refine bodyPost_ret (v := γ #[O ι 3, O ι a0, O ι a1, O ι a2, O ι a3, O ι s0, O ι s1, O ι s2, O ι s3, O ι off]) (by simp [results, Tryz.results83, go_sem, y0, y1, y2, y3, y4, y5, y6, y7, y8, y9]) rfl ⟨rfl, HX3.out⟩
theorem zt14 (w : World) (a0 a1 a2 a3 s0 s1 s2 s3 off : Int) :
  Calls Tryz.prog 83 #[γ #[O ι 4, O ι a0, O ι a1, O ι a2, O ι a3, O ι s0, O ι s1, O ι s2, O ι s3, O ι off], O ι 0] w fun e w' => e = .returned (γ #[O ι 4, O ι a1, O ι a2, O ι a3, O ι a0, O ι s1, O ι s2, O ι s3, O ι s0, O ι off]) ∧ Ext w w' := by
 have x0 : Ext w ((w.alloc (χ #[O ι 4, O ι a0, O ι a1, O ι a2, O ι a3, O ι s0, O ι s1, O ι s2, O ι s3, O ι off] 83)).alloc (χ #[O ι 0, O ι 0, O ι 0, O ι 0, O ι 0, O ι 0, O ι 0, O ι 0, O ι 0, O ι 0] 83)) := ((Ext.refl w).alloc _ _).alloc _ _
 have x1 : Ext (w.alloc (χ #[O ι 4, O ι a0, O ι a1, O ι a2, O ι a3, O ι s0, O ι s1, O ι s2, O ι s3, O ι off] 83)) ((w.alloc (χ #[O ι 4, O ι a0, O ι a1, O ι a2, O ι a3, O ι s0, O ι s1, O ι s2, O ι s3, O ι off] 83)).alloc (χ #[O ι 0, O ι 0, O ι 0, O ι 0, O ι 0, O ι 0, O ι 0, O ι 0, O ι 0, O ι 0] 83)) := (Ext.refl _).alloc _ _
 have A0 : AtB ((w.alloc (χ #[O ι 4, O ι a0, O ι a1, O ι a2, O ι a3, O ι s0, O ι s1, O ι s2, O ι s3, O ι off] 83)).alloc (χ #[O ι 0, O ι 0, O ι 0, O ι 0, O ι 0, O ι 0, O ι 0, O ι 0, O ι 0, O ι 0] 83)) w.heap.size [O ι 4, O ι a0, O ι a1, O ι a2, O ι a3, O ι s0, O ι s1, O ι s2, O ι s3, O ι off] := fun j x hx => x1.box ((zd w _ 83 _ rfl j).trans (by simpa using hx))
 have Z0 : AtB ((w.alloc (χ #[O ι 4, O ι a0, O ι a1, O ι a2, O ι a3, O ι s0, O ι s1, O ι s2, O ι s3, O ι off] 83)).alloc (χ #[O ι 0, O ι 0, O ι 0, O ι 0, O ι 0, O ι 0, O ι 0, O ι 0, O ι 0, O ι 0] 83)) (w.heap.size + 1) [O ι 0, O ι 0, O ι 0, O ι 0, O ι 0, O ι 0, O ι 0, O ι 0, O ι 0, O ι 0] := fun j x hx => (zd _ _ 83 _ (by simp) j).trans (by simpa using hx)
 have HA := hide A0
 have HZ := hide Z0
 have HX := hide x0
 clear x0 x1 A0 Z0
 go_enter Tryz.func83, Tryz.ntmps83
 go_wp2_with fail
 generalize (w.alloc (χ #[O ι 4, O ι a0, O ι a1, O ι a2, O ι a3, O ι s0, O ι s1, O ι s2, O ι s3, O ι off] 83)).alloc (χ #[O ι 0, O ι 0, O ι 0, O ι 0, O ι 0, O ι 0, O ι 0, O ι 0, O ι 0, O ι 0] 83) = W0 at HA HZ HX ⊢
 have c0 : (_ : Option Value) = some (O ι 4) := HA.out 0 _ rfl
 have c1 : (_ : Option Value) = some (O ι a0) := HA.out 1 _ rfl
 have c2 : (_ : Option Value) = some (O ι a1) := HA.out 2 _ rfl
 have c3 : (_ : Option Value) = some (O ι a2) := HA.out 3 _ rfl
 have c4 : (_ : Option Value) = some (O ι a3) := HA.out 4 _ rfl
 have c5 : (_ : Option Value) = some (O ι s0) := HA.out 5 _ rfl
 have c6 : (_ : Option Value) = some (O ι s1) := HA.out 6 _ rfl
 have c7 : (_ : Option Value) = some (O ι s2) := HA.out 7 _ rfl
 have c8 : (_ : Option Value) = some (O ι s3) := HA.out 8 _ rfl
 have c9 : (_ : Option Value) = some (O ι off) := HA.out 9 _ rfl
 go_region
 go_wp2_with fail
 replace HX := hide (HX.out.trans (Ext.refl W0).drew)
 replace HA := hide (HA.out.keep (Ext.refl W0).drew.bl)
 replace HZ := hide (HZ.out.keep (Ext.refl W0).drew.bl)
 clear c0 c1 c2 c3 c4 c5 c6 c7 c8 c9
 try generalize W0.drew = W1 at HA HZ HX ⊢
 have SA : Hid ((fun _ : World => True) W1.drew) := trivial
 refine zq (fun ac a' w' => a' = (((((((((((ac.put (some 21) (π (some ⟨w.heap.size, 0, none⟩))).put (some 22) (π (some ⟨w.heap.size, 1, none⟩))).put (some 23) (O ι 0)).put (some 24) (O ι 3)).put (some 25) (σ (some ⟨w.heap.size, 1, none⟩) 3 4)).put (some 26) (π (some ⟨w.heap.size, 0, none⟩))).put (some 27) (π (some ⟨w.heap.size, 1, none⟩))).put (some 28) (O ι 0)).put (some 29) (O ι 1)).put (some 30) (σ (some ⟨w.heap.size, 2, none⟩) 3 3)).put (some 31) (O ι 3)) ∧ Ext w w' ∧ AtB w' w.heap.size [O ι 4, O ι a1, O ι a2, O ι a3, O ι a3, O ι s0, O ι s1, O ι s2, O ι s3, O ι off] ∧ AtB w' (w.heap.size + 1) [O ι 0, O ι 0, O ι 0, O ι 0, O ι 0, O ι 0, O ι 0, O ι 0, O ι 0, O ι 0]) (S := (fun _ : World => True)) (late := []) (by kernel_rfl) ?_ ?_
 rotate_left
 ·replace HX := hide (HX.out.trans (Ext.refl W1).drew)
  replace HA := hide (HA.out.keep (Ext.refl W1).drew.bl)
  replace HZ := hide (HZ.out.keep (Ext.refl W1).drew.bl)
  generalize W1.drew = t0 at HA HZ HX SA ⊢
  refine zl27 0 21 (π (some ⟨w.heap.size, 0, none⟩)) rfl (.inl ⟨by kernel_rfl, ?_⟩) SA.out ?_
  ·intro w' z0
   go_simp
   try rfl
  simp only [aP, sT, sZ, sS]
  refine zl27 1 22 (π (some ⟨w.heap.size, 1, none⟩)) rfl (.inl ⟨by kernel_rfl, ?_⟩) SA.out ?_
  ·intro w' z0
   go_simp
   try rfl
  simp only [aP, sT, sZ, sS]
  refine zl27 2 23 (O ι 0) rfl (.inl ⟨by kernel_rfl, ?_⟩) SA.out ?_
  ·intro w' z0
   go_simp
   try rfl
  simp only [aP, sT, sZ, sS]
  refine zl27 3 24 (O ι 3) rfl (.inl ⟨by kernel_rfl, ?_⟩) SA.out ?_
  ·intro w' z0
   go_simp
   try rfl
  simp only [aP, sT, sZ, sS]
  refine zl27 4 25 (σ (some ⟨w.heap.size, 1, none⟩) 3 4) rfl (.inl ⟨by kernel_rfl, ?_⟩) SA.out ?_
  ·intro w' z0
   go_simp
   try rfl
  simp only [aP, sT, sZ, sS]
  refine zl27 5 26 (π (some ⟨w.heap.size, 0, none⟩)) rfl (.inl ⟨by kernel_rfl, ?_⟩) SA.out ?_
  ·intro w' z0
   go_simp
   try rfl
  simp only [aP, sT, sZ, sS]
  refine zl27 6 27 (π (some ⟨w.heap.size, 1, none⟩)) rfl (.inl ⟨by kernel_rfl, ?_⟩) SA.out ?_
  ·intro w' z0
   go_simp
   try rfl
  simp only [aP, sT, sZ, sS]
  refine zl27 7 28 (O ι 0) rfl (.inl ⟨by kernel_rfl, ?_⟩) SA.out ?_
  ·intro w' z0
   go_simp
   try rfl
  simp only [aP, sT, sZ, sS]
  refine zl27 8 29 (O ι 1) rfl (.inl ⟨by kernel_rfl, ?_⟩) SA.out ?_
  ·intro w' z0
   go_simp
   try rfl
  simp only [aP, sT, sZ, sS]
  refine zl27 9 30 (σ (some ⟨w.heap.size, 2, none⟩) 3 3) rfl (.inl ⟨by kernel_rfl, ?_⟩) SA.out ?_
  ·intro w' z0
   go_simp
   try rfl
  simp only [aP, sT, sZ, sS]
  have hcp : (Builtin.copy_ #[25, 25] 3 #[σ (some ⟨w.heap.size, 1, none⟩) 3 4, σ (some ⟨w.heap.size, 2, none⟩) 3 3]).run Tryz.prog t0 = .ok (goInt 3) (((t0.setCell ⟨w.heap.size, 1, none⟩ (O ι a1)).setCell ⟨w.heap.size, 2, none⟩ (O ι a2)).setCell ⟨w.heap.size, 3, none⟩ (O ι a3)) := by
   have fzn := fun (q : Nat) => HX.out.unfrozen (b := w.heap.size) (Nat.le_refl _) q
   refine run_copy_cells (P := Tryz.prog) t0 25 25 3 2 w.heap.size 1 3 4 ⟨w.heap.size, 2, none⟩ 3 3 [O ι a1, O ι a2, O ι a3] Tryz.underlying25 zz2 rfl ?_ ?_ (fun j _ => fzn _) (by simp [Value.oneCell'])
   ·intro j v hv
    have q := HA.out (2 + j) v (by
     rw [← hv]
     match j with
     | 0 => rfl
     | 1 => rfl
     | 2 => rfl
     | j + 3 => simp at hv)
    rw [Addr.add_lit]
    exact q
   ·intro j hj
    have hj' : j < 3 := hj
    have q := HA.out (1 + j) _ (List.getElem?_eq_getElem (by simp; omega))
    rw [q]; rfl
  refine ze (i := 10) (by kernel_rfl) rfl (fun K hK => ?_)
  go_simp
  refine hK.out _ _ (fun _ => trivial) ?_
  clear hK K
  try simp only [aP, sT, sZ, sS]
  refine zg (by kernel_rfl) ?_ _
  exact ⟨rfl, by kernel_rfl, (((HX.out.fresh (Nat.le_refl _) 1 (O ι a1)).fresh (Nat.le_refl _) 2 (O ι a2)).fresh (Nat.le_refl _) 3 (O ι a3)), (((HA.out.set1 (j := 1) (by simp) (O ι a1)).set1 (j := 2) (by simp) (O ι a2)).set1 (j := 3) (by simp) (O ι a3)), (((HZ.out.other (B := w.heap.size) (j := 1) (by omega) (O ι a1)).other (B := w.heap.size) (j := 2) (by omega) (O ι a2)).other (B := w.heap.size) (j := 3) (by omega) (O ι a3))⟩
 rintro a' W2 ⟨rfl, hx, ha, hz⟩
 replace HX := hide hx
 replace HA := hide ha
 replace HZ := hide hz
 clear hx ha hz SA
 simp only [aP, sT, sZ, sS]
 go_wp2_with fail
 have SA : Hid ((fun _ : World => True) W2.drew) := trivial
 refine zq (fun ac a' w' => a' = (((((((((ac.put (some 32) (π (some ⟨w.heap.size, 5, none⟩))).put (some 33) (O ι 0)).put (some 34) (O ι 3)).put (some 35) (σ (some ⟨w.heap.size, 5, none⟩) 3 4)).put (some 36) (π (some ⟨w.heap.size, 5, none⟩))).put (some 37) (O ι 0)).put (some 38) (O ι 1)).put (some 39) (σ (some ⟨w.heap.size, 6, none⟩) 3 3)).put (some 40) (O ι 3)) ∧ Ext w w' ∧ AtB w' w.heap.size [O ι 4, O ι a1, O ι a2, O ι a3, O ι a3, O ι s1, O ι s2, O ι s3, O ι s3, O ι off] ∧ AtB w' (w.heap.size + 1) [O ι 0, O ι 0, O ι 0, O ι 0, O ι 0, O ι 0, O ι 0, O ι 0, O ι 0, O ι 0]) (S := (fun _ : World => True)) (late := []) (by kernel_rfl) ?_ ?_
 rotate_left
 ·replace HX := hide (HX.out.trans (Ext.refl W2).drew)
  replace HA := hide (HA.out.keep (Ext.refl W2).drew.bl)
  replace HZ := hide (HZ.out.keep (Ext.refl W2).drew.bl)
  generalize W2.drew = t0 at HA HZ HX SA ⊢
  refine zl27 0 32 (π (some ⟨w.heap.size, 5, none⟩)) rfl (.inl ⟨by kernel_rfl, ?_⟩) SA.out ?_
  ·intro w' z0
   go_simp
   try rfl
  simp only [aP, sT, sZ, sS]
  refine zl27 1 33 (O ι 0) rfl (.inl ⟨by kernel_rfl, ?_⟩) SA.out ?_
  ·intro w' z0
   go_simp
   try rfl
  simp only [aP, sT, sZ, sS]
  refine zl27 2 34 (O ι 3) rfl (.inl ⟨by kernel_rfl, ?_⟩) SA.out ?_
  ·intro w' z0
   go_simp
   try rfl
  simp only [aP, sT, sZ, sS]
  refine zl27 3 35 (σ (some ⟨w.heap.size, 5, none⟩) 3 4) rfl (.inl ⟨by kernel_rfl, ?_⟩) SA.out ?_
  ·intro w' z0
   go_simp
   try rfl
  simp only [aP, sT, sZ, sS]
  refine zl27 4 36 (π (some ⟨w.heap.size, 5, none⟩)) rfl (.inl ⟨by kernel_rfl, ?_⟩) SA.out ?_
  ·intro w' z0
   go_simp
   try rfl
  simp only [aP, sT, sZ, sS]
  refine zl27 5 37 (O ι 0) rfl (.inl ⟨by kernel_rfl, ?_⟩) SA.out ?_
  ·intro w' z0
   go_simp
   try rfl
  simp only [aP, sT, sZ, sS]
  refine zl27 6 38 (O ι 1) rfl (.inl ⟨by kernel_rfl, ?_⟩) SA.out ?_
  ·intro w' z0
   go_simp
   try rfl
  simp only [aP, sT, sZ, sS]
  refine zl27 7 39 (σ (some ⟨w.heap.size, 6, none⟩) 3 3) rfl (.inl ⟨by kernel_rfl, ?_⟩) SA.out ?_
  ·intro w' z0
   go_simp
   try rfl
  simp only [aP, sT, sZ, sS]
  have hcp : (Builtin.copy_ #[25, 25] 3 #[σ (some ⟨w.heap.size, 5, none⟩) 3 4, σ (some ⟨w.heap.size, 6, none⟩) 3 3]).run Tryz.prog t0 = .ok (goInt 3) (((t0.setCell ⟨w.heap.size, 5, none⟩ (O ι s1)).setCell ⟨w.heap.size, 6, none⟩ (O ι s2)).setCell ⟨w.heap.size, 7, none⟩ (O ι s3)) := by
   have fzn := fun (q : Nat) => HX.out.unfrozen (b := w.heap.size) (Nat.le_refl _) q
   refine run_copy_cells (P := Tryz.prog) t0 25 25 3 2 w.heap.size 5 3 4 ⟨w.heap.size, 6, none⟩ 3 3 [O ι s1, O ι s2, O ι s3] Tryz.underlying25 zz2 rfl ?_ ?_ (fun j _ => fzn _) (by simp [Value.oneCell'])
   ·intro j v hv
    have q := HA.out (6 + j) v (by
     rw [← hv]
     match j with
     | 0 => rfl
     | 1 => rfl
     | 2 => rfl
     | j + 3 => simp at hv)
    rw [Addr.add_lit]
    exact q
   ·intro j hj
    have hj' : j < 3 := hj
    have q := HA.out (5 + j) _ (List.getElem?_eq_getElem (by simp; omega))
    rw [q]; rfl
  refine ze (i := 8) (by kernel_rfl) rfl (fun K hK => ?_)
  go_simp
  refine hK.out _ _ (fun _ => trivial) ?_
  clear hK K
  try simp only [aP, sT, sZ, sS]
  refine zg (by kernel_rfl) ?_ _
  exact ⟨rfl, by kernel_rfl, (((HX.out.fresh (Nat.le_refl _) 5 (O ι s1)).fresh (Nat.le_refl _) 6 (O ι s2)).fresh (Nat.le_refl _) 7 (O ι s3)), (((HA.out.set1 (j := 5) (by simp) (O ι s1)).set1 (j := 6) (by simp) (O ι s2)).set1 (j := 7) (by simp) (O ι s3)), (((HZ.out.other (B := w.heap.size) (j := 5) (by omega) (O ι s1)).other (B := w.heap.size) (j := 6) (by omega) (O ι s2)).other (B := w.heap.size) (j := 7) (by omega) (O ι s3))⟩
 rintro a' W3 ⟨rfl, hx, ha, hz⟩
 replace HX := hide hx
 replace HA := hide ha
 replace HZ := hide hz
 clear hx ha hz SA
 simp only [aP, sT, sZ, sS]
 have c0 : (_ : Option Value) = some (O ι 4) := HA.out 0 _ rfl
 have c1 : (_ : Option Value) = some (O ι a1) := HA.out 1 _ rfl
 have c2 : (_ : Option Value) = some (O ι a2) := HA.out 2 _ rfl
 have c3 : (_ : Option Value) = some (O ι a3) := HA.out 3 _ rfl
 have c4 : (_ : Option Value) = some (O ι a3) := HA.out 4 _ rfl
 have c5 : (_ : Option Value) = some (O ι s1) := HA.out 5 _ rfl
 have c6 : (_ : Option Value) = some (O ι s2) := HA.out 6 _ rfl
 have c7 : (_ : Option Value) = some (O ι s3) := HA.out 7 _ rfl
 have c8 : (_ : Option Value) = some (O ι s3) := HA.out 8 _ rfl
 have c9 : (_ : Option Value) = some (O ι off) := HA.out 9 _ rfl
 have z0 : (_ : Option Value) = some (O ι 0) := HZ.out 0 _ rfl
 have z1 : (_ : Option Value) = some (O ι 0) := HZ.out 1 _ rfl
 have z2 : (_ : Option Value) = some (O ι 0) := HZ.out 2 _ rfl
 have z3 : (_ : Option Value) = some (O ι 0) := HZ.out 3 _ rfl
 have z4 : (_ : Option Value) = some (O ι 0) := HZ.out 4 _ rfl
 have z5 : (_ : Option Value) = some (O ι 0) := HZ.out 5 _ rfl
 have z6 : (_ : Option Value) = some (O ι 0) := HZ.out 6 _ rfl
 have z7 : (_ : Option Value) = some (O ι 0) := HZ.out 7 _ rfl
 have z8 : (_ : Option Value) = some (O ι 0) := HZ.out 8 _ rfl
 have z9 : (_ : Option Value) = some (O ι 0) := HZ.out 9 _ rfl
 have fzn : ∀ q, W3.frozen? ⟨w.heap.size, q, none⟩ = false := fun q => HX.out.unfrozen (Nat.le_refl _) q
 have fzm : ∀ q, W3.frozen? ⟨w.heap.size + 1, q, none⟩ = false := fun q => HX.out.unfrozen (by omega) q
 have HA2 := hide ((HA.out.set1 (j := 4) (by simp) (O ι a0)).set1 (j := 8) (by simp) (O ι s0))
 have HZ2 := hide ((HZ.out.other (B := w.heap.size) (j := 4) (by omega) (O ι a0)).other (B := w.heap.size) (j := 8) (by omega) (O ι s0))
 have HX2 := hide ((HX.out.fresh (Nat.le_refl _) 4 (O ι a0)).fresh (Nat.le_refl _) 8 (O ι s0))
 have HZ3 := hide ((((((((((HZ2.out.set1 (j := 0) (by simp) (O ι 4)).set1 (j := 1) (by simp) (O ι a1)).set1 (j := 2) (by simp) (O ι a2)).set1 (j := 3) (by simp) (O ι a3)).set1 (j := 4) (by simp) (O ι a0)).set1 (j := 5) (by simp) (O ι s1)).set1 (j := 6) (by simp) (O ι s2)).set1 (j := 7) (by simp) (O ι s3)).set1 (j := 8) (by simp) (O ι s0)).set1 (j := 9) (by simp) (O ι off))
 have HX3 := hide ((((((((((HX2.out.fresh (B := w.heap.size + 1) (by omega) 0 (O ι 4)).fresh (B := w.heap.size + 1) (by omega) 1 (O ι a1)).fresh (B := w.heap.size + 1) (by omega) 2 (O ι a2)).fresh (B := w.heap.size + 1) (by omega) 3 (O ι a3)).fresh (B := w.heap.size + 1) (by omega) 4 (O ι a0)).fresh (B := w.heap.size + 1) (by omega) 5 (O ι s1)).fresh (B := w.heap.size + 1) (by omega) 6 (O ι s2)).fresh (B := w.heap.size + 1) (by omega) 7 (O ι s3)).fresh (B := w.heap.size + 1) (by omega) 8 (O ι s0)).fresh (B := w.heap.size + 1) (by omega) 9 (O ι off))
 have y0 := HZ3.out 0 _ rfl
 have y1 := HZ3.out 1 _ rfl
 have y2 := HZ3.out 2 _ rfl
 have y3 := HZ3.out 3 _ rfl
 have y4 := HZ3.out 4 _ rfl
 have y5 := HZ3.out 5 _ rfl
 have y6 := HZ3.out 6 _ rfl
 have y7 := HZ3.out 7 _ rfl
 have y8 := HZ3.out 8 _ rfl
 have y9 := HZ3.out 9 _ rfl
 have HY : Hid True := trivial
 have d0 := HA2.out 0 _ rfl
 have d1 := HA2.out 1 _ rfl
 have d2 := HA2.out 2 _ rfl
 have d3 := HA2.out 3 _ rfl
 have d4 := HA2.out 4 _ rfl
 have d5 := HA2.out 5 _ rfl
 have d6 := HA2.out 6 _ rfl
 have d7 := HA2.out 7 _ rfl
 have d8 := HA2.out 8 _ rfl
 have d9 := HA2.out 9 _ rfl
 go_wp2_with fail
 refine bodyPost_ret (v := γ #[O ι 4, O ι a1, O ι a2, O ι a3, O ι a0, O ι s1, O ι s2, O ι s3, O ι s0, O ι off]) (by simp [results, Tryz.results83, go_sem, y0, y1, y2, y3, y4, y5, y6, y7, y8, y9]) rfl ⟨rfl, HX3.out⟩
theorem zs14 (w : World) (a0 a1 a2 a3 s0 s1 s2 s3 off : Int) :
  Calls Tryz.prog 83 #[γ #[O ι 4, O ι a0, O ι a1, O ι a2, O ι a3, O ι s0, O ι s1, O ι s2, O ι s3, O ι off], O ι 1] w fun e w' => e = .returned (γ #[O ι 4, O ι a0, O ι a2, O ι a3, O ι a1, O ι s0, O ι s2, O ι s3, O ι s1, O ι off]) ∧ Ext w w' := by
 have x0 : Ext w ((w.alloc (χ #[O ι 4, O ι a0, O ι a1, O ι a2, O ι a3, O ι s0, O ι s1, O ι s2, O ι s3, O ι off] 83)).alloc (χ #[O ι 0, O ι 0, O ι 0, O ι 0, O ι 0, O ι 0, O ι 0, O ι 0, O ι 0, O ι 0] 83)) := ((Ext.refl w).alloc _ _).alloc _ _
 have x1 : Ext (w.alloc (χ #[O ι 4, O ι a0, O ι a1, O ι a2, O ι a3, O ι s0, O ι s1, O ι s2, O ι s3, O ι off] 83)) ((w.alloc (χ #[O ι 4, O ι a0, O ι a1, O ι a2, O ι a3, O ι s0, O ι s1, O ι s2, O ι s3, O ι off] 83)).alloc (χ #[O ι 0, O ι 0, O ι 0, O ι 0, O ι 0, O ι 0, O ι 0, O ι 0, O ι 0, O ι 0] 83)) := (Ext.refl _).alloc _ _
 have A0 : AtB ((w.alloc (χ #[O ι 4, O ι a0, O ι a1, O ι a2, O ι a3, O ι s0, O ι s1, O ι s2, O ι s3, O ι off] 83)).alloc (χ #[O ι 0, O ι 0, O ι 0, O ι 0, O ι 0, O ι 0, O ι 0, O ι 0, O ι 0, O ι 0] 83)) w.heap.size [O ι 4, O ι a0, O ι a1, O ι a2, O ι a3, O ι s0, O ι s1, O ι s2, O ι s3, O ι off] := fun j x hx => x1.box ((zd w _ 83 _ rfl j).trans (by simpa using hx))
 have Z0 : AtB ((w.alloc (χ #[O ι 4, O ι a0, O ι a1, O ι a2, O ι a3, O ι s0, O ι s1, O ι s2, O ι s3, O ι off] 83)).alloc (χ #[O ι 0, O ι 0, O ι 0, O ι 0, O ι 0, O ι 0, O ι 0, O ι 0, O ι 0, O ι 0] 83)) (w.heap.size + 1) [O ι 0, O ι 0, O ι 0, O ι 0, O ι 0, O ι 0, O ι 0, O ι 0, O ι 0, O ι 0] := fun j x hx => (zd _ _ 83 _ (by simp) j).trans (by simpa using hx)
 have HA := hide A0
 have HZ := hide Z0
 have HX := hide x0
 clear x0 x1 A0 Z0
 go_enter Tryz.func83, Tryz.ntmps83
 go_wp2_with fail
 generalize (w.alloc (χ #[O ι 4, O ι a0, O ι a1, O ι a2, O ι a3, O ι s0, O ι s1, O ι s2, O ι s3, O ι off] 83)).alloc (χ #[O ι 0, O ι 0, O ι 0, O ι 0, O ι 0, O ι 0, O ι 0, O ι 0, O ι 0, O ι 0] 83) = W0 at HA HZ HX ⊢
 have c0 : (_ : Option Value) = some (O ι 4) := HA.out 0 _ rfl
 have c1 : (_ : Option Value) = some (O ι a0) := HA.out 1 _ rfl
 have c2 : (_ : Option Value) = some (O ι a1) := HA.out 2 _ rfl
 have c3 : (_ : Option Value) = some (O ι a2) := HA.out 3 _ rfl
 have c4 : (_ : Option Value) = some (O ι a3) := HA.out 4 _ rfl
 have c5 : (_ : Option Value) = some (O ι s0) := HA.out 5 _ rfl
 have c6 : (_ : Option Value) = some (O ι s1) := HA.out 6 _ rfl
 have c7 : (_ : Option Value) = some (O ι s2) := HA.out 7 _ rfl
 have c8 : (_ : Option Value) = some (O ι s3) := HA.out 8 _ rfl
 have c9 : (_ : Option Value) = some (O ι off) := HA.out 9 _ rfl
 go_region
 go_wp2_with fail
 replace HX := hide (HX.out.trans (Ext.refl W0).drew)
 replace HA := hide (HA.out.keep (Ext.refl W0).drew.bl)
 replace HZ := hide (HZ.out.keep (Ext.refl W0).drew.bl)
 clear c0 c1 c2 c3 c4 c5 c6 c7 c8 c9
 try generalize W0.drew = W1 at HA HZ HX ⊢
 have SA : Hid ((fun _ : World => True) W1.drew) := trivial
 refine zq (fun ac a' w' => a' = (((((((((((ac.put (some 21) (π (some ⟨w.heap.size, 0, none⟩))).put (some 22) (π (some ⟨w.heap.size, 1, none⟩))).put (some 23) (O ι 1)).put (some 24) (O ι 3)).put (some 25) (σ (some ⟨w.heap.size, 2, none⟩) 2 3)).put (some 26) (π (some ⟨w.heap.size, 0, none⟩))).put (some 27) (π (some ⟨w.heap.size, 1, none⟩))).put (some 28) (O ι 1)).put (some 29) (O ι 2)).put (some 30) (σ (some ⟨w.heap.size, 3, none⟩) 2 2)).put (some 31) (O ι 2)) ∧ Ext w w' ∧ AtB w' w.heap.size [O ι 4, O ι a0, O ι a2, O ι a3, O ι a3, O ι s0, O ι s1, O ι s2, O ι s3, O ι off] ∧ AtB w' (w.heap.size + 1) [O ι 0, O ι 0, O ι 0, O ι 0, O ι 0, O ι 0, O ι 0, O ι 0, O ι 0, O ι 0]) (S := (fun _ : World => True)) (late := []) (by kernel_rfl) ?_ ?_
 rotate_left
 ·replace HX := hide (HX.out.trans (Ext.refl W1).drew)
  replace HA := hide (HA.out.keep (Ext.refl W1).drew.bl)
  replace HZ := hide (HZ.out.keep (Ext.refl W1).drew.bl)
  generalize W1.drew = t0 at HA HZ HX SA ⊢
  refine zl27 0 21 (π (some ⟨w.heap.size, 0, none⟩)) rfl (.inl ⟨by kernel_rfl, ?_⟩) SA.out ?_
  ·intro w' z0
   go_simp
   try rfl
  simp only [aP, sT, sZ, sS]
  refine zl27 1 22 (π (some ⟨w.heap.size, 1, none⟩)) rfl (.inl ⟨by kernel_rfl, ?_⟩) SA.out ?_
  ·intro w' z0
   go_simp
   try rfl
  simp only [aP, sT, sZ, sS]
  refine zl27 2 23 (O ι 1) rfl (.inl ⟨by kernel_rfl, ?_⟩) SA.out ?_
  ·intro w' z0
   go_simp
   try rfl
  simp only [aP, sT, sZ, sS]
  refine zl27 3 24 (O ι 3) rfl (.inl ⟨by kernel_rfl, ?_⟩) SA.out ?_
  ·intro w' z0
   go_simp
   try rfl
  simp only [aP, sT, sZ, sS]
  refine zl27 4 25 (σ (some ⟨w.heap.size, 2, none⟩) 2 3) rfl (.inl ⟨by kernel_rfl, ?_⟩) SA.out ?_
  ·intro w' z0
   go_simp
   try rfl
  simp only [aP, sT, sZ, sS]
  refine zl27 5 26 (π (some ⟨w.heap.size, 0, none⟩)) rfl (.inl ⟨by kernel_rfl, ?_⟩) SA.out ?_
  ·intro w' z0
   go_simp
   try rfl
  simp only [aP, sT, sZ, sS]
  refine zl27 6 27 (π (some ⟨w.heap.size, 1, none⟩)) rfl (.inl ⟨by kernel_rfl, ?_⟩) SA.out ?_
  ·intro w' z0
   go_simp
   try rfl
  simp only [aP, sT, sZ, sS]
  refine zl27 7 28 (O ι 1) rfl (.inl ⟨by kernel_rfl, ?_⟩) SA.out ?_
  ·intro w' z0
   go_simp
   try rfl
  simp only [aP, sT, sZ, sS]
  refine zl27 8 29 (O ι 2) rfl (.inl ⟨by kernel_rfl, ?_⟩) SA.out ?_
  ·intro w' z0
   go_simp
   try rfl
  simp only [aP, sT, sZ, sS]
  refine zl27 9 30 (σ (some ⟨w.heap.size, 3, none⟩) 2 2) rfl (.inl ⟨by kernel_rfl, ?_⟩) SA.out ?_
  ·intro w' z0
   go_simp
   try rfl
  simp only [aP, sT, sZ, sS]
  have hcp : (Builtin.copy_ #[25, 25] 3 #[σ (some ⟨w.heap.size, 2, none⟩) 2 3, σ (some ⟨w.heap.size, 3, none⟩) 2 2]).run Tryz.prog t0 = .ok (goInt 2) ((t0.setCell ⟨w.heap.size, 2, none⟩ (O ι a2)).setCell ⟨w.heap.size, 3, none⟩ (O ι a3)) := by
   have fzn := fun (q : Nat) => HX.out.unfrozen (b := w.heap.size) (Nat.le_refl _) q
   refine run_copy_cells (P := Tryz.prog) t0 25 25 3 2 w.heap.size 2 2 3 ⟨w.heap.size, 3, none⟩ 2 2 [O ι a2, O ι a3] Tryz.underlying25 zz2 rfl ?_ ?_ (fun j _ => fzn _) (by simp [Value.oneCell'])
   ·intro j v hv
    have q := HA.out (3 + j) v (by
     rw [← hv]
     match j with
     | 0 => rfl
     | 1 => rfl
     | j + 2 => simp at hv)
    rw [Addr.add_lit]
    exact q
   ·intro j hj
    have hj' : j < 2 := hj
    have q := HA.out (2 + j) _ (List.getElem?_eq_getElem (by simp; omega))
    rw [q]; rfl
  refine ze (i := 10) (by kernel_rfl) rfl (fun K hK => ?_)
  go_simp
  refine hK.out _ _ (fun _ => trivial) ?_
  clear hK K
  try simp only [aP, sT, sZ, sS]
  refine zg (by kernel_rfl) ?_ _
  exact ⟨rfl, by kernel_rfl, ((HX.out.fresh (Nat.le_refl _) 2 (O ι a2)).fresh (Nat.le_refl _) 3 (O ι a3)), ((HA.out.set1 (j := 2) (by simp) (O ι a2)).set1 (j := 3) (by simp) (O ι a3)), ((HZ.out.other (B := w.heap.size) (j := 2) (by omega) (O ι a2)).other (B := w.heap.size) (j := 3) (by omega) (O ι a3))⟩
 rintro a' W2 ⟨rfl, hx, ha, hz⟩
 replace HX := hide hx
 replace HA := hide ha
 replace HZ := hide hz
 clear hx ha hz SA
 simp only [aP, sT, sZ, sS]
 go_wp2_with fail
 have SA : Hid ((fun _ : World => True) W2.drew) := trivial
 refine zq (fun ac a' w' => a' = (((((((((ac.put (some 32) (π (some ⟨w.heap.size, 5, none⟩))).put (some 33) (O ι 1)).put (some 34) (O ι 3)).put (some 35) (σ (some ⟨w.heap.size, 6, none⟩) 2 3)).put (some 36) (π (some ⟨w.heap.size, 5, none⟩))).put (some 37) (O ι 1)).put (some 38) (O ι 2)).put (some 39) (σ (some ⟨w.heap.size, 7, none⟩) 2 2)).put (some 40) (O ι 2)) ∧ Ext w w' ∧ AtB w' w.heap.size [O ι 4, O ι a0, O ι a2, O ι a3, O ι a3, O ι s0, O ι s2, O ι s3, O ι s3, O ι off] ∧ AtB w' (w.heap.size + 1) [O ι 0, O ι 0, O ι 0, O ι 0, O ι 0, O ι 0, O ι 0, O ι 0, O ι 0, O ι 0]) (S := (fun _ : World => True)) (late := []) (by kernel_rfl) ?_ ?_
 rotate_left
 ·replace HX := hide (HX.out.trans (Ext.refl W2).drew)
  replace HA := hide (HA.out.keep (Ext.refl W2).drew.bl)
  replace HZ := hide (HZ.out.keep (Ext.refl W2).drew.bl)
  generalize W2.drew = t0 at HA HZ HX SA ⊢
  refine zl27 0 32 (π (some ⟨w.heap.size, 5, none⟩)) rfl (.inl ⟨by kernel_rfl, ?_⟩) SA.out ?_
  ·intro w' z0
   go_simp
   try rfl
  simp only [aP, sT, sZ, sS]
  refine zl27 1 33 (O ι 1) rfl (.inl ⟨by kernel_rfl, ?_⟩) SA.out ?_
  ·intro w' z0
   go_simp
   try rfl
  simp only [aP, sT, sZ, sS]
  refine zl27 2 34 (O ι 3) rfl (.inl ⟨by kernel_rfl, ?_⟩) SA.out ?_
  ·intro w' z0
   go_simp
   try rfl
  simp only [aP, sT, sZ, sS]
  refine zl27 3 35 (σ (some ⟨w.heap.size, 6, none⟩) 2 3) rfl (.inl ⟨by kernel_rfl, ?_⟩) SA.out ?_
  ·intro w' z0
   go_simp
   try rfl
  simp only [aP, sT, sZ, sS]
  refine zl27 4 36 (π (some ⟨w.heap.size, 5, none⟩)) rfl (.inl ⟨by kernel_rfl, ?_⟩) SA.out ?_
  ·intro w' z0
   go_simp
   try rfl
  simp only [aP, sT, sZ, sS]
  refine zl27 5 37 (O ι 1) rfl (.inl ⟨by kernel_rfl, ?_⟩) SA.out ?_
  ·intro w' z0
   go_simp
   try rfl
  simp only [aP, sT, sZ, sS]
  refine zl27 6 38 (O ι 2) rfl (.inl ⟨by kernel_rfl, ?_⟩) SA.out ?_
  ·intro w' z0
   go_simp
   try rfl
  simp only [aP, sT, sZ, sS]
  refine zl27 7 39 (σ (some ⟨w.heap.size, 7, none⟩) 2 2) rfl (.inl ⟨by kernel_rfl, ?_⟩) SA.out ?_
  ·intro w' z0
   go_simp
   try rfl
  simp only [aP, sT, sZ, sS]
  have hcp : (Builtin.copy_ #[25, 25] 3 #[σ (some ⟨w.heap.size, 6, none⟩) 2 3, σ (some ⟨w.heap.size, 7, none⟩) 2 2]).run Tryz.prog t0 = .ok (goInt 2) ((t0.setCell ⟨w.heap.size, 6, none⟩ (O ι s2)).setCell ⟨w.heap.size, 7, none⟩ (O ι s3)) := by
   have fzn := fun (q : Nat) => HX.out.unfrozen (b := w.heap.size) (Nat.le_refl _) q
   refine run_copy_cells (P := Tryz.prog) t0 25 25 3 2 w.heap.size 6 2 3 ⟨w.heap.size, 7, none⟩ 2 2 [O ι s2, O ι s3] Tryz.underlying25 zz2 rfl ?_ ?_ (fun j _ => fzn _) (by simp [Value.oneCell'])
   ·intro j v hv
    have q := HA.out (7 + j) v (by
     rw [← hv]
     match j with
     | 0 => rfl
     | 1 => rfl
     | j + 2 => simp at hv)
    rw [Addr.add_lit]
    exact q
   ·intro j hj
    have hj' : j < 2 := hj
    have q := HA.out (6 + j) _ (List.getElem?_eq_getElem (by simp; omega))
    rw [q]; rfl
  refine ze (i := 8) (by kernel_rfl) rfl (fun K hK => ?_)
  go_simp
  refine hK.out _ _ (fun _ => trivial) ?_
  clear hK K
  try simp only [aP, sT, sZ, sS]
  refine zg (by kernel_rfl) ?_ _
  exact ⟨rfl, by kernel_rfl, ((HX.out.fresh (Nat.le_refl _) 6 (O ι s2)).fresh (Nat.le_refl _) 7 (O ι s3)), ((HA.out.set1 (j := 6) (by simp) (O ι s2)).set1 (j := 7) (by simp) (O ι s3)), ((HZ.out.other (B := w.heap.size) (j := 6) (by omega) (O ι s2)).other (B := w.heap.size) (j := 7) (by omega) (O ι s3))⟩
 rintro a' W3 ⟨rfl, hx, ha, hz⟩
 replace HX := hide hx
 replace HA := hide ha
 replace HZ := hide hz
 clear hx ha hz SA
 simp only [aP, sT, sZ, sS]
 have c0 : (_ : Option Value) = some (O ι 4) := HA.out 0 _ rfl
 have c1 : (_ : Option Value) = some (O ι a0) := HA.out 1 _ rfl
 have c2 : (_ : Option Value) = some (O ι a2) := HA.out 2 _ rfl
 have c3 : (_ : Option Value) = some (O ι a3) := HA.out 3 _ rfl
 have c4 : (_ : Option Value) = some (O ι a3) := HA.out 4 _ rfl
 have c5 : (_ : Option Value) = some (O ι s0) := HA.out 5 _ rfl
 have c6 : (_ : Option Value) = some (O ι s2) := HA.out 6 _ rfl
 have c7 : (_ : Option Value) = some (O ι s3) := HA.out 7 _ rfl
 have c8 : (_ : Option Value) = some (O ι s3) := HA.out 8 _ rfl
 have c9 : (_ : Option Value) = some (O ι off) := HA.out 9 _ rfl
 have z0 : (_ : Option Value) = some (O ι 0) := HZ.out 0 _ rfl
 have z1 : (_ : Option Value) = some (O ι 0) := HZ.out 1 _ rfl
 have z2 : (_ : Option Value) = some (O ι 0) := HZ.out 2 _ rfl
 have z3 : (_ : Option Value) = some (O ι 0) := HZ.out 3 _ rfl
 have z4 : (_ : Option Value) = some (O ι 0) := HZ.out 4 _ rfl
 have z5 : (_ : Option Value) = some (O ι 0) := HZ.out 5 _ rfl
 have z6 : (_ : Option Value) = some (O ι 0) := HZ.out 6 _ rfl
 have z7 : (_ : Option Value) = some (O ι 0) := HZ.out 7 _ rfl
 have z8 : (_ : Option Value) = some (O ι 0) := HZ.out 8 _ rfl
 have z9 : (_ : Option Value) = some (O ι 0) := HZ.out 9 _ rfl
 have fzn : ∀ q, W3.frozen? ⟨w.heap.size, q, none⟩ = false := fun q => HX.out.unfrozen (Nat.le_refl _) q
 have fzm : ∀ q, W3.frozen? ⟨w.heap.size + 1, q, none⟩ = false := fun q => HX.out.unfrozen (by omega) q
 have HA2 := hide ((HA.out.set1 (j := 4) (by simp) (O ι a1)).set1 (j := 8) (by simp) (O ι s1))
 have HZ2 := hide ((HZ.out.other (B := w.heap.size) (j := 4) (by omega) (O ι a1)).other (B := w.heap.size) (j := 8) (by omega) (O ι s1))
 have HX2 := hide ((HX.out.fresh (Nat.le_refl _) 4 (O ι a1)).fresh (Nat.le_refl _) 8 (O ι s1))
 have HZ3 := hide ((((((((((HZ2.out.set1 (j := 0) (by simp) (O ι 4)).set1 (j := 1) (by simp) (O ι a0)).set1 (j := 2) (by simp) (O ι a2)).set1 (j := 3) (by simp) (O ι a3)).set1 (j := 4) (by simp) (O ι a1)).set1 (j := 5) (by simp) (O ι s0)).set1 (j := 6) (by simp) (O ι s2)).set1 (j := 7) (by simp) (O ι s3)).set1 (j := 8) (by simp) (O ι s1)).set1 (j := 9) (by simp) (O ι off))
 have HX3 := hide ((((((((((HX2.out.fresh (B := w.heap.size + 1) (by omega) 0 (O ι 4)).fresh (B := w.heap.size + 1) (by omega) 1 (O ι a0)).fresh (B := w.heap.size + 1) (by omega) 2 (O ι a2)).fresh (B := w.heap.size + 1) (by omega) 3 (O ι a3)).fresh (B := w.heap.size + 1) (by omega) 4 (O ι a1)).fresh (B := w.heap.size + 1) (by omega) 5 (O ι s0)).fresh (B := w.heap.size + 1) (by omega) 6 (O ι s2)).fresh (B := w.heap.size + 1) (by omega) 7 (O ι s3)).fresh (B := w.heap.size + 1) (by omega) 8 (O ι s1)).fresh (B := w.heap.size + 1) (by omega) 9 (O ι off))
 have y0 := HZ3.out 0 _ rfl
 have y1 := HZ3.out 1 _ rfl
 have y2 := HZ3.out 2 _ rfl
 have y3 := HZ3.out 3 _ rfl
 have y4 := HZ3.out 4 _ rfl
 have y5 := HZ3.out 5 _ rfl
 have y6 := HZ3.out 6 _ rfl
 have y7 := HZ3.out 7 _ rfl
 have y8 := HZ3.out 8 _ rfl
 have y9 := HZ3.out 9 _ rfl
 have HY : Hid True := trivial
 have d0 := HA2.out 0 _ rfl
 have d1 := HA2.out 1 _ rfl
 have d2 := HA2.out 2 _ rfl
 have d3 := HA2.out 3 _ rfl
 have d4 := HA2.out 4 _ rfl
 have d5 := HA2.out 5 _ rfl
 have d6 := HA2.out 6 _ rfl
 have d7 := HA2.out 7 _ rfl
 have d8 := HA2.out 8 _ rfl
 have d9 := HA2.out 9 _ rfl
 go_wp2_with fail
 refine bodyPost_ret (v := γ #[O ι 4, O ι a0, O ι a2, O ι a3, O ι a1, O ι s0, O ι s2, O ι s3, O ι s1, O ι off]) (by simp [results, Tryz.results83, go_sem, y0, y1, y2, y3, y4, y5, y6, y7, y8, y9]) rfl ⟨rfl, HX3.out⟩
theorem zr14 (w : World) (a0 a1 a2 a3 s0 s1 s2 s3 off : Int) :
  Calls Tryz.prog 83 #[γ #[O ι 4, O ι a0, O ι a1, O ι a2, O ι a3, O ι s0, O ι s1, O ι s2, O ι s3, O ι off], O ι 2] w fun e w' => e = .returned (γ #[O ι 4, O ι a0, O ι a1, O ι a3, O ι a2, O ι s0, O ι s1, O ι s3, O ι s2, O ι off]) ∧ Ext w w' := by
 have x0 : Ext w ((w.alloc (χ #[O ι 4, O ι a0, O ι a1, O ι a2, O ι a3, O ι s0, O ι s1, O ι s2, O ι s3, O ι off] 83)).alloc (χ #[O ι 0, O ι 0, O ι 0, O ι 0, O ι 0, O ι 0, O ι 0, O ι 0, O ι 0, O ι 0] 83)) := ((Ext.refl w).alloc _ _).alloc _ _
 have x1 : Ext (w.alloc (χ #[O ι 4, O ι a0, O ι a1, O ι a2, O ι a3, O ι s0, O ι s1, O ι s2, O ι s3, O ι off] 83)) ((w.alloc (χ #[O ι 4, O ι a0, O ι a1, O ι a2, O ι a3, O ι s0, O ι s1, O ι s2, O ι s3, O ι off] 83)).alloc (χ #[O ι 0, O ι 0, O ι 0, O ι 0, O ι 0, O ι 0, O ι 0, O ι 0, O ι 0, O ι 0] 83)) := (Ext.refl _).alloc _ _
 have A0 : AtB ((w.alloc (χ #[O ι 4, O ι a0, O ι a1, O ι a2, O ι a3, O ι s0, O ι s1, O ι s2, O ι s3, O ι off] 83)).alloc (χ #[O ι 0, O ι 0, O ι 0, O ι 0, O ι 0, O ι 0, O ι 0, O ι 0, O ι 0, O ι 0] 83)) w.heap.size [O ι 4, O ι a0, O ι a1, O ι a2, O ι a3, O ι s0, O ι s1, O ι s2, O ι s3, O ι off] := fun j x hx => x1.box ((zd w _ 83 _ rfl j).trans (by simpa using hx))
 have Z0 : AtB ((w.alloc (χ #[O ι 4, O ι a0, O ι a1, O ι a2, O ι a3, O ι s0, O ι s1, O ι s2, O ι s3, O ι off] 83)).alloc (χ #[O ι 0, O ι 0, O ι 0, O ι 0, O ι 0, O ι 0, O ι 0, O ι 0, O ι 0, O ι 0] 83)) (w.heap.size + 1) [O ι 0, O ι 0, O ι 0, O ι 0, O ι 0, O ι 0, O ι 0, O ι 0, O ι 0, O ι 0] := fun j x hx => (zd _ _ 83 _ (by simp) j).trans (by simpa using hx)
 have HA := hide A0
 have HZ := hide Z0
 have HX := hide x0
 clear x0 x1 A0 Z0
 go_enter Tryz.func83, Tryz.ntmps83
 go_wp2_with fail
 generalize (w.alloc (χ #[O ι 4, O ι a0, O ι a1, O ι a2, O ι a3, O ι s0, O ι s1, O ι s2, O ι s3, O ι off] 83)).alloc (χ #[O ι 0, O ι 0, O ι 0, O ι 0, O ι 0, O ι 0, O ι 0, O ι 0, O ι 0, O ι 0] 83) = W0 at HA HZ HX ⊢
 have c0 : (_ : Option Value) = some (O ι 4) := HA.out 0 _ rfl
 have c1 : (_ : Option Value) = some (O ι a0) := HA.out 1 _ rfl
 have c2 : (_ : Option Value) = some (O ι a1) := HA.out 2 _ rfl
 have c3 : (_ : Option Value) = some (O ι a2) := HA.out 3 _ rfl
 have c4 : (_ : Option Value) = some (O ι a3) := HA.out 4 _ rfl
 have c5 : (_ : Option Value) = some (O ι s0) := HA.out 5 _ rfl
 have c6 : (_ : Option Value) = some (O ι s1) := HA.out 6 _ rfl
 have c7 : (_ : Option Value) = some (O ι s2) := HA.out 7 _ rfl
 have c8 : (_ : Option Value) = some (O ι s3) := HA.out 8 _ rfl
 have c9 : (_ : Option Value) = some (O ι off) := HA.out 9 _ rfl
 go_region
 go_wp2_with fail
 replace HX := hide (HX.out.trans (Ext.refl W0).drew)
 replace HA := hide (HA.out.keep (Ext.refl W0).drew.bl)
 replace HZ := hide (HZ.out.keep (Ext.refl W0).drew.bl)
 clear c0 c1 c2 c3 c4 c5 c6 c7 c8 c9
 try generalize W0.drew = W1 at HA HZ HX ⊢
 have SA : Hid ((fun _ : World => True) W1.drew) := trivial
 refine zq (fun ac a' w' => a' = (((((((((((ac.put (some 21) (π (some ⟨w.heap.size, 0, none⟩))).put (some 22) (π (some ⟨w.heap.size, 1, none⟩))).put (some 23) (O ι 2)).put (some 24) (O ι 3)).put (some 25) (σ (some ⟨w.heap.size, 3, none⟩) 1 2)).put (some 26) (π (some ⟨w.heap.size, 0, none⟩))).put (some 27) (π (some ⟨w.heap.size, 1, none⟩))).put (some 28) (O ι 2)).put (some 29) (O ι 3)).put (some 30) (σ (some ⟨w.heap.size, 4, none⟩) 1 1)).put (some 31) (O ι 1)) ∧ Ext w w' ∧ AtB w' w.heap.size [O ι 4, O ι a0, O ι a1, O ι a3, O ι a3, O ι s0, O ι s1, O ι s2, O ι s3, O ι off] ∧ AtB w' (w.heap.size + 1) [O ι 0, O ι 0, O ι 0, O ι 0, O ι 0, O ι 0, O ι 0, O ι 0, O ι 0, O ι 0]) (S := (fun _ : World => True)) (late := []) (by kernel_rfl) ?_ ?_
 rotate_left
 ·replace HX := hide (HX.out.trans (Ext.refl W1).drew)
  replace HA := hide (HA.out.keep (Ext.refl W1).drew.bl)
  replace HZ := hide (HZ.out.keep (Ext.refl W1).drew.bl)
  generalize W1.drew = t0 at HA HZ HX SA ⊢
  refine zl27 0 21 (π (some ⟨w.heap.size, 0, none⟩)) rfl (.inl ⟨by kernel_rfl, ?_⟩) SA.out ?_
  ·intro w' z0
   go_simp
   try rfl
  simp only [aP, sT, sZ, sS]
  refine zl27 1 22 (π (some ⟨w.heap.size, 1, none⟩)) rfl (.inl ⟨by kernel_rfl, ?_⟩) SA.out ?_
  ·intro w' z0
   go_simp
   try rfl
  simp only [aP, sT, sZ, sS]
  refine zl27 2 23 (O ι 2) rfl (.inl ⟨by kernel_rfl, ?_⟩) SA.out ?_
  ·intro w' z0
   go_simp
   try rfl
  simp only [aP, sT, sZ, sS]
  refine zl27 3 24 (O ι 3) rfl (.inl ⟨by kernel_rfl, ?_⟩) SA.out ?_
  ·intro w' z0
   go_simp
   try rfl
  simp only [aP, sT, sZ, sS]
  refine zl27 4 25 (σ (some ⟨w.heap.size, 3, none⟩) 1 2) rfl (.inl ⟨by kernel_rfl, ?_⟩) SA.out ?_
  ·intro w' z0
   go_simp
   try rfl
  simp only [aP, sT, sZ, sS]
  refine zl27 5 26 (π (some ⟨w.heap.size, 0, none⟩)) rfl (.inl ⟨by kernel_rfl, ?_⟩) SA.out ?_
  ·intro w' z0
   go_simp
   try rfl
  simp only [aP, sT, sZ, sS]
  refine zl27 6 27 (π (some ⟨w.heap.size, 1, none⟩)) rfl (.inl ⟨by kernel_rfl, ?_⟩) SA.out ?_
  ·intro w' z0
   go_simp
   try rfl
  simp only [aP, sT, sZ, sS]
  refine zl27 7 28 (O ι 2) rfl (.inl ⟨by kernel_rfl, ?_⟩) SA.out ?_
  ·intro w' z0
   go_simp
   try rfl
  simp only [aP, sT, sZ, sS]
  refine zl27 8 29 (O ι 3) rfl (.inl ⟨by kernel_rfl, ?_⟩) SA.out ?_
  ·intro w' z0
   go_simp
   try rfl
  simp only [aP, sT, sZ, sS]
  refine zl27 9 30 (σ (some ⟨w.heap.size, 4, none⟩) 1 1) rfl (.inl ⟨by kernel_rfl, ?_⟩) SA.out ?_
  ·intro w' z0
   go_simp
   try rfl
  simp only [aP, sT, sZ, sS]
  have hcp : (Builtin.copy_ #[25, 25] 3 #[σ (some ⟨w.heap.size, 3, none⟩) 1 2, σ (some ⟨w.heap.size, 4, none⟩) 1 1]).run Tryz.prog t0 = .ok (goInt 1) (t0.setCell ⟨w.heap.size, 3, none⟩ (O ι a3)) := by
   have fzn := fun (q : Nat) => HX.out.unfrozen (b := w.heap.size) (Nat.le_refl _) q
   refine run_copy_cells (P := Tryz.prog) t0 25 25 3 2 w.heap.size 3 1 2 ⟨w.heap.size, 4, none⟩ 1 1 [O ι a3] Tryz.underlying25 zz2 rfl ?_ ?_ (fun j _ => fzn _) (by simp [Value.oneCell'])
   ·intro j v hv
    have q := HA.out (4 + j) v (by
     rw [← hv]
     match j with
     | 0 => rfl
     | j + 1 => simp at hv)
    rw [Addr.add_lit]
    exact q
   ·intro j hj
    have hj' : j < 1 := hj
    have q := HA.out (3 + j) _ (List.getElem?_eq_getElem (by simp; omega))
    rw [q]; rfl
  refine ze (i := 10) (by kernel_rfl) rfl (fun K hK => ?_)
  go_simp
  refine hK.out _ _ (fun _ => trivial) ?_
  clear hK K
  try simp only [aP, sT, sZ, sS]
  refine zg (by kernel_rfl) ?_ _
  exact ⟨rfl, by kernel_rfl, (HX.out.fresh (Nat.le_refl _) 3 (O ι a3)), (HA.out.set1 (j := 3) (by simp) (O ι a3)), (HZ.out.other (B := w.heap.size) (j := 3) (by omega) (O ι a3))⟩
 rintro a' W2 ⟨rfl, hx, ha, hz⟩
 replace HX := hide hx
 replace HA := hide ha
 replace HZ := hide hz
 clear hx ha hz SA
 simp only [aP, sT, sZ, sS]
 go_wp2_with fail
 have SA : Hid ((fun _ : World => True) W2.drew) := trivial
 refine zq (fun ac a' w' => a' = (((((((((ac.put (some 32) (π (some ⟨w.heap.size, 5, none⟩))).put (some 33) (O ι 2)).put (some 34) (O ι 3)).put (some 35) (σ (some ⟨w.heap.size, 7, none⟩) 1 2)).put (some 36) (π (some ⟨w.heap.size, 5, none⟩))).put (some 37) (O ι 2)).put (some 38) (O ι 3)).put (some 39) (σ (some ⟨w.heap.size, 8, none⟩) 1 1)).put (some 40) (O ι 1)) ∧ Ext w w' ∧ AtB w' w.heap.size [O ι 4, O ι a0, O ι a1, O ι a3, O ι a3, O ι s0, O ι s1, O ι s3, O ι s3, O ι off] ∧ AtB w' (w.heap.size + 1) [O ι 0, O ι 0, O ι 0, O ι 0, O ι 0, O ι 0, O ι 0, O ι 0, O ι 0, O ι 0]) (S := (fun _ : World => True)) (late := []) (by kernel_rfl) ?_ ?_
 rotate_left
 ·replace HX := hide (HX.out.trans (Ext.refl W2).drew)
  replace HA := hide (HA.out.keep (Ext.refl W2).drew.bl)
  replace HZ := hide (HZ.out.keep (Ext.refl W2).drew.bl)
  generalize W2.drew = t0 at HA HZ HX SA ⊢
  refine zl27 0 32 (π (some ⟨w.heap.size, 5, none⟩)) rfl (.inl ⟨by kernel_rfl, ?_⟩) SA.out ?_
  ·intro w' z0
   go_simp
   try rfl
  simp only [aP, sT, sZ, sS]
  refine zl27 1 33 (O ι 2) rfl (.inl ⟨by kernel_rfl, ?_⟩) SA.out ?_
  ·intro w' z0
   go_simp
   try rfl
  simp only [aP, sT, sZ, sS]
  refine zl27 2 34 (O ι 3) rfl (.inl ⟨by kernel_rfl, ?_⟩) SA.out ?_
  ·intro w' z0
   go_simp
   try rfl
  simp only [aP, sT, sZ, sS]
  refine zl27 3 35 (σ (some ⟨w.heap.size, 7, none⟩) 1 2) rfl (.inl ⟨by kernel_rfl, ?_⟩) SA.out ?_
  ·intro w' z0
   go_simp
   try rfl
  simp only [aP, sT, sZ, sS]
  refine zl27 4 36 (π (some ⟨w.heap.size, 5, none⟩)) rfl (.inl ⟨by kernel_rfl, ?_⟩) SA.out ?_
  ·intro w' z0
   go_simp
   try rfl
  simp only [aP, sT, sZ, sS]
  refine zl27 5 37 (O ι 2) rfl (.inl ⟨by kernel_rfl, ?_⟩) SA.out ?_
  ·intro w' z0
   go_simp
   try rfl
  simp only [aP, sT, sZ, sS]
  refine zl27 6 38 (O ι 3) rfl (.inl ⟨by kernel_rfl, ?_⟩) SA.out ?_
  ·intro w' z0
   go_simp
   try rfl
  simp only [aP, sT, sZ, sS]
  refine zl27 7 39 (σ (some ⟨w.heap.size, 8, none⟩) 1 1) rfl (.inl ⟨by kernel_rfl, ?_⟩) SA.out ?_
  ·intro w' z0
   go_simp
   try rfl
  simp only [aP, sT, sZ, sS]
  have hcp : (Builtin.copy_ #[25, 25] 3 #[σ (some ⟨w.heap.size, 7, none⟩) 1 2, σ (some ⟨w.heap.size, 8, none⟩) 1 1]).run Tryz.prog t0 = .ok (goInt 1) (t0.setCell ⟨w.heap.size, 7, none⟩ (O ι s3)) := by
   have fzn := fun (q : Nat) => HX.out.unfrozen (b := w.heap.size) (Nat.le_refl _) q
   refine run_copy_cells (P := Tryz.prog) t0 25 25 3 2 w.heap.size 7 1 2 ⟨w.heap.size, 8, none⟩ 1 1 [O ι s3] Tryz.underlying25 zz2 rfl ?_ ?_ (fun j _ => fzn _) (by simp [Value.oneCell'])
   ·intro j v hv
    have q := HA.out (8 + j) v (by
     rw [← hv]
     match j with
     | 0 => rfl
     | j + 1 => simp at hv)
    rw [Addr.add_lit]
    exact q
   ·intro j hj
    have hj' : j < 1 := hj
    have q := HA.out (7 + j) _ (List.getElem?_eq_getElem (by simp; omega))
    rw [q]; rfl
  refine ze (i := 8) (by kernel_rfl) rfl (fun K hK => ?_)
  go_simp
  refine hK.out _ _ (fun _ => trivial) ?_
  clear hK K
  try simp only [aP, sT, sZ, sS]
  refine zg (by kernel_rfl) ?_ _
  exact ⟨rfl, by kernel_rfl, (HX.out.fresh (Nat.le_refl _) 7 (O ι s3)), (HA.out.set1 (j := 7) (by simp) (O ι s3)), (HZ.out.other (B := w.heap.size) (j := 7) (by omega) (O ι s3))⟩
 rintro a' W3 ⟨rfl, hx, ha, hz⟩
 replace HX := hide hx
 replace HA := hide ha
 replace HZ := hide hz
 clear hx ha hz SA
 simp only [aP, sT, sZ, sS]
 have c0 : (_ : Option Value) = some (O ι 4) := HA.out 0 _ rfl
 have c1 : (_ : Option Value) = some (O ι a0) := HA.out 1 _ rfl
 have c2 : (_ : Option Value) = some (O ι a1) := HA.out 2 _ rfl
 have c3 : (_ : Option Value) = some (O ι a3) := HA.out 3 _ rfl
 have c4 : (_ : Option Value) = some (O ι a3) := HA.out 4 _ rfl
 have c5 : (_ : Option Value) = some (O ι s0) := HA.out 5 _ rfl
 have c6 : (_ : Option Value) = some (O ι s1) := HA.out 6 _ rfl
 have c7 : (_ : Option Value) = some (O ι s3) := HA.out 7 _ rfl
 have c8 : (_ : Option Value) = some (O ι s3) := HA.out 8 _ rfl
 have c9 : (_ : Option Value) = some (O ι off) := HA.out 9 _ rfl
 have z0 : (_ : Option Value) = some (O ι 0) := HZ.out 0 _ rfl
 have z1 : (_ : Option Value) = some (O ι 0) := HZ.out 1 _ rfl
 have z2 : (_ : Option Value) = some (O ι 0) := HZ.out 2 _ rfl
 have z3 : (_ : Option Value) = some (O ι 0) := HZ.out 3 _ rfl
 have z4 : (_ : Option Value) = some (O ι 0) := HZ.out 4 _ rfl
 have z5 : (_ : Option Value) = some (O ι 0) := HZ.out 5 _ rfl
 have z6 : (_ : Option Value) = some (O ι 0) := HZ.out 6 _ rfl
 have z7 : (_ : Option Value) = some (O ι 0) := HZ.out 7 _ rfl
 have z8 : (_ : Option Value) = some (O ι 0) := HZ.out 8 _ rfl
 have z9 : (_ : Option Value) = some (O ι 0) := HZ.out 9 _ rfl
 have fzn : ∀ q, W3.frozen? ⟨w.heap.size, q, none⟩ = false := fun q => HX.out.unfrozen (Nat.le_refl _) q
 have fzm : ∀ q, W3.frozen? ⟨w.heap.size + 1, q, none⟩ = false := fun q => HX.out.unfrozen (by omega) q
 have HA2 := hide ((HA.out.set1 (j := 4) (by simp) (O ι a2)).set1 (j := 8) (by simp) (O ι s2))
 have HZ2 := hide ((HZ.out.other (B := w.heap.size) (j := 4) (by omega) (O ι a2)).other (B := w.heap.size) (j := 8) (by omega) (O ι s2))
 have HX2 := hide ((HX.out.fresh (Nat.le_refl _) 4 (O ι a2)).fresh (Nat.le_refl _) 8 (O ι s2))
 have HZ3 := hide ((((((((((HZ2.out.set1 (j := 0) (by simp) (O ι 4)).set1 (j := 1) (by simp) (O ι a0)).set1 (j := 2) (by simp) (O ι a1)).set1 (j := 3) (by simp) (O ι a3)).set1 (j := 4) (by simp) (O ι a2)).set1 (j := 5) (by simp) (O ι s0)).set1 (j := 6) (by simp) (O ι s1)).set1 (j := 7) (by simp) (O ι s3)).set1 (j := 8) (by simp) (O ι s2)).set1 (j := 9) (by simp) (O ι off))
 have HX3 := hide ((((((((((HX2.out.fresh (B := w.heap.size + 1) (by omega) 0 (O ι 4)).fresh (B := w.heap.size + 1) (by omega) 1 (O ι a0)).fresh (B := w.heap.size + 1) (by omega) 2 (O ι a1)).fresh (B := w.heap.size + 1) (by omega) 3 (O ι a3)).fresh (B := w.heap.size + 1) (by omega) 4 (O ι a2)).fresh (B := w.heap.size + 1) (by omega) 5 (O ι s0)).fresh (B := w.heap.size + 1) (by omega) 6 (O ι s1)).fresh (B := w.heap.size + 1) (by omega) 7 (O ι s3)).fresh (B := w.heap.size + 1) (by omega) 8 (O ι s2)).fresh (B := w.heap.size + 1) (by omega) 9 (O ι off))
 have y0 := HZ3.out 0 _ rfl
 have y1 := HZ3.out 1 _ rfl
 have y2 := HZ3.out 2 _ rfl
 have y3 := HZ3.out 3 _ rfl
 have y4 := HZ3.out 4 _ rfl
 have y5 := HZ3.out 5 _ rfl
 have y6 := HZ3.out 6 _ rfl
 have y7 := HZ3.out 7 _ rfl
 have y8 := HZ3.out 8 _ rfl
 have y9 := HZ3.out 9 _ rfl
 have HY : Hid True := trivial
 have d0 := HA2.out 0 _ rfl
 have d1 := HA2.out 1 _ rfl
 have d2 := HA2.out 2 _ rfl
 have d3 := HA2.out 3 _ rfl
 have d4 := HA2.out 4 _ rfl
 have d5 := HA2.out 5 _ rfl
 have d6 := HA2.out 6 _ rfl
 have d7 := HA2.out 7 _ rfl
 have d8 := HA2.out 8 _ rfl
 have d9 := HA2.out 9 _ rfl
 go_wp2_with fail
 refine bodyPost_ret (v := γ #[O ι 4, O ι a0, O ι a1, O ι a3, O ι a2, O ι s0, O ι s1, O ι s3, O ι s2, O ι off]) (by simp [results, Tryz.results83, go_sem, y0, y1, y2, y3, y4, y5, y6, y7, y8, y9]) rfl ⟨rfl, HX3.out⟩
theorem zq14 (w : World) (a0 a1 a2 a3 s0 s1 s2 s3 off : Int) :
  Calls Tryz.prog 83 #[γ #[O ι 4, O ι a0, O ι a1, O ι a2, O ι a3, O ι s0, O ι s1, O ι s2, O ι s3, O ι off], O ι 3] w fun e w' => e = .returned (γ #[O ι 4, O ι a0, O ι a1, O ι a2, O ι a3, O ι s0, O ι s1, O ι s2, O ι s3, O ι off]) ∧ Ext w w' := by
 have x0 : Ext w ((w.alloc (χ #[O ι 4, O ι a0, O ι a1, O ι a2, O ι a3, O ι s0, O ι s1, O ι s2, O ι s3, O ι off] 83)).alloc (χ #[O ι 0, O ι 0, O ι 0, O ι 0, O ι 0, O ι 0, O ι 0, O ι 0, O ι 0, O ι 0] 83)) := ((Ext.refl w).alloc _ _).alloc _ _
 have x1 : Ext (w.alloc (χ #[O ι 4, O ι a0, O ι a1, O ι a2, O ι a3, O ι s0, O ι s1, O ι s2, O ι s3, O ι off] 83)) ((w.alloc (χ #[O ι 4, O ι a0, O ι a1, O ι a2, O ι a3, O ι s0, O ι s1, O ι s2, O ι s3, O ι off] 83)).alloc (χ #[O ι 0, O ι 0, O ι 0, O ι 0, O ι 0, O ι 0, O ι 0, O ι 0, O ι 0, O ι 0] 83)) := (Ext.refl _).alloc _ _
 have A0 : AtB ((w.alloc (χ #[O ι 4, O ι a0, O ι a1, O ι a2, O ι a3, O ι s0, O ι s1, O ι s2, O ι s3, O ι off] 83)).alloc (χ #[O ι 0, O ι 0, O ι 0, O ι 0, O ι 0, O ι 0, O ι 0, O ι 0, O ι 0, O ι 0] 83)) w.heap.size [O ι 4, O ι a0, O ι a1, O ι a2, O ι a3, O ι s0, O ι s1, O ι s2, O ι s3, O ι off] := fun j x hx => x1.box ((zd w _ 83 _ rfl j).trans (by simpa using hx))
 have Z0 : AtB ((w.alloc (χ #[O ι 4, O ι a0, O ι a1, O ι a2, O ι a3, O ι s0, O ι s1, O ι s2, O ι s3, O ι off] 83)).alloc (χ #[O ι 0, O ι 0, O ι 0, O ι 0, O ι 0, O ι 0, O ι 0, O ι 0, O ι 0, O ι 0] 83)) (w.heap.size + 1) [O ι 0, O ι 0, O ι 0, O ι 0, O ι 0, O ι 0, O ι 0, O ι 0, O ι 0, O ι 0] := fun j x hx => (zd _ _ 83 _ (by simp) j).trans (by simpa using hx)
 have HA := hide A0
 have HZ := hide Z0
 have HX := hide x0
 clear x0 x1 A0 Z0
 go_enter Tryz.func83, Tryz.ntmps83
 go_wp2_with fail
 generalize (w.alloc (χ #[O ι 4, O ι a0, O ι a1, O ι a2, O ι a3, O ι s0, O ι s1, O ι s2, O ι s3, O ι off] 83)).alloc (χ #[O ι 0, O ι 0, O ι 0, O ι 0, O ι 0, O ι 0, O ι 0, O ι 0, O ι 0, O ι 0] 83) = W0 at HA HZ HX ⊢
 have c0 : (_ : Option Value) = some (O ι 4) := HA.out 0 _ rfl
 have c1 : (_ : Option Value) = some (O ι a0) := HA.out 1 _ rfl
 have c2 : (_ : Option Value) = some (O ι a1) := HA.out 2 _ rfl
 have c3 : (_ : Option Value) = some (O ι a2) := HA.out 3 _ rfl
 have c4 : (_ : Option Value) = some (O ι a3) := HA.out 4 _ rfl
 have c5 : (_ : Option Value) = some (O ι s0) := HA.out 5 _ rfl
 have c6 : (_ : Option Value) = some (O ι s1) := HA.out 6 _ rfl
 have c7 : (_ : Option Value) = some (O ι s2) := HA.out 7 _ rfl
 have c8 : (_ : Option Value) = some (O ι s3) := HA.out 8 _ rfl
 have c9 : (_ : Option Value) = some (O ι off) := HA.out 9 _ rfl
 go_region
 go_wp2_with fail
 replace HX := hide (HX.out.trans (Ext.refl W0).drew)
 replace HA := hide (HA.out.keep (Ext.refl W0).drew.bl)
 replace HZ := hide (HZ.out.keep (Ext.refl W0).drew.bl)
 clear c0 c1 c2 c3 c4 c5 c6 c7 c8 c9
 try generalize W0.drew = W1 at HA HZ HX ⊢
 have SA : Hid ((fun _ : World => True) W1.drew) := trivial
 refine zq (fun ac a' w' => a' = (((((((((((ac.put (some 21) (π (some ⟨w.heap.size, 0, none⟩))).put (some 22) (π (some ⟨w.heap.size, 1, none⟩))).put (some 23) (O ι 3)).put (some 24) (O ι 3)).put (some 25) (σ (some ⟨w.heap.size, 4, none⟩) 0 1)).put (some 26) (π (some ⟨w.heap.size, 0, none⟩))).put (some 27) (π (some ⟨w.heap.size, 1, none⟩))).put (some 28) (O ι 3)).put (some 29) (O ι 4)).put (some 30) (σ (some ⟨w.heap.size, 1, none⟩) 0 0)).put (some 31) (O ι 0)) ∧ Ext w w' ∧ AtB w' w.heap.size [O ι 4, O ι a0, O ι a1, O ι a2, O ι a3, O ι s0, O ι s1, O ι s2, O ι s3, O ι off] ∧ AtB w' (w.heap.size + 1) [O ι 0, O ι 0, O ι 0, O ι 0, O ι 0, O ι 0, O ι 0, O ι 0, O ι 0, O ι 0]) (S := (fun _ : World => True)) (late := []) (by kernel_rfl) ?_ ?_
 rotate_left
 ·replace HX := hide (HX.out.trans (Ext.refl W1).drew)
  replace HA := hide (HA.out.keep (Ext.refl W1).drew.bl)
  replace HZ := hide (HZ.out.keep (Ext.refl W1).drew.bl)
  generalize W1.drew = t0 at HA HZ HX SA ⊢
  refine zl27 0 21 (π (some ⟨w.heap.size, 0, none⟩)) rfl (.inl ⟨by kernel_rfl, ?_⟩) SA.out ?_
  ·intro w' z0
   go_simp
   try rfl
  simp only [aP, sT, sZ, sS]
  refine zl27 1 22 (π (some ⟨w.heap.size, 1, none⟩)) rfl (.inl ⟨by kernel_rfl, ?_⟩) SA.out ?_
  ·intro w' z0
   go_simp
   try rfl
  simp only [aP, sT, sZ, sS]
  refine zl27 2 23 (O ι 3) rfl (.inl ⟨by kernel_rfl, ?_⟩) SA.out ?_
  ·intro w' z0
   go_simp
   try rfl
  simp only [aP, sT, sZ, sS]
  refine zl27 3 24 (O ι 3) rfl (.inl ⟨by kernel_rfl, ?_⟩) SA.out ?_
  ·intro w' z0
   go_simp
   try rfl
  simp only [aP, sT, sZ, sS]
  refine zl27 4 25 (σ (some ⟨w.heap.size, 4, none⟩) 0 1) rfl (.inl ⟨by kernel_rfl, ?_⟩) SA.out ?_
  ·intro w' z0
   go_simp
   try rfl
  simp only [aP, sT, sZ, sS]
  refine zl27 5 26 (π (some ⟨w.heap.size, 0, none⟩)) rfl (.inl ⟨by kernel_rfl, ?_⟩) SA.out ?_
  ·intro w' z0
   go_simp
   try rfl
  simp only [aP, sT, sZ, sS]
  refine zl27 6 27 (π (some ⟨w.heap.size, 1, none⟩)) rfl (.inl ⟨by kernel_rfl, ?_⟩) SA.out ?_
  ·intro w' z0
   go_simp
   try rfl
  simp only [aP, sT, sZ, sS]
  refine zl27 7 28 (O ι 3) rfl (.inl ⟨by kernel_rfl, ?_⟩) SA.out ?_
  ·intro w' z0
   go_simp
   try rfl
  simp only [aP, sT, sZ, sS]
  refine zl27 8 29 (O ι 4) rfl (.inl ⟨by kernel_rfl, ?_⟩) SA.out ?_
  ·intro w' z0
   go_simp
   try rfl
  simp only [aP, sT, sZ, sS]
  refine zl27 9 30 (σ (some ⟨w.heap.size, 1, none⟩) 0 0) rfl (.inl ⟨by kernel_rfl, ?_⟩) SA.out ?_
  ·intro w' z0
   go_simp
   try rfl
  simp only [aP, sT, sZ, sS]
  have hcp := run_copy_none (P := Tryz.prog) t0 25 25 3 2 (some ⟨w.heap.size, 4, none⟩) (some ⟨w.heap.size, 1, none⟩) 0 1 0 0 Tryz.underlying25 zz2 rfl
  refine ze (i := 10) (by kernel_rfl) rfl (fun K hK => ?_)
  go_simp
  refine hK.out _ _ (fun _ => trivial) ?_
  clear hK K
  try simp only [aP, sT, sZ, sS]
  refine zg (by kernel_rfl) ?_ _
  exact ⟨rfl, by kernel_rfl, HX.out, HA.out, HZ.out⟩
 rintro a' W2 ⟨rfl, hx, ha, hz⟩
 replace HX := hide hx
 replace HA := hide ha
 replace HZ := hide hz
 clear hx ha hz SA
 simp only [aP, sT, sZ, sS]
 go_wp2_with fail
 have SA : Hid ((fun _ : World => True) W2.drew) := trivial
 refine zq (fun ac a' w' => a' = (((((((((ac.put (some 32) (π (some ⟨w.heap.size, 5, none⟩))).put (some 33) (O ι 3)).put (some 34) (O ι 3)).put (some 35) (σ (some ⟨w.heap.size, 8, none⟩) 0 1)).put (some 36) (π (some ⟨w.heap.size, 5, none⟩))).put (some 37) (O ι 3)).put (some 38) (O ι 4)).put (some 39) (σ (some ⟨w.heap.size, 5, none⟩) 0 0)).put (some 40) (O ι 0)) ∧ Ext w w' ∧ AtB w' w.heap.size [O ι 4, O ι a0, O ι a1, O ι a2, O ι a3, O ι s0, O ι s1, O ι s2, O ι s3, O ι off] ∧ AtB w' (w.heap.size + 1) [O ι 0, O ι 0, O ι 0, O ι 0, O ι 0, O ι 0, O ι 0, O ι 0, O ι 0, O ι 0]) (S := (fun _ : World => True)) (late := []) (by kernel_rfl) ?_ ?_
 rotate_left
 ·replace HX := hide (HX.out.trans (Ext.refl W2).drew)
  replace HA := hide (HA.out.keep (Ext.refl W2).drew.bl)
  replace HZ := hide (HZ.out.keep (Ext.refl W2).drew.bl)
  generalize W2.drew = t0 at HA HZ HX SA ⊢
  refine zl27 0 32 (π (some ⟨w.heap.size, 5, none⟩)) rfl (.inl ⟨by kernel_rfl, ?_⟩) SA.out ?_
  ·intro w' z0
   go_simp
   try rfl
  simp only [aP, sT, sZ, sS]
  refine zl27 1 33 (O ι 3) rfl (.inl ⟨by kernel_rfl, ?_⟩) SA.out ?_
  ·intro w' z0
   go_simp
   try rfl
  simp only [aP, sT, sZ, sS]
  refine zl27 2 34 (O ι 3) rfl (.inl ⟨by kernel_rfl, ?_⟩) SA.out ?_
  ·intro w' z0
   go_simp
   try rfl
  simp only [aP, sT, sZ, sS]
  refine zl27 3 35 (σ (some ⟨w.heap.size, 8, none⟩) 0 1) rfl (.inl ⟨by kernel_rfl, ?_⟩) SA.out ?_
  ·intro w' z0
   go_simp
   try rfl
  simp only [aP, sT, sZ, sS]
  refine zl27 4 36 (π (some ⟨w.heap.size, 5, none⟩)) rfl (.inl ⟨by kernel_rfl, ?_⟩) SA.out ?_
  ·intro w' z0
   go_simp
   try rfl
  simp only [aP, sT, sZ, sS]
  refine zl27 5 37 (O ι 3) rfl (.inl ⟨by kernel_rfl, ?_⟩) SA.out ?_
  ·intro w' z0
   go_simp
   try rfl
  simp only [aP, sT, sZ, sS]
  refine zl27 6 38 (O ι 4) rfl (.inl ⟨by kernel_rfl, ?_⟩) SA.out ?_
  ·intro w' z0
   go_simp
   try rfl
  simp only [aP, sT, sZ, sS]
  refine zl27 7 39 (σ (some ⟨w.heap.size, 5, none⟩) 0 0) rfl (.inl ⟨by kernel_rfl, ?_⟩) SA.out ?_
  ·intro w' z0
   go_simp
   try rfl
  simp only [aP, sT, sZ, sS]
  have hcp := run_copy_none (P := Tryz.prog) t0 25 25 3 2 (some ⟨w.heap.size, 8, none⟩) (some ⟨w.heap.size, 5, none⟩) 0 1 0 0 Tryz.underlying25 zz2 rfl
  refine ze (i := 8) (by kernel_rfl) rfl (fun K hK => ?_)
  go_simp
  refine hK.out _ _ (fun _ => trivial) ?_
  clear hK K
  try simp only [aP, sT, sZ, sS]
  refine zg (by kernel_rfl) ?_ _
  exact ⟨rfl, by kernel_rfl, HX.out, HA.out, HZ.out⟩
 rintro a' W3 ⟨rfl, hx, ha, hz⟩
 replace HX := hide hx
 replace HA := hide ha
 replace HZ := hide hz
 clear hx ha hz SA
 simp only [aP, sT, sZ, sS]
 have c0 : (_ : Option Value) = some (O ι 4) := HA.out 0 _ rfl
 have c1 : (_ : Option Value) = some (O ι a0) := HA.out 1 _ rfl
 have c2 : (_ : Option Value) = some (O ι a1) := HA.out 2 _ rfl
 have c3 : (_ : Option Value) = some (O ι a2) := HA.out 3 _ rfl
 have c4 : (_ : Option Value) = some (O ι a3) := HA.out 4 _ rfl
 have c5 : (_ : Option Value) = some (O ι s0) := HA.out 5 _ rfl
 have c6 : (_ : Option Value) = some (O ι s1) := HA.out 6 _ rfl
 have c7 : (_ : Option Value) = some (O ι s2) := HA.out 7 _ rfl
 have c8 : (_ : Option Value) = some (O ι s3) := HA.out 8 _ rfl
 have c9 : (_ : Option Value) = some (O ι off) := HA.out 9 _ rfl
 have z0 : (_ : Option Value) = some (O ι 0) := HZ.out 0 _ rfl
 have z1 : (_ : Option Value) = some (O ι 0) := HZ.out 1 _ rfl
 have z2 : (_ : Option Value) = some (O ι 0) := HZ.out 2 _ rfl
 have z3 : (_ : Option Value) = some (O ι 0) := HZ.out 3 _ rfl
 have z4 : (_ : Option Value) = some (O ι 0) := HZ.out 4 _ rfl
 have z5 : (_ : Option Value) = some (O ι 0) := HZ.out 5 _ rfl
 have z6 : (_ : Option Value) = some (O ι 0) := HZ.out 6 _ rfl
 have z7 : (_ : Option Value) = some (O ι 0) := HZ.out 7 _ rfl
 have z8 : (_ : Option Value) = some (O ι 0) := HZ.out 8 _ rfl
 have z9 : (_ : Option Value) = some (O ι 0) := HZ.out 9 _ rfl
 have fzn : ∀ q, W3.frozen? ⟨w.heap.size, q, none⟩ = false := fun q => HX.out.unfrozen (Nat.le_refl _) q
 have fzm : ∀ q, W3.frozen? ⟨w.heap.size + 1, q, none⟩ = false := fun q => HX.out.unfrozen (by omega) q
 have HA2 := hide ((HA.out.set1 (j := 4) (by simp) (O ι a3)).set1 (j := 8) (by simp) (O ι s3))
 have HZ2 := hide ((HZ.out.other (B := w.heap.size) (j := 4) (by omega) (O ι a3)).other (B := w.heap.size) (j := 8) (by omega) (O ι s3))
 have HX2 := hide ((HX.out.fresh (Nat.le_refl _) 4 (O ι a3)).fresh (Nat.le_refl _) 8 (O ι s3))
 have HZ3 := hide ((((((((((HZ2.out.set1 (j := 0) (by simp) (O ι 4)).set1 (j := 1) (by simp) (O ι a0)).set1 (j := 2) (by simp) (O ι a1)).set1 (j := 3) (by simp) (O ι a2)).set1 (j := 4) (by simp) (O ι a3)).set1 (j := 5) (by simp) (O ι s0)).set1 (j := 6) (by simp) (O ι s1)).set1 (j := 7) (by simp) (O ι s2)).set1 (j := 8) (by simp) (O ι s3)).set1 (j := 9) (by simp) (O ι off))
 have HX3 := hide ((((((((((HX2.out.fresh (B := w.heap.size + 1) (by omega) 0 (O ι 4)).fresh (B := w.heap.size + 1) (by omega) 1 (O ι a0)).fresh (B := w.heap.size + 1) (by omega) 2 (O ι a1)).fresh (B := w.heap.size + 1) (by omega) 3 (O ι a2)).fresh (B := w.heap.size + 1) (by omega) 4 (O ι a3)).fresh (B := w.heap.size + 1) (by omega) 5 (O ι s0)).fresh (B := w.heap.size + 1) (by omega) 6 (O ι s1)).fresh (B := w.heap.size + 1) (by omega) 7 (O ι s2)).fresh (B := w.heap.size + 1) (by omega) 8 (O ι s3)).fresh (B := w.heap.size + 1) (by omega) 9 (O ι off))
 have y0 := HZ3.out 0 _ rfl
 have y1 := HZ3.out 1 _ rfl
 have y2 := HZ3.out 2 _ rfl
 have y3 := HZ3.out 3 _ rfl
 have y4 := HZ3.out 4 _ rfl
 have y5 := HZ3.out 5 _ rfl
 have y6 := HZ3.out 6 _ rfl
 have y7 := HZ3.out 7 _ rfl
 have y8 := HZ3.out 8 _ rfl
 have y9 := HZ3.out 9 _ rfl
 have HY : Hid True := trivial
 have d0 := HA2.out 0 _ rfl
 have d1 := HA2.out 1 _ rfl
 have d2 := HA2.out 2 _ rfl
 have d3 := HA2.out 3 _ rfl
 have d4 := HA2.out 4 _ rfl
 have d5 := HA2.out 5 _ rfl
 have d6 := HA2.out 6 _ rfl
 have d7 := HA2.out 7 _ rfl
 have d8 := HA2.out 8 _ rfl
 have d9 := HA2.out 9 _ rfl
 go_wp2_with fail
 refine bodyPost_ret (v := γ #[O ι 4, O ι a0, O ι a1, O ι a2, O ι a3, O ι s0, O ι s1, O ι s2, O ι s3, O ι off]) (by simp [results, Tryz.results83, go_sem, y0, y1, y2, y3, y4, y5, y6, y7, y8, y9]) rfl ⟨rfl, HX3.out⟩
end Go.Proofs.YtfhcpicddegblaaGreat
