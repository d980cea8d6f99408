import Derived.Test.YtfhcpicddegblaaGreatM6
import Derived.Test.YtfhcpicddegblaaGreatM7
import Derived.Test.YtfhcpicddegblaaGreatM7
import Derived.BigRegion
namespace Go.Proofs.YtfhcpicddegblaaGreat
set_option maxRecDepth 100000
set_option maxHeartbeats 8000000
open List renaming setIfInBounds_toArray → sT, set_cons_zero → sZ, set_cons_succ → sS
open Go.RowKit Go.ChangeShapes
set_option linter.unusedSimpArgs false
set_option linter.unusedVariables false
theorem AtB.set1 {W : World} {B j : Nat} {L : List Value} (h : AtB W B L) (hj : j < L.length) (v : Value) : AtB (W.setCell ⟨B, j, none⟩ v) B (L.set j v) := fun i y hy => by
 by_cases e : i = j
 ·subst e
  rw [List.getElem?_set_self hj] at hy
  have q := h i _ (List.getElem?_eq_getElem hj)
  cases hy
  exact World.cell?_setCell_same _ _ _ q
 ·rw [List.getElem?_set_ne (Ne.symm e)] at hy
  exact ze1 (Ne.symm e) (h i y hy)
theorem Ext.fresh {w W : World} (x : Ext w W) {B : Nat} (hB : w.heap.size ≤ B) (j : Nat) (v : Value) : Ext w (W.setCell ⟨B, j, none⟩ v) := ((Mut.refl B W).setCell j v).ext x hB
theorem AtB.other {W : World} {B C j : Nat} {L : List Value} (h : AtB W C L) (hne : C ≠ B) (v : Value) : AtB (W.setCell ⟨B, j, none⟩ v) C L := fun i y hy => (World.cell?_of_block (w := W) (a := ⟨C, i, none⟩) (Below.heap_setCell _ _ _ _ hne)).trans (h i y hy)
theorem zq14 (w : World) (a0 a1 a2 a3 s0 s1 s2 s3 off : Int) :
  Calls Tryz.prog 83 #[.agg #[.int .i64 1, .int .i64 a0, .int .i64 a1, .int .i64 a2, .int .i64 a3, .int .i64 s0, .int .i64 s1, .int .i64 s2, .int .i64 s3, .int .i64 off], .int .i64 0] w fun e w' => e = .returned (.agg #[.int .i64 1, .int .i64 a0, .int .i64 a1, .int .i64 a2, .int .i64 a3, .int .i64 s0, .int .i64 s1, .int .i64 s2, .int .i64 s3, .int .i64 off]) ∧ Ext w w' := by
 have x0 : Ext w ((w.alloc (.cells #[.int .i64 1, .int .i64 a0, .int .i64 a1, .int .i64 a2, .int .i64 a3, .int .i64 s0, .int .i64 s1, .int .i64 s2, .int .i64 s3, .int .i64 off] 83)).alloc (.cells #[.int .i64 0, .int .i64 0, .int .i64 0, .int .i64 0, .int .i64 0, .int .i64 0, .int .i64 0, .int .i64 0, .int .i64 0, .int .i64 0] 83)) := ((Ext.refl w).alloc _ _).alloc _ _
 have x1 : Ext (w.alloc (.cells #[.int .i64 1, .int .i64 a0, .int .i64 a1, .int .i64 a2, .int .i64 a3, .int .i64 s0, .int .i64 s1, .int .i64 s2, .int .i64 s3, .int .i64 off] 83)) ((w.alloc (.cells #[.int .i64 1, .int .i64 a0, .int .i64 a1, .int .i64 a2, .int .i64 a3, .int .i64 s0, .int .i64 s1, .int .i64 s2, .int .i64 s3, .int .i64 off] 83)).alloc (.cells #[.int .i64 0, .int .i64 0, .int .i64 0, .int .i64 0, .int .i64 0, .int .i64 0, .int .i64 0, .int .i64 0, .int .i64 0, .int .i64 0] 83)) := (Ext.refl _).alloc _ _
 have A0 : AtB ((w.alloc (.cells #[.int .i64 1, .int .i64 a0, .int .i64 a1, .int .i64 a2, .int .i64 a3, .int .i64 s0, .int .i64 s1, .int .i64 s2, .int .i64 s3, .int .i64 off] 83)).alloc (.cells #[.int .i64 0, .int .i64 0, .int .i64 0, .int .i64 0, .int .i64 0, .int .i64 0, .int .i64 0, .int .i64 0, .int .i64 0, .int .i64 0] 83)) w.heap.size [.int .i64 1, .int .i64 a0, .int .i64 a1, .int .i64 a2, .int .i64 a3, .int .i64 s0, .int .i64 s1, .int .i64 s2, .int .i64 s3, .int .i64 off] := fun j x hx => x1.box ((ze w _ 83 _ rfl j).trans (by simpa using hx))
 have Z0 : AtB ((w.alloc (.cells #[.int .i64 1, .int .i64 a0, .int .i64 a1, .int .i64 a2, .int .i64 a3, .int .i64 s0, .int .i64 s1, .int .i64 s2, .int .i64 s3, .int .i64 off] 83)).alloc (.cells #[.int .i64 0, .int .i64 0, .int .i64 0, .int .i64 0, .int .i64 0, .int .i64 0, .int .i64 0, .int .i64 0, .int .i64 0, .int .i64 0] 83)) (w.heap.size + 1) [.int .i64 0, .int .i64 0, .int .i64 0, .int .i64 0, .int .i64 0, .int .i64 0, .int .i64 0, .int .i64 0, .int .i64 0, .int .i64 0] := fun j x hx => (ze _ _ 83 _ (by simp) j).trans (by simpa using hx)
 have HA := hide A0
 have HZ := hide Z0
 have HX := hide x0
 clear x0 x1 A0 Z0
 go_enter Tryz.func83, Tryz.ntmps83
 go_wp2_with fail
 generalize (w.alloc (.cells #[.int .i64 1, .int .i64 a0, .int .i64 a1, .int .i64 a2, .int .i64 a3, .int .i64 s0, .int .i64 s1, .int .i64 s2, .int .i64 s3, .int .i64 off] 83)).alloc (.cells #[.int .i64 0, .int .i64 0, .int .i64 0, .int .i64 0, .int .i64 0, .int .i64 0, .int .i64 0, .int .i64 0, .int .i64 0, .int .i64 0] 83) = W0 at HA HZ HX ⊢
 have c0 : (_ : Option Value) = some (.int .i64 1) := HA.out 0 _ rfl
 have c1 : (_ : Option Value) = some (.int .i64 a0) := HA.out 1 _ rfl
 have c2 : (_ : Option Value) = some (.int .i64 a1) := HA.out 2 _ rfl
 have c3 : (_ : Option Value) = some (.int .i64 a2) := HA.out 3 _ rfl
 have c4 : (_ : Option Value) = some (.int .i64 a3) := HA.out 4 _ rfl
 have c5 : (_ : Option Value) = some (.int .i64 s0) := HA.out 5 _ rfl
 have c6 : (_ : Option Value) = some (.int .i64 s1) := HA.out 6 _ rfl
 have c7 : (_ : Option Value) = some (.int .i64 s2) := HA.out 7 _ rfl
 have c8 : (_ : Option Value) = some (.int .i64 s3) := HA.out 8 _ rfl
 have c9 : (_ : Option Value) = some (.int .i64 off) := HA.out 9 _ rfl
 go_region
 go_wp2_with fail
 replace HX := hide (HX.out.trans (Ext.refl W0).drew)
 replace HA := hide (HA.out.keep (Ext.refl W0).drew.bl)
 replace HZ := hide (HZ.out.keep (Ext.refl W0).drew.bl)
 clear c0 c1 c2 c3 c4 c5 c6 c7 c8 c9
 try generalize W0.drew = W1 at HA HZ HX ⊢
 have SA : Hid ((fun _ : World => True) W1.drew) := trivial
 refine zq (fun ac a' w' => a' = (((((((((((ac.put (some 21) (.pointer (some ⟨w.heap.size, 0, none⟩))).put (some 22) (.pointer (some ⟨w.heap.size, 1, none⟩))).put (some 23) (.int .i64 0)).put (some 24) (.int .i64 0)).put (some 25) (.slice (some ⟨w.heap.size, 1, none⟩) 0 4)).put (some 26) (.pointer (some ⟨w.heap.size, 0, none⟩))).put (some 27) (.pointer (some ⟨w.heap.size, 1, none⟩))).put (some 28) (.int .i64 0)).put (some 29) (.int .i64 1)).put (some 30) (.slice (some ⟨w.heap.size, 2, none⟩) 3 3)).put (some 31) (.int .i64 0)) ∧ Ext w w' ∧ AtB w' w.heap.size [.int .i64 1, .int .i64 a0, .int .i64 a1, .int .i64 a2, .int .i64 a3, .int .i64 s0, .int .i64 s1, .int .i64 s2, .int .i64 s3, .int .i64 off] ∧ AtB w' (w.heap.size + 1) [.int .i64 0, .int .i64 0, .int .i64 0, .int .i64 0, .int .i64 0, .int .i64 0, .int .i64 0, .int .i64 0, .int .i64 0, .int .i64 0]) (S := (fun _ : World => True)) (late := []) (by kernel_rfl) ?_ ?_
 rotate_left
 ·replace HX := hide (HX.out.trans (Ext.refl W1).drew)
  replace HA := hide (HA.out.keep (Ext.refl W1).drew.bl)
  replace HZ := hide (HZ.out.keep (Ext.refl W1).drew.bl)
  generalize W1.drew = t0 at HA HZ HX SA ⊢
  refine zd (i := 0) (d := 21) (v := .pointer (some ⟨w.heap.size, 0, none⟩)) rfl (by rfl) (by kernel_rfl) (by kernel_rfl) (fun _ _ _ h => by cases h.1) _ (by kernel_rfl) (by kernel_rfl) (Or.inl ⟨by kernel_rfl, ?_⟩) SA.out ?_
  ·intro w' h
   have z0 := h
   go_simp
   try rfl
  simp only [Act.put, sT, sZ, sS]
  refine zd (i := 1) (d := 22) (v := .pointer (some ⟨w.heap.size, 1, none⟩)) rfl (by rfl) (by kernel_rfl) (by kernel_rfl) (fun _ _ _ h => by cases h.1) _ (by kernel_rfl) (by kernel_rfl) (Or.inl ⟨by kernel_rfl, ?_⟩) SA.out ?_
  ·intro w' h
   have z0 := h
   go_simp
   try rfl
  simp only [Act.put, sT, sZ, sS]
  refine zd (i := 2) (d := 23) (v := .int .i64 0) rfl (by rfl) (by kernel_rfl) (by kernel_rfl) (fun _ _ _ h => by cases h.1) _ (by kernel_rfl) (by kernel_rfl) (Or.inl ⟨by kernel_rfl, ?_⟩) SA.out ?_
  ·intro w' h
   have z0 := h
   go_simp
   try rfl
  simp only [Act.put, sT, sZ, sS]
  refine zd (i := 3) (d := 24) (v := .int .i64 0) rfl (by rfl) (by kernel_rfl) (by kernel_rfl) (fun _ _ _ h => by cases h.1) _ (by kernel_rfl) (by kernel_rfl) (Or.inl ⟨by kernel_rfl, ?_⟩) SA.out ?_
  ·intro w' h
   have z0 := h
   go_simp
   try rfl
  simp only [Act.put, sT, sZ, sS]
  refine zd (i := 4) (d := 25) (v := .slice (some ⟨w.heap.size, 1, none⟩) 0 4) rfl (by rfl) (by kernel_rfl) (by kernel_rfl) (fun _ _ _ h => by cases h.1) _ (by kernel_rfl) (by kernel_rfl) (Or.inl ⟨by kernel_rfl, ?_⟩) SA.out ?_
  ·intro w' h
   have z0 := h
   go_simp
   try rfl
  simp only [Act.put, sT, sZ, sS]
  refine zd (i := 5) (d := 26) (v := .pointer (some ⟨w.heap.size, 0, none⟩)) rfl (by rfl) (by kernel_rfl) (by kernel_rfl) (fun _ _ _ h => by cases h.1) _ (by kernel_rfl) (by kernel_rfl) (Or.inl ⟨by kernel_rfl, ?_⟩) SA.out ?_
  ·intro w' h
   have z0 := h
   go_simp
   try rfl
  simp only [Act.put, sT, sZ, sS]
  refine zd (i := 6) (d := 27) (v := .pointer (some ⟨w.heap.size, 1, none⟩)) rfl (by rfl) (by kernel_rfl) (by kernel_rfl) (fun _ _ _ h => by cases h.1) _ (by kernel_rfl) (by kernel_rfl) (Or.inl ⟨by kernel_rfl, ?_⟩) SA.out ?_
  ·intro w' h
   have z0 := h
   go_simp
   try rfl
  simp only [Act.put, sT, sZ, sS]
  refine zd (i := 7) (d := 28) (v := .int .i64 0) rfl (by rfl) (by kernel_rfl) (by kernel_rfl) (fun _ _ _ h => by cases h.1) _ (by kernel_rfl) (by kernel_rfl) (Or.inl ⟨by kernel_rfl, ?_⟩) SA.out ?_
  ·intro w' h
   have z0 := h
   go_simp
   try rfl
  simp only [Act.put, sT, sZ, sS]
  refine zd (i := 8) (d := 29) (v := .int .i64 1) rfl (by rfl) (by kernel_rfl) (by kernel_rfl) (fun _ _ _ h => by cases h.1) _ (by kernel_rfl) (by kernel_rfl) (Or.inl ⟨by kernel_rfl, ?_⟩) SA.out ?_
  ·intro w' h
   have z0 := h
   go_simp
   try rfl
  simp only [Act.put, sT, sZ, sS]
  refine zd (i := 9) (d := 30) (v := .slice (some ⟨w.heap.size, 2, none⟩) 3 3) rfl (by rfl) (by kernel_rfl) (by kernel_rfl) (fun _ _ _ h => by cases h.1) _ (by kernel_rfl) (by kernel_rfl) (Or.inl ⟨by kernel_rfl, ?_⟩) SA.out ?_
  ·intro w' h
   have z0 := h
   go_simp
   try rfl
  simp only [Act.put, sT, sZ, sS]
  have hcp := run_copy_none (P := Tryz.prog) t0 25 25 3 2 (some ⟨w.heap.size, 1, none⟩) (some ⟨w.heap.size, 2, none⟩) 0 4 3 3 Tryz.underlying25 zy2 rfl
  refine zg (i := 10) (by kernel_rfl) rfl (fun K hK => ?_)
  go_simp
  refine hK.out _ _ (fun _ => trivial) ?_
  clear hK K
  try simp only [Act.put, sT, sZ, sS]
  refine zh (by kernel_rfl) ?_ _
  exact ⟨rfl, by kernel_rfl, HX.out, HA.out, HZ.out⟩
 rintro a' W2 ⟨rfl, hx, ha, hz⟩
 replace HX := hide hx
 replace HA := hide ha
 replace HZ := hide hz
 clear hx ha hz SA
 simp only [Act.put, sT, sZ, sS]
 go_wp2_with fail
 have SA : Hid ((fun _ : World => True) W2.drew) := trivial
 refine zq (fun ac a' w' => a' = (((((((((ac.put (some 32) (.pointer (some ⟨w.heap.size, 5, none⟩))).put (some 33) (.int .i64 0)).put (some 34) (.int .i64 0)).put (some 35) (.slice (some ⟨w.heap.size, 5, none⟩) 0 4)).put (some 36) (.pointer (some ⟨w.heap.size, 5, none⟩))).put (some 37) (.int .i64 0)).put (some 38) (.int .i64 1)).put (some 39) (.slice (some ⟨w.heap.size, 6, none⟩) 3 3)).put (some 40) (.int .i64 0)) ∧ Ext w w' ∧ AtB w' w.heap.size [.int .i64 1, .int .i64 a0, .int .i64 a1, .int .i64 a2, .int .i64 a3, .int .i64 s0, .int .i64 s1, .int .i64 s2, .int .i64 s3, .int .i64 off] ∧ AtB w' (w.heap.size + 1) [.int .i64 0, .int .i64 0, .int .i64 0, .int .i64 0, .int .i64 0, .int .i64 0, .int .i64 0, .int .i64 0, .int .i64 0, .int .i64 0]) (S := (fun _ : World => True)) (late := []) (by kernel_rfl) ?_ ?_
 rotate_left
 ·replace HX := hide (HX.out.trans (Ext.refl W2).drew)
  replace HA := hide (HA.out.keep (Ext.refl W2).drew.bl)
  replace HZ := hide (HZ.out.keep (Ext.refl W2).drew.bl)
  generalize W2.drew = t0 at HA HZ HX SA ⊢
  refine zd (i := 0) (d := 32) (v := .pointer (some ⟨w.heap.size, 5, none⟩)) rfl (by rfl) (by kernel_rfl) (by kernel_rfl) (fun _ _ _ h => by cases h.1) _ (by kernel_rfl) (by kernel_rfl) (Or.inl ⟨by kernel_rfl, ?_⟩) SA.out ?_
  ·intro w' h
   have z0 := h
   go_simp
   try rfl
  simp only [Act.put, sT, sZ, sS]
  refine zd (i := 1) (d := 33) (v := .int .i64 0) rfl (by rfl) (by kernel_rfl) (by kernel_rfl) (fun _ _ _ h => by cases h.1) _ (by kernel_rfl) (by kernel_rfl) (Or.inl ⟨by kernel_rfl, ?_⟩) SA.out ?_
  ·intro w' h
   have z0 := h
   go_simp
   try rfl
  simp only [Act.put, sT, sZ, sS]
  refine zd (i := 2) (d := 34) (v := .int .i64 0) rfl (by rfl) (by kernel_rfl) (by kernel_rfl) (fun _ _ _ h => by cases h.1) _ (by kernel_rfl) (by kernel_rfl) (Or.inl ⟨by kernel_rfl, ?_⟩) SA.out ?_
  ·intro w' h
   have z0 := h
   go_simp
   try rfl
  simp only [Act.put, sT, sZ, sS]
  refine zd (i := 3) (d := 35) (v := .slice (some ⟨w.heap.size, 5, none⟩) 0 4) rfl (by rfl) (by kernel_rfl) (by kernel_rfl) (fun _ _ _ h => by cases h.1) _ (by kernel_rfl) (by kernel_rfl) (Or.inl ⟨by kernel_rfl, ?_⟩) SA.out ?_
  ·intro w' h
   have z0 := h
   go_simp
   try rfl
  simp only [Act.put, sT, sZ, sS]
  refine zd (i := 4) (d := 36) (v := .pointer (some ⟨w.heap.size, 5, none⟩)) rfl (by rfl) (by kernel_rfl) (by kernel_rfl) (fun _ _ _ h => by cases h.1) _ (by kernel_rfl) (by kernel_rfl) (Or.inl ⟨by kernel_rfl, ?_⟩) SA.out ?_
  ·intro w' h
   have z0 := h
   go_simp
   try rfl
  simp only [Act.put, sT, sZ, sS]
  refine zd (i := 5) (d := 37) (v := .int .i64 0) rfl (by rfl) (by kernel_rfl) (by kernel_rfl) (fun _ _ _ h => by cases h.1) _ (by kernel_rfl) (by kernel_rfl) (Or.inl ⟨by kernel_rfl, ?_⟩) SA.out ?_
  ·intro w' h
   have z0 := h
   go_simp
   try rfl
  simp only [Act.put, sT, sZ, sS]
  refine zd (i := 6) (d := 38) (v := .int .i64 1) rfl (by rfl) (by kernel_rfl) (by kernel_rfl) (fun _ _ _ h => by cases h.1) _ (by kernel_rfl) (by kernel_rfl) (Or.inl ⟨by kernel_rfl, ?_⟩) SA.out ?_
  ·intro w' h
   have z0 := h
   go_simp
   try rfl
  simp only [Act.put, sT, sZ, sS]
  refine zd (i := 7) (d := 39) (v := .slice (some ⟨w.heap.size, 6, none⟩) 3 3) rfl (by rfl) (by kernel_rfl) (by kernel_rfl) (fun _ _ _ h => by cases h.1) _ (by kernel_rfl) (by kernel_rfl) (Or.inl ⟨by kernel_rfl, ?_⟩) SA.out ?_
  ·intro w' h
   have z0 := h
   go_simp
   try rfl
  simp only [Act.put, sT, sZ, sS]
  have hcp := run_copy_none (P := Tryz.prog) t0 25 25 3 2 (some ⟨w.heap.size, 5, none⟩) (some ⟨w.heap.size, 6, none⟩) 0 4 3 3 Tryz.underlying25 zy2 rfl
  refine zg (i := 8) (by kernel_rfl) rfl (fun K hK => ?_)
  go_simp
  refine hK.out _ _ (fun _ => trivial) ?_
  clear hK K
  try simp only [Act.put, sT, sZ, sS]
  refine zh (by kernel_rfl) ?_ _
  exact ⟨rfl, by kernel_rfl, HX.out, HA.out, HZ.out⟩
 rintro a' W3 ⟨rfl, hx, ha, hz⟩
 replace HX := hide hx
 replace HA := hide ha
 replace HZ := hide hz
 clear hx ha hz SA
 simp only [Act.put, sT, sZ, sS]
 have c0 : (_ : Option Value) = some (.int .i64 1) := HA.out 0 _ rfl
 have c1 : (_ : Option Value) = some (.int .i64 a0) := HA.out 1 _ rfl
 have c2 : (_ : Option Value) = some (.int .i64 a1) := HA.out 2 _ rfl
 have c3 : (_ : Option Value) = some (.int .i64 a2) := HA.out 3 _ rfl
 have c4 : (_ : Option Value) = some (.int .i64 a3) := HA.out 4 _ rfl
 have c5 : (_ : Option Value) = some (.int .i64 s0) := HA.out 5 _ rfl
 have c6 : (_ : Option Value) = some (.int .i64 s1) := HA.out 6 _ rfl
 have c7 : (_ : Option Value) = some (.int .i64 s2) := HA.out 7 _ rfl
 have c8 : (_ : Option Value) = some (.int .i64 s3) := HA.out 8 _ rfl
 have c9 : (_ : Option Value) = some (.int .i64 off) := HA.out 9 _ rfl
 have z0 : (_ : Option Value) = some (.int .i64 0) := HZ.out 0 _ rfl
 have z1 : (_ : Option Value) = some (.int .i64 0) := HZ.out 1 _ rfl
 have z2 : (_ : Option Value) = some (.int .i64 0) := HZ.out 2 _ rfl
 have z3 : (_ : Option Value) = some (.int .i64 0) := HZ.out 3 _ rfl
 have z4 : (_ : Option Value) = some (.int .i64 0) := HZ.out 4 _ rfl
 have z5 : (_ : Option Value) = some (.int .i64 0) := HZ.out 5 _ rfl
 have z6 : (_ : Option Value) = some (.int .i64 0) := HZ.out 6 _ rfl
 have z7 : (_ : Option Value) = some (.int .i64 0) := HZ.out 7 _ rfl
 have z8 : (_ : Option Value) = some (.int .i64 0) := HZ.out 8 _ rfl
 have z9 : (_ : Option Value) = some (.int .i64 0) := HZ.out 9 _ rfl
 have fzn : ∀ q, W3.frozen? ⟨w.heap.size, q, none⟩ = false := fun q => HX.out.unfrozen (Nat.le_refl _) q
 have fzm : ∀ q, W3.frozen? ⟨w.heap.size + 1, q, none⟩ = false := fun q => HX.out.unfrozen (by omega) q
 have HA2 := hide ((HA.out.set1 (j := 1) (by simp) (.int .i64 a0)).set1 (j := 5) (by simp) (.int .i64 s0))
 have HZ2 := hide ((HZ.out.other (B := w.heap.size) (j := 1) (by omega) (.int .i64 a0)).other (B := w.heap.size) (j := 5) (by omega) (.int .i64 s0))
 have HX2 := hide ((HX.out.fresh (Nat.le_refl _) 1 (.int .i64 a0)).fresh (Nat.le_refl _) 5 (.int .i64 s0))
 have HZ3 := hide ((((((((((HZ2.out.set1 (j := 0) (by simp) (.int .i64 1)).set1 (j := 1) (by simp) (.int .i64 a0)).set1 (j := 2) (by simp) (.int .i64 a1)).set1 (j := 3) (by simp) (.int .i64 a2)).set1 (j := 4) (by simp) (.int .i64 a3)).set1 (j := 5) (by simp) (.int .i64 s0)).set1 (j := 6) (by simp) (.int .i64 s1)).set1 (j := 7) (by simp) (.int .i64 s2)).set1 (j := 8) (by simp) (.int .i64 s3)).set1 (j := 9) (by simp) (.int .i64 off))
 have HX3 := hide ((((((((((HX2.out.fresh (B := w.heap.size + 1) (by omega) 0 (.int .i64 1)).fresh (B := w.heap.size + 1) (by omega) 1 (.int .i64 a0)).fresh (B := w.heap.size + 1) (by omega) 2 (.int .i64 a1)).fresh (B := w.heap.size + 1) (by omega) 3 (.int .i64 a2)).fresh (B := w.heap.size + 1) (by omega) 4 (.int .i64 a3)).fresh (B := w.heap.size + 1) (by omega) 5 (.int .i64 s0)).fresh (B := w.heap.size + 1) (by omega) 6 (.int .i64 s1)).fresh (B := w.heap.size + 1) (by omega) 7 (.int .i64 s2)).fresh (B := w.heap.size + 1) (by omega) 8 (.int .i64 s3)).fresh (B := w.heap.size + 1) (by omega) 9 (.int .i64 off))
 have y0 := HZ3.out 0 _ rfl
 have y1 := HZ3.out 1 _ rfl
 have y2 := HZ3.out 2 _ rfl
 have y3 := HZ3.out 3 _ rfl
 have y4 := HZ3.out 4 _ rfl
 have y5 := HZ3.out 5 _ rfl
 have y6 := HZ3.out 6 _ rfl
 have y7 := HZ3.out 7 _ rfl
 have y8 := HZ3.out 8 _ rfl
 have y9 := HZ3.out 9 _ rfl
 have HY : Hid True := trivial
 have d0 := HA2.out 0 _ rfl
 have d1 := HA2.out 1 _ rfl
 have d2 := HA2.out 2 _ rfl
 have d3 := HA2.out 3 _ rfl
 have d4 := HA2.out 4 _ rfl
 have d5 := HA2.out 5 _ rfl
 have d6 := HA2.out 6 _ rfl
 have d7 := HA2.out 7 _ rfl
 have d8 := HA2.out 8 _ rfl
 have d9 := HA2.out 9 _ rfl
 go_wp2_with fail
 refine bodyPost_ret (v := .agg #[.int .i64 1, .int .i64 a0, .int .i64 a1, .int .i64 a2, .int .i64 a3, .int .i64 s0, .int .i64 s1, .int .i64 s2, .int .i64 s3, .int .i64 off]) (by simp [results, Tryz.results83, go_sem, y0, y1, y2, y3, y4, y5, y6, y7, y8, y9]) rfl ⟨rfl, HX3.out⟩
theorem zp14 (w : World) (a0 a1 a2 a3 s0 s1 s2 s3 off : Int) :
  Calls Tryz.prog 83 #[.agg #[.int .i64 2, .int .i64 a0, .int .i64 a1, .int .i64 a2, .int .i64 a3, .int .i64 s0, .int .i64 s1, .int .i64 s2, .int .i64 s3, .int .i64 off], .int .i64 0] w fun e w' => e = .returned (.agg #[.int .i64 2, .int .i64 a1, .int .i64 a0, .int .i64 a2, .int .i64 a3, .int .i64 s1, .int .i64 s0, .int .i64 s2, .int .i64 s3, .int .i64 off]) ∧ Ext w w' := by
 have x0 : Ext w ((w.alloc (.cells #[.int .i64 2, .int .i64 a0, .int .i64 a1, .int .i64 a2, .int .i64 a3, .int .i64 s0, .int .i64 s1, .int .i64 s2, .int .i64 s3, .int .i64 off] 83)).alloc (.cells #[.int .i64 0, .int .i64 0, .int .i64 0, .int .i64 0, .int .i64 0, .int .i64 0, .int .i64 0, .int .i64 0, .int .i64 0, .int .i64 0] 83)) := ((Ext.refl w).alloc _ _).alloc _ _
 have x1 : Ext (w.alloc (.cells #[.int .i64 2, .int .i64 a0, .int .i64 a1, .int .i64 a2, .int .i64 a3, .int .i64 s0, .int .i64 s1, .int .i64 s2, .int .i64 s3, .int .i64 off] 83)) ((w.alloc (.cells #[.int .i64 2, .int .i64 a0, .int .i64 a1, .int .i64 a2, .int .i64 a3, .int .i64 s0, .int .i64 s1, .int .i64 s2, .int .i64 s3, .int .i64 off] 83)).alloc (.cells #[.int .i64 0, .int .i64 0, .int .i64 0, .int .i64 0, .int .i64 0, .int .i64 0, .int .i64 0, .int .i64 0, .int .i64 0, .int .i64 0] 83)) := (Ext.refl _).alloc _ _
 have A0 : AtB ((w.alloc (.cells #[.int .i64 2, .int .i64 a0, .int .i64 a1, .int .i64 a2, .int .i64 a3, .int .i64 s0, .int .i64 s1, .int .i64 s2, .int .i64 s3, .int .i64 off] 83)).alloc (.cells #[.int .i64 0, .int .i64 0, .int .i64 0, .int .i64 0, .int .i64 0, .int .i64 0, .int .i64 0, .int .i64 0, .int .i64 0, .int .i64 0] 83)) w.heap.size [.int .i64 2, .int .i64 a0, .int .i64 a1, .int .i64 a2, .int .i64 a3, .int .i64 s0, .int .i64 s1, .int .i64 s2, .int .i64 s3, .int .i64 off] := fun j x hx => x1.box ((ze w _ 83 _ rfl j).trans (by simpa using hx))
 have Z0 : AtB ((w.alloc (.cells #[.int .i64 2, .int .i64 a0, .int .i64 a1, .int .i64 a2, .int .i64 a3, .int .i64 s0, .int .i64 s1, .int .i64 s2, .int .i64 s3, .int .i64 off] 83)).alloc (.cells #[.int .i64 0, .int .i64 0, .int .i64 0, .int .i64 0, .int .i64 0, .int .i64 0, .int .i64 0, .int .i64 0, .int .i64 0, .int .i64 0] 83)) (w.heap.size + 1) [.int .i64 0, .int .i64 0, .int .i64 0, .int .i64 0, .int .i64 0, .int .i64 0, .int .i64 0, .int .i64 0, .int .i64 0, .int .i64 0] := fun j x hx => (ze _ _ 83 _ (by simp) j).trans (by simpa using hx)
 have HA := hide A0
 have HZ := hide Z0
 have HX := hide x0
 clear x0 x1 A0 Z0
 go_enter Tryz.func83, Tryz.ntmps83
 go_wp2_with fail
 generalize (w.alloc (.cells #[.int .i64 2, .int .i64 a0, .int .i64 a1, .int .i64 a2, .int .i64 a3, .int .i64 s0, .int .i64 s1, .int .i64 s2, .int .i64 s3, .int .i64 off] 83)).alloc (.cells #[.int .i64 0, .int .i64 0, .int .i64 0, .int .i64 0, .int .i64 0, .int .i64 0, .int .i64 0, .int .i64 0, .int .i64 0, .int .i64 0] 83) = W0 at HA HZ HX ⊢
 have c0 : (_ : Option Value) = some (.int .i64 2) := HA.out 0 _ rfl
 have c1 : (_ : Option Value) = some (.int .i64 a0) := HA.out 1 _ rfl
 have c2 : (_ : Option Value) = some (.int .i64 a1) := HA.out 2 _ rfl
 have c3 : (_ : Option Value) = some (.int .i64 a2) := HA.out 3 _ rfl
 have c4 : (_ : Option Value) = some (.int .i64 a3) := HA.out 4 _ rfl
 have c5 : (_ : Option Value) = some (.int .i64 s0) := HA.out 5 _ rfl
 have c6 : (_ : Option Value) = some (.int .i64 s1) := HA.out 6 _ rfl
 have c7 : (_ : Option Value) = some (.int .i64 s2) := HA.out 7 _ rfl
 have c8 : (_ : Option Value) = some (.int .i64 s3) := HA.out 8 _ rfl
 have c9 : (_ : Option Value) = some (.int .i64 off) := HA.out 9 _ rfl
 go_region
 go_wp2_with fail
 replace HX := hide (HX.out.trans (Ext.refl W0).drew)
 replace HA := hide (HA.out.keep (Ext.refl W0).drew.bl)
 replace HZ := hide (HZ.out.keep (Ext.refl W0).drew.bl)
 clear c0 c1 c2 c3 c4 c5 c6 c7 c8 c9
 try generalize W0.drew = W1 at HA HZ HX ⊢
 have SA : Hid ((fun _ : World => True) W1.drew) := trivial
 refine zq (fun ac a' w' => a' = (((((((((((ac.put (some 21) (.pointer (some ⟨w.heap.size, 0, none⟩))).put (some 22) (.pointer (some ⟨w.heap.size, 1, none⟩))).put (some 23) (.int .i64 0)).put (some 24) (.int .i64 1)).put (some 25) (.slice (some ⟨w.heap.size, 1, none⟩) 1 4)).put (some 26) (.pointer (some ⟨w.heap.size, 0, none⟩))).put (some 27) (.pointer (some ⟨w.heap.size, 1, none⟩))).put (some 28) (.int .i64 0)).put (some 29) (.int .i64 1)).put (some 30) (.slice (some ⟨w.heap.size, 2, none⟩) 3 3)).put (some 31) (.int .i64 1)) ∧ Ext w w' ∧ AtB w' w.heap.size [.int .i64 2, .int .i64 a1, .int .i64 a1, .int .i64 a2, .int .i64 a3, .int .i64 s0, .int .i64 s1, .int .i64 s2, .int .i64 s3, .int .i64 off] ∧ AtB w' (w.heap.size + 1) [.int .i64 0, .int .i64 0, .int .i64 0, .int .i64 0, .int .i64 0, .int .i64 0, .int .i64 0, .int .i64 0, .int .i64 0, .int .i64 0]) (S := (fun _ : World => True)) (late := []) (by kernel_rfl) ?_ ?_
 rotate_left
 ·replace HX := hide (HX.out.trans (Ext.refl W1).drew)
  replace HA := hide (HA.out.keep (Ext.refl W1).drew.bl)
  replace HZ := hide (HZ.out.keep (Ext.refl W1).drew.bl)
  generalize W1.drew = t0 at HA HZ HX SA ⊢
  refine zd (i := 0) (d := 21) (v := .pointer (some ⟨w.heap.size, 0, none⟩)) rfl (by rfl) (by kernel_rfl) (by kernel_rfl) (fun _ _ _ h => by cases h.1) _ (by kernel_rfl) (by kernel_rfl) (Or.inl ⟨by kernel_rfl, ?_⟩) SA.out ?_
  ·intro w' h
   have z0 := h
   go_simp
   try rfl
  simp only [Act.put, sT, sZ, sS]
  refine zd (i := 1) (d := 22) (v := .pointer (some ⟨w.heap.size, 1, none⟩)) rfl (by rfl) (by kernel_rfl) (by kernel_rfl) (fun _ _ _ h => by cases h.1) _ (by kernel_rfl) (by kernel_rfl) (Or.inl ⟨by kernel_rfl, ?_⟩) SA.out ?_
  ·intro w' h
   have z0 := h
   go_simp
   try rfl
  simp only [Act.put, sT, sZ, sS]
  refine zd (i := 2) (d := 23) (v := .int .i64 0) rfl (by rfl) (by kernel_rfl) (by kernel_rfl) (fun _ _ _ h => by cases h.1) _ (by kernel_rfl) (by kernel_rfl) (Or.inl ⟨by kernel_rfl, ?_⟩) SA.out ?_
  ·intro w' h
   have z0 := h
   go_simp
   try rfl
  simp only [Act.put, sT, sZ, sS]
  refine zd (i := 3) (d := 24) (v := .int .i64 1) rfl (by rfl) (by kernel_rfl) (by kernel_rfl) (fun _ _ _ h => by cases h.1) _ (by kernel_rfl) (by kernel_rfl) (Or.inl ⟨by kernel_rfl, ?_⟩) SA.out ?_
  ·intro w' h
   have z0 := h
   go_simp
   try rfl
  simp only [Act.put, sT, sZ, sS]
  refine zd (i := 4) (d := 25) (v := .slice (some ⟨w.heap.size, 1, none⟩) 1 4) rfl (by rfl) (by kernel_rfl) (by kernel_rfl) (fun _ _ _ h => by cases h.1) _ (by kernel_rfl) (by kernel_rfl) (Or.inl ⟨by kernel_rfl, ?_⟩) SA.out ?_
  ·intro w' h
   have z0 := h
   go_simp
   try rfl
  simp only [Act.put, sT, sZ, sS]
  refine zd (i := 5) (d := 26) (v := .pointer (some ⟨w.heap.size, 0, none⟩)) rfl (by rfl) (by kernel_rfl) (by kernel_rfl) (fun _ _ _ h => by cases h.1) _ (by kernel_rfl) (by kernel_rfl) (Or.inl ⟨by kernel_rfl, ?_⟩) SA.out ?_
  ·intro w' h
   have z0 := h
   go_simp
   try rfl
  simp only [Act.put, sT, sZ, sS]
  refine zd (i := 6) (d := 27) (v := .pointer (some ⟨w.heap.size, 1, none⟩)) rfl (by rfl) (by kernel_rfl) (by kernel_rfl) (fun _ _ _ h => by cases h.1) _ (by kernel_rfl) (by kernel_rfl) (Or.inl ⟨by kernel_rfl, ?_⟩) SA.out ?_
  ·intro w' h
   have z0 := h
   go_simp
   try rfl
  simp only [Act.put, sT, sZ, sS]
  refine zd (i := 7) (d := 28) (v := .int .i64 0) rfl (by rfl) (by kernel_rfl) (by kernel_rfl) (fun _ _ _ h => by cases h.1) _ (by kernel_rfl) (by kernel_rfl) (Or.inl ⟨by kernel_rfl, ?_⟩) SA.out ?_
  ·intro w' h
   have z0 := h
   go_simp
   try rfl
  simp only [Act.put, sT, sZ, sS]
  refine zd (i := 8) (d := 29) (v := .int .i64 1) rfl (by rfl) (by kernel_rfl) (by kernel_rfl) (fun _ _ _ h => by cases h.1) _ (by kernel_rfl) (by kernel_rfl) (Or.inl ⟨by kernel_rfl, ?_⟩) SA.out ?_
  ·intro w' h
   have z0 := h
   go_simp
   try rfl
  simp only [Act.put, sT, sZ, sS]
  refine zd (i := 9) (d := 30) (v := .slice (some ⟨w.heap.size, 2, none⟩) 3 3) rfl (by rfl) (by kernel_rfl) (by kernel_rfl) (fun _ _ _ h => by cases h.1) _ (by kernel_rfl) (by kernel_rfl) (Or.inl ⟨by kernel_rfl, ?_⟩) SA.out ?_
  ·intro w' h
   have z0 := h
   go_simp
   try rfl
  simp only [Act.put, sT, sZ, sS]
  have hcp : (Builtin.copy_ #[25, 25] 3 #[.slice (some ⟨w.heap.size, 1, none⟩) 1 4, .slice (some ⟨w.heap.size, 2, none⟩) 3 3]).run Tryz.prog t0 = .ok (goInt 1) (t0.setCell ⟨w.heap.size, 1, none⟩ (.int .i64 a1)) := by
   have fzn := fun (q : Nat) => HX.out.unfrozen (b := w.heap.size) (Nat.le_refl _) q
   refine run_copy_cells (P := Tryz.prog) t0 25 25 3 2 w.heap.size 1 1 4 ⟨w.heap.size, 2, none⟩ 3 3 [.int .i64 a1] Tryz.underlying25 zy2 rfl ?_ ?_ (fun j _ => fzn _) (by simp [Value.oneCell'])
   ·intro j v hv
    have q := HA.out (2 + j) v (by
     rw [← hv]
     match j with
     | 0 => rfl
     | j + 1 => simp at hv)
    rw [Addr.add_lit]
    exact q
   ·intro j hj
    have hj' : j < 1 := hj
    have q := HA.out (1 + j) _ (List.getElem?_eq_getElem (by simp; omega))
    rw [q]; rfl
  refine zg (i := 10) (by kernel_rfl) rfl (fun K hK => ?_)
  go_simp
  refine hK.out _ _ (fun _ => trivial) ?_
  clear hK K
  try simp only [Act.put, sT, sZ, sS]
  refine zh (by kernel_rfl) ?_ _
  exact ⟨rfl, by kernel_rfl, (HX.out.fresh (Nat.le_refl _) 1 (.int .i64 a1)), (HA.out.set1 (j := 1) (by simp) (.int .i64 a1)), (HZ.out.other (B := w.heap.size) (j := 1) (by omega) (.int .i64 a1))⟩
 rintro a' W2 ⟨rfl, hx, ha, hz⟩
 replace HX := hide hx
 replace HA := hide ha
 replace HZ := hide hz
 clear hx ha hz SA
 simp only [Act.put, sT, sZ, sS]
 go_wp2_with fail
 have SA : Hid ((fun _ : World => True) W2.drew) := trivial
 refine zq (fun ac a' w' => a' = (((((((((ac.put (some 32) (.pointer (some ⟨w.heap.size, 5, none⟩))).put (some 33) (.int .i64 0)).put (some 34) (.int .i64 1)).put (some 35) (.slice (some ⟨w.heap.size, 5, none⟩) 1 4)).put (some 36) (.pointer (some ⟨w.heap.size, 5, none⟩))).put (some 37) (.int .i64 0)).put (some 38) (.int .i64 1)).put (some 39) (.slice (some ⟨w.heap.size, 6, none⟩) 3 3)).put (some 40) (.int .i64 1)) ∧ Ext w w' ∧ AtB w' w.heap.size [.int .i64 2, .int .i64 a1, .int .i64 a1, .int .i64 a2, .int .i64 a3, .int .i64 s1, .int .i64 s1, .int .i64 s2, .int .i64 s3, .int .i64 off] ∧ AtB w' (w.heap.size + 1) [.int .i64 0, .int .i64 0, .int .i64 0, .int .i64 0, .int .i64 0, .int .i64 0, .int .i64 0, .int .i64 0, .int .i64 0, .int .i64 0]) (S := (fun _ : World => True)) (late := []) (by kernel_rfl) ?_ ?_
 rotate_left
 ·replace HX := hide (HX.out.trans (Ext.refl W2).drew)
  replace HA := hide (HA.out.keep (Ext.refl W2).drew.bl)
  replace HZ := hide (HZ.out.keep (Ext.refl W2).drew.bl)
  generalize W2.drew = t0 at HA HZ HX SA ⊢
  refine zd (i := 0) (d := 32) (v := .pointer (some ⟨w.heap.size, 5, none⟩)) rfl (by rfl) (by kernel_rfl) (by kernel_rfl) (fun _ _ _ h => by cases h.1) _ (by kernel_rfl) (by kernel_rfl) (Or.inl ⟨by kernel_rfl, ?_⟩) SA.out ?_
  ·intro w' h
   have z0 := h
   go_simp
   try rfl
  simp only [Act.put, sT, sZ, sS]
  refine zd (i := 1) (d := 33) (v := .int .i64 0) rfl (by rfl) (by kernel_rfl) (by kernel_rfl) (fun _ _ _ h => by cases h.1) _ (by kernel_rfl) (by kernel_rfl) (Or.inl ⟨by kernel_rfl, ?_⟩) SA.out ?_
  ·intro w' h
   have z0 := h
   go_simp
   try rfl
  simp only [Act.put, sT, sZ, sS]
  refine zd (i := 2) (d := 34) (v := .int .i64 1) rfl (by rfl) (by kernel_rfl) (by kernel_rfl) (fun _ _ _ h => by cases h.1) _ (by kernel_rfl) (by kernel_rfl) (Or.inl ⟨by kernel_rfl, ?_⟩) SA.out ?_
  ·intro w' h
   have z0 := h
   go_simp
   try rfl
  simp only [Act.put, sT, sZ, sS]
  refine zd (i := 3) (d := 35) (v := .slice (some ⟨w.heap.size, 5, none⟩) 1 4) rfl (by rfl) (by kernel_rfl) (by kernel_rfl) (fun _ _ _ h => by cases h.1) _ (by kernel_rfl) (by kernel_rfl) (Or.inl ⟨by kernel_rfl, ?_⟩) SA.out ?_
  ·intro w' h
   have z0 := h
   go_simp
   try rfl
  simp only [Act.put, sT, sZ, sS]
  refine zd (i := 4) (d := 36) (v := .pointer (some ⟨w.heap.size, 5, none⟩)) rfl (by rfl) (by kernel_rfl) (by kernel_rfl) (fun _ _ _ h => by cases h.1) _ (by kernel_rfl) (by kernel_rfl) (Or.inl ⟨by kernel_rfl, ?_⟩) SA.out ?_
  ·intro w' h
   have z0 := h
   go_simp
   try rfl
  simp only [Act.put, sT, sZ, sS]
  refine zd (i := 5) (d := 37) (v := .int .i64 0) rfl (by rfl) (by kernel_rfl) (by kernel_rfl) (fun _ _ _ h => by cases h.1) _ (by kernel_rfl) (by kernel_rfl) (Or.inl ⟨by kernel_rfl, ?_⟩) SA.out ?_
  ·intro w' h
   have z0 := h
   go_simp
   try rfl
  simp only [Act.put, sT, sZ, sS]
  refine zd (i := 6) (d := 38) (v := .int .i64 1) rfl (by rfl) (by kernel_rfl) (by kernel_rfl) (fun _ _ _ h => by cases h.1) _ (by kernel_rfl) (by kernel_rfl) (Or.inl ⟨by kernel_rfl, ?_⟩) SA.out ?_
  ·intro w' h
   have z0 := h
   go_simp
   try rfl
  simp only [Act.put, sT, sZ, sS]
  refine zd (i := 7) (d := 39) (v := .slice (some ⟨w.heap.size, 6, none⟩) 3 3) rfl (by rfl) (by kernel_rfl) (by kernel_rfl) (fun _ _ _ h => by cases h.1) _ (by kernel_rfl) (by kernel_rfl) (Or.inl ⟨by kernel_rfl, ?_⟩) SA.out ?_
  ·intro w' h
   have z0 := h
   go_simp
   try rfl
  simp only [Act.put, sT, sZ, sS]
  have hcp : (Builtin.copy_ #[25, 25] 3 #[.slice (some ⟨w.heap.size, 5, none⟩) 1 4, .slice (some ⟨w.heap.size, 6, none⟩) 3 3]).run Tryz.prog t0 = .ok (goInt 1) (t0.setCell ⟨w.heap.size, 5, none⟩ (.int .i64 s1)) := by
   have fzn := fun (q : Nat) => HX.out.unfrozen (b := w.heap.size) (Nat.le_refl _) q
   refine run_copy_cells (P := Tryz.prog) t0 25 25 3 2 w.heap.size 5 1 4 ⟨w.heap.size, 6, none⟩ 3 3 [.int .i64 s1] Tryz.underlying25 zy2 rfl ?_ ?_ (fun j _ => fzn _) (by simp [Value.oneCell'])
   ·intro j v hv
    have q := HA.out (6 + j) v (by
     rw [← hv]
     match j with
     | 0 => rfl
     | j + 1 => simp at hv)
    rw [Addr.add_lit]
    exact q
   ·intro j hj
    have hj' : j < 1 := hj
    have q := HA.out (5 + j) _ (List.getElem?_eq_getElem (by simp; omega))
    rw [q]; rfl
  refine zg (i := 8) (by kernel_rfl) rfl (fun K hK => ?_)
  go_simp
  refine hK.out _ _ (fun _ => trivial) ?_
  clear hK K
  try simp only [Act.put, sT, sZ, sS]
  refine zh (by kernel_rfl) ?_ _
  exact ⟨rfl, by kernel_rfl, (HX.out.fresh (Nat.le_refl _) 5 (.int .i64 s1)), (HA.out.set1 (j := 5) (by simp) (.int .i64 s1)), (HZ.out.other (B := w.heap.size) (j := 5) (by omega) (.int .i64 s1))⟩
 rintro a' W3 ⟨rfl, hx, ha, hz⟩
 replace HX := hide hx
 replace HA := hide ha
 replace HZ := hide hz
 clear hx ha hz SA
 simp only [Act.put, sT, sZ, sS]
 have c0 : (_ : Option Value) = some (.int .i64 2) := HA.out 0 _ rfl
 have c1 : (_ : Option Value) = some (.int .i64 a1) := HA.out 1 _ rfl
 have c2 : (_ : Option Value) = some (.int .i64 a1) := HA.out 2 _ rfl
 have c3 : (_ : Option Value) = some (.int .i64 a2) := HA.out 3 _ rfl
 have c4 : (_ : Option Value) = some (.int .i64 a3) := HA.out 4 _ rfl
 have c5 : (_ : Option Value) = some (.int .i64 s1) := HA.out 5 _ rfl
 have c6 : (_ : Option Value) = some (.int .i64 s1) := HA.out 6 _ rfl
 have c7 : (_ : Option Value) = some (.int .i64 s2) := HA.out 7 _ rfl
 have c8 : (_ : Option Value) = some (.int .i64 s3) := HA.out 8 _ rfl
 have c9 : (_ : Option Value) = some (.int .i64 off) := HA.out 9 _ rfl
 have z0 : (_ : Option Value) = some (.int .i64 0) := HZ.out 0 _ rfl
 have z1 : (_ : Option Value) = some (.int .i64 0) := HZ.out 1 _ rfl
 have z2 : (_ : Option Value) = some (.int .i64 0) := HZ.out 2 _ rfl
 have z3 : (_ : Option Value) = some (.int .i64 0) := HZ.out 3 _ rfl
 have z4 : (_ : Option Value) = some (.int .i64 0) := HZ.out 4 _ rfl
 have z5 : (_ : Option Value) = some (.int .i64 0) := HZ.out 5 _ rfl
 have z6 : (_ : Option Value) = some (.int .i64 0) := HZ.out 6 _ rfl
 have z7 : (_ : Option Value) = some (.int .i64 0) := HZ.out 7 _ rfl
 have z8 : (_ : Option Value) = some (.int .i64 0) := HZ.out 8 _ rfl
 have z9 : (_ : Option Value) = some (.int .i64 0) := HZ.out 9 _ rfl
 have fzn : ∀ q, W3.frozen? ⟨w.heap.size, q, none⟩ = false := fun q => HX.out.unfrozen (Nat.le_refl _) q
 have fzm : ∀ q, W3.frozen? ⟨w.heap.size + 1, q, none⟩ = false := fun q => HX.out.unfrozen (by omega) q
 have HA2 := hide ((HA.out.set1 (j := 2) (by simp) (.int .i64 a0)).set1 (j := 6) (by simp) (.int .i64 s0))
 have HZ2 := hide ((HZ.out.other (B := w.heap.size) (j := 2) (by omega) (.int .i64 a0)).other (B := w.heap.size) (j := 6) (by omega) (.int .i64 s0))
 have HX2 := hide ((HX.out.fresh (Nat.le_refl _) 2 (.int .i64 a0)).fresh (Nat.le_refl _) 6 (.int .i64 s0))
 have HZ3 := hide ((((((((((HZ2.out.set1 (j := 0) (by simp) (.int .i64 2)).set1 (j := 1) (by simp) (.int .i64 a1)).set1 (j := 2) (by simp) (.int .i64 a0)).set1 (j := 3) (by simp) (.int .i64 a2)).set1 (j := 4) (by simp) (.int .i64 a3)).set1 (j := 5) (by simp) (.int .i64 s1)).set1 (j := 6) (by simp) (.int .i64 s0)).set1 (j := 7) (by simp) (.int .i64 s2)).set1 (j := 8) (by simp) (.int .i64 s3)).set1 (j := 9) (by simp) (.int .i64 off))
 have HX3 := hide ((((((((((HX2.out.fresh (B := w.heap.size + 1) (by omega) 0 (.int .i64 2)).fresh (B := w.heap.size + 1) (by omega) 1 (.int .i64 a1)).fresh (B := w.heap.size + 1) (by omega) 2 (.int .i64 a0)).fresh (B := w.heap.size + 1) (by omega) 3 (.int .i64 a2)).fresh (B := w.heap.size + 1) (by omega) 4 (.int .i64 a3)).fresh (B := w.heap.size + 1) (by omega) 5 (.int .i64 s1)).fresh (B := w.heap.size + 1) (by omega) 6 (.int .i64 s0)).fresh (B := w.heap.size + 1) (by omega) 7 (.int .i64 s2)).fresh (B := w.heap.size + 1) (by omega) 8 (.int .i64 s3)).fresh (B := w.heap.size + 1) (by omega) 9 (.int .i64 off))
 have y0 := HZ3.out 0 _ rfl
 have y1 := HZ3.out 1 _ rfl
 have y2 := HZ3.out 2 _ rfl
 have y3 := HZ3.out 3 _ rfl
 have y4 := HZ3.out 4 _ rfl
 have y5 := HZ3.out 5 _ rfl
 have y6 := HZ3.out 6 _ rfl
 have y7 := HZ3.out 7 _ rfl
 have y8 := HZ3.out 8 _ rfl
 have y9 := HZ3.out 9 _ rfl
 have HY : Hid True := trivial
 have d0 := HA2.out 0 _ rfl
 have d1 := HA2.out 1 _ rfl
 have d2 := HA2.out 2 _ rfl
 have d3 := HA2.out 3 _ rfl
 have d4 := HA2.out 4 _ rfl
 have d5 := HA2.out 5 _ rfl
 have d6 := HA2.out 6 _ rfl
 have d7 := HA2.out 7 _ rfl
 have d8 := HA2.out 8 _ rfl
 have d9 := HA2.out 9 _ rfl
 go_wp2_with fail
 refine bodyPost_ret (v := .agg #[.int .i64 2, .int .i64 a1, .int .i64 a0, .int .i64 a2, .int .i64 a3, .int .i64 s1, .int .i64 s0, .int .i64 s2, .int .i64 s3, .int .i64 off]) (by simp [results, Tryz.results83, go_sem, y0, y1, y2, y3, y4, y5, y6, y7, y8, y9]) rfl ⟨rfl, HX3.out⟩
theorem zo14 (w : World) (a0 a1 a2 a3 s0 s1 s2 s3 off : Int) :
  Calls Tryz.prog 83 #[.agg #[.int .i64 2, .int .i64 a0, .int .i64 a1, .int .i64 a2, .int .i64 a3, .int .i64 s0, .int .i64 s1, .int .i64 s2, .int .i64 s3, .int .i64 off], .int .i64 1] w fun e w' => e = .returned (.agg #[.int .i64 2, .int .i64 a0, .int .i64 a1, .int .i64 a2, .int .i64 a3, .int .i64 s0, .int .i64 s1, .int .i64 s2, .int .i64 s3, .int .i64 off]) ∧ Ext w w' := by
 have x0 : Ext w ((w.alloc (.cells #[.int .i64 2, .int .i64 a0, .int .i64 a1, .int .i64 a2, .int .i64 a3, .int .i64 s0, .int .i64 s1, .int .i64 s2, .int .i64 s3, .int .i64 off] 83)).alloc (.cells #[.int .i64 0, .int .i64 0, .int .i64 0, .int .i64 0, .int .i64 0, .int .i64 0, .int .i64 0, .int .i64 0, .int .i64 0, .int .i64 0] 83)) := ((Ext.refl w).alloc _ _).alloc _ _
 have x1 : Ext (w.alloc (.cells #[.int .i64 2, .int .i64 a0, .int .i64 a1, .int .i64 a2, .int .i64 a3, .int .i64 s0, .int .i64 s1, .int .i64 s2, .int .i64 s3, .int .i64 off] 83)) ((w.alloc (.cells #[.int .i64 2, .int .i64 a0, .int .i64 a1, .int .i64 a2, .int .i64 a3, .int .i64 s0, .int .i64 s1, .int .i64 s2, .int .i64 s3, .int .i64 off] 83)).alloc (.cells #[.int .i64 0, .int .i64 0, .int .i64 0, .int .i64 0, .int .i64 0, .int .i64 0, .int .i64 0, .int .i64 0, .int .i64 0, .int .i64 0] 83)) := (Ext.refl _).alloc _ _
 have A0 : AtB ((w.alloc (.cells #[.int .i64 2, .int .i64 a0, .int .i64 a1, .int .i64 a2, .int .i64 a3, .int .i64 s0, .int .i64 s1, .int .i64 s2, .int .i64 s3, .int .i64 off] 83)).alloc (.cells #[.int .i64 0, .int .i64 0, .int .i64 0, .int .i64 0, .int .i64 0, .int .i64 0, .int .i64 0, .int .i64 0, .int .i64 0, .int .i64 0] 83)) w.heap.size [.int .i64 2, .int .i64 a0, .int .i64 a1, .int .i64 a2, .int .i64 a3, .int .i64 s0, .int .i64 s1, .int .i64 s2, .int .i64 s3, .int .i64 off] := fun j x hx => x1.box ((ze w _ 83 _ rfl j).trans (by simpa using hx))
 have Z0 : AtB ((w.alloc (.cells #[.int .i64 2, .int .i64 a0, .int .i64 a1, .int .i64 a2, .int .i64 a3, .int .i64 s0, .int .i64 s1, .int .i64 s2, .int .i64 s3, .int .i64 off] 83)).alloc (.cells #[.int .i64 0, .int .i64 0, .int .i64 0, .int .i64 0, .int .i64 0, .int .i64 0, .int .i64 0, .int .i64 0, .int .i64 0, .int .i64 0] 83)) (w.heap.size + 1) [.int .i64 0, .int .i64 0, .int .i64 0, .int .i64 0, .int .i64 0, .int .i64 0, .int .i64 0, .int .i64 0, .int .i64 0, .int .i64 0] := fun j x hx => (ze _ _ 83 _ (by simp) j).trans (by simpa using hx)
 have HA := hide A0
 have HZ := hide Z0
 have HX := hide x0
 clear x0 x1 A0 Z0
 go_enter Tryz.func83, Tryz.ntmps83
 go_wp2_with fail
 generalize (w.alloc (.cells #[.int .i64 2, .int .i64 a0, .int .i64 a1, .int .i64 a2, .int .i64 a3, .int .i64 s0, .int .i64 s1, .int .i64 s2, .int .i64 s3, .int .i64 off] 83)).alloc (.cells #[.int .i64 0, .int .i64 0, .int .i64 0, .int .i64 0, .int .i64 0, .int .i64 0, .int .i64 0, .int .i64 0, .int .i64 0, .int .i64 0] 83) = W0 at HA HZ HX ⊢
 have c0 : (_ : Option Value) = some (.int .i64 2) := HA.out 0 _ rfl
 have c1 : (_ : Option Value) = some (.int .i64 a0) := HA.out 1 _ rfl
 have c2 : (_ : Option Value) = some (.int .i64 a1) := HA.out 2 _ rfl
 have c3 : (_ : Option Value) = some (.int .i64 a2) := HA.out 3 _ rfl
 have c4 : (_ : Option Value) = some (.int .i64 a3) := HA.out 4 _ rfl
 have c5 : (_ : Option Value) = some (.int .i64 s0) := HA.out 5 _ rfl
 have c6 : (_ : Option Value) = some (.int .i64 s1) := HA.out 6 _ rfl
 have c7 : (_ : Option Value) = some (.int .i64 s2) := HA.out 7 _ rfl
 have c8 : (_ : Option Value) = some (.int .i64 s3) := HA.out 8 _ rfl
 have c9 : (_ : Option Value) = some (.int .i64 off) := HA.out 9 _ rfl
 go_region
 go_wp2_with fail
 replace HX := hide (HX.out.trans (Ext.refl W0).drew)
 replace HA := hide (HA.out.keep (Ext.refl W0).drew.bl)
 replace HZ := hide (HZ.out.keep (Ext.refl W0).drew.bl)
 clear c0 c1 c2 c3 c4 c5 c6 c7 c8 c9
 try generalize W0.drew = W1 at HA HZ HX ⊢
 have SA : Hid ((fun _ : World => True) W1.drew) := trivial
 refine zq (fun ac a' w' => a' = (((((((((((ac.put (some 21) (.pointer (some ⟨w.heap.size, 0, none⟩))).put (some 22) (.pointer (some ⟨w.heap.size, 1, none⟩))).put (some 23) (.int .i64 1)).put (some 24) (.int .i64 1)).put (some 25) (.slice (some ⟨w.heap.size, 2, none⟩) 0 3)).put (some 26) (.pointer (some ⟨w.heap.size, 0, none⟩))).put (some 27) (.pointer (some ⟨w.heap.size, 1, none⟩))).put (some 28) (.int .i64 1)).put (some 29) (.int .i64 2)).put (some 30) (.slice (some ⟨w.heap.size, 3, none⟩) 2 2)).put (some 31) (.int .i64 0)) ∧ Ext w w' ∧ AtB w' w.heap.size [.int .i64 2, .int .i64 a0, .int .i64 a1, .int .i64 a2, .int .i64 a3, .int .i64 s0, .int .i64 s1, .int .i64 s2, .int .i64 s3, .int .i64 off] ∧ AtB w' (w.heap.size + 1) [.int .i64 0, .int .i64 0, .int .i64 0, .int .i64 0, .int .i64 0, .int .i64 0, .int .i64 0, .int .i64 0, .int .i64 0, .int .i64 0]) (S := (fun _ : World => True)) (late := []) (by kernel_rfl) ?_ ?_
 rotate_left
 ·replace HX := hide (HX.out.trans (Ext.refl W1).drew)
  replace HA := hide (HA.out.keep (Ext.refl W1).drew.bl)
  replace HZ := hide (HZ.out.keep (Ext.refl W1).drew.bl)
  generalize W1.drew = t0 at HA HZ HX SA ⊢
  refine zd (i := 0) (d := 21) (v := .pointer (some ⟨w.heap.size, 0, none⟩)) rfl (by rfl) (by kernel_rfl) (by kernel_rfl) (fun _ _ _ h => by cases h.1) _ (by kernel_rfl) (by kernel_rfl) (Or.inl ⟨by kernel_rfl, ?_⟩) SA.out ?_
  ·intro w' h
   have z0 := h
   go_simp
   try rfl
  simp only [Act.put, sT, sZ, sS]
  refine zd (i := 1) (d := 22) (v := .pointer (some ⟨w.heap.size, 1, none⟩)) rfl (by rfl) (by kernel_rfl) (by kernel_rfl) (fun _ _ _ h => by cases h.1) _ (by kernel_rfl) (by kernel_rfl) (Or.inl ⟨by kernel_rfl, ?_⟩) SA.out ?_
  ·intro w' h
   have z0 := h
   go_simp
   try rfl
  simp only [Act.put, sT, sZ, sS]
  refine zd (i := 2) (d := 23) (v := .int .i64 1) rfl (by rfl) (by kernel_rfl) (by kernel_rfl) (fun _ _ _ h => by cases h.1) _ (by kernel_rfl) (by kernel_rfl) (Or.inl ⟨by kernel_rfl, ?_⟩) SA.out ?_
  ·intro w' h
   have z0 := h
   go_simp
   try rfl
  simp only [Act.put, sT, sZ, sS]
  refine zd (i := 3) (d := 24) (v := .int .i64 1) rfl (by rfl) (by kernel_rfl) (by kernel_rfl) (fun _ _ _ h => by cases h.1) _ (by kernel_rfl) (by kernel_rfl) (Or.inl ⟨by kernel_rfl, ?_⟩) SA.out ?_
  ·intro w' h
   have z0 := h
   go_simp
   try rfl
  simp only [Act.put, sT, sZ, sS]
  refine zd (i := 4) (d := 25) (v := .slice (some ⟨w.heap.size, 2, none⟩) 0 3) rfl (by rfl) (by kernel_rfl) (by kernel_rfl) (fun _ _ _ h => by cases h.1) _ (by kernel_rfl) (by kernel_rfl) (Or.inl ⟨by kernel_rfl, ?_⟩) SA.out ?_
  ·intro w' h
   have z0 := h
   go_simp
   try rfl
  simp only [Act.put, sT, sZ, sS]
  refine zd (i := 5) (d := 26) (v := .pointer (some ⟨w.heap.size, 0, none⟩)) rfl (by rfl) (by kernel_rfl) (by kernel_rfl) (fun _ _ _ h => by cases h.1) _ (by kernel_rfl) (by kernel_rfl) (Or.inl ⟨by kernel_rfl, ?_⟩) SA.out ?_
  ·intro w' h
   have z0 := h
   go_simp
   try rfl
  simp only [Act.put, sT, sZ, sS]
  refine zd (i := 6) (d := 27) (v := .pointer (some ⟨w.heap.size, 1, none⟩)) rfl (by rfl) (by kernel_rfl) (by kernel_rfl) (fun _ _ _ h => by cases h.1) _ (by kernel_rfl) (by kernel_rfl) (Or.inl ⟨by kernel_rfl, ?_⟩) SA.out ?_
  ·intro w' h
   have z0 := h
   go_simp
   try rfl
  simp only [Act.put, sT, sZ, sS]
  refine zd (i := 7) (d := 28) (v := .int .i64 1) rfl (by rfl) (by kernel_rfl) (by kernel_rfl) (fun _ _ _ h => by cases h.1) _ (by kernel_rfl) (by kernel_rfl) (Or.inl ⟨by kernel_rfl, ?_⟩) SA.out ?_
  ·intro w' h
   have z0 := h
   go_simp
   try rfl
  simp only [Act.put, sT, sZ, sS]
  refine zd (i := 8) (d := 29) (v := .int .i64 2) rfl (by rfl) (by kernel_rfl) (by kernel_rfl) (fun _ _ _ h => by cases h.1) _ (by kernel_rfl) (by kernel_rfl) (Or.inl ⟨by kernel_rfl, ?_⟩) SA.out ?_
  ·intro w' h
   have z0 := h
   go_simp
   try rfl
  simp only [Act.put, sT, sZ, sS]
  refine zd (i := 9) (d := 30) (v := .slice (some ⟨w.heap.size, 3, none⟩) 2 2) rfl (by rfl) (by kernel_rfl) (by kernel_rfl) (fun _ _ _ h => by cases h.1) _ (by kernel_rfl) (by kernel_rfl) (Or.inl ⟨by kernel_rfl, ?_⟩) SA.out ?_
  ·intro w' h
   have z0 := h
   go_simp
   try rfl
  simp only [Act.put, sT, sZ, sS]
  have hcp := run_copy_none (P := Tryz.prog) t0 25 25 3 2 (some ⟨w.heap.size, 2, none⟩) (some ⟨w.heap.size, 3, none⟩) 0 3 2 2 Tryz.underlying25 zy2 rfl
  refine zg (i := 10) (by kernel_rfl) rfl (fun K hK => ?_)
  go_simp
  refine hK.out _ _ (fun _ => trivial) ?_
  clear hK K
  try simp only [Act.put, sT, sZ, sS]
  refine zh (by kernel_rfl) ?_ _
  exact ⟨rfl, by kernel_rfl, HX.out, HA.out, HZ.out⟩
 rintro a' W2 ⟨rfl, hx, ha, hz⟩
 replace HX := hide hx
 replace HA := hide ha
 replace HZ := hide hz
 clear hx ha hz SA
 simp only [Act.put, sT, sZ, sS]
 go_wp2_with fail
 have SA : Hid ((fun _ : World => True) W2.drew) := trivial
 refine zq (fun ac a' w' => a' = (((((((((ac.put (some 32) (.pointer (some ⟨w.heap.size, 5, none⟩))).put (some 33) (.int .i64 1)).put (some 34) (.int .i64 1)).put (some 35) (.slice (some ⟨w.heap.size, 6, none⟩) 0 3)).put (some 36) (.pointer (some ⟨w.heap.size, 5, none⟩))).put (some 37) (.int .i64 1)).put (some 38) (.int .i64 2)).put (some 39) (.slice (some ⟨w.heap.size, 7, none⟩) 2 2)).put (some 40) (.int .i64 0)) ∧ Ext w w' ∧ AtB w' w.heap.size [.int .i64 2, .int .i64 a0, .int .i64 a1, .int .i64 a2, .int .i64 a3, .int .i64 s0, .int .i64 s1, .int .i64 s2, .int .i64 s3, .int .i64 off] ∧ AtB w' (w.heap.size + 1) [.int .i64 0, .int .i64 0, .int .i64 0, .int .i64 0, .int .i64 0, .int .i64 0, .int .i64 0, .int .i64 0, .int .i64 0, .int .i64 0]) (S := (fun _ : World => True)) (late := []) (by kernel_rfl) ?_ ?_
 rotate_left
 ·replace HX := hide (HX.out.trans (Ext.refl W2).drew)
  replace HA := hide (HA.out.keep (Ext.refl W2).drew.bl)
  replace HZ := hide (HZ.out.keep (Ext.refl W2).drew.bl)
  generalize W2.drew = t0 at HA HZ HX SA ⊢
  refine zd (i := 0) (d := 32) (v := .pointer (some ⟨w.heap.size, 5, none⟩)) rfl (by rfl) (by kernel_rfl) (by kernel_rfl) (fun _ _ _ h => by cases h.1) _ (by kernel_rfl) (by kernel_rfl) (Or.inl ⟨by kernel_rfl, ?_⟩) SA.out ?_
  ·intro w' h
   have z0 := h
   go_simp
   try rfl
  simp only [Act.put, sT, sZ, sS]
  refine zd (i := 1) (d := 33) (v := .int .i64 1) rfl (by rfl) (by kernel_rfl) (by kernel_rfl) (fun _ _ _ h => by cases h.1) _ (by kernel_rfl) (by kernel_rfl) (Or.inl ⟨by kernel_rfl, ?_⟩) SA.out ?_
  ·intro w' h
   have z0 := h
   go_simp
   try rfl
  simp only [Act.put, sT, sZ, sS]
  refine zd (i := 2) (d := 34) (v := .int .i64 1) rfl (by rfl) (by kernel_rfl) (by kernel_rfl) (fun _ _ _ h => by cases h.1) _ (by kernel_rfl) (by kernel_rfl) (Or.inl ⟨by kernel_rfl, ?_⟩) SA.out ?_
  ·intro w' h
   have z0 := h
   go_simp
   try rfl
  simp only [Act.put, sT, sZ, sS]
  refine zd (i := 3) (d := 35) (v := .slice (some ⟨w.heap.size, 6, none⟩) 0 3) rfl (by rfl) (by kernel_rfl) (by kernel_rfl) (fun _ _ _ h => by cases h.1) _ (by kernel_rfl) (by kernel_rfl) (Or.inl ⟨by kernel_rfl, ?_⟩) SA.out ?_
  ·intro w' h
   have z0 := h
   go_simp
   try rfl
  simp only [Act.put, sT, sZ, sS]
  refine zd (i := 4) (d := 36) (v := .pointer (some ⟨w.heap.size, 5, none⟩)) rfl (by rfl) (by kernel_rfl) (by kernel_rfl) (fun _ _ _ h => by cases h.1) _ (by kernel_rfl) (by kernel_rfl) (Or.inl ⟨by kernel_rfl, ?_⟩) SA.out ?_
  ·intro w' h
   have z0 := h
   go_simp
   try rfl
  simp only [Act.put, sT, sZ, sS]
  refine zd (i := 5) (d := 37) (v := .int .i64 1) rfl (by rfl) (by kernel_rfl) (by kernel_rfl) (fun _ _ _ h => by cases h.1) _ (by kernel_rfl) (by kernel_rfl) (Or.inl ⟨by kernel_rfl, ?_⟩) SA.out ?_
  ·intro w' h
   have z0 := h
   go_simp
   try rfl
  simp only [Act.put, sT, sZ, sS]
  refine zd (i := 6) (d := 38) (v := .int .i64 2) rfl (by rfl) (by kernel_rfl) (by kernel_rfl) (fun _ _ _ h => by cases h.1) _ (by kernel_rfl) (by kernel_rfl) (Or.inl ⟨by kernel_rfl, ?_⟩) SA.out ?_
  ·intro w' h
   have z0 := h
   go_simp
   try rfl
  simp only [Act.put, sT, sZ, sS]
  refine zd (i := 7) (d := 39) (v := .slice (some ⟨w.heap.size, 7, none⟩) 2 2) rfl (by rfl) (by kernel_rfl) (by kernel_rfl) (fun _ _ _ h => by cases h.1) _ (by kernel_rfl) (by kernel_rfl) (Or.inl ⟨by kernel_rfl, ?_⟩) SA.out ?_
  ·intro w' h
   have z0 := h
   go_simp
   try rfl
  simp only [Act.put, sT, sZ, sS]
  have hcp := run_copy_none (P := Tryz.prog) t0 25 25 3 2 (some ⟨w.heap.size, 6, none⟩) (some ⟨w.heap.size, 7, none⟩) 0 3 2 2 Tryz.underlying25 zy2 rfl
  refine zg (i := 8) (by kernel_rfl) rfl (fun K hK => ?_)
  go_simp
  refine hK.out _ _ (fun _ => trivial) ?_
  clear hK K
  try simp only [Act.put, sT, sZ, sS]
  refine zh (by kernel_rfl) ?_ _
  exact ⟨rfl, by kernel_rfl, HX.out, HA.out, HZ.out⟩
 rintro a' W3 ⟨rfl, hx, ha, hz⟩
 replace HX := hide hx
 replace HA := hide ha
 replace HZ := hide hz
 clear hx ha hz SA
 simp only [Act.put, sT, sZ, sS]
 have c0 : (_ : Option Value) = some (.int .i64 2) := HA.out 0 _ rfl
 have c1 : (_ : Option Value) = some (.int .i64 a0) := HA.out 1 _ rfl
 have c2 : (_ : Option Value) = some (.int .i64 a1) := HA.out 2 _ rfl
 have c3 : (_ : Option Value) = some (.int .i64 a2) := HA.out 3 _ rfl
 have c4 : (_ : Option Value) = some (.int .i64 a3) := HA.out 4 _ rfl
 have c5 : (_ : Option Value) = some (.int .i64 s0) := HA.out 5 _ rfl
 have c6 : (_ : Option Value) = some (.int .i64 s1) := HA.out 6 _ rfl
 have c7 : (_ : Option Value) = some (.int .i64 s2) := HA.out 7 _ rfl
 have c8 : (_ : Option Value) = some (.int .i64 s3) := HA.out 8 _ rfl
 have c9 : (_ : Option Value) = some (.int .i64 off) := HA.out 9 _ rfl
 have z0 : (_ : Option Value) = some (.int .i64 0) := HZ.out 0 _ rfl
 have z1 : (_ : Option Value) = some (.int .i64 0) := HZ.out 1 _ rfl
 have z2 : (_ : Option Value) = some (.int .i64 0) := HZ.out 2 _ rfl
 have z3 : (_ : Option Value) = some (.int .i64 0) := HZ.out 3 _ rfl
 have z4 : (_ : Option Value) = some (.int .i64 0) := HZ.out 4 _ rfl
 have z5 : (_ : Option Value) = some (.int .i64 0) := HZ.out 5 _ rfl
 have z6 : (_ : Option Value) = some (.int .i64 0) := HZ.out 6 _ rfl
 have z7 : (_ : Option Value) = some (.int .i64 0) := HZ.out 7 _ rfl
 have z8 : (_ : Option Value) = some (.int .i64 0) := HZ.out 8 _ rfl
 have z9 : (_ : Option Value) = some (.int .i64 0) := HZ.out 9 _ rfl
 have fzn : ∀ q, W3.frozen? ⟨w.heap.size, q, none⟩ = false := fun q => HX.out.unfrozen (Nat.le_refl _) q
 have fzm : ∀ q, W3.frozen? ⟨w.heap.size + 1, q, none⟩ = false := fun q => HX.out.unfrozen (by omega) q
 have HA2 := hide ((HA.out.set1 (j := 2) (by simp) (.int .i64 a1)).set1 (j := 6) (by simp) (.int .i64 s1))
 have HZ2 := hide ((HZ.out.other (B := w.heap.size) (j := 2) (by omega) (.int .i64 a1)).other (B := w.heap.size) (j := 6) (by omega) (.int .i64 s1))
 have HX2 := hide ((HX.out.fresh (Nat.le_refl _) 2 (.int .i64 a1)).fresh (Nat.le_refl _) 6 (.int .i64 s1))
 have HZ3 := hide ((((((((((HZ2.out.set1 (j := 0) (by simp) (.int .i64 2)).set1 (j := 1) (by simp) (.int .i64 a0)).set1 (j := 2) (by simp) (.int .i64 a1)).set1 (j := 3) (by simp) (.int .i64 a2)).set1 (j := 4) (by simp) (.int .i64 a3)).set1 (j := 5) (by simp) (.int .i64 s0)).set1 (j := 6) (by simp) (.int .i64 s1)).set1 (j := 7) (by simp) (.int .i64 s2)).set1 (j := 8) (by simp) (.int .i64 s3)).set1 (j := 9) (by simp) (.int .i64 off))
 have HX3 := hide ((((((((((HX2.out.fresh (B := w.heap.size + 1) (by omega) 0 (.int .i64 2)).fresh (B := w.heap.size + 1) (by omega) 1 (.int .i64 a0)).fresh (B := w.heap.size + 1) (by omega) 2 (.int .i64 a1)).fresh (B := w.heap.size + 1) (by omega) 3 (.int .i64 a2)).fresh (B := w.heap.size + 1) (by omega) 4 (.int .i64 a3)).fresh (B := w.heap.size + 1) (by omega) 5 (.int .i64 s0)).fresh (B := w.heap.size + 1) (by omega) 6 (.int .i64 s1)).fresh (B := w.heap.size + 1) (by omega) 7 (.int .i64 s2)).fresh (B := w.heap.size + 1) (by omega) 8 (.int .i64 s3)).fresh (B := w.heap.size + 1) (by omega) 9 (.int .i64 off))
 have y0 := HZ3.out 0 _ rfl
 have y1 := HZ3.out 1 _ rfl
 have y2 := HZ3.out 2 _ rfl
 have y3 := HZ3.out 3 _ rfl
 have y4 := HZ3.out 4 _ rfl
 have y5 := HZ3.out 5 _ rfl
 have y6 := HZ3.out 6 _ rfl
 have y7 := HZ3.out 7 _ rfl
 have y8 := HZ3.out 8 _ rfl
 have y9 := HZ3.out 9 _ rfl
 have HY : Hid True := trivial
 have d0 := HA2.out 0 _ rfl
 have d1 := HA2.out 1 _ rfl
 have d2 := HA2.out 2 _ rfl
 have d3 := HA2.out 3 _ rfl
 have d4 := HA2.out 4 _ rfl
 have d5 := HA2.out 5 _ rfl
 have d6 := HA2.out 6 _ rfl
 have d7 := HA2.out 7 _ rfl
 have d8 := HA2.out 8 _ rfl
 have d9 := HA2.out 9 _ rfl
 go_wp2_with fail
 refine bodyPost_ret (v := .agg #[.int .i64 2, .int .i64 a0, .int .i64 a1, .int .i64 a2, .int .i64 a3, .int .i64 s0, .int .i64 s1, .int .i64 s2, .int .i64 s3, .int .i64 off]) (by simp [results, Tryz.results83, go_sem, y0, y1, y2, y3, y4, y5, y6, y7, y8, y9]) rfl ⟨rfl, HX3.out⟩
theorem zn14 (w : World) (a0 a1 a2 a3 s0 s1 s2 s3 off : Int) :
  Calls Tryz.prog 83 #[.agg #[.int .i64 3, .int .i64 a0, .int .i64 a1, .int .i64 a2, .int .i64 a3, .int .i64 s0, .int .i64 s1, .int .i64 s2, .int .i64 s3, .int .i64 off], .int .i64 0] w fun e w' => e = .returned (.agg #[.int .i64 3, .int .i64 a1, .int .i64 a2, .int .i64 a0, .int .i64 a3, .int .i64 s1, .int .i64 s2, .int .i64 s0, .int .i64 s3, .int .i64 off]) ∧ Ext w w' := by
 have x0 : Ext w ((w.alloc (.cells #[.int .i64 3, .int .i64 a0, .int .i64 a1, .int .i64 a2, .int .i64 a3, .int .i64 s0, .int .i64 s1, .int .i64 s2, .int .i64 s3, .int .i64 off] 83)).alloc (.cells #[.int .i64 0, .int .i64 0, .int .i64 0, .int .i64 0, .int .i64 0, .int .i64 0, .int .i64 0, .int .i64 0, .int .i64 0, .int .i64 0] 83)) := ((Ext.refl w).alloc _ _).alloc _ _
 have x1 : Ext (w.alloc (.cells #[.int .i64 3, .int .i64 a0, .int .i64 a1, .int .i64 a2, .int .i64 a3, .int .i64 s0, .int .i64 s1, .int .i64 s2, .int .i64 s3, .int .i64 off] 83)) ((w.alloc (.cells #[.int .i64 3, .int .i64 a0, .int .i64 a1, .int .i64 a2, .int .i64 a3, .int .i64 s0, .int .i64 s1, .int .i64 s2, .int .i64 s3, .int .i64 off] 83)).alloc (.cells #[.int .i64 0, .int .i64 0, .int .i64 0, .int .i64 0, .int .i64 0, .int .i64 0, .int .i64 0, .int .i64 0, .int .i64 0, .int .i64 0] 83)) := (Ext.refl _).alloc _ _
 have A0 : AtB ((w.alloc (.cells #[.int .i64 3, .int .i64 a0, .int .i64 a1, .int .i64 a2, .int .i64 a3, .int .i64 s0, .int .i64 s1, .int .i64 s2, .int .i64 s3, .int .i64 off] 83)).alloc (.cells #[.int .i64 0, .int .i64 0, .int .i64 0, .int .i64 0, .int .i64 0, .int .i64 0, .int .i64 0, .int .i64 0, .int .i64 0, .int .i64 0] 83)) w.heap.size [.int .i64 3, .int .i64 a0, .int .i64 a1, .int .i64 a2, .int .i64 a3, .int .i64 s0, .int .i64 s1, .int .i64 s2, .int .i64 s3, .int .i64 off] := fun j x hx => x1.box ((ze w _ 83 _ rfl j).trans (by simpa using hx))
 have Z0 : AtB ((w.alloc (.cells #[.int .i64 3, .int .i64 a0, .int .i64 a1, .int .i64 a2, .int .i64 a3, .int .i64 s0, .int .i64 s1, .int .i64 s2, .int .i64 s3, .int .i64 off] 83)).alloc (.cells #[.int .i64 0, .int .i64 0, .int .i64 0, .int .i64 0, .int .i64 0, .int .i64 0, .int .i64 0, .int .i64 0, .int .i64 0, .int .i64 0] 83)) (w.heap.size + 1) [.int .i64 0, .int .i64 0, .int .i64 0, .int .i64 0, .int .i64 0, .int .i64 0, .int .i64 0, .int .i64 0, .int .i64 0, .int .i64 0] := fun j x hx => (ze _ _ 83 _ (by simp) j).trans (by simpa using hx)
 have HA := hide A0
 have HZ := hide Z0
 have HX := hide x0
 clear x0 x1 A0 Z0
 go_enter Tryz.func83, Tryz.ntmps83
 go_wp2_with fail
 generalize (w.alloc (.cells #[.int .i64 3, .int .i64 a0, .int .i64 a1, .int .i64 a2, .int .i64 a3, .int .i64 s0, .int .i64 s1, .int .i64 s2, .int .i64 s3, .int .i64 off] 83)).alloc (.cells #[.int .i64 0, .int .i64 0, .int .i64 0, .int .i64 0, .int .i64 0, .int .i64 0, .int .i64 0, .int .i64 0, .int .i64 0, .int .i64 0] 83) = W0 at HA HZ HX ⊢
 have c0 : (_ : Option Value) = some (.int .i64 3) := HA.out 0 _ rfl
 have c1 : (_ : Option Value) = some (.int .i64 a0) := HA.out 1 _ rfl
 have c2 : (_ : Option Value) = some (.int .i64 a1) := HA.out 2 _ rfl
 have c3 : (_ : Option Value) = some (.int .i64 a2) := HA.out 3 _ rfl
 have c4 : (_ : Option Value) = some (.int .i64 a3) := HA.out 4 _ rfl
 have c5 : (_ : Option Value) = some (.int .i64 s0) := HA.out 5 _ rfl
 have c6 : (_ : Option Value) = some (.int .i64 s1) := HA.out 6 _ rfl
 have c7 : (_ : Option Value) = some (.int .i64 s2) := HA.out 7 _ rfl
 have c8 : (_ : Option Value) = some (.int .i64 s3) := HA.out 8 _ rfl
 have c9 : (_ : Option Value) = some (.int .i64 off) := HA.out 9 _ rfl
 go_region
 go_wp2_with fail
 replace HX := hide (HX.out.trans (Ext.refl W0).drew)
 replace HA := hide (HA.out.keep (Ext.refl W0).drew.bl)
 replace HZ := hide (HZ.out.keep (Ext.refl W0).drew.bl)
 clear c0 c1 c2 c3 c4 c5 c6 c7 c8 c9
 try generalize W0.drew = W1 at HA HZ HX ⊢
 have SA : Hid ((fun _ : World => True) W1.drew) := trivial
 refine zq (fun ac a' w' => a' = (((((((((((ac.put (some 21) (.pointer (some ⟨w.heap.size, 0, none⟩))).put (some 22) (.pointer (some ⟨w.heap.size, 1, none⟩))).put (some 23) (.int .i64 0)).put (some 24) (.int .i64 2)).put (some 25) (.slice (some ⟨w.heap.size, 1, none⟩) 2 4)).put (some 26) (.pointer (some ⟨w.heap.size, 0, none⟩))).put (some 27) (.pointer (some ⟨w.heap.size, 1, none⟩))).put (some 28) (.int .i64 0)).put (some 29) (.int .i64 1)).put (some 30) (.slice (some ⟨w.heap.size, 2, none⟩) 3 3)).put (some 31) (.int .i64 2)) ∧ Ext w w' ∧ AtB w' w.heap.size [.int .i64 3, .int .i64 a1, .int .i64 a2, .int .i64 a2, .int .i64 a3, .int .i64 s0, .int .i64 s1, .int .i64 s2, .int .i64 s3, .int .i64 off] ∧ AtB w' (w.heap.size + 1) [.int .i64 0, .int .i64 0, .int .i64 0, .int .i64 0, .int .i64 0, .int .i64 0, .int .i64 0, .int .i64 0, .int .i64 0, .int .i64 0]) (S := (fun _ : World => True)) (late := []) (by kernel_rfl) ?_ ?_
 rotate_left
 ·replace HX := hide (HX.out.trans (Ext.refl W1).drew)
  replace HA := hide (HA.out.keep (Ext.refl W1).drew.bl)
  replace HZ := hide (HZ.out.keep (Ext.refl W1).drew.bl)
  generalize W1.drew = t0 at HA HZ HX SA ⊢
  refine zd (i := 0) (d := 21) (v := .pointer (some ⟨w.heap.size, 0, none⟩)) rfl (by rfl) (by kernel_rfl) (by kernel_rfl) (fun _ _ _ h => by cases h.1) _ (by kernel_rfl) (by kernel_rfl) (Or.inl ⟨by kernel_rfl, ?_⟩) SA.out ?_
  ·intro w' h
   have z0 := h
   go_simp
   try rfl
  simp only [Act.put, sT, sZ, sS]
  refine zd (i := 1) (d := 22) (v := .pointer (some ⟨w.heap.size, 1, none⟩)) rfl (by rfl) (by kernel_rfl) (by kernel_rfl) (fun _ _ _ h => by cases h.1) _ (by kernel_rfl) (by kernel_rfl) (Or.inl ⟨by kernel_rfl, ?_⟩) SA.out ?_
  ·intro w' h
   have z0 := h
   go_simp
   try rfl
  simp only [Act.put, sT, sZ, sS]
  refine zd (i := 2) (d := 23) (v := .int .i64 0) rfl (by rfl) (by kernel_rfl) (by kernel_rfl) (fun _ _ _ h => by cases h.1) _ (by kernel_rfl) (by kernel_rfl) (Or.inl ⟨by kernel_rfl, ?_⟩) SA.out ?_
  ·intro w' h
   have z0 := h
   go_simp
   try rfl
  simp only [Act.put, sT, sZ, sS]
  refine zd (i := 3) (d := 24) (v := .int .i64 2) rfl (by rfl) (by kernel_rfl) (by kernel_rfl) (fun _ _ _ h => by cases h.1) _ (by kernel_rfl) (by kernel_rfl) (Or.inl ⟨by kernel_rfl, ?_⟩) SA.out ?_
  ·intro w' h
   have z0 := h
   go_simp
   try rfl
  simp only [Act.put, sT, sZ, sS]
  refine zd (i := 4) (d := 25) (v := .slice (some ⟨w.heap.size, 1, none⟩) 2 4) rfl (by rfl) (by kernel_rfl) (by kernel_rfl) (fun _ _ _ h => by cases h.1) _ (by kernel_rfl) (by kernel_rfl) (Or.inl ⟨by kernel_rfl, ?_⟩) SA.out ?_
  ·intro w' h
   have z0 := h
   go_simp
   try rfl
  simp only [Act.put, sT, sZ, sS]
  refine zd (i := 5) (d := 26) (v := .pointer (some ⟨w.heap.size, 0, none⟩)) rfl (by rfl) (by kernel_rfl) (by kernel_rfl) (fun _ _ _ h => by cases h.1) _ (by kernel_rfl) (by kernel_rfl) (Or.inl ⟨by kernel_rfl, ?_⟩) SA.out ?_
  ·intro w' h
   have z0 := h
   go_simp
   try rfl
  simp only [Act.put, sT, sZ, sS]
  refine zd (i := 6) (d := 27) (v := .pointer (some ⟨w.heap.size, 1, none⟩)) rfl (by rfl) (by kernel_rfl) (by kernel_rfl) (fun _ _ _ h => by cases h.1) _ (by kernel_rfl) (by kernel_rfl) (Or.inl ⟨by kernel_rfl, ?_⟩) SA.out ?_
  ·intro w' h
   have z0 := h
   go_simp
   try rfl
  simp only [Act.put, sT, sZ, sS]
  refine zd (i := 7) (d := 28) (v := .int .i64 0) rfl (by rfl) (by kernel_rfl) (by kernel_rfl) (fun _ _ _ h => by cases h.1) _ (by kernel_rfl) (by kernel_rfl) (Or.inl ⟨by kernel_rfl, ?_⟩) SA.out ?_
  ·intro w' h
   have z0 := h
   go_simp
   try rfl
  simp only [Act.put, sT, sZ, sS]
  refine zd (i := 8) (d := 29) (v := .int .i64 1) rfl (by rfl) (by kernel_rfl) (by kernel_rfl) (fun _ _ _ h => by cases h.1) _ (by kernel_rfl) (by kernel_rfl) (Or.inl ⟨by kernel_rfl, ?_⟩) SA.out ?_
  ·intro w' h
   have z0 := h
   go_simp
   try rfl
  simp only [Act.put, sT, sZ, sS]
  refine zd (i := 9) (d := 30) (v := .slice (some ⟨w.heap.size, 2, none⟩) 3 3) rfl (by rfl) (by kernel_rfl) (by kernel_rfl) (fun _ _ _ h => by cases h.1) _ (by kernel_rfl) (by kernel_rfl) (Or.inl ⟨by kernel_rfl, ?_⟩) SA.out ?_
  ·intro w' h
   have z0 := h
   go_simp
   try rfl
  simp only [Act.put, sT, sZ, sS]
  have hcp : (Builtin.copy_ #[25, 25] 3 #[.slice (some ⟨w.heap.size, 1, none⟩) 2 4, .slice (some ⟨w.heap.size, 2, none⟩) 3 3]).run Tryz.prog t0 = .ok (goInt 2) ((t0.setCell ⟨w.heap.size, 1, none⟩ (.int .i64 a1)).setCell ⟨w.heap.size, 2, none⟩ (.int .i64 a2)) := by
   have fzn := fun (q : Nat) => HX.out.unfrozen (b := w.heap.size) (Nat.le_refl _) q
   refine run_copy_cells (P := Tryz.prog) t0 25 25 3 2 w.heap.size 1 2 4 ⟨w.heap.size, 2, none⟩ 3 3 [.int .i64 a1, .int .i64 a2] Tryz.underlying25 zy2 rfl ?_ ?_ (fun j _ => fzn _) (by simp [Value.oneCell'])
   ·intro j v hv
    have q := HA.out (2 + j) v (by
     rw [← hv]
     match j with
     | 0 => rfl
     | 1 => rfl
     | j + 2 => simp at hv)
    rw [Addr.add_lit]
    exact q
   ·intro j hj
    have hj' : j < 2 := hj
    have q := HA.out (1 + j) _ (List.getElem?_eq_getElem (by simp; omega))
    rw [q]; rfl
  refine zg (i := 10) (by kernel_rfl) rfl (fun K hK => ?_)
  go_simp
  refine hK.out _ _ (fun _ => trivial) ?_
  clear hK K
  try simp only [Act.put, sT, sZ, sS]
  refine zh (by kernel_rfl) ?_ _
  exact ⟨rfl, by kernel_rfl, ((HX.out.fresh (Nat.le_refl _) 1 (.int .i64 a1)).fresh (Nat.le_refl _) 2 (.int .i64 a2)), ((HA.out.set1 (j := 1) (by simp) (.int .i64 a1)).set1 (j := 2) (by simp) (.int .i64 a2)), ((HZ.out.other (B := w.heap.size) (j := 1) (by omega) (.int .i64 a1)).other (B := w.heap.size) (j := 2) (by omega) (.int .i64 a2))⟩
 rintro a' W2 ⟨rfl, hx, ha, hz⟩
 replace HX := hide hx
 replace HA := hide ha
 replace HZ := hide hz
 clear hx ha hz SA
 simp only [Act.put, sT, sZ, sS]
 go_wp2_with fail
 have SA : Hid ((fun _ : World => True) W2.drew) := trivial
 refine zq (fun ac a' w' => a' = (((((((((ac.put (some 32) (.pointer (some ⟨w.heap.size, 5, none⟩))).put (some 33) (.int .i64 0)).put (some 34) (.int .i64 2)).put (some 35) (.slice (some ⟨w.heap.size, 5, none⟩) 2 4)).put (some 36) (.pointer (some ⟨w.heap.size, 5, none⟩))).put (some 37) (.int .i64 0)).put (some 38) (.int .i64 1)).put (some 39) (.slice (some ⟨w.heap.size, 6, none⟩) 3 3)).put (some 40) (.int .i64 2)) ∧ Ext w w' ∧ AtB w' w.heap.size [.int .i64 3, .int .i64 a1, .int .i64 a2, .int .i64 a2, .int .i64 a3, .int .i64 s1, .int .i64 s2, .int .i64 s2, .int .i64 s3, .int .i64 off] ∧ AtB w' (w.heap.size + 1) [.int .i64 0, .int .i64 0, .int .i64 0, .int .i64 0, .int .i64 0, .int .i64 0, .int .i64 0, .int .i64 0, .int .i64 0, .int .i64 0]) (S := (fun _ : World => True)) (late := []) (by kernel_rfl) ?_ ?_
 rotate_left
 ·replace HX := hide (HX.out.trans (Ext.refl W2).drew)
  replace HA := hide (HA.out.keep (Ext.refl W2).drew.bl)
  replace HZ := hide (HZ.out.keep (Ext.refl W2).drew.bl)
  generalize W2.drew = t0 at HA HZ HX SA ⊢
  refine zd (i := 0) (d := 32) (v := .pointer (some ⟨w.heap.size, 5, none⟩)) rfl (by rfl) (by kernel_rfl) (by kernel_rfl) (fun _ _ _ h => by cases h.1) _ (by kernel_rfl) (by kernel_rfl) (Or.inl ⟨by kernel_rfl, ?_⟩) SA.out ?_
  ·intro w' h
   have z0 := h
   go_simp
   try rfl
  simp only [Act.put, sT, sZ, sS]
  refine zd (i := 1) (d := 33) (v := .int .i64 0) rfl (by rfl) (by kernel_rfl) (by kernel_rfl) (fun _ _ _ h => by cases h.1) _ (by kernel_rfl) (by kernel_rfl) (Or.inl ⟨by kernel_rfl, ?_⟩) SA.out ?_
  ·intro w' h
   have z0 := h
   go_simp
   try rfl
  simp only [Act.put, sT, sZ, sS]
  refine zd (i := 2) (d := 34) (v := .int .i64 2) rfl (by rfl) (by kernel_rfl) (by kernel_rfl) (fun _ _ _ h => by cases h.1) _ (by kernel_rfl) (by kernel_rfl) (Or.inl ⟨by kernel_rfl, ?_⟩) SA.out ?_
  ·intro w' h
   have z0 := h
   go_simp
   try rfl
  simp only [Act.put, sT, sZ, sS]
  refine zd (i := 3) (d := 35) (v := .slice (some ⟨w.heap.size, 5, none⟩) 2 4) rfl (by rfl) (by kernel_rfl) (by kernel_rfl) (fun _ _ _ h => by cases h.1) _ (by kernel_rfl) (by kernel_rfl) (Or.inl ⟨by kernel_rfl, ?_⟩) SA.out ?_
  ·intro w' h
   have z0 := h
   go_simp
   try rfl
  simp only [Act.put, sT, sZ, sS]
  refine zd (i := 4) (d := 36) (v := .pointer (some ⟨w.heap.size, 5, none⟩)) rfl (by rfl) (by kernel_rfl) (by kernel_rfl) (fun _ _ _ h => by cases h.1) _ (by kernel_rfl) (by kernel_rfl) (Or.inl ⟨by kernel_rfl, ?_⟩) SA.out ?_
  ·intro w' h
   have z0 := h
   go_simp
   try rfl
  simp only [Act.put, sT, sZ, sS]
  refine zd (i := 5) (d := 37) (v := .int .i64 0) rfl (by rfl) (by kernel_rfl) (by kernel_rfl) (fun _ _ _ h => by cases h.1) _ (by kernel_rfl) (by kernel_rfl) (Or.inl ⟨by kernel_rfl, ?_⟩) SA.out ?_
  ·intro w' h
   have z0 := h
   go_simp
   try rfl
  simp only [Act.put, sT, sZ, sS]
  refine zd (i := 6) (d := 38) (v := .int .i64 1) rfl (by rfl) (by kernel_rfl) (by kernel_rfl) (fun _ _ _ h => by cases h.1) _ (by kernel_rfl) (by kernel_rfl) (Or.inl ⟨by kernel_rfl, ?_⟩) SA.out ?_
  ·intro w' h
   have z0 := h
   go_simp
   try rfl
  simp only [Act.put, sT, sZ, sS]
  refine zd (i := 7) (d := 39) (v := .slice (some ⟨w.heap.size, 6, none⟩) 3 3) rfl (by rfl) (by kernel_rfl) (by kernel_rfl) (fun _ _ _ h => by cases h.1) _ (by kernel_rfl) (by kernel_rfl) (Or.inl ⟨by kernel_rfl, ?_⟩) SA.out ?_
  ·intro w' h
   have z0 := h
   go_simp
   try rfl
  simp only [Act.put, sT, sZ, sS]
  have hcp : (Builtin.copy_ #[25, 25] 3 #[.slice (some ⟨w.heap.size, 5, none⟩) 2 4, .slice (some ⟨w.heap.size, 6, none⟩) 3 3]).run Tryz.prog t0 = .ok (goInt 2) ((t0.setCell ⟨w.heap.size, 5, none⟩ (.int .i64 s1)).setCell ⟨w.heap.size, 6, none⟩ (.int .i64 s2)) := by
   have fzn := fun (q : Nat) => HX.out.unfrozen (b := w.heap.size) (Nat.le_refl _) q
   refine run_copy_cells (P := Tryz.prog) t0 25 25 3 2 w.heap.size 5 2 4 ⟨w.heap.size, 6, none⟩ 3 3 [.int .i64 s1, .int .i64 s2] Tryz.underlying25 zy2 rfl ?_ ?_ (fun j _ => fzn _) (by simp [Value.oneCell'])
   ·intro j v hv
    have q := HA.out (6 + j) v (by
     rw [← hv]
     match j with
     | 0 => rfl
     | 1 => rfl
     | j + 2 => simp at hv)
    rw [Addr.add_lit]
    exact q
   ·intro j hj
    have hj' : j < 2 := hj
    have q := HA.out (5 + j) _ (List.getElem?_eq_getElem (by simp; omega))
    rw [q]; rfl
  refine zg (i := 8) (by kernel_rfl) rfl (fun K hK => ?_)
  go_simp
  refine hK.out _ _ (fun _ => trivial) ?_
  clear hK K
  try simp only [Act.put, sT, sZ, sS]
  refine zh (by kernel_rfl) ?_ _
  exact ⟨rfl, by kernel_rfl, ((HX.out.fresh (Nat.le_refl _) 5 (.int .i64 s1)).fresh (Nat.le_refl _) 6 (.int .i64 s2)), ((HA.out.set1 (j := 5) (by simp) (.int .i64 s1)).set1 (j := 6) (by simp) (.int .i64 s2)), ((HZ.out.other (B := w.heap.size) (j := 5) (by omega) (.int .i64 s1)).other (B := w.heap.size) (j := 6) (by omega) (.int .i64 s2))⟩
 rintro a' W3 ⟨rfl, hx, ha, hz⟩
 replace HX := hide hx
 replace HA := hide ha
 replace HZ := hide hz
 clear hx ha hz SA
 simp only [Act.put, sT, sZ, sS]
 have c0 : (_ : Option Value) = some (.int .i64 3) := HA.out 0 _ rfl
 have c1 : (_ : Option Value) = some (.int .i64 a1) := HA.out 1 _ rfl
 have c2 : (_ : Option Value) = some (.int .i64 a2) := HA.out 2 _ rfl
 have c3 : (_ : Option Value) = some (.int .i64 a2) := HA.out 3 _ rfl
 have c4 : (_ : Option Value) = some (.int .i64 a3) := HA.out 4 _ rfl
 have c5 : (_ : Option Value) = some (.int .i64 s1) := HA.out 5 _ rfl
 have c6 : (_ : Option Value) = some (.int .i64 s2) := HA.out 6 _ rfl
 have c7 : (_ : Option Value) = some (.int .i64 s2) := HA.out 7 _ rfl
 have c8 : (_ : Option Value) = some (.int .i64 s3) := HA.out 8 _ rfl
 have c9 : (_ : Option Value) = some (.int .i64 off) := HA.out 9 _ rfl
 have z0 : (_ : Option Value) = some (.int .i64 0) := HZ.out 0 _ rfl
 have z1 : (_ : Option Value) = some (.int .i64 0) := HZ.out 1 _ rfl
 have z2 : (_ : Option Value) = some (.int .i64 0) := HZ.out 2 _ rfl
 have z3 : (_ : Option Value) = some (.int .i64 0) := HZ.out 3 _ rfl
 have z4 : (_ : Option Value) = some (.int .i64 0) := HZ.out 4 _ rfl
 have z5 : (_ : Option Value) = some (.int .i64 0) := HZ.out 5 _ rfl
 have z6 : (_ : Option Value) = some (.int .i64 0) := HZ.out 6 _ rfl
 have z7 : (_ : Option Value) = some (.int .i64 0) := HZ.out 7 _ rfl
 have z8 : (_ : Option Value) = some (.int .i64 0) := HZ.out 8 _ rfl
 have z9 : (_ : Option Value) = some (.int .i64 0) := HZ.out 9 _ rfl
 have fzn : ∀ q, W3.frozen? ⟨w.heap.size, q, none⟩ = false := fun q => HX.out.unfrozen (Nat.le_refl _) q
 have fzm : ∀ q, W3.frozen? ⟨w.heap.size + 1, q, none⟩ = false := fun q => HX.out.unfrozen (by omega) q
 have HA2 := hide ((HA.out.set1 (j := 3) (by simp) (.int .i64 a0)).set1 (j := 7) (by simp) (.int .i64 s0))
 have HZ2 := hide ((HZ.out.other (B := w.heap.size) (j := 3) (by omega) (.int .i64 a0)).other (B := w.heap.size) (j := 7) (by omega) (.int .i64 s0))
 have HX2 := hide ((HX.out.fresh (Nat.le_refl _) 3 (.int .i64 a0)).fresh (Nat.le_refl _) 7 (.int .i64 s0))
 have HZ3 := hide ((((((((((HZ2.out.set1 (j := 0) (by simp) (.int .i64 3)).set1 (j := 1) (by simp) (.int .i64 a1)).set1 (j := 2) (by simp) (.int .i64 a2)).set1 (j := 3) (by simp) (.int .i64 a0)).set1 (j := 4) (by simp) (.int .i64 a3)).set1 (j := 5) (by simp) (.int .i64 s1)).set1 (j := 6) (by simp) (.int .i64 s2)).set1 (j := 7) (by simp) (.int .i64 s0)).set1 (j := 8) (by simp) (.int .i64 s3)).set1 (j := 9) (by simp) (.int .i64 off))
 have HX3 := hide ((((((((((HX2.out.fresh (B := w.heap.size + 1) (by omega) 0 (.int .i64 3)).fresh (B := w.heap.size + 1) (by omega) 1 (.int .i64 a1)).fresh (B := w.heap.size + 1) (by omega) 2 (.int .i64 a2)).fresh (B := w.heap.size + 1) (by omega) 3 (.int .i64 a0)).fresh (B := w.heap.size + 1) (by omega) 4 (.int .i64 a3)).fresh (B := w.heap.size + 1) (by omega) 5 (.int .i64 s1)).fresh (B := w.heap.size + 1) (by omega) 6 (.int .i64 s2)).fresh (B := w.heap.size + 1) (by omega) 7 (.int .i64 s0)).fresh (B := w.heap.size + 1) (by omega) 8 (.int .i64 s3)).fresh (B := w.heap.size + 1) (by omega) 9 (.int .i64 off))
 have y0 := HZ3.out 0 _ rfl
 have y1 := HZ3.out 1 _ rfl
 have y2 := HZ3.out 2 _ rfl
 have y3 := HZ3.out 3 _ rfl
 have y4 := HZ3.out 4 _ rfl
 have y5 := HZ3.out 5 _ rfl
 have y6 := HZ3.out 6 _ rfl
 have y7 := HZ3.out 7 _ rfl
 have y8 := HZ3.out 8 _ rfl
 have y9 := HZ3.out 9 _ rfl
 have HY : Hid True := trivial
 have d0 := HA2.out 0 _ rfl
 have d1 := HA2.out 1 _ rfl
 have d2 := HA2.out 2 _ rfl
 have d3 := HA2.out 3 _ rfl
 have d4 := HA2.out 4 _ rfl
 have d5 := HA2.out 5 _ rfl
 have d6 := HA2.out 6 _ rfl
 have d7 := HA2.out 7 _ rfl
 have d8 := HA2.out 8 _ rfl
 have d9 := HA2.out 9 _ rfl
 go_wp2_with fail
 refine bodyPost_ret (v := .agg #[.int .i64 3, .int .i64 a1, .int .i64 a2, .int .i64 a0, .int .i64 a3, .int .i64 s1, .int .i64 s2, .int .i64 s0, .int .i64 s3, .int .i64 off]) (by simp [results, Tryz.results83, go_sem, y0, y1, y2, y3, y4, y5, y6, y7, y8, y9]) rfl ⟨rfl, HX3.out⟩
theorem zm14 (w : World) (a0 a1 a2 a3 s0 s1 s2 s3 off : Int) :
  Calls Tryz.prog 83 #[.agg #[.int .i64 3, .int .i64 a0, .int .i64 a1, .int .i64 a2, .int .i64 a3, .int .i64 s0, .int .i64 s1, .int .i64 s2, .int .i64 s3, .int .i64 off], .int .i64 1] w fun e w' => e = .returned (.agg #[.int .i64 3, .int .i64 a0, .int .i64 a2, .int .i64 a1, .int .i64 a3, .int .i64 s0, .int .i64 s2, .int .i64 s1, .int .i64 s3, .int .i64 off]) ∧ Ext w w' := by
 have x0 : Ext w ((w.alloc (.cells #[.int .i64 3, .int .i64 a0, .int .i64 a1, .int .i64 a2, .int .i64 a3, .int .i64 s0, .int .i64 s1, .int .i64 s2, .int .i64 s3, .int .i64 off] 83)).alloc (.cells #[.int .i64 0, .int .i64 0, .int .i64 0, .int .i64 0, .int .i64 0, .int .i64 0, .int .i64 0, .int .i64 0, .int .i64 0, .int .i64 0] 83)) := ((Ext.refl w).alloc _ _).alloc _ _
 have x1 : Ext (w.alloc (.cells #[.int .i64 3, .int .i64 a0, .int .i64 a1, .int .i64 a2, .int .i64 a3, .int .i64 s0, .int .i64 s1, .int .i64 s2, .int .i64 s3, .int .i64 off] 83)) ((w.alloc (.cells #[.int .i64 3, .int .i64 a0, .int .i64 a1, .int .i64 a2, .int .i64 a3, .int .i64 s0, .int .i64 s1, .int .i64 s2, .int .i64 s3, .int .i64 off] 83)).alloc (.cells #[.int .i64 0, .int .i64 0, .int .i64 0, .int .i64 0, .int .i64 0, .int .i64 0, .int .i64 0, .int .i64 0, .int .i64 0, .int .i64 0] 83)) := (Ext.refl _).alloc _ _
 have A0 : AtB ((w.alloc (.cells #[.int .i64 3, .int .i64 a0, .int .i64 a1, .int .i64 a2, .int .i64 a3, .int .i64 s0, .int .i64 s1, .int .i64 s2, .int .i64 s3, .int .i64 off] 83)).alloc (.cells #[.int .i64 0, .int .i64 0, .int .i64 0, .int .i64 0, .int .i64 0, .int .i64 0, .int .i64 0, .int .i64 0, .int .i64 0, .int .i64 0] 83)) w.heap.size [.int .i64 3, .int .i64 a0, .int .i64 a1, .int .i64 a2, .int .i64 a3, .int .i64 s0, .int .i64 s1, .int .i64 s2, .int .i64 s3, .int .i64 off] := fun j x hx => x1.box ((ze w _ 83 _ rfl j).trans (by simpa using hx))
 have Z0 : AtB ((w.alloc (.cells #[.int .i64 3, .int .i64 a0, .int .i64 a1, .int .i64 a2, .int .i64 a3, .int .i64 s0, .int .i64 s1, .int .i64 s2, .int .i64 s3, .int .i64 off] 83)).alloc (.cells #[.int .i64 0, .int .i64 0, .int .i64 0, .int .i64 0, .int .i64 0, .int .i64 0, .int .i64 0, .int .i64 0, .int .i64 0, .int .i64 0] 83)) (w.heap.size + 1) [.int .i64 0, .int .i64 0, .int .i64 0, .int .i64 0, .int .i64 0, .int .i64 0, .int .i64 0, .int .i64 0, .int .i64 0, .int .i64 0] := fun j x hx => (ze _ _ 83 _ (by simp) j).trans (by simpa using hx)
 have HA := hide A0
 have HZ := hide Z0
 have HX := hide x0
 clear x0 x1 A0 Z0
 go_enter Tryz.func83, Tryz.ntmps83
 go_wp2_with fail
 generalize (w.alloc (.cells #[.int .i64 3, .int .i64 a0, .int .i64 a1, .int .i64 a2, .int .i64 a3, .int .i64 s0, .int .i64 s1, .int .i64 s2, .int .i64 s3, .int .i64 off] 83)).alloc (.cells #[.int .i64 0, .int .i64 0, .int .i64 0, .int .i64 0, .int .i64 0, .int .i64 0, .int .i64 0, .int .i64 0, .int .i64 0, .int .i64 0] 83) = W0 at HA HZ HX ⊢
 have c0 : (_ : Option Value) = some (.int .i64 3) := HA.out 0 _ rfl
 have c1 : (_ : Option Value) = some (.int .i64 a0) := HA.out 1 _ rfl
 have c2 : (_ : Option Value) = some (.int .i64 a1) := HA.out 2 _ rfl
 have c3 : (_ : Option Value) = some (.int .i64 a2) := HA.out 3 _ rfl
 have c4 : (_ : Option Value) = some (.int .i64 a3) := HA.out 4 _ rfl
 have c5 : (_ : Option Value) = some (.int .i64 s0) := HA.out 5 _ rfl
 have c6 : (_ : Option Value) = some (.int .i64 s1) := HA.out 6 _ rfl
 have c7 : (_ : Option Value) = some (.int .i64 s2) := HA.out 7 _ rfl
 have c8 : (_ : Option Value) = some (.int .i64 s3) := HA.out 8 _ rfl
 have c9 : (_ : Option Value) = some (.int .i64 off) := HA.out 9 _ rfl
 go_region
 go_wp2_with fail
 replace HX := hide (HX.out.trans (Ext.refl W0).drew)
 replace HA := hide (HA.out.keep (Ext.refl W0).drew.bl)
 replace HZ := hide (HZ.out.keep (Ext.refl W0).drew.bl)
 clear c0 c1 c2 c3 c4 c5 c6 c7 c8 c9
 try generalize W0.drew = W1 at HA HZ HX ⊢
 have SA : Hid ((fun _ : World => True) W1.drew) := trivial
 refine zq (fun ac a' w' => a' = (((((((((((ac.put (some 21) (.pointer (some ⟨w.heap.size, 0, none⟩))).put (some 22) (.pointer (some ⟨w.heap.size, 1, none⟩))).put (some 23) (.int .i64 1)).put (some 24) (.int .i64 2)).put (some 25) (.slice (some ⟨w.heap.size, 2, none⟩) 1 3)).put (some 26) (.pointer (some ⟨w.heap.size, 0, none⟩))).put (some 27) (.pointer (some ⟨w.heap.size, 1, none⟩))).put (some 28) (.int .i64 1)).put (some 29) (.int .i64 2)).put (some 30) (.slice (some ⟨w.heap.size, 3, none⟩) 2 2)).put (some 31) (.int .i64 1)) ∧ Ext w w' ∧ AtB w' w.heap.size [.int .i64 3, .int .i64 a0, .int .i64 a2, .int .i64 a2, .int .i64 a3, .int .i64 s0, .int .i64 s1, .int .i64 s2, .int .i64 s3, .int .i64 off] ∧ AtB w' (w.heap.size + 1) [.int .i64 0, .int .i64 0, .int .i64 0, .int .i64 0, .int .i64 0, .int .i64 0, .int .i64 0, .int .i64 0, .int .i64 0, .int .i64 0]) (S := (fun _ : World => True)) (late := []) (by kernel_rfl) ?_ ?_
 rotate_left
 ·replace HX := hide (HX.out.trans (Ext.refl W1).drew)
  replace HA := hide (HA.out.keep (Ext.refl W1).drew.bl)
  replace HZ := hide (HZ.out.keep (Ext.refl W1).drew.bl)
  generalize W1.drew = t0 at HA HZ HX SA ⊢
  refine zd (i := 0) (d := 21) (v := .pointer (some ⟨w.heap.size, 0, none⟩)) rfl (by rfl) (by kernel_rfl) (by kernel_rfl) (fun _ _ _ h => by cases h.1) _ (by kernel_rfl) (by kernel_rfl) (Or.inl ⟨by kernel_rfl, ?_⟩) SA.out ?_
  ·intro w' h
   have z0 := h
   go_simp
   try rfl
  simp only [Act.put, sT, sZ, sS]
  refine zd (i := 1) (d := 22) (v := .pointer (some ⟨w.heap.size, 1, none⟩)) rfl (by rfl) (by kernel_rfl) (by kernel_rfl) (fun _ _ _ h => by cases h.1) _ (by kernel_rfl) (by kernel_rfl) (Or.inl ⟨by kernel_rfl, ?_⟩) SA.out ?_
  ·intro w' h
   have z0 := h
   go_simp
   try rfl
  simp only [Act.put, sT, sZ, sS]
  refine zd (i := 2) (d := 23) (v := .int .i64 1) rfl (by rfl) (by kernel_rfl) (by kernel_rfl) (fun _ _ _ h => by cases h.1) _ (by kernel_rfl) (by kernel_rfl) (Or.inl ⟨by kernel_rfl, ?_⟩) SA.out ?_
  ·intro w' h
   have z0 := h
   go_simp
   try rfl
  simp only [Act.put, sT, sZ, sS]
  refine zd (i := 3) (d := 24) (v := .int .i64 2) rfl (by rfl) (by kernel_rfl) (by kernel_rfl) (fun _ _ _ h => by cases h.1) _ (by kernel_rfl) (by kernel_rfl) (Or.inl ⟨by kernel_rfl, ?_⟩) SA.out ?_
  ·intro w' h
   have z0 := h
   go_simp
   try rfl
  simp only [Act.put, sT, sZ, sS]
  refine zd (i := 4) (d := 25) (v := .slice (some ⟨w.heap.size, 2, none⟩) 1 3) rfl (by rfl) (by kernel_rfl) (by kernel_rfl) (fun _ _ _ h => by cases h.1) _ (by kernel_rfl) (by kernel_rfl) (Or.inl ⟨by kernel_rfl, ?_⟩) SA.out ?_
  ·intro w' h
   have z0 := h
   go_simp
   try rfl
  simp only [Act.put, sT, sZ, sS]
  refine zd (i := 5) (d := 26) (v := .pointer (some ⟨w.heap.size, 0, none⟩)) rfl (by rfl) (by kernel_rfl) (by kernel_rfl) (fun _ _ _ h => by cases h.1) _ (by kernel_rfl) (by kernel_rfl) (Or.inl ⟨by kernel_rfl, ?_⟩) SA.out ?_
  ·intro w' h
   have z0 := h
   go_simp
   try rfl
  simp only [Act.put, sT, sZ, sS]
  refine zd (i := 6) (d := 27) (v := .pointer (some ⟨w.heap.size, 1, none⟩)) rfl (by rfl) (by kernel_rfl) (by kernel_rfl) (fun _ _ _ h => by cases h.1) _ (by kernel_rfl) (by kernel_rfl) (Or.inl ⟨by kernel_rfl, ?_⟩) SA.out ?_
  ·intro w' h
   have z0 := h
   go_simp
   try rfl
  simp only [Act.put, sT, sZ, sS]
  refine zd (i := 7) (d := 28) (v := .int .i64 1) rfl (by rfl) (by kernel_rfl) (by kernel_rfl) (fun _ _ _ h => by cases h.1) _ (by kernel_rfl) (by kernel_rfl) (Or.inl ⟨by kernel_rfl, ?_⟩) SA.out ?_
  ·intro w' h
   have z0 := h
   go_simp
   try rfl
  simp only [Act.put, sT, sZ, sS]
  refine zd (i := 8) (d := 29) (v := .int .i64 2) rfl (by rfl) (by kernel_rfl) (by kernel_rfl) (fun _ _ _ h => by cases h.1) _ (by kernel_rfl) (by kernel_rfl) (Or.inl ⟨by kernel_rfl, ?_⟩) SA.out ?_
  ·intro w' h
   have z0 := h
   go_simp
   try rfl
  simp only [Act.put, sT, sZ, sS]
  refine zd (i := 9) (d := 30) (v := .slice (some ⟨w.heap.size, 3, none⟩) 2 2) rfl (by rfl) (by kernel_rfl) (by kernel_rfl) (fun _ _ _ h => by cases h.1) _ (by kernel_rfl) (by kernel_rfl) (Or.inl ⟨by kernel_rfl, ?_⟩) SA.out ?_
  ·intro w' h
   have z0 := h
   go_simp
   try rfl
  simp only [Act.put, sT, sZ, sS]
  have hcp : (Builtin.copy_ #[25, 25] 3 #[.slice (some ⟨w.heap.size, 2, none⟩) 1 3, .slice (some ⟨w.heap.size, 3, none⟩) 2 2]).run Tryz.prog t0 = .ok (goInt 1) (t0.setCell ⟨w.heap.size, 2, none⟩ (.int .i64 a2)) := by
   have fzn := fun (q : Nat) => HX.out.unfrozen (b := w.heap.size) (Nat.le_refl _) q
   refine run_copy_cells (P := Tryz.prog) t0 25 25 3 2 w.heap.size 2 1 3 ⟨w.heap.size, 3, none⟩ 2 2 [.int .i64 a2] Tryz.underlying25 zy2 rfl ?_ ?_ (fun j _ => fzn _) (by simp [Value.oneCell'])
   ·intro j v hv
    have q := HA.out (3 + j) v (by
     rw [← hv]
     match j with
     | 0 => rfl
     | j + 1 => simp at hv)
    rw [Addr.add_lit]
    exact q
   ·intro j hj
    have hj' : j < 1 := hj
    have q := HA.out (2 + j) _ (List.getElem?_eq_getElem (by simp; omega))
    rw [q]; rfl
  refine zg (i := 10) (by kernel_rfl) rfl (fun K hK => ?_)
  go_simp
  refine hK.out _ _ (fun _ => trivial) ?_
  clear hK K
  try simp only [Act.put, sT, sZ, sS]
  refine zh (by kernel_rfl) ?_ _
  exact ⟨rfl, by kernel_rfl, (HX.out.fresh (Nat.le_refl _) 2 (.int .i64 a2)), (HA.out.set1 (j := 2) (by simp) (.int .i64 a2)), (HZ.out.other (B := w.heap.size) (j := 2) (by omega) (.int .i64 a2))⟩
 rintro a' W2 ⟨rfl, hx, ha, hz⟩
 replace HX := hide hx
 replace HA := hide ha
 replace HZ := hide hz
 clear hx ha hz SA
 simp only [Act.put, sT, sZ, sS]
 go_wp2_with fail
 have SA : Hid ((fun _ : World => True) W2.drew) := trivial
 refine zq (fun ac a' w' => a' = (((((((((ac.put (some 32) (.pointer (some ⟨w.heap.size, 5, none⟩))).put (some 33) (.int .i64 1)).put (some 34) (.int .i64 2)).put (some 35) (.slice (some ⟨w.heap.size, 6, none⟩) 1 3)).put (some 36) (.pointer (some ⟨w.heap.size, 5, none⟩))).put (some 37) (.int .i64 1)).put (some 38) (.int .i64 2)).put (some 39) (.slice (some ⟨w.heap.size, 7, none⟩) 2 2)).put (some 40) (.int .i64 1)) ∧ Ext w w' ∧ AtB w' w.heap.size [.int .i64 3, .int .i64 a0, .int .i64 a2, .int .i64 a2, .int .i64 a3, .int .i64 s0, .int .i64 s2, .int .i64 s2, .int .i64 s3, .int .i64 off] ∧ AtB w' (w.heap.size + 1) [.int .i64 0, .int .i64 0, .int .i64 0, .int .i64 0, .int .i64 0, .int .i64 0, .int .i64 0, .int .i64 0, .int .i64 0, .int .i64 0]) (S := (fun _ : World => True)) (late := []) (by kernel_rfl) ?_ ?_
 rotate_left
 ·replace HX := hide (HX.out.trans (Ext.refl W2).drew)
  replace HA := hide (HA.out.keep (Ext.refl W2).drew.bl)
  replace HZ := hide (HZ.out.keep (Ext.refl W2).drew.bl)
  generalize W2.drew = t0 at HA HZ HX SA ⊢
  refine zd (i := 0) (d := 32) (v := .pointer (some ⟨w.heap.size, 5, none⟩)) rfl (by rfl) (by kernel_rfl) (by kernel_rfl) (fun _ _ _ h => by cases h.1) _ (by kernel_rfl) (by kernel_rfl) (Or.inl ⟨by kernel_rfl, ?_⟩) SA.out ?_
  ·intro w' h
   have z0 := h
   go_simp
   try rfl
  simp only [Act.put, sT, sZ, sS]
  refine zd (i := 1) (d := 33) (v := .int .i64 1) rfl (by rfl) (by kernel_rfl) (by kernel_rfl) (fun _ _ _ h => by cases h.1) _ (by kernel_rfl) (by kernel_rfl) (Or.inl ⟨by kernel_rfl, ?_⟩) SA.out ?_
  ·intro w' h
   have z0 := h
   go_simp
   try rfl
  simp only [Act.put, sT, sZ, sS]
  refine zd (i := 2) (d := 34) (v := .int .i64 2) rfl (by rfl) (by kernel_rfl) (by kernel_rfl) (fun _ _ _ h => by cases h.1) _ (by kernel_rfl) (by kernel_rfl) (Or.inl ⟨by kernel_rfl, ?_⟩) SA.out ?_
  ·intro w' h
   have z0 := h
   go_simp
   try rfl
  simp only [Act.put, sT, sZ, sS]
  refine zd (i := 3) (d := 35) (v := .slice (some ⟨w.heap.size, 6, none⟩) 1 3) rfl (by rfl) (by kernel_rfl) (by kernel_rfl) (fun _ _ _ h => by cases h.1) _ (by kernel_rfl) (by kernel_rfl) (Or.inl ⟨by kernel_rfl, ?_⟩) SA.out ?_
  ·intro w' h
   have z0 := h
   go_simp
   try rfl
  simp only [Act.put, sT, sZ, sS]
  refine zd (i := 4) (d := 36) (v := .pointer (some ⟨w.heap.size, 5, none⟩)) rfl (by rfl) (by kernel_rfl) (by kernel_rfl) (fun _ _ _ h => by cases h.1) _ (by kernel_rfl) (by kernel_rfl) (Or.inl ⟨by kernel_rfl, ?_⟩) SA.out ?_
  ·intro w' h
   have z0 := h
   go_simp
   try rfl
  simp only [Act.put, sT, sZ, sS]
  refine zd (i := 5) (d := 37) (v := .int .i64 1) rfl (by rfl) (by kernel_rfl) (by kernel_rfl) (fun _ _ _ h => by cases h.1) _ (by kernel_rfl) (by kernel_rfl) (Or.inl ⟨by kernel_rfl, ?_⟩) SA.out ?_
  ·intro w' h
   have z0 := h
   go_simp
   try rfl
  simp only [Act.put, sT, sZ, sS]
  refine zd (i := 6) (d := 38) (v := .int .i64 2) rfl (by rfl) (by kernel_rfl) (by kernel_rfl) (fun _ _ _ h => by cases h.1) _ (by kernel_rfl) (by kernel_rfl) (Or.inl ⟨by kernel_rfl, ?_⟩) SA.out ?_
  ·intro w' h
   have z0 := h
   go_simp
   try rfl
  simp only [Act.put, sT, sZ, sS]
  refine zd (i := 7) (d := 39) (v := .slice (some ⟨w.heap.size, 7, none⟩) 2 2) rfl (by rfl) (by kernel_rfl) (by kernel_rfl) (fun _ _ _ h => by cases h.1) _ (by kernel_rfl) (by kernel_rfl) (Or.inl ⟨by kernel_rfl, ?_⟩) SA.out ?_
  ·intro w' h
   have z0 := h
   go_simp
   try rfl
  simp only [Act.put, sT, sZ, sS]
  have hcp : (Builtin.copy_ #[25, 25] 3 #[.slice (some ⟨w.heap.size, 6, none⟩) 1 3, .slice (some ⟨w.heap.size, 7, none⟩) 2 2]).run Tryz.prog t0 = .ok (goInt 1) (t0.setCell ⟨w.heap.size, 6, none⟩ (.int .i64 s2)) := by
   have fzn := fun (q : Nat) => HX.out.unfrozen (b := w.heap.size) (Nat.le_refl _) q
   refine run_copy_cells (P := Tryz.prog) t0 25 25 3 2 w.heap.size 6 1 3 ⟨w.heap.size, 7, none⟩ 2 2 [.int .i64 s2] Tryz.underlying25 zy2 rfl ?_ ?_ (fun j _ => fzn _) (by simp [Value.oneCell'])
   ·intro j v hv
    have q := HA.out (7 + j) v (by
     rw [← hv]
     match j with
     | 0 => rfl
     | j + 1 => simp at hv)
    rw [Addr.add_lit]
    exact q
   ·intro j hj
    have hj' : j < 1 := hj
    have q := HA.out (6 + j) _ (List.getElem?_eq_getElem (by simp; omega))
    rw [q]; rfl
  refine zg (i := 8) (by kernel_rfl) rfl (fun K hK => ?_)
  go_simp
  refine hK.out _ _ (fun _ => trivial) ?_
  clear hK K
  try simp only [Act.put, sT, sZ, sS]
  refine zh (by kernel_rfl) ?_ _
  exact ⟨rfl, by kernel_rfl, (HX.out.fresh (Nat.le_refl _) 6 (.int .i64 s2)), (HA.out.set1 (j := 6) (by simp) (.int .i64 s2)), (HZ.out.other (B := w.heap.size) (j := 6) (by omega) (.int .i64 s2))⟩
 rintro a' W3 ⟨rfl, hx, ha, hz⟩
 replace HX := hide hx
 replace HA := hide ha
 replace HZ := hide hz
 clear hx ha hz SA
 simp only [Act.put, sT, sZ, sS]
 have c0 : (_ : Option Value) = some (.int .i64 3) := HA.out 0 _ rfl
 have c1 : (_ : Option Value) = some (.int .i64 a0) := HA.out 1 _ rfl
 have c2 : (_ : Option Value) = some (.int .i64 a2) := HA.out 2 _ rfl
 have c3 : (_ : Option Value) = some (.int .i64 a2) := HA.out 3 _ rfl
 have c4 : (_ : Option Value) = some (.int .i64 a3) := HA.out 4 _ rfl
 have c5 : (_ : Option Value) = some (.int .i64 s0) := HA.out 5 _ rfl
 have c6 : (_ : Option Value) = some (.int .i64 s2) := HA.out 6 _ rfl
 have c7 : (_ : Option Value) = some (.int .i64 s2) := HA.out 7 _ rfl
 have c8 : (_ : Option Value) = some (.int .i64 s3) := HA.out 8 _ rfl
 have c9 : (_ : Option Value) = some (.int .i64 off) := HA.out 9 _ rfl
 have z0 : (_ : Option Value) = some (.int .i64 0) := HZ.out 0 _ rfl
 have z1 : (_ : Option Value) = some (.int .i64 0) := HZ.out 1 _ rfl
 have z2 : (_ : Option Value) = some (.int .i64 0) := HZ.out 2 _ rfl
 have z3 : (_ : Option Value) = some (.int .i64 0) := HZ.out 3 _ rfl
 have z4 : (_ : Option Value) = some (.int .i64 0) := HZ.out 4 _ rfl
 have z5 : (_ : Option Value) = some (.int .i64 0) := HZ.out 5 _ rfl
 have z6 : (_ : Option Value) = some (.int .i64 0) := HZ.out 6 _ rfl
 have z7 : (_ : Option Value) = some (.int .i64 0) := HZ.out 7 _ rfl
 have z8 : (_ : Option Value) = some (.int .i64 0) := HZ.out 8 _ rfl
 have z9 : (_ : Option Value) = some (.int .i64 0) := HZ.out 9 _ rfl
 have fzn : ∀ q, W3.frozen? ⟨w.heap.size, q, none⟩ = false := fun q => HX.out.unfrozen (Nat.le_refl _) q
 have fzm : ∀ q, W3.frozen? ⟨w.heap.size + 1, q, none⟩ = false := fun q => HX.out.unfrozen (by omega) q
 have HA2 := hide ((HA.out.set1 (j := 3) (by simp) (.int .i64 a1)).set1 (j := 7) (by simp) (.int .i64 s1))
 have HZ2 := hide ((HZ.out.other (B := w.heap.size) (j := 3) (by omega) (.int .i64 a1)).other (B := w.heap.size) (j := 7) (by omega) (.int .i64 s1))
 have HX2 := hide ((HX.out.fresh (Nat.le_refl _) 3 (.int .i64 a1)).fresh (Nat.le_refl _) 7 (.int .i64 s1))
 have HZ3 := hide ((((((((((HZ2.out.set1 (j := 0) (by simp) (.int .i64 3)).set1 (j := 1) (by simp) (.int .i64 a0)).set1 (j := 2) (by simp) (.int .i64 a2)).set1 (j := 3) (by simp) (.int .i64 a1)).set1 (j := 4) (by simp) (.int .i64 a3)).set1 (j := 5) (by simp) (.int .i64 s0)).set1 (j := 6) (by simp) (.int .i64 s2)).set1 (j := 7) (by simp) (.int .i64 s1)).set1 (j := 8) (by simp) (.int .i64 s3)).set1 (j := 9) (by simp) (.int .i64 off))
 have HX3 := hide ((((((((((HX2.out.fresh (B := w.heap.size + 1) (by omega) 0 (.int .i64 3)).fresh (B := w.heap.size + 1) (by omega) 1 (.int .i64 a0)).fresh (B := w.heap.size + 1) (by omega) 2 (.int .i64 a2)).fresh (B := w.heap.size + 1) (by omega) 3 (.int .i64 a1)).fresh (B := w.heap.size + 1) (by omega) 4 (.int .i64 a3)).fresh (B := w.heap.size + 1) (by omega) 5 (.int .i64 s0)).fresh (B := w.heap.size + 1) (by omega) 6 (.int .i64 s2)).fresh (B := w.heap.size + 1) (by omega) 7 (.int .i64 s1)).fresh (B := w.heap.size + 1) (by omega) 8 (.int .i64 s3)).fresh (B := w.heap.size + 1) (by omega) 9 (.int .i64 off))
 have y0 := HZ3.out 0 _ rfl
 have y1 := HZ3.out 1 _ rfl
 have y2 := HZ3.out 2 _ rfl
 have y3 := HZ3.out 3 _ rfl
 have y4 := HZ3.out 4 _ rfl
 have y5 := HZ3.out 5 _ rfl
 have y6 := HZ3.out 6 _ rfl
 have y7 := HZ3.out 7 _ rfl
 have y8 := HZ3.out 8 _ rfl
 have y9 := HZ3.out 9 _ rfl
 have HY : Hid True := trivial
 have d0 := HA2.out 0 _ rfl
 have d1 := HA2.out 1 _ rfl
 have d2 := HA2.out 2 _ rfl
 have d3 := HA2.out 3 _ rfl
 have d4 := HA2.out 4 _ rfl
 have d5 := HA2.out 5 _ rfl
 have d6 := HA2.out 6 _ rfl
 have d7 := HA2.out 7 _ rfl
 have d8 := HA2.out 8 _ rfl
 have d9 := HA2.out 9 _ rfl
 go_wp2_with fail
 refine bodyPost_ret (v := .agg #[.int .i64 3, .int .i64 a0, .int .i64 a2, .int .i64 a1, .int .i64 a3, .int .i64 s0, .int .i64 s2, .int .i64 s1, .int .i64 s3, .int .i64 off]) (by simp [results, Tryz.results83, go_sem, y0, y1, y2, y3, y4, y5, y6, y7, y8, y9]) rfl ⟨rfl, HX3.out⟩
theorem zl14 (w : World) (a0 a1 a2 a3 s0 s1 s2 s3 off : Int) :
  Calls Tryz.prog 83 #[.agg #[.int .i64 3, .int .i64 a0, .int .i64 a1, .int .i64 a2, .int .i64 a3, .int .i64 s0, .int .i64 s1, .int .i64 s2, .int .i64 s3, .int .i64 off], .int .i64 2] w fun e w' => e = .returned (.agg #[.int .i64 3, .int .i64 a0, .int .i64 a1, .int .i64 a2, .int .i64 a3, .int .i64 s0, .int .i64 s1, .int .i64 s2, .int .i64 s3, .int .i64 off]) ∧ Ext w w' := by
 have x0 : Ext w ((w.alloc (.cells #[.int .i64 3, .int .i64 a0, .int .i64 a1, .int .i64 a2, .int .i64 a3, .int .i64 s0, .int .i64 s1, .int .i64 s2, .int .i64 s3, .int .i64 off] 83)).alloc (.cells #[.int .i64 0, .int .i64 0, .int .i64 0, .int .i64 0, .int .i64 0, .int .i64 0, .int .i64 0, .int .i64 0, .int .i64 0, .int .i64 0] 83)) := ((Ext.refl w).alloc _ _).alloc _ _
 have x1 : Ext (w.alloc (.cells #[.int .i64 3, .int .i64 a0, .int .i64 a1, .int .i64 a2, .int .i64 a3, .int .i64 s0, .int .i64 s1, .int .i64 s2, .int .i64 s3, .int .i64 off] 83)) ((w.alloc (.cells #[.int .i64 3, .int .i64 a0, .int .i64 a1, .int .i64 a2, .int .i64 a3, .int .i64 s0, .int .i64 s1, .int .i64 s2, .int .i64 s3, .int .i64 off] 83)).alloc (.cells #[.int .i64 0, .int .i64 0, .int .i64 0, .int .i64 0, .int .i64 0, .int .i64 0, .int .i64 0, .int .i64 0, .int .i64 0, .int .i64 0] 83)) := (Ext.refl _).alloc _ _
 have A0 : AtB ((w.alloc (.cells #[.int .i64 3, .int .i64 a0, .int .i64 a1, .int .i64 a2, .int .i64 a3, .int .i64 s0, .int .i64 s1, .int .i64 s2, .int .i64 s3, .int .i64 off] 83)).alloc (.cells #[.int .i64 0, .int .i64 0, .int .i64 0, .int .i64 0, .int .i64 0, .int .i64 0, .int .i64 0, .int .i64 0, .int .i64 0, .int .i64 0] 83)) w.heap.size [.int .i64 3, .int .i64 a0, .int .i64 a1, .int .i64 a2, .int .i64 a3, .int .i64 s0, .int .i64 s1, .int .i64 s2, .int .i64 s3, .int .i64 off] := fun j x hx => x1.box ((ze w _ 83 _ rfl j).trans (by simpa using hx))
 have Z0 : AtB ((w.alloc (.cells #[.int .i64 3, .int .i64 a0, .int .i64 a1, .int .i64 a2, .int .i64 a3, .int .i64 s0, .int .i64 s1, .int .i64 s2, .int .i64 s3, .int .i64 off] 83)).alloc (.cells #[.int .i64 0, .int .i64 0, .int .i64 0, .int .i64 0, .int .i64 0, .int .i64 0, .int .i64 0, .int .i64 0, .int .i64 0, .int .i64 0] 83)) (w.heap.size + 1) [.int .i64 0, .int .i64 0, .int .i64 0, .int .i64 0, .int .i64 0, .int .i64 0, .int .i64 0, .int .i64 0, .int .i64 0, .int .i64 0] := fun j x hx => (ze _ _ 83 _ (by simp) j).trans (by simpa using hx)
 have HA := hide A0
 have HZ := hide Z0
 have HX := hide x0
 clear x0 x1 A0 Z0
 go_enter Tryz.func83, Tryz.ntmps83
 go_wp2_with fail
 generalize (w.alloc (.cells #[.int .i64 3, .int .i64 a0, .int .i64 a1, .int .i64 a2, .int .i64 a3, .int .i64 s0, .int .i64 s1, .int .i64 s2, .int .i64 s3, .int .i64 off] 83)).alloc (.cells #[.int .i64 0, .int .i64 0, .int .i64 0, .int .i64 0, .int .i64 0, .int .i64 0, .int .i64 0, .int .i64 0, .int .i64 0, .int .i64 0] 83) = W0 at HA HZ HX ⊢
 have c0 : (_ : Option Value) = some (.int .i64 3) := HA.out 0 _ rfl
 have c1 : (_ : Option Value) = some (.int .i64 a0) := HA.out 1 _ rfl
 have c2 : (_ : Option Value) = some (.int .i64 a1) := HA.out 2 _ rfl
 have c3 : (_ : Option Value) = some (.int .i64 a2) := HA.out 3 _ rfl
 have c4 : (_ : Option Value) = some (.int .i64 a3) := HA.out 4 _ rfl
 have c5 : (_ : Option Value) = some (.int .i64 s0) := HA.out 5 _ rfl
 have c6 : (_ : Option Value) = some (.int .i64 s1) := HA.out 6 _ rfl
 have c7 : (_ : Option Value) = some (.int .i64 s2) := HA.out 7 _ rfl
 have c8 : (_ : Option Value) = some (.int .i64 s3) := HA.out 8 _ rfl
 have c9 : (_ : Option Value) = some (.int .i64 off) := HA.out 9 _ rfl
 go_region
 go_wp2_with fail
 replace HX := hide (HX.out.trans (Ext.refl W0).drew)
 replace HA := hide (HA.out.keep (Ext.refl W0).drew.bl)
 replace HZ := hide (HZ.out.keep (Ext.refl W0).drew.bl)
 clear c0 c1 c2 c3 c4 c5 c6 c7 c8 c9
 try generalize W0.drew = W1 at HA HZ HX ⊢
 have SA : Hid ((fun _ : World => True) W1.drew) := trivial
 refine zq (fun ac a' w' => a' = (((((((((((ac.put (some 21) (.pointer (some ⟨w.heap.size, 0, none⟩))).put (some 22) (.pointer (some ⟨w.heap.size, 1, none⟩))).put (some 23) (.int .i64 2)).put (some 24) (.int .i64 2)).put (some 25) (.slice (some ⟨w.heap.size, 3, none⟩) 0 2)).put (some 26) (.pointer (some ⟨w.heap.size, 0, none⟩))).put (some 27) (.pointer (some ⟨w.heap.size, 1, none⟩))).put (some 28) (.int .i64 2)).put (some 29) (.int .i64 3)).put (some 30) (.slice (some ⟨w.heap.size, 4, none⟩) 1 1)).put (some 31) (.int .i64 0)) ∧ Ext w w' ∧ AtB w' w.heap.size [.int .i64 3, .int .i64 a0, .int .i64 a1, .int .i64 a2, .int .i64 a3, .int .i64 s0, .int .i64 s1, .int .i64 s2, .int .i64 s3, .int .i64 off] ∧ AtB w' (w.heap.size + 1) [.int .i64 0, .int .i64 0, .int .i64 0, .int .i64 0, .int .i64 0, .int .i64 0, .int .i64 0, .int .i64 0, .int .i64 0, .int .i64 0]) (S := (fun _ : World => True)) (late := []) (by kernel_rfl) ?_ ?_
 rotate_left
 ·replace HX := hide (HX.out.trans (Ext.refl W1).drew)
  replace HA := hide (HA.out.keep (Ext.refl W1).drew.bl)
  replace HZ := hide (HZ.out.keep (Ext.refl W1).drew.bl)
  generalize W1.drew = t0 at HA HZ HX SA ⊢
  refine zd (i := 0) (d := 21) (v := .pointer (some ⟨w.heap.size, 0, none⟩)) rfl (by rfl) (by kernel_rfl) (by kernel_rfl) (fun _ _ _ h => by cases h.1) _ (by kernel_rfl) (by kernel_rfl) (Or.inl ⟨by kernel_rfl, ?_⟩) SA.out ?_
  ·intro w' h
   have z0 := h
   go_simp
   try rfl
  simp only [Act.put, sT, sZ, sS]
  refine zd (i := 1) (d := 22) (v := .pointer (some ⟨w.heap.size, 1, none⟩)) rfl (by rfl) (by kernel_rfl) (by kernel_rfl) (fun _ _ _ h => by cases h.1) _ (by kernel_rfl) (by kernel_rfl) (Or.inl ⟨by kernel_rfl, ?_⟩) SA.out ?_
  ·intro w' h
   have z0 := h
   go_simp
   try rfl
  simp only [Act.put, sT, sZ, sS]
  refine zd (i := 2) (d := 23) (v := .int .i64 2) rfl (by rfl) (by kernel_rfl) (by kernel_rfl) (fun _ _ _ h => by cases h.1) _ (by kernel_rfl) (by kernel_rfl) (Or.inl ⟨by kernel_rfl, ?_⟩) SA.out ?_
  ·intro w' h
   have z0 := h
   go_simp
   try rfl
  simp only [Act.put, sT, sZ, sS]
  refine zd (i := 3) (d := 24) (v := .int .i64 2) rfl (by rfl) (by kernel_rfl) (by kernel_rfl) (fun _ _ _ h => by cases h.1) _ (by kernel_rfl) (by kernel_rfl) (Or.inl ⟨by kernel_rfl, ?_⟩) SA.out ?_
  ·intro w' h
   have z0 := h
   go_simp
   try rfl
  simp only [Act.put, sT, sZ, sS]
  refine zd (i := 4) (d := 25) (v := .slice (some ⟨w.heap.size, 3, none⟩) 0 2) rfl (by rfl) (by kernel_rfl) (by kernel_rfl) (fun _ _ _ h => by cases h.1) _ (by kernel_rfl) (by kernel_rfl) (Or.inl ⟨by kernel_rfl, ?_⟩) SA.out ?_
  ·intro w' h
   have z0 := h
   go_simp
   try rfl
  simp only [Act.put, sT, sZ, sS]
  refine zd (i := 5) (d := 26) (v := .pointer (some ⟨w.heap.size, 0, none⟩)) rfl (by rfl) (by kernel_rfl) (by kernel_rfl) (fun _ _ _ h => by cases h.1) _ (by kernel_rfl) (by kernel_rfl) (Or.inl ⟨by kernel_rfl, ?_⟩) SA.out ?_
  ·intro w' h
   have z0 := h
   go_simp
   try rfl
  simp only [Act.put, sT, sZ, sS]
  refine zd (i := 6) (d := 27) (v := .pointer (some ⟨w.heap.size, 1, none⟩)) rfl (by rfl) (by kernel_rfl) (by kernel_rfl) (fun _ _ _ h => by cases h.1) _ (by kernel_rfl) (by kernel_rfl) (Or.inl ⟨by kernel_rfl, ?_⟩) SA.out ?_
  ·intro w' h
   have z0 := h
   go_simp
   try rfl
  simp only [Act.put, sT, sZ, sS]
  refine zd (i := 7) (d := 28) (v := .int .i64 2) rfl (by rfl) (by kernel_rfl) (by kernel_rfl) (fun _ _ _ h => by cases h.1) _ (by kernel_rfl) (by kernel_rfl) (Or.inl ⟨by kernel_rfl, ?_⟩) SA.out ?_
  ·intro w' h
   have z0 := h
   go_simp
   try rfl
  simp only [Act.put, sT, sZ, sS]
  refine zd (i := 8) (d := 29) (v := .int .i64 3) rfl (by rfl) (by kernel_rfl) (by kernel_rfl) (fun _ _ _ h => by cases h.1) _ (by kernel_rfl) (by kernel_rfl) (Or.inl ⟨by kernel_rfl, ?_⟩) SA.out ?_
  ·intro w' h
   have z0 := h
   go_simp
   try rfl
  simp only [Act.put, sT, sZ, sS]
  refine zd (i := 9) (d := 30) (v := .slice (some ⟨w.heap.size, 4, none⟩) 1 1) rfl (by rfl) (by kernel_rfl) (by kernel_rfl) (fun _ _ _ h => by cases h.1) _ (by kernel_rfl) (by kernel_rfl) (Or.inl ⟨by kernel_rfl, ?_⟩) SA.out ?_
  ·intro w' h
   have z0 := h
   go_simp
   try rfl
  simp only [Act.put, sT, sZ, sS]
  have hcp := run_copy_none (P := Tryz.prog) t0 25 25 3 2 (some ⟨w.heap.size, 3, none⟩) (some ⟨w.heap.size, 4, none⟩) 0 2 1 1 Tryz.underlying25 zy2 rfl
  refine zg (i := 10) (by kernel_rfl) rfl (fun K hK => ?_)
  go_simp
  refine hK.out _ _ (fun _ => trivial) ?_
  clear hK K
  try simp only [Act.put, sT, sZ, sS]
  refine zh (by kernel_rfl) ?_ _
  exact ⟨rfl, by kernel_rfl, HX.out, HA.out, HZ.out⟩
 rintro a' W2 ⟨rfl, hx, ha, hz⟩
 replace HX := hide hx
 replace HA := hide ha
 replace HZ := hide hz
 clear hx ha hz SA
 simp only [Act.put, sT, sZ, sS]
 go_wp2_with fail
 have SA : Hid ((fun _ : World => True) W2.drew) := trivial
 refine zq (fun ac a' w' => a' = (((((((((ac.put (some 32) (.pointer (some ⟨w.heap.size, 5, none⟩))).put (some 33) (.int .i64 2)).put (some 34) (.int .i64 2)).put (some 35) (.slice (some ⟨w.heap.size, 7, none⟩) 0 2)).put (some 36) (.pointer (some ⟨w.heap.size, 5, none⟩))).put (some 37) (.int .i64 2)).put (some 38) (.int .i64 3)).put (some 39) (.slice (some ⟨w.heap.size, 8, none⟩) 1 1)).put (some 40) (.int .i64 0)) ∧ Ext w w' ∧ AtB w' w.heap.size [.int .i64 3, .int .i64 a0, .int .i64 a1, .int .i64 a2, .int .i64 a3, .int .i64 s0, .int .i64 s1, .int .i64 s2, .int .i64 s3, .int .i64 off] ∧ AtB w' (w.heap.size + 1) [.int .i64 0, .int .i64 0, .int .i64 0, .int .i64 0, .int .i64 0, .int .i64 0, .int .i64 0, .int .i64 0, .int .i64 0, .int .i64 0]) (S := (fun _ : World => True)) (late := []) (by kernel_rfl) ?_ ?_
 rotate_left
 ·replace HX := hide (HX.out.trans (Ext.refl W2).drew)
  replace HA := hide (HA.out.keep (Ext.refl W2).drew.bl)
  replace HZ := hide (HZ.out.keep (Ext.refl W2).drew.bl)
  generalize W2.drew = t0 at HA HZ HX SA ⊢
  refine zd (i := 0) (d := 32) (v := .pointer (some ⟨w.heap.size, 5, none⟩)) rfl (by rfl) (by kernel_rfl) (by kernel_rfl) (fun _ _ _ h => by cases h.1) _ (by kernel_rfl) (by kernel_rfl) (Or.inl ⟨by kernel_rfl, ?_⟩) SA.out ?_
  ·intro w' h
   have z0 := h
   go_simp
   try rfl
  simp only [Act.put, sT, sZ, sS]
  refine zd (i := 1) (d := 33) (v := .int .i64 2) rfl (by rfl) (by kernel_rfl) (by kernel_rfl) (fun _ _ _ h => by cases h.1) _ (by kernel_rfl) (by kernel_rfl) (Or.inl ⟨by kernel_rfl, ?_⟩) SA.out ?_
  ·intro w' h
   have z0 := h
   go_simp
   try rfl
  simp only [Act.put, sT, sZ, sS]
  refine zd (i := 2) (d := 34) (v := .int .i64 2) rfl (by rfl) (by kernel_rfl) (by kernel_rfl) (fun _ _ _ h => by cases h.1) _ (by kernel_rfl) (by kernel_rfl) (Or.inl ⟨by kernel_rfl, ?_⟩) SA.out ?_
  ·intro w' h
   have z0 := h
   go_simp
   try rfl
  simp only [Act.put, sT, sZ, sS]
  refine zd (i := 3) (d := 35) (v := .slice (some ⟨w.heap.size, 7, none⟩) 0 2) rfl (by rfl) (by kernel_rfl) (by kernel_rfl) (fun _ _ _ h => by cases h.1) _ (by kernel_rfl) (by kernel_rfl) (Or.inl ⟨by kernel_rfl, ?_⟩) SA.out ?_
  ·intro w' h
   have z0 := h
   go_simp
   try rfl
  simp only [Act.put, sT, sZ, sS]
  refine zd (i := 4) (d := 36) (v := .pointer (some ⟨w.heap.size, 5, none⟩)) rfl (by rfl) (by kernel_rfl) (by kernel_rfl) (fun _ _ _ h => by cases h.1) _ (by kernel_rfl) (by kernel_rfl) (Or.inl ⟨by kernel_rfl, ?_⟩) SA.out ?_
  ·intro w' h
   have z0 := h
   go_simp
   try rfl
  simp only [Act.put, sT, sZ, sS]
  refine zd (i := 5) (d := 37) (v := .int .i64 2) rfl (by rfl) (by kernel_rfl) (by kernel_rfl) (fun _ _ _ h => by cases h.1) _ (by kernel_rfl) (by kernel_rfl) (Or.inl ⟨by kernel_rfl, ?_⟩) SA.out ?_
  ·intro w' h
   have z0 := h
   go_simp
   try rfl
  simp only [Act.put, sT, sZ, sS]
  refine zd (i := 6) (d := 38) (v := .int .i64 3) rfl (by rfl) (by kernel_rfl) (by kernel_rfl) (fun _ _ _ h => by cases h.1) _ (by kernel_rfl) (by kernel_rfl) (Or.inl ⟨by kernel_rfl, ?_⟩) SA.out ?_
  ·intro w' h
   have z0 := h
   go_simp
   try rfl
  simp only [Act.put, sT, sZ, sS]
  refine zd (i := 7) (d := 39) (v := .slice (some ⟨w.heap.size, 8, none⟩) 1 1) rfl (by rfl) (by kernel_rfl) (by kernel_rfl) (fun _ _ _ h => by cases h.1) _ (by kernel_rfl) (by kernel_rfl) (Or.inl ⟨by kernel_rfl, ?_⟩) SA.out ?_
  ·intro w' h
   have z0 := h
   go_simp
   try rfl
  simp only [Act.put, sT, sZ, sS]
  have hcp := run_copy_none (P := Tryz.prog) t0 25 25 3 2 (some ⟨w.heap.size, 7, none⟩) (some ⟨w.heap.size, 8, none⟩) 0 2 1 1 Tryz.underlying25 zy2 rfl
  refine zg (i := 8) (by kernel_rfl) rfl (fun K hK => ?_)
  go_simp
  refine hK.out _ _ (fun _ => trivial) ?_
  clear hK K
  try simp only [Act.put, sT, sZ, sS]
  refine zh (by kernel_rfl) ?_ _
  exact ⟨rfl, by kernel_rfl, HX.out, HA.out, HZ.out⟩
 rintro a' W3 ⟨rfl, hx, ha, hz⟩
 replace HX := hide hx
 replace HA := hide ha
 replace HZ := hide hz
 clear hx ha hz SA
 simp only [Act.put, sT, sZ, sS]
 have c0 : (_ : Option Value) = some (.int .i64 3) := HA.out 0 _ rfl
 have c1 : (_ : Option Value) = some (.int .i64 a0) := HA.out 1 _ rfl
 have c2 : (_ : Option Value) = some (.int .i64 a1) := HA.out 2 _ rfl
 have c3 : (_ : Option Value) = some (.int .i64 a2) := HA.out 3 _ rfl
 have c4 : (_ : Option Value) = some (.int .i64 a3) := HA.out 4 _ rfl
 have c5 : (_ : Option Value) = some (.int .i64 s0) := HA.out 5 _ rfl
 have c6 : (_ : Option Value) = some (.int .i64 s1) := HA.out 6 _ rfl
 have c7 : (_ : Option Value) = some (.int .i64 s2) := HA.out 7 _ rfl
 have c8 : (_ : Option Value) = some (.int .i64 s3) := HA.out 8 _ rfl
 have c9 : (_ : Option Value) = some (.int .i64 off) := HA.out 9 _ rfl
 have z0 : (_ : Option Value) = some (.int .i64 0) := HZ.out 0 _ rfl
 have z1 : (_ : Option Value) = some (.int .i64 0) := HZ.out 1 _ rfl
 have z2 : (_ : Option Value) = some (.int .i64 0) := HZ.out 2 _ rfl
 have z3 : (_ : Option Value) = some (.int .i64 0) := HZ.out 3 _ rfl
 have z4 : (_ : Option Value) = some (.int .i64 0) := HZ.out 4 _ rfl
 have z5 : (_ : Option Value) = some (.int .i64 0) := HZ.out 5 _ rfl
 have z6 : (_ : Option Value) = some (.int .i64 0) := HZ.out 6 _ rfl
 have z7 : (_ : Option Value) = some (.int .i64 0) := HZ.out 7 _ rfl
 have z8 : (_ : Option Value) = some (.int .i64 0) := HZ.out 8 _ rfl
 have z9 : (_ : Option Value) = some (.int .i64 0) := HZ.out 9 _ rfl
 have fzn : ∀ q, W3.frozen? ⟨w.heap.size, q, none⟩ = false := fun q => HX.out.unfrozen (Nat.le_refl _) q
 have fzm : ∀ q, W3.frozen? ⟨w.heap.size + 1, q, none⟩ = false := fun q => HX.out.unfrozen (by omega) q
 have HA2 := hide ((HA.out.set1 (j := 3) (by simp) (.int .i64 a2)).set1 (j := 7) (by simp) (.int .i64 s2))
 have HZ2 := hide ((HZ.out.other (B := w.heap.size) (j := 3) (by omega) (.int .i64 a2)).other (B := w.heap.size) (j := 7) (by omega) (.int .i64 s2))
 have HX2 := hide ((HX.out.fresh (Nat.le_refl _) 3 (.int .i64 a2)).fresh (Nat.le_refl _) 7 (.int .i64 s2))
 have HZ3 := hide ((((((((((HZ2.out.set1 (j := 0) (by simp) (.int .i64 3)).set1 (j := 1) (by simp) (.int .i64 a0)).set1 (j := 2) (by simp) (.int .i64 a1)).set1 (j := 3) (by simp) (.int .i64 a2)).set1 (j := 4) (by simp) (.int .i64 a3)).set1 (j := 5) (by simp) (.int .i64 s0)).set1 (j := 6) (by simp) (.int .i64 s1)).set1 (j := 7) (by simp) (.int .i64 s2)).set1 (j := 8) (by simp) (.int .i64 s3)).set1 (j := 9) (by simp) (.int .i64 off))
 have HX3 := hide ((((((((((HX2.out.fresh (B := w.heap.size + 1) (by omega) 0 (.int .i64 3)).fresh (B := w.heap.size + 1) (by omega) 1 (.int .i64 a0)).fresh (B := w.heap.size + 1) (by omega) 2 (.int .i64 a1)).fresh (B := w.heap.size + 1) (by omega) 3 (.int .i64 a2)).fresh (B := w.heap.size + 1) (by omega) 4 (.int .i64 a3)).fresh (B := w.heap.size + 1) (by omega) 5 (.int .i64 s0)).fresh (B := w.heap.size + 1) (by omega) 6 (.int .i64 s1)).fresh (B := w.heap.size + 1) (by omega) 7 (.int .i64 s2)).fresh (B := w.heap.size + 1) (by omega) 8 (.int .i64 s3)).fresh (B := w.heap.size + 1) (by omega) 9 (.int .i64 off))
 have y0 := HZ3.out 0 _ rfl
 have y1 := HZ3.out 1 _ rfl
 have y2 := HZ3.out 2 _ rfl
 have y3 := HZ3.out 3 _ rfl
 have y4 := HZ3.out 4 _ rfl
 have y5 := HZ3.out 5 _ rfl
 have y6 := HZ3.out 6 _ rfl
 have y7 := HZ3.out 7 _ rfl
 have y8 := HZ3.out 8 _ rfl
 have y9 := HZ3.out 9 _ rfl
 have HY : Hid True := trivial
 have d0 := HA2.out 0 _ rfl
 have d1 := HA2.out 1 _ rfl
 have d2 := HA2.out 2 _ rfl
 have d3 := HA2.out 3 _ rfl
 have d4 := HA2.out 4 _ rfl
 have d5 := HA2.out 5 _ rfl
 have d6 := HA2.out 6 _ rfl
 have d7 := HA2.out 7 _ rfl
 have d8 := HA2.out 8 _ rfl
 have d9 := HA2.out 9 _ rfl
 go_wp2_with fail
 refine bodyPost_ret (v := .agg #[.int .i64 3, .int .i64 a0, .int .i64 a1, .int .i64 a2, .int .i64 a3, .int .i64 s0, .int .i64 s1, .int .i64 s2, .int .i64 s3, .int .i64 off]) (by simp [results, Tryz.results83, go_sem, y0, y1, y2, y3, y4, y5, y6, y7, y8, y9]) rfl ⟨rfl, HX3.out⟩
theorem zk14 (w : World) (a0 a1 a2 a3 s0 s1 s2 s3 off : Int) :
  Calls Tryz.prog 83 #[.agg #[.int .i64 4, .int .i64 a0, .int .i64 a1, .int .i64 a2, .int .i64 a3, .int .i64 s0, .int .i64 s1, .int .i64 s2, .int .i64 s3, .int .i64 off], .int .i64 0] w fun e w' => e = .returned (.agg #[.int .i64 4, .int .i64 a1, .int .i64 a2, .int .i64 a3, .int .i64 a0, .int .i64 s1, .int .i64 s2, .int .i64 s3, .int .i64 s0, .int .i64 off]) ∧ Ext w w' := by
 have x0 : Ext w ((w.alloc (.cells #[.int .i64 4, .int .i64 a0, .int .i64 a1, .int .i64 a2, .int .i64 a3, .int .i64 s0, .int .i64 s1, .int .i64 s2, .int .i64 s3, .int .i64 off] 83)).alloc (.cells #[.int .i64 0, .int .i64 0, .int .i64 0, .int .i64 0, .int .i64 0, .int .i64 0, .int .i64 0, .int .i64 0, .int .i64 0, .int .i64 0] 83)) := ((Ext.refl w).alloc _ _).alloc _ _
 have x1 : Ext (w.alloc (.cells #[.int .i64 4, .int .i64 a0, .int .i64 a1, .int .i64 a2, .int .i64 a3, .int .i64 s0, .int .i64 s1, .int .i64 s2, .int .i64 s3, .int .i64 off] 83)) ((w.alloc (.cells #[.int .i64 4, .int .i64 a0, .int .i64 a1, .int .i64 a2, .int .i64 a3, .int .i64 s0, .int .i64 s1, .int .i64 s2, .int .i64 s3, .int .i64 off] 83)).alloc (.cells #[.int .i64 0, .int .i64 0, .int .i64 0, .int .i64 0, .int .i64 0, .int .i64 0, .int .i64 0, .int .i64 0, .int .i64 0, .int .i64 0] 83)) := (Ext.refl _).alloc _ _
 have A0 : AtB ((w.alloc (.cells #[.int .i64 4, .int .i64 a0, .int .i64 a1, .int .i64 a2, .int .i64 a3, .int .i64 s0, .int .i64 s1, .int .i64 s2, .int .i64 s3, .int .i64 off] 83)).alloc (.cells #[.int .i64 0, .int .i64 0, .int .i64 0, .int .i64 0, .int .i64 0, .int .i64 0, .int .i64 0, .int .i64 0, .int .i64 0, .int .i64 0] 83)) w.heap.size [.int .i64 4, .int .i64 a0, .int .i64 a1, .int .i64 a2, .int .i64 a3, .int .i64 s0, .int .i64 s1, .int .i64 s2, .int .i64 s3, .int .i64 off] := fun j x hx => x1.box ((ze w _ 83 _ rfl j).trans (by simpa using hx))
 have Z0 : AtB ((w.alloc (.cells #[.int .i64 4, .int .i64 a0, .int .i64 a1, .int .i64 a2, .int .i64 a3, .int .i64 s0, .int .i64 s1, .int .i64 s2, .int .i64 s3, .int .i64 off] 83)).alloc (.cells #[.int .i64 0, .int .i64 0, .int .i64 0, .int .i64 0, .int .i64 0, .int .i64 0, .int .i64 0, .int .i64 0, .int .i64 0, .int .i64 0] 83)) (w.heap.size + 1) [.int .i64 0, .int .i64 0, .int .i64 0, .int .i64 0, .int .i64 0, .int .i64 0, .int .i64 0, .int .i64 0, .int .i64 0, .int .i64 0] := fun j x hx => (ze _ _ 83 _ (by simp) j).trans (by simpa using hx)
 have HA := hide A0
 have HZ := hide Z0
 have HX := hide x0
 clear x0 x1 A0 Z0
 go_enter Tryz.func83, Tryz.ntmps83
 go_wp2_with fail
 generalize (w.alloc (.cells #[.int .i64 4, .int .i64 a0, .int .i64 a1, .int .i64 a2, .int .i64 a3, .int .i64 s0, .int .i64 s1, .int .i64 s2, .int .i64 s3, .int .i64 off] 83)).alloc (.cells #[.int .i64 0, .int .i64 0, .int .i64 0, .int .i64 0, .int .i64 0, .int .i64 0, .int .i64 0, .int .i64 0, .int .i64 0, .int .i64 0] 83) = W0 at HA HZ HX ⊢
 have c0 : (_ : Option Value) = some (.int .i64 4) := HA.out 0 _ rfl
 have c1 : (_ : Option Value) = some (.int .i64 a0) := HA.out 1 _ rfl
 have c2 : (_ : Option Value) = some (.int .i64 a1) := HA.out 2 _ rfl
 have c3 : (_ : Option Value) = some (.int .i64 a2) := HA.out 3 _ rfl
 have c4 : (_ : Option Value) = some (.int .i64 a3) := HA.out 4 _ rfl
 have c5 : (_ : Option Value) = some (.int .i64 s0) := HA.out 5 _ rfl
 have c6 : (_ : Option Value) = some (.int .i64 s1) := HA.out 6 _ rfl
 have c7 : (_ : Option Value) = some (.int .i64 s2) := HA.out 7 _ rfl
 have c8 : (_ : Option Value) = some (.int .i64 s3) := HA.out 8 _ rfl
 have c9 : (_ : Option Value) = some (.int .i64 off) := HA.out 9 _ rfl
 go_region
 go_wp2_with fail
 replace HX := hide (HX.out.trans (Ext.refl W0).drew)
 replace HA := hide (HA.out.keep (Ext.refl W0).drew.bl)
 replace HZ := hide (HZ.out.keep (Ext.refl W0).drew.bl)
 clear c0 c1 c2 c3 c4 c5 c6 c7 c8 c9
 try generalize W0.drew = W1 at HA HZ HX ⊢
 have SA : Hid ((fun _ : World => True) W1.drew) := trivial
 refine zq (fun ac a' w' => a' = (((((((((((ac.put (some 21) (.pointer (some ⟨w.heap.size, 0, none⟩))).put (some 22) (.pointer (some ⟨w.heap.size, 1, none⟩))).put (some 23) (.int .i64 0)).put (some 24) (.int .i64 3)).put (some 25) (.slice (some ⟨w.heap.size, 1, none⟩) 3 4)).put (some 26) (.pointer (some ⟨w.heap.size, 0, none⟩))).put (some 27) (.pointer (some ⟨w.heap.size, 1, none⟩))).put (some 28) (.int .i64 0)).put (some 29) (.int .i64 1)).put (some 30) (.slice (some ⟨w.heap.size, 2, none⟩) 3 3)).put (some 31) (.int .i64 3)) ∧ Ext w w' ∧ AtB w' w.heap.size [.int .i64 4, .int .i64 a1, .int .i64 a2, .int .i64 a3, .int .i64 a3, .int .i64 s0, .int .i64 s1, .int .i64 s2, .int .i64 s3, .int .i64 off] ∧ AtB w' (w.heap.size + 1) [.int .i64 0, .int .i64 0, .int .i64 0, .int .i64 0, .int .i64 0, .int .i64 0, .int .i64 0, .int .i64 0, .int .i64 0, .int .i64 0]) (S := (fun _ : World => True)) (late := []) (by kernel_rfl) ?_ ?_
 rotate_left
 ·replace HX := hide (HX.out.trans (Ext.refl W1).drew)
  replace HA := hide (HA.out.keep (Ext.refl W1).drew.bl)
  replace HZ := hide (HZ.out.keep (Ext.refl W1).drew.bl)
  generalize W1.drew = t0 at HA HZ HX SA ⊢
  refine zd (i := 0) (d := 21) (v := .pointer (some ⟨w.heap.size, 0, none⟩)) rfl (by rfl) (by kernel_rfl) (by kernel_rfl) (fun _ _ _ h => by cases h.1) _ (by kernel_rfl) (by kernel_rfl) (Or.inl ⟨by kernel_rfl, ?_⟩) SA.out ?_
  ·intro w' h
   have z0 := h
   go_simp
   try rfl
  simp only [Act.put, sT, sZ, sS]
  refine zd (i := 1) (d := 22) (v := .pointer (some ⟨w.heap.size, 1, none⟩)) rfl (by rfl) (by kernel_rfl) (by kernel_rfl) (fun _ _ _ h => by cases h.1) _ (by kernel_rfl) (by kernel_rfl) (Or.inl ⟨by kernel_rfl, ?_⟩) SA.out ?_
  ·intro w' h
   have z0 := h
   go_simp
   try rfl
  simp only [Act.put, sT, sZ, sS]
  refine zd (i := 2) (d := 23) (v := .int .i64 0) rfl (by rfl) (by kernel_rfl) (by kernel_rfl) (fun _ _ _ h => by cases h.1) _ (by kernel_rfl) (by kernel_rfl) (Or.inl ⟨by kernel_rfl, ?_⟩) SA.out ?_
  ·intro w' h
   have z0 := h
   go_simp
   try rfl
  simp only [Act.put, sT, sZ, sS]
  refine zd (i := 3) (d := 24) (v := .int .i64 3) rfl (by rfl) (by kernel_rfl) (by kernel_rfl) (fun _ _ _ h => by cases h.1) _ (by kernel_rfl) (by kernel_rfl) (Or.inl ⟨by kernel_rfl, ?_⟩) SA.out ?_
  ·intro w' h
   have z0 := h
   go_simp
   try rfl
  simp only [Act.put, sT, sZ, sS]
  refine zd (i := 4) (d := 25) (v := .slice (some ⟨w.heap.size, 1, none⟩) 3 4) rfl (by rfl) (by kernel_rfl) (by kernel_rfl) (fun _ _ _ h => by cases h.1) _ (by kernel_rfl) (by kernel_rfl) (Or.inl ⟨by kernel_rfl, ?_⟩) SA.out ?_
  ·intro w' h
   have z0 := h
   go_simp
   try rfl
  simp only [Act.put, sT, sZ, sS]
  refine zd (i := 5) (d := 26) (v := .pointer (some ⟨w.heap.size, 0, none⟩)) rfl (by rfl) (by kernel_rfl) (by kernel_rfl) (fun _ _ _ h => by cases h.1) _ (by kernel_rfl) (by kernel_rfl) (Or.inl ⟨by kernel_rfl, ?_⟩) SA.out ?_
  ·intro w' h
   have z0 := h
   go_simp
   try rfl
  simp only [Act.put, sT, sZ, sS]
  refine zd (i := 6) (d := 27) (v := .pointer (some ⟨w.heap.size, 1, none⟩)) rfl (by rfl) (by kernel_rfl) (by kernel_rfl) (fun _ _ _ h => by cases h.1) _ (by kernel_rfl) (by kernel_rfl) (Or.inl ⟨by kernel_rfl, ?_⟩) SA.out ?_
  ·intro w' h
   have z0 := h
   go_simp
   try rfl
  simp only [Act.put, sT, sZ, sS]
  refine zd (i := 7) (d := 28) (v := .int .i64 0) rfl (by rfl) (by kernel_rfl) (by kernel_rfl) (fun _ _ _ h => by cases h.1) _ (by kernel_rfl) (by kernel_rfl) (Or.inl ⟨by kernel_rfl, ?_⟩) SA.out ?_
  ·intro w' h
   have z0 := h
   go_simp
   try rfl
  simp only [Act.put, sT, sZ, sS]
  refine zd (i := 8) (d := 29) (v := .int .i64 1) rfl (by rfl) (by kernel_rfl) (by kernel_rfl) (fun _ _ _ h => by cases h.1) _ (by kernel_rfl) (by kernel_rfl) (Or.inl ⟨by kernel_rfl, ?_⟩) SA.out ?_
  ·intro w' h
   have z0 := h
   go_simp
   try rfl
  simp only [Act.put, sT, sZ, sS]
  refine zd (i := 9) (d := 30) (v := .slice (some ⟨w.heap.size, 2, none⟩) 3 3) rfl (by rfl) (by kernel_rfl) (by kernel_rfl) (fun _ _ _ h => by cases h.1) _ (by kernel_rfl) (by kernel_rfl) (Or.inl ⟨by kernel_rfl, ?_⟩) SA.out ?_
  ·intro w' h
   have z0 := h
   go_simp
   try rfl
  simp only [Act.put, sT, sZ, sS]
  have hcp : (Builtin.copy_ #[25, 25] 3 #[.slice (some ⟨w.heap.size, 1, none⟩) 3 4, .slice (some ⟨w.heap.size, 2, none⟩) 3 3]).run Tryz.prog t0 = .ok (goInt 3) (((t0.setCell ⟨w.heap.size, 1, none⟩ (.int .i64 a1)).setCell ⟨w.heap.size, 2, none⟩ (.int .i64 a2)).setCell ⟨w.heap.size, 3, none⟩ (.int .i64 a3)) := by
   have fzn := fun (q : Nat) => HX.out.unfrozen (b := w.heap.size) (Nat.le_refl _) q
   refine run_copy_cells (P := Tryz.prog) t0 25 25 3 2 w.heap.size 1 3 4 ⟨w.heap.size, 2, none⟩ 3 3 [.int .i64 a1, .int .i64 a2, .int .i64 a3] Tryz.underlying25 zy2 rfl ?_ ?_ (fun j _ => fzn _) (by simp [Value.oneCell'])
   ·intro j v hv
    have q := HA.out (2 + j) v (by
     rw [← hv]
     match j with
     | 0 => rfl
     | 1 => rfl
     | 2 => rfl
     | j + 3 => simp at hv)
    rw [Addr.add_lit]
    exact q
   ·intro j hj
    have hj' : j < 3 := hj
    have q := HA.out (1 + j) _ (List.getElem?_eq_getElem (by simp; omega))
    rw [q]; rfl
  refine zg (i := 10) (by kernel_rfl) rfl (fun K hK => ?_)
  go_simp
  refine hK.out _ _ (fun _ => trivial) ?_
  clear hK K
  try simp only [Act.put, sT, sZ, sS]
  refine zh (by kernel_rfl) ?_ _
  exact ⟨rfl, by kernel_rfl, (((HX.out.fresh (Nat.le_refl _) 1 (.int .i64 a1)).fresh (Nat.le_refl _) 2 (.int .i64 a2)).fresh (Nat.le_refl _) 3 (.int .i64 a3)), (((HA.out.set1 (j := 1) (by simp) (.int .i64 a1)).set1 (j := 2) (by simp) (.int .i64 a2)).set1 (j := 3) (by simp) (.int .i64 a3)), (((HZ.out.other (B := w.heap.size) (j := 1) (by omega) (.int .i64 a1)).other (B := w.heap.size) (j := 2) (by omega) (.int .i64 a2)).other (B := w.heap.size) (j := 3) (by omega) (.int .i64 a3))⟩
 rintro a' W2 ⟨rfl, hx, ha, hz⟩
 replace HX := hide hx
 replace HA := hide ha
 replace HZ := hide hz
 clear hx ha hz SA
 simp only [Act.put, sT, sZ, sS]
 go_wp2_with fail
 have SA : Hid ((fun _ : World => True) W2.drew) := trivial
 refine zq (fun ac a' w' => a' = (((((((((ac.put (some 32) (.pointer (some ⟨w.heap.size, 5, none⟩))).put (some 33) (.int .i64 0)).put (some 34) (.int .i64 3)).put (some 35) (.slice (some ⟨w.heap.size, 5, none⟩) 3 4)).put (some 36) (.pointer (some ⟨w.heap.size, 5, none⟩))).put (some 37) (.int .i64 0)).put (some 38) (.int .i64 1)).put (some 39) (.slice (some ⟨w.heap.size, 6, none⟩) 3 3)).put (some 40) (.int .i64 3)) ∧ Ext w w' ∧ AtB w' w.heap.size [.int .i64 4, .int .i64 a1, .int .i64 a2, .int .i64 a3, .int .i64 a3, .int .i64 s1, .int .i64 s2, .int .i64 s3, .int .i64 s3, .int .i64 off] ∧ AtB w' (w.heap.size + 1) [.int .i64 0, .int .i64 0, .int .i64 0, .int .i64 0, .int .i64 0, .int .i64 0, .int .i64 0, .int .i64 0, .int .i64 0, .int .i64 0]) (S := (fun _ : World => True)) (late := []) (by kernel_rfl) ?_ ?_
 rotate_left
 ·replace HX := hide (HX.out.trans (Ext.refl W2).drew)
  replace HA := hide (HA.out.keep (Ext.refl W2).drew.bl)
  replace HZ := hide (HZ.out.keep (Ext.refl W2).drew.bl)
  generalize W2.drew = t0 at HA HZ HX SA ⊢
  refine zd (i := 0) (d := 32) (v := .pointer (some ⟨w.heap.size, 5, none⟩)) rfl (by rfl) (by kernel_rfl) (by kernel_rfl) (fun _ _ _ h => by cases h.1) _ (by kernel_rfl) (by kernel_rfl) (Or.inl ⟨by kernel_rfl, ?_⟩) SA.out ?_
  ·intro w' h
   have z0 := h
   go_simp
   try rfl
  simp only [Act.put, sT, sZ, sS]
  refine zd (i := 1) (d := 33) (v := .int .i64 0) rfl (by rfl) (by kernel_rfl) (by kernel_rfl) (fun _ _ _ h => by cases h.1) _ (by kernel_rfl) (by kernel_rfl) (Or.inl ⟨by kernel_rfl, ?_⟩) SA.out ?_
  ·intro w' h
   have z0 := h
   go_simp
   try rfl
  simp only [Act.put, sT, sZ, sS]
  refine zd (i := 2) (d := 34) (v := .int .i64 3) rfl (by rfl) (by kernel_rfl) (by kernel_rfl) (fun _ _ _ h => by cases h.1) _ (by kernel_rfl) (by kernel_rfl) (Or.inl ⟨by kernel_rfl, ?_⟩) SA.out ?_
  ·intro w' h
   have z0 := h
   go_simp
   try rfl
  simp only [Act.put, sT, sZ, sS]
  refine zd (i := 3) (d := 35) (v := .slice (some ⟨w.heap.size, 5, none⟩) 3 4) rfl (by rfl) (by kernel_rfl) (by kernel_rfl) (fun _ _ _ h => by cases h.1) _ (by kernel_rfl) (by kernel_rfl) (Or.inl ⟨by kernel_rfl, ?_⟩) SA.out ?_
  ·intro w' h
   have z0 := h
   go_simp
   try rfl
  simp only [Act.put, sT, sZ, sS]
  refine zd (i := 4) (d := 36) (v := .pointer (some ⟨w.heap.size, 5, none⟩)) rfl (by rfl) (by kernel_rfl) (by kernel_rfl) (fun _ _ _ h => by cases h.1) _ (by kernel_rfl) (by kernel_rfl) (Or.inl ⟨by kernel_rfl, ?_⟩) SA.out ?_
  ·intro w' h
   have z0 := h
   go_simp
   try rfl
  simp only [Act.put, sT, sZ, sS]
  refine zd (i := 5) (d := 37) (v := .int .i64 0) rfl (by rfl) (by kernel_rfl) (by kernel_rfl) (fun _ _ _ h => by cases h.1) _ (by kernel_rfl) (by kernel_rfl) (Or.inl ⟨by kernel_rfl, ?_⟩) SA.out ?_
  ·intro w' h
   have z0 := h
   go_simp
   try rfl
  simp only [Act.put, sT, sZ, sS]
  refine zd (i := 6) (d := 38) (v := .int .i64 1) rfl (by rfl) (by kernel_rfl) (by kernel_rfl) (fun _ _ _ h => by cases h.1) _ (by kernel_rfl) (by kernel_rfl) (Or.inl ⟨by kernel_rfl, ?_⟩) SA.out ?_
  ·intro w' h
   have z0 := h
   go_simp
   try rfl
  simp only [Act.put, sT, sZ, sS]
  refine zd (i := 7) (d := 39) (v := .slice (some ⟨w.heap.size, 6, none⟩) 3 3) rfl (by rfl) (by kernel_rfl) (by kernel_rfl) (fun _ _ _ h => by cases h.1) _ (by kernel_rfl) (by kernel_rfl) (Or.inl ⟨by kernel_rfl, ?_⟩) SA.out ?_
  ·intro w' h
   have z0 := h
   go_simp
   try rfl
  simp only [Act.put, sT, sZ, sS]
  have hcp : (Builtin.copy_ #[25, 25] 3 #[.slice (some ⟨w.heap.size, 5, none⟩) 3 4, .slice (some ⟨w.heap.size, 6, none⟩) 3 3]).run Tryz.prog t0 = .ok (goInt 3) (((t0.setCell ⟨w.heap.size, 5, none⟩ (.int .i64 s1)).setCell ⟨w.heap.size, 6, none⟩ (.int .i64 s2)).setCell ⟨w.heap.size, 7, none⟩ (.int .i64 s3)) := by
   have fzn := fun (q : Nat) => HX.out.unfrozen (b := w.heap.size) (Nat.le_refl _) q
   refine run_copy_cells (P := Tryz.prog) t0 25 25 3 2 w.heap.size 5 3 4 ⟨w.heap.size, 6, none⟩ 3 3 [.int .i64 s1, .int .i64 s2, .int .i64 s3] Tryz.underlying25 zy2 rfl ?_ ?_ (fun j _ => fzn _) (by simp [Value.oneCell'])
   ·intro j v hv
    have q := HA.out (6 + j) v (by
     rw [← hv]
     match j with
     | 0 => rfl
     | 1 => rfl
     | 2 => rfl
     | j + 3 => simp at hv)
    rw [Addr.add_lit]
    exact q
   ·intro j hj
    have hj' : j < 3 := hj
    have q := HA.out (5 + j) _ (List.getElem?_eq_getElem (by simp; omega))
    rw [q]; rfl
  refine zg (i := 8) (by kernel_rfl) rfl (fun K hK => ?_)
  go_simp
  refine hK.out _ _ (fun _ => trivial) ?_
  clear hK K
  try simp only [Act.put, sT, sZ, sS]
  refine zh (by kernel_rfl) ?_ _
  exact ⟨rfl, by kernel_rfl, (((HX.out.fresh (Nat.le_refl _) 5 (.int .i64 s1)).fresh (Nat.le_refl _) 6 (.int .i64 s2)).fresh (Nat.le_refl _) 7 (.int .i64 s3)), (((HA.out.set1 (j := 5) (by simp) (.int .i64 s1)).set1 (j := 6) (by simp) (.int .i64 s2)).set1 (j := 7) (by simp) (.int .i64 s3)), (((HZ.out.other (B := w.heap.size) (j := 5) (by omega) (.int .i64 s1)).other (B := w.heap.size) (j := 6) (by omega) (.int .i64 s2)).other (B := w.heap.size) (j := 7) (by omega) (.int .i64 s3))⟩
 rintro a' W3 ⟨rfl, hx, ha, hz⟩
 replace HX := hide hx
 replace HA := hide ha
 replace HZ := hide hz
 clear hx ha hz SA
 simp only [Act.put, sT, sZ, sS]
 have c0 : (_ : Option Value) = some (.int .i64 4) := HA.out 0 _ rfl
 have c1 : (_ : Option Value) = some (.int .i64 a1) := HA.out 1 _ rfl
 have c2 : (_ : Option Value) = some (.int .i64 a2) := HA.out 2 _ rfl
 have c3 : (_ : Option Value) = some (.int .i64 a3) := HA.out 3 _ rfl
 have c4 : (_ : Option Value) = some (.int .i64 a3) := HA.out 4 _ rfl
 have c5 : (_ : Option Value) = some (.int .i64 s1) := HA.out 5 _ rfl
 have c6 : (_ : Option Value) = some (.int .i64 s2) := HA.out 6 _ rfl
 have c7 : (_ : Option Value) = some (.int .i64 s3) := HA.out 7 _ rfl
 have c8 : (_ : Option Value) = some (.int .i64 s3) := HA.out 8 _ rfl
 have c9 : (_ : Option Value) = some (.int .i64 off) := HA.out 9 _ rfl
 have z0 : (_ : Option Value) = some (.int .i64 0) := HZ.out 0 _ rfl
 have z1 : (_ : Option Value) = some (.int .i64 0) := HZ.out 1 _ rfl
 have z2 : (_ : Option Value) = some (.int .i64 0) := HZ.out 2 _ rfl
 have z3 : (_ : Option Value) = some (.int .i64 0) := HZ.out 3 _ rfl
 have z4 : (_ : Option Value) = some (.int .i64 0) := HZ.out 4 _ rfl
 have z5 : (_ : Option Value) = some (.int .i64 0) := HZ.out 5 _ rfl
 have z6 : (_ : Option Value) = some (.int .i64 0) := HZ.out 6 _ rfl
 have z7 : (_ : Option Value) = some (.int .i64 0) := HZ.out 7 _ rfl
 have z8 : (_ : Option Value) = some (.int .i64 0) := HZ.out 8 _ rfl
 have z9 : (_ : Option Value) = some (.int .i64 0) := HZ.out 9 _ rfl
 have fzn : ∀ q, W3.frozen? ⟨w.heap.size, q, none⟩ = false := fun q => HX.out.unfrozen (Nat.le_refl _) q
 have fzm : ∀ q, W3.frozen? ⟨w.heap.size + 1, q, none⟩ = false := fun q => HX.out.unfrozen (by omega) q
 have HA2 := hide ((HA.out.set1 (j := 4) (by simp) (.int .i64 a0)).set1 (j := 8) (by simp) (.int .i64 s0))
 have HZ2 := hide ((HZ.out.other (B := w.heap.size) (j := 4) (by omega) (.int .i64 a0)).other (B := w.heap.size) (j := 8) (by omega) (.int .i64 s0))
 have HX2 := hide ((HX.out.fresh (Nat.le_refl _) 4 (.int .i64 a0)).fresh (Nat.le_refl _) 8 (.int .i64 s0))
 have HZ3 := hide ((((((((((HZ2.out.set1 (j := 0) (by simp) (.int .i64 4)).set1 (j := 1) (by simp) (.int .i64 a1)).set1 (j := 2) (by simp) (.int .i64 a2)).set1 (j := 3) (by simp) (.int .i64 a3)).set1 (j := 4) (by simp) (.int .i64 a0)).set1 (j := 5) (by simp) (.int .i64 s1)).set1 (j := 6) (by simp) (.int .i64 s2)).set1 (j := 7) (by simp) (.int .i64 s3)).set1 (j := 8) (by simp) (.int .i64 s0)).set1 (j := 9) (by simp) (.int .i64 off))
 have HX3 := hide ((((((((((HX2.out.fresh (B := w.heap.size + 1) (by omega) 0 (.int .i64 4)).fresh (B := w.heap.size + 1) (by omega) 1 (.int .i64 a1)).fresh (B := w.heap.size + 1) (by omega) 2 (.int .i64 a2)).fresh (B := w.heap.size + 1) (by omega) 3 (.int .i64 a3)).fresh (B := w.heap.size + 1) (by omega) 4 (.int .i64 a0)).fresh (B := w.heap.size + 1) (by omega) 5 (.int .i64 s1)).fresh (B := w.heap.size + 1) (by omega) 6 (.int .i64 s2)).fresh (B := w.heap.size + 1) (by omega) 7 (.int .i64 s3)).fresh (B := w.heap.size + 1) (by omega) 8 (.int .i64 s0)).fresh (B := w.heap.size + 1) (by omega) 9 (.int .i64 off))
 have y0 := HZ3.out 0 _ rfl
 have y1 := HZ3.out 1 _ rfl
 have y2 := HZ3.out 2 _ rfl
 have y3 := HZ3.out 3 _ rfl
 have y4 := HZ3.out 4 _ rfl
 have y5 := HZ3.out 5 _ rfl
 have y6 := HZ3.out 6 _ rfl
 have y7 := HZ3.out 7 _ rfl
 have y8 := HZ3.out 8 _ rfl
 have y9 := HZ3.out 9 _ rfl
 have HY : Hid True := trivial
 have d0 := HA2.out 0 _ rfl
 have d1 := HA2.out 1 _ rfl
 have d2 := HA2.out 2 _ rfl
 have d3 := HA2.out 3 _ rfl
 have d4 := HA2.out 4 _ rfl
 have d5 := HA2.out 5 _ rfl
 have d6 := HA2.out 6 _ rfl
 have d7 := HA2.out 7 _ rfl
 have d8 := HA2.out 8 _ rfl
 have d9 := HA2.out 9 _ rfl
 go_wp2_with fail
 refine bodyPost_ret (v := .agg #[.int .i64 4, .int .i64 a1, .int .i64 a2, .int .i64 a3, .int .i64 a0, .int .i64 s1, .int .i64 s2, .int .i64 s3, .int .i64 s0, .int .i64 off]) (by simp [results, Tryz.results83, go_sem, y0, y1, y2, y3, y4, y5, y6, y7, y8, y9]) rfl ⟨rfl, HX3.out⟩
theorem zj14 (w : World) (a0 a1 a2 a3 s0 s1 s2 s3 off : Int) :
  Calls Tryz.prog 83 #[.agg #[.int .i64 4, .int .i64 a0, .int .i64 a1, .int .i64 a2, .int .i64 a3, .int .i64 s0, .int .i64 s1, .int .i64 s2, .int .i64 s3, .int .i64 off], .int .i64 1] w fun e w' => e = .returned (.agg #[.int .i64 4, .int .i64 a0, .int .i64 a2, .int .i64 a3, .int .i64 a1, .int .i64 s0, .int .i64 s2, .int .i64 s3, .int .i64 s1, .int .i64 off]) ∧ Ext w w' := by
 have x0 : Ext w ((w.alloc (.cells #[.int .i64 4, .int .i64 a0, .int .i64 a1, .int .i64 a2, .int .i64 a3, .int .i64 s0, .int .i64 s1, .int .i64 s2, .int .i64 s3, .int .i64 off] 83)).alloc (.cells #[.int .i64 0, .int .i64 0, .int .i64 0, .int .i64 0, .int .i64 0, .int .i64 0, .int .i64 0, .int .i64 0, .int .i64 0, .int .i64 0] 83)) := ((Ext.refl w).alloc _ _).alloc _ _
 have x1 : Ext (w.alloc (.cells #[.int .i64 4, .int .i64 a0, .int .i64 a1, .int .i64 a2, .int .i64 a3, .int .i64 s0, .int .i64 s1, .int .i64 s2, .int .i64 s3, .int .i64 off] 83)) ((w.alloc (.cells #[.int .i64 4, .int .i64 a0, .int .i64 a1, .int .i64 a2, .int .i64 a3, .int .i64 s0, .int .i64 s1, .int .i64 s2, .int .i64 s3, .int .i64 off] 83)).alloc (.cells #[.int .i64 0, .int .i64 0, .int .i64 0, .int .i64 0, .int .i64 0, .int .i64 0, .int .i64 0, .int .i64 0, .int .i64 0, .int .i64 0] 83)) := (Ext.refl _).alloc _ _
 have A0 : AtB ((w.alloc (.cells #[.int .i64 4, .int .i64 a0, .int .i64 a1, .int .i64 a2, .int .i64 a3, .int .i64 s0, .int .i64 s1, .int .i64 s2, .int .i64 s3, .int .i64 off] 83)).alloc (.cells #[.int .i64 0, .int .i64 0, .int .i64 0, .int .i64 0, .int .i64 0, .int .i64 0, .int .i64 0, .int .i64 0, .int .i64 0, .int .i64 0] 83)) w.heap.size [.int .i64 4, .int .i64 a0, .int .i64 a1, .int .i64 a2, .int .i64 a3, .int .i64 s0, .int .i64 s1, .int .i64 s2, .int .i64 s3, .int .i64 off] := fun j x hx => x1.box ((ze w _ 83 _ rfl j).trans (by simpa using hx))
 have Z0 : AtB ((w.alloc (.cells #[.int .i64 4, .int .i64 a0, .int .i64 a1, .int .i64 a2, .int .i64 a3, .int .i64 s0, .int .i64 s1, .int .i64 s2, .int .i64 s3, .int .i64 off] 83)).alloc (.cells #[.int .i64 0, .int .i64 0, .int .i64 0, .int .i64 0, .int .i64 0, .int .i64 0, .int .i64 0, .int .i64 0, .int .i64 0, .int .i64 0] 83)) (w.heap.size + 1) [.int .i64 0, .int .i64 0, .int .i64 0, .int .i64 0, .int .i64 0, .int .i64 0, .int .i64 0, .int .i64 0, .int .i64 0, .int .i64 0] := fun j x hx => (ze _ _ 83 _ (by simp) j).trans (by simpa using hx)
 have HA := hide A0
 have HZ := hide Z0
 have HX := hide x0
 clear x0 x1 A0 Z0
 go_enter Tryz.func83, Tryz.ntmps83
 go_wp2_with fail
 generalize (w.alloc (.cells #[.int .i64 4, .int .i64 a0, .int .i64 a1, .int .i64 a2, .int .i64 a3, .int .i64 s0, .int .i64 s1, .int .i64 s2, .int .i64 s3, .int .i64 off] 83)).alloc (.cells #[.int .i64 0, .int .i64 0, .int .i64 0, .int .i64 0, .int .i64 0, .int .i64 0, .int .i64 0, .int .i64 0, .int .i64 0, .int .i64 0] 83) = W0 at HA HZ HX ⊢
 have c0 : (_ : Option Value) = some (.int .i64 4) := HA.out 0 _ rfl
 have c1 : (_ : Option Value) = some (.int .i64 a0) := HA.out 1 _ rfl
 have c2 : (_ : Option Value) = some (.int .i64 a1) := HA.out 2 _ rfl
 have c3 : (_ : Option Value) = some (.int .i64 a2) := HA.out 3 _ rfl
 have c4 : (_ : Option Value) = some (.int .i64 a3) := HA.out 4 _ rfl
 have c5 : (_ : Option Value) = some (.int .i64 s0) := HA.out 5 _ rfl
 have c6 : (_ : Option Value) = some (.int .i64 s1) := HA.out 6 _ rfl
 have c7 : (_ : Option Value) = some (.int .i64 s2) := HA.out 7 _ rfl
 have c8 : (_ : Option Value) = some (.int .i64 s3) := HA.out 8 _ rfl
 have c9 : (_ : Option Value) = some (.int .i64 off) := HA.out 9 _ rfl
 go_region
 go_wp2_with fail
 replace HX := hide (HX.out.trans (Ext.refl W0).drew)
 replace HA := hide (HA.out.keep (Ext.refl W0).drew.bl)
 replace HZ := hide (HZ.out.keep (Ext.refl W0).drew.bl)
 clear c0 c1 c2 c3 c4 c5 c6 c7 c8 c9
 try generalize W0.drew = W1 at HA HZ HX ⊢
 have SA : Hid ((fun _ : World => True) W1.drew) := trivial
 refine zq (fun ac a' w' => a' = (((((((((((ac.put (some 21) (.pointer (some ⟨w.heap.size, 0, none⟩))).put (some 22) (.pointer (some ⟨w.heap.size, 1, none⟩))).put (some 23) (.int .i64 1)).put (some 24) (.int .i64 3)).put (some 25) (.slice (some ⟨w.heap.size, 2, none⟩) 2 3)).put (some 26) (.pointer (some ⟨w.heap.size, 0, none⟩))).put (some 27) (.pointer (some ⟨w.heap.size, 1, none⟩))).put (some 28) (.int .i64 1)).put (some 29) (.int .i64 2)).put (some 30) (.slice (some ⟨w.heap.size, 3, none⟩) 2 2)).put (some 31) (.int .i64 2)) ∧ Ext w w' ∧ AtB w' w.heap.size [.int .i64 4, .int .i64 a0, .int .i64 a2, .int .i64 a3, .int .i64 a3, .int .i64 s0, .int .i64 s1, .int .i64 s2, .int .i64 s3, .int .i64 off] ∧ AtB w' (w.heap.size + 1) [.int .i64 0, .int .i64 0, .int .i64 0, .int .i64 0, .int .i64 0, .int .i64 0, .int .i64 0, .int .i64 0, .int .i64 0, .int .i64 0]) (S := (fun _ : World => True)) (late := []) (by kernel_rfl) ?_ ?_
 rotate_left
 ·replace HX := hide (HX.out.trans (Ext.refl W1).drew)
  replace HA := hide (HA.out.keep (Ext.refl W1).drew.bl)
  replace HZ := hide (HZ.out.keep (Ext.refl W1).drew.bl)
  generalize W1.drew = t0 at HA HZ HX SA ⊢
  refine zd (i := 0) (d := 21) (v := .pointer (some ⟨w.heap.size, 0, none⟩)) rfl (by rfl) (by kernel_rfl) (by kernel_rfl) (fun _ _ _ h => by cases h.1) _ (by kernel_rfl) (by kernel_rfl) (Or.inl ⟨by kernel_rfl, ?_⟩) SA.out ?_
  ·intro w' h
   have z0 := h
   go_simp
   try rfl
  simp only [Act.put, sT, sZ, sS]
  refine zd (i := 1) (d := 22) (v := .pointer (some ⟨w.heap.size, 1, none⟩)) rfl (by rfl) (by kernel_rfl) (by kernel_rfl) (fun _ _ _ h => by cases h.1) _ (by kernel_rfl) (by kernel_rfl) (Or.inl ⟨by kernel_rfl, ?_⟩) SA.out ?_
  ·intro w' h
   have z0 := h
   go_simp
   try rfl
  simp only [Act.put, sT, sZ, sS]
  refine zd (i := 2) (d := 23) (v := .int .i64 1) rfl (by rfl) (by kernel_rfl) (by kernel_rfl) (fun _ _ _ h => by cases h.1) _ (by kernel_rfl) (by kernel_rfl) (Or.inl ⟨by kernel_rfl, ?_⟩) SA.out ?_
  ·intro w' h
   have z0 := h
   go_simp
   try rfl
  simp only [Act.put, sT, sZ, sS]
  refine zd (i := 3) (d := 24) (v := .int .i64 3) rfl (by rfl) (by kernel_rfl) (by kernel_rfl) (fun _ _ _ h => by cases h.1) _ (by kernel_rfl) (by kernel_rfl) (Or.inl ⟨by kernel_rfl, ?_⟩) SA.out ?_
  ·intro w' h
   have z0 := h
   go_simp
   try rfl
  simp only [Act.put, sT, sZ, sS]
  refine zd (i := 4) (d := 25) (v := .slice (some ⟨w.heap.size, 2, none⟩) 2 3) rfl (by rfl) (by kernel_rfl) (by kernel_rfl) (fun _ _ _ h => by cases h.1) _ (by kernel_rfl) (by kernel_rfl) (Or.inl ⟨by kernel_rfl, ?_⟩) SA.out ?_
  ·intro w' h
   have z0 := h
   go_simp
   try rfl
  simp only [Act.put, sT, sZ, sS]
  refine zd (i := 5) (d := 26) (v := .pointer (some ⟨w.heap.size, 0, none⟩)) rfl (by rfl) (by kernel_rfl) (by kernel_rfl) (fun _ _ _ h => by cases h.1) _ (by kernel_rfl) (by kernel_rfl) (Or.inl ⟨by kernel_rfl, ?_⟩) SA.out ?_
  ·intro w' h
   have z0 := h
   go_simp
   try rfl
  simp only [Act.put, sT, sZ, sS]
  refine zd (i := 6) (d := 27) (v := .pointer (some ⟨w.heap.size, 1, none⟩)) rfl (by rfl) (by kernel_rfl) (by kernel_rfl) (fun _ _ _ h => by cases h.1) _ (by kernel_rfl) (by kernel_rfl) (Or.inl ⟨by kernel_rfl, ?_⟩) SA.out ?_
  ·intro w' h
   have z0 := h
   go_simp
   try rfl
  simp only [Act.put, sT, sZ, sS]
  refine zd (i := 7) (d := 28) (v := .int .i64 1) rfl (by rfl) (by kernel_rfl) (by kernel_rfl) (fun _ _ _ h => by cases h.1) _ (by kernel_rfl) (by kernel_rfl) (Or.inl ⟨by kernel_rfl, ?_⟩) SA.out ?_
  ·intro w' h
   have z0 := h
   go_simp
   try rfl
  simp only [Act.put, sT, sZ, sS]
  refine zd (i := 8) (d := 29) (v := .int .i64 2) rfl (by rfl) (by kernel_rfl) (by kernel_rfl) (fun _ _ _ h => by cases h.1) _ (by kernel_rfl) (by kernel_rfl) (Or.inl ⟨by kernel_rfl, ?_⟩) SA.out ?_
  ·intro w' h
   have z0 := h
   go_simp
   try rfl
  simp only [Act.put, sT, sZ, sS]
  refine zd (i := 9) (d := 30) (v := .slice (some ⟨w.heap.size, 3, none⟩) 2 2) rfl (by rfl) (by kernel_rfl) (by kernel_rfl) (fun _ _ _ h => by cases h.1) _ (by kernel_rfl) (by kernel_rfl) (Or.inl ⟨by kernel_rfl, ?_⟩) SA.out ?_
  ·intro w' h
   have z0 := h
   go_simp
   try rfl
  simp only [Act.put, sT, sZ, sS]
  have hcp : (Builtin.copy_ #[25, 25] 3 #[.slice (some ⟨w.heap.size, 2, none⟩) 2 3, .slice (some ⟨w.heap.size, 3, none⟩) 2 2]).run Tryz.prog t0 = .ok (goInt 2) ((t0.setCell ⟨w.heap.size, 2, none⟩ (.int .i64 a2)).setCell ⟨w.heap.size, 3, none⟩ (.int .i64 a3)) := by
   have fzn := fun (q : Nat) => HX.out.unfrozen (b := w.heap.size) (Nat.le_refl _) q
   refine run_copy_cells (P := Tryz.prog) t0 25 25 3 2 w.heap.size 2 2 3 ⟨w.heap.size, 3, none⟩ 2 2 [.int .i64 a2, .int .i64 a3] Tryz.underlying25 zy2 rfl ?_ ?_ (fun j _ => fzn _) (by simp [Value.oneCell'])
   ·intro j v hv
    have q := HA.out (3 + j) v (by
     rw [← hv]
     match j with
     | 0 => rfl
     | 1 => rfl
     | j + 2 => simp at hv)
    rw [Addr.add_lit]
    exact q
   ·intro j hj
    have hj' : j < 2 := hj
    have q := HA.out (2 + j) _ (List.getElem?_eq_getElem (by simp; omega))
    rw [q]; rfl
  refine zg (i := 10) (by kernel_rfl) rfl (fun K hK => ?_)
  go_simp
  refine hK.out _ _ (fun _ => trivial) ?_
  clear hK K
  try simp only [Act.put, sT, sZ, sS]
  refine zh (by kernel_rfl) ?_ _
  exact ⟨rfl, by kernel_rfl, ((HX.out.fresh (Nat.le_refl _) 2 (.int .i64 a2)).fresh (Nat.le_refl _) 3 (.int .i64 a3)), ((HA.out.set1 (j := 2) (by simp) (.int .i64 a2)).set1 (j := 3) (by simp) (.int .i64 a3)), ((HZ.out.other (B := w.heap.size) (j := 2) (by omega) (.int .i64 a2)).other (B := w.heap.size) (j := 3) (by omega) (.int .i64 a3))⟩
 rintro a' W2 ⟨rfl, hx, ha, hz⟩
 replace HX := hide hx
 replace HA := hide ha
 replace HZ := hide hz
 clear hx ha hz SA
 simp only [Act.put, sT, sZ, sS]
 go_wp2_with fail
 have SA : Hid ((fun _ : World => True) W2.drew) := trivial
 refine zq (fun ac a' w' => a' = (((((((((ac.put (some 32) (.pointer (some ⟨w.heap.size, 5, none⟩))).put (some 33) (.int .i64 1)).put (some 34) (.int .i64 3)).put (some 35) (.slice (some ⟨w.heap.size, 6, none⟩) 2 3)).put (some 36) (.pointer (some ⟨w.heap.size, 5, none⟩))).put (some 37) (.int .i64 1)).put (some 38) (.int .i64 2)).put (some 39) (.slice (some ⟨w.heap.size, 7, none⟩) 2 2)).put (some 40) (.int .i64 2)) ∧ Ext w w' ∧ AtB w' w.heap.size [.int .i64 4, .int .i64 a0, .int .i64 a2, .int .i64 a3, .int .i64 a3, .int .i64 s0, .int .i64 s2, .int .i64 s3, .int .i64 s3, .int .i64 off] ∧ AtB w' (w.heap.size + 1) [.int .i64 0, .int .i64 0, .int .i64 0, .int .i64 0, .int .i64 0, .int .i64 0, .int .i64 0, .int .i64 0, .int .i64 0, .int .i64 0]) (S := (fun _ : World => True)) (late := []) (by kernel_rfl) ?_ ?_
 rotate_left
 ·replace HX := hide (HX.out.trans (Ext.refl W2).drew)
  replace HA := hide (HA.out.keep (Ext.refl W2).drew.bl)
  replace HZ := hide (HZ.out.keep (Ext.refl W2).drew.bl)
  generalize W2.drew = t0 at HA HZ HX SA ⊢
  refine zd (i := 0) (d := 32) (v := .pointer (some ⟨w.heap.size, 5, none⟩)) rfl (by rfl) (by kernel_rfl) (by kernel_rfl) (fun _ _ _ h => by cases h.1) _ (by kernel_rfl) (by kernel_rfl) (Or.inl ⟨by kernel_rfl, ?_⟩) SA.out ?_
  ·intro w' h
   have z0 := h
   go_simp
   try rfl
  simp only [Act.put, sT, sZ, sS]
  refine zd (i := 1) (d := 33) (v := .int .i64 1) rfl (by rfl) (by kernel_rfl) (by kernel_rfl) (fun _ _ _ h => by cases h.1) _ (by kernel_rfl) (by kernel_rfl) (Or.inl ⟨by kernel_rfl, ?_⟩) SA.out ?_
  ·intro w' h
   have z0 := h
   go_simp
   try rfl
  simp only [Act.put, sT, sZ, sS]
  refine zd (i := 2) (d := 34) (v := .int .i64 3) rfl (by rfl) (by kernel_rfl) (by kernel_rfl) (fun _ _ _ h => by cases h.1) _ (by kernel_rfl) (by kernel_rfl) (Or.inl ⟨by kernel_rfl, ?_⟩) SA.out ?_
  ·intro w' h
   have z0 := h
   go_simp
   try rfl
  simp only [Act.put, sT, sZ, sS]
  refine zd (i := 3) (d := 35) (v := .slice (some ⟨w.heap.size, 6, none⟩) 2 3) rfl (by rfl) (by kernel_rfl) (by kernel_rfl) (fun _ _ _ h => by cases h.1) _ (by kernel_rfl) (by kernel_rfl) (Or.inl ⟨by kernel_rfl, ?_⟩) SA.out ?_
  ·intro w' h
   have z0 := h
   go_simp
   try rfl
  simp only [Act.put, sT, sZ, sS]
  refine zd (i := 4) (d := 36) (v := .pointer (some ⟨w.heap.size, 5, none⟩)) rfl (by rfl) (by kernel_rfl) (by kernel_rfl) (fun _ _ _ h => by cases h.1) _ (by kernel_rfl) (by kernel_rfl) (Or.inl ⟨by kernel_rfl, ?_⟩) SA.out ?_
  ·intro w' h
   have z0 := h
   go_simp
   try rfl
  simp only [Act.put, sT, sZ, sS]
  refine zd (i := 5) (d := 37) (v := .int .i64 1) rfl (by rfl) (by kernel_rfl) (by kernel_rfl) (fun _ _ _ h => by cases h.1) _ (by kernel_rfl) (by kernel_rfl) (Or.inl ⟨by kernel_rfl, ?_⟩) SA.out ?_
  ·intro w' h
   have z0 := h
   go_simp
   try rfl
  simp only [Act.put, sT, sZ, sS]
  refine zd (i := 6) (d := 38) (v := .int .i64 2) rfl (by rfl) (by kernel_rfl) (by kernel_rfl) (fun _ _ _ h => by cases h.1) _ (by kernel_rfl) (by kernel_rfl) (Or.inl ⟨by kernel_rfl, ?_⟩) SA.out ?_
  ·intro w' h
   have z0 := h
   go_simp
   try rfl
  simp only [Act.put, sT, sZ, sS]
  refine zd (i := 7) (d := 39) (v := .slice (some ⟨w.heap.size, 7, none⟩) 2 2) rfl (by rfl) (by kernel_rfl) (by kernel_rfl) (fun _ _ _ h => by cases h.1) _ (by kernel_rfl) (by kernel_rfl) (Or.inl ⟨by kernel_rfl, ?_⟩) SA.out ?_
  ·intro w' h
   have z0 := h
   go_simp
   try rfl
  simp only [Act.put, sT, sZ, sS]
  have hcp : (Builtin.copy_ #[25, 25] 3 #[.slice (some ⟨w.heap.size, 6, none⟩) 2 3, .slice (some ⟨w.heap.size, 7, none⟩) 2 2]).run Tryz.prog t0 = .ok (goInt 2) ((t0.setCell ⟨w.heap.size, 6, none⟩ (.int .i64 s2)).setCell ⟨w.heap.size, 7, none⟩ (.int .i64 s3)) := by
   have fzn := fun (q : Nat) => HX.out.unfrozen (b := w.heap.size) (Nat.le_refl _) q
   refine run_copy_cells (P := Tryz.prog) t0 25 25 3 2 w.heap.size 6 2 3 ⟨w.heap.size, 7, none⟩ 2 2 [.int .i64 s2, .int .i64 s3] Tryz.underlying25 zy2 rfl ?_ ?_ (fun j _ => fzn _) (by simp [Value.oneCell'])
   ·intro j v hv
    have q := HA.out (7 + j) v (by
     rw [← hv]
     match j with
     | 0 => rfl
     | 1 => rfl
     | j + 2 => simp at hv)
    rw [Addr.add_lit]
    exact q
   ·intro j hj
    have hj' : j < 2 := hj
    have q := HA.out (6 + j) _ (List.getElem?_eq_getElem (by simp; omega))
    rw [q]; rfl
  refine zg (i := 8) (by kernel_rfl) rfl (fun K hK => ?_)
  go_simp
  refine hK.out _ _ (fun _ => trivial) ?_
  clear hK K
  try simp only [Act.put, sT, sZ, sS]
  refine zh (by kernel_rfl) ?_ _
  exact ⟨rfl, by kernel_rfl, ((HX.out.fresh (Nat.le_refl _) 6 (.int .i64 s2)).fresh (Nat.le_refl _) 7 (.int .i64 s3)), ((HA.out.set1 (j := 6) (by simp) (.int .i64 s2)).set1 (j := 7) (by simp) (.int .i64 s3)), ((HZ.out.other (B := w.heap.size) (j := 6) (by omega) (.int .i64 s2)).other (B := w.heap.size) (j := 7) (by omega) (.int .i64 s3))⟩
 rintro a' W3 ⟨rfl, hx, ha, hz⟩
 replace HX := hide hx
 replace HA := hide ha
 replace HZ := hide hz
 clear hx ha hz SA
 simp only [Act.put, sT, sZ, sS]
 have c0 : (_ : Option Value) = some (.int .i64 4) := HA.out 0 _ rfl
 have c1 : (_ : Option Value) = some (.int .i64 a0) := HA.out 1 _ rfl
 have c2 : (_ : Option Value) = some (.int .i64 a2) := HA.out 2 _ rfl
 have c3 : (_ : Option Value) = some (.int .i64 a3) := HA.out 3 _ rfl
 have c4 : (_ : Option Value) = some (.int .i64 a3) := HA.out 4 _ rfl
 have c5 : (_ : Option Value) = some (.int .i64 s0) := HA.out 5 _ rfl
 have c6 : (_ : Option Value) = some (.int .i64 s2) := HA.out 6 _ rfl
 have c7 : (_ : Option Value) = some (.int .i64 s3) := HA.out 7 _ rfl
 have c8 : (_ : Option Value) = some (.int .i64 s3) := HA.out 8 _ rfl
 have c9 : (_ : Option Value) = some (.int .i64 off) := HA.out 9 _ rfl
 have z0 : (_ : Option Value) = some (.int .i64 0) := HZ.out 0 _ rfl
 have z1 : (_ : Option Value) = some (.int .i64 0) := HZ.out 1 _ rfl
 have z2 : (_ : Option Value) = some (.int .i64 0) := HZ.out 2 _ rfl
 have z3 : (_ : Option Value) = some (.int .i64 0) := HZ.out 3 _ rfl
 have z4 : (_ : Option Value) = some (.int .i64 0) := HZ.out 4 _ rfl
 have z5 : (_ : Option Value) = some (.int .i64 0) := HZ.out 5 _ rfl
 have z6 : (_ : Option Value) = some (.int .i64 0) := HZ.out 6 _ rfl
 have z7 : (_ : Option Value) = some (.int .i64 0) := HZ.out 7 _ rfl
 have z8 : (_ : Option Value) = some (.int .i64 0) := HZ.out 8 _ rfl
 have z9 : (_ : Option Value) = some (.int .i64 0) := HZ.out 9 _ rfl
 have fzn : ∀ q, W3.frozen? ⟨w.heap.size, q, none⟩ = false := fun q => HX.out.unfrozen (Nat.le_refl _) q
 have fzm : ∀ q, W3.frozen? ⟨w.heap.size + 1, q, none⟩ = false := fun q => HX.out.unfrozen (by omega) q
 have HA2 := hide ((HA.out.set1 (j := 4) (by simp) (.int .i64 a1)).set1 (j := 8) (by simp) (.int .i64 s1))
 have HZ2 := hide ((HZ.out.other (B := w.heap.size) (j := 4) (by omega) (.int .i64 a1)).other (B := w.heap.size) (j := 8) (by omega) (.int .i64 s1))
 have HX2 := hide ((HX.out.fresh (Nat.le_refl _) 4 (.int .i64 a1)).fresh (Nat.le_refl _) 8 (.int .i64 s1))
 have HZ3 := hide ((((((((((HZ2.out.set1 (j := 0) (by simp) (.int .i64 4)).set1 (j := 1) (by simp) (.int .i64 a0)).set1 (j := 2) (by simp) (.int .i64 a2)).set1 (j := 3) (by simp) (.int .i64 a3)).set1 (j := 4) (by simp) (.int .i64 a1)).set1 (j := 5) (by simp) (.int .i64 s0)).set1 (j := 6) (by simp) (.int .i64 s2)).set1 (j := 7) (by simp) (.int .i64 s3)).set1 (j := 8) (by simp) (.int .i64 s1)).set1 (j := 9) (by simp) (.int .i64 off))
 have HX3 := hide ((((((((((HX2.out.fresh (B := w.heap.size + 1) (by omega) 0 (.int .i64 4)).fresh (B := w.heap.size + 1) (by omega) 1 (.int .i64 a0)).fresh (B := w.heap.size + 1) (by omega) 2 (.int .i64 a2)).fresh (B := w.heap.size + 1) (by omega) 3 (.int .i64 a3)).fresh (B := w.heap.size + 1) (by omega) 4 (.int .i64 a1)).fresh (B := w.heap.size + 1) (by omega) 5 (.int .i64 s0)).fresh (B := w.heap.size + 1) (by omega) 6 (.int .i64 s2)).fresh (B := w.heap.size + 1) (by omega) 7 (.int .i64 s3)).fresh (B := w.heap.size + 1) (by omega) 8 (.int .i64 s1)).fresh (B := w.heap.size + 1) (by omega) 9 (.int .i64 off))
 have y0 := HZ3.out 0 _ rfl
 have y1 := HZ3.out 1 _ rfl
 have y2 := HZ3.out 2 _ rfl
 have y3 := HZ3.out 3 _ rfl
 have y4 := HZ3.out 4 _ rfl
 have y5 := HZ3.out 5 _ rfl
 have y6 := HZ3.out 6 _ rfl
 have y7 := HZ3.out 7 _ rfl
 have y8 := HZ3.out 8 _ rfl
 have y9 := HZ3.out 9 _ rfl
 have HY : Hid True := trivial
 have d0 := HA2.out 0 _ rfl
 have d1 := HA2.out 1 _ rfl
 have d2 := HA2.out 2 _ rfl
 have d3 := HA2.out 3 _ rfl
 have d4 := HA2.out 4 _ rfl
 have d5 := HA2.out 5 _ rfl
 have d6 := HA2.out 6 _ rfl
 have d7 := HA2.out 7 _ rfl
 have d8 := HA2.out 8 _ rfl
 have d9 := HA2.out 9 _ rfl
 go_wp2_with fail
 refine bodyPost_ret (v := .agg #[.int .i64 4, .int .i64 a0, .int .i64 a2, .int .i64 a3, .int .i64 a1, .int .i64 s0, .int .i64 s2, .int .i64 s3, .int .i64 s1, .int .i64 off]) (by simp [results, Tryz.results83, go_sem, y0, y1, y2, y3, y4, y5, y6, y7, y8, y9]) rfl ⟨rfl, HX3.out⟩
theorem zi14 (w : World) (a0 a1 a2 a3 s0 s1 s2 s3 off : Int) :
  Calls Tryz.prog 83 #[.agg #[.int .i64 4, .int .i64 a0, .int .i64 a1, .int .i64 a2, .int .i64 a3, .int .i64 s0, .int .i64 s1, .int .i64 s2, .int .i64 s3, .int .i64 off], .int .i64 2] w fun e w' => e = .returned (.agg #[.int .i64 4, .int .i64 a0, .int .i64 a1, .int .i64 a3, .int .i64 a2, .int .i64 s0, .int .i64 s1, .int .i64 s3, .int .i64 s2, .int .i64 off]) ∧ Ext w w' := by
 have x0 : Ext w ((w.alloc (.cells #[.int .i64 4, .int .i64 a0, .int .i64 a1, .int .i64 a2, .int .i64 a3, .int .i64 s0, .int .i64 s1, .int .i64 s2, .int .i64 s3, .int .i64 off] 83)).alloc (.cells #[.int .i64 0, .int .i64 0, .int .i64 0, .int .i64 0, .int .i64 0, .int .i64 0, .int .i64 0, .int .i64 0, .int .i64 0, .int .i64 0] 83)) := ((Ext.refl w).alloc _ _).alloc _ _
 have x1 : Ext (w.alloc (.cells #[.int .i64 4, .int .i64 a0, .int .i64 a1, .int .i64 a2, .int .i64 a3, .int .i64 s0, .int .i64 s1, .int .i64 s2, .int .i64 s3, .int .i64 off] 83)) ((w.alloc (.cells #[.int .i64 4, .int .i64 a0, .int .i64 a1, .int .i64 a2, .int .i64 a3, .int .i64 s0, .int .i64 s1, .int .i64 s2, .int .i64 s3, .int .i64 off] 83)).alloc (.cells #[.int .i64 0, .int .i64 0, .int .i64 0, .int .i64 0, .int .i64 0, .int .i64 0, .int .i64 0, .int .i64 0, .int .i64 0, .int .i64 0] 83)) := (Ext.refl _).alloc _ _
 have A0 : AtB ((w.alloc (.cells #[.int .i64 4, .int .i64 a0, .int .i64 a1, .int .i64 a2, .int .i64 a3, .int .i64 s0, .int .i64 s1, .int .i64 s2, .int .i64 s3, .int .i64 off] 83)).alloc (.cells #[.int .i64 0, .int .i64 0, .int .i64 0, .int .i64 0, .int .i64 0, .int .i64 0, .int .i64 0, .int .i64 0, .int .i64 0, .int .i64 0] 83)) w.heap.size [.int .i64 4, .int .i64 a0, .int .i64 a1, .int .i64 a2, .int .i64 a3, .int .i64 s0, .int .i64 s1, .int .i64 s2, .int .i64 s3, .int .i64 off] := fun j x hx => x1.box ((ze w _ 83 _ rfl j).trans (by simpa using hx))
 have Z0 : AtB ((w.alloc (.cells #[.int .i64 4, .int .i64 a0, .int .i64 a1, .int .i64 a2, .int .i64 a3, .int .i64 s0, .int .i64 s1, .int .i64 s2, .int .i64 s3, .int .i64 off] 83)).alloc (.cells #[.int .i64 0, .int .i64 0, .int .i64 0, .int .i64 0, .int .i64 0, .int .i64 0, .int .i64 0, .int .i64 0, .int .i64 0, .int .i64 0] 83)) (w.heap.size + 1) [.int .i64 0, .int .i64 0, .int .i64 0, .int .i64 0, .int .i64 0, .int .i64 0, .int .i64 0, .int .i64 0, .int .i64 0, .int .i64 0] := fun j x hx => (ze _ _ 83 _ (by simp) j).trans (by simpa using hx)
 have HA := hide A0
 have HZ := hide Z0
 have HX := hide x0
 clear x0 x1 A0 Z0
 go_enter Tryz.func83, Tryz.ntmps83
 go_wp2_with fail
 generalize (w.alloc (.cells #[.int .i64 4, .int .i64 a0, .int .i64 a1, .int .i64 a2, .int .i64 a3, .int .i64 s0, .int .i64 s1, .int .i64 s2, .int .i64 s3, .int .i64 off] 83)).alloc (.cells #[.int .i64 0, .int .i64 0, .int .i64 0, .int .i64 0, .int .i64 0, .int .i64 0, .int .i64 0, .int .i64 0, .int .i64 0, .int .i64 0] 83) = W0 at HA HZ HX ⊢
 have c0 : (_ : Option Value) = some (.int .i64 4) := HA.out 0 _ rfl
 have c1 : (_ : Option Value) = some (.int .i64 a0) := HA.out 1 _ rfl
 have c2 : (_ : Option Value) = some (.int .i64 a1) := HA.out 2 _ rfl
 have c3 : (_ : Option Value) = some (.int .i64 a2) := HA.out 3 _ rfl
 have c4 : (_ : Option Value) = some (.int .i64 a3) := HA.out 4 _ rfl
 have c5 : (_ : Option Value) = some (.int .i64 s0) := HA.out 5 _ rfl
 have c6 : (_ : Option Value) = some (.int .i64 s1) := HA.out 6 _ rfl
 have c7 : (_ : Option Value) = some (.int .i64 s2) := HA.out 7 _ rfl
 have c8 : (_ : Option Value) = some (.int .i64 s3) := HA.out 8 _ rfl
 have c9 : (_ : Option Value) = some (.int .i64 off) := HA.out 9 _ rfl
 go_region
 go_wp2_with fail
 replace HX := hide (HX.out.trans (Ext.refl W0).drew)
 replace HA := hide (HA.out.keep (Ext.refl W0).drew.bl)
 replace HZ := hide (HZ.out.keep (Ext.refl W0).drew.bl)
 clear c0 c1 c2 c3 c4 c5 c6 c7 c8 c9
 try generalize W0.drew = W1 at HA HZ HX ⊢
 have SA : Hid ((fun _ : World => True) W1.drew) := trivial
 refine zq (fun ac a' w' => a' = (((((((((((ac.put (some 21) (.pointer (some ⟨w.heap.size, 0, none⟩))).put (some 22) (.pointer (some ⟨w.heap.size, 1, none⟩))).put (some 23) (.int .i64 2)).put (some 24) (.int .i64 3)).put (some 25) (.slice (some ⟨w.heap.size, 3, none⟩) 1 2)).put (some 26) (.pointer (some ⟨w.heap.size, 0, none⟩))).put (some 27) (.pointer (some ⟨w.heap.size, 1, none⟩))).put (some 28) (.int .i64 2)).put (some 29) (.int .i64 3)).put (some 30) (.slice (some ⟨w.heap.size, 4, none⟩) 1 1)).put (some 31) (.int .i64 1)) ∧ Ext w w' ∧ AtB w' w.heap.size [.int .i64 4, .int .i64 a0, .int .i64 a1, .int .i64 a3, .int .i64 a3, .int .i64 s0, .int .i64 s1, .int .i64 s2, .int .i64 s3, .int .i64 off] ∧ AtB w' (w.heap.size + 1) [.int .i64 0, .int .i64 0, .int .i64 0, .int .i64 0, .int .i64 0, .int .i64 0, .int .i64 0, .int .i64 0, .int .i64 0, .int .i64 0]) (S := (fun _ : World => True)) (late := []) (by kernel_rfl) ?_ ?_
 rotate_left
 ·replace HX := hide (HX.out.trans (Ext.refl W1).drew)
  replace HA := hide (HA.out.keep (Ext.refl W1).drew.bl)
  replace HZ := hide (HZ.out.keep (Ext.refl W1).drew.bl)
  generalize W1.drew = t0 at HA HZ HX SA ⊢
  refine zd (i := 0) (d := 21) (v := .pointer (some ⟨w.heap.size, 0, none⟩)) rfl (by rfl) (by kernel_rfl) (by kernel_rfl) (fun _ _ _ h => by cases h.1) _ (by kernel_rfl) (by kernel_rfl) (Or.inl ⟨by kernel_rfl, ?_⟩) SA.out ?_
  ·intro w' h
   have z0 := h
   go_simp
   try rfl
  simp only [Act.put, sT, sZ, sS]
  refine zd (i := 1) (d := 22) (v := .pointer (some ⟨w.heap.size, 1, none⟩)) rfl (by rfl) (by kernel_rfl) (by kernel_rfl) (fun _ _ _ h => by cases h.1) _ (by kernel_rfl) (by kernel_rfl) (Or.inl ⟨by kernel_rfl, ?_⟩) SA.out ?_
  ·intro w' h
   have z0 := h
   go_simp
   try rfl
  simp only [Act.put, sT, sZ, sS]
  refine zd (i := 2) (d := 23) (v := .int .i64 2) rfl (by rfl) (by kernel_rfl) (by kernel_rfl) (fun _ _ _ h => by cases h.1) _ (by kernel_rfl) (by kernel_rfl) (Or.inl ⟨by kernel_rfl, ?_⟩) SA.out ?_
  ·intro w' h
   have z0 := h
   go_simp
   try rfl
  simp only [Act.put, sT, sZ, sS]
  refine zd (i := 3) (d := 24) (v := .int .i64 3) rfl (by rfl) (by kernel_rfl) (by kernel_rfl) (fun _ _ _ h => by cases h.1) _ (by kernel_rfl) (by kernel_rfl) (Or.inl ⟨by kernel_rfl, ?_⟩) SA.out ?_
  ·intro w' h
   have z0 := h
   go_simp
   try rfl
  simp only [Act.put, sT, sZ, sS]
  refine zd (i := 4) (d := 25) (v := .slice (some ⟨w.heap.size, 3, none⟩) 1 2) rfl (by rfl) (by kernel_rfl) (by kernel_rfl) (fun _ _ _ h => by cases h.1) _ (by kernel_rfl) (by kernel_rfl) (Or.inl ⟨by kernel_rfl, ?_⟩) SA.out ?_
  ·intro w' h
   have z0 := h
   go_simp
   try rfl
  simp only [Act.put, sT, sZ, sS]
  refine zd (i := 5) (d := 26) (v := .pointer (some ⟨w.heap.size, 0, none⟩)) rfl (by rfl) (by kernel_rfl) (by kernel_rfl) (fun _ _ _ h => by cases h.1) _ (by kernel_rfl) (by kernel_rfl) (Or.inl ⟨by kernel_rfl, ?_⟩) SA.out ?_
  ·intro w' h
   have z0 := h
   go_simp
   try rfl
  simp only [Act.put, sT, sZ, sS]
  refine zd (i := 6) (d := 27) (v := .pointer (some ⟨w.heap.size, 1, none⟩)) rfl (by rfl) (by kernel_rfl) (by kernel_rfl) (fun _ _ _ h => by cases h.1) _ (by kernel_rfl) (by kernel_rfl) (Or.inl ⟨by kernel_rfl, ?_⟩) SA.out ?_
  ·intro w' h
   have z0 := h
   go_simp
   try rfl
  simp only [Act.put, sT, sZ, sS]
  refine zd (i := 7) (d := 28) (v := .int .i64 2) rfl (by rfl) (by kernel_rfl) (by kernel_rfl) (fun _ _ _ h => by cases h.1) _ (by kernel_rfl) (by kernel_rfl) (Or.inl ⟨by kernel_rfl, ?_⟩) SA.out ?_
  ·intro w' h
   have z0 := h
   go_simp
   try rfl
  simp only [Act.put, sT, sZ, sS]
  refine zd (i := 8) (d := 29) (v := .int .i64 3) rfl (by rfl) (by kernel_rfl) (by kernel_rfl) (fun _ _ _ h => by cases h.1) _ (by kernel_rfl) (by kernel_rfl) (Or.inl ⟨by kernel_rfl, ?_⟩) SA.out ?_
  ·intro w' h
   have z0 := h
   go_simp
   try rfl
  simp only [Act.put, sT, sZ, sS]
  refine zd (i := 9) (d := 30) (v := .slice (some ⟨w.heap.size, 4, none⟩) 1 1) rfl (by rfl) (by kernel_rfl) (by kernel_rfl) (fun _ _ _ h => by cases h.1) _ (by kernel_rfl) (by kernel_rfl) (Or.inl ⟨by kernel_rfl, ?_⟩) SA.out ?_
  ·intro w' h
   have z0 := h
   go_simp
   try rfl
  simp only [Act.put, sT, sZ, sS]
  have hcp : (Builtin.copy_ #[25, 25] 3 #[.slice (some ⟨w.heap.size, 3, none⟩) 1 2, .slice (some ⟨w.heap.size, 4, none⟩) 1 1]).run Tryz.prog t0 = .ok (goInt 1) (t0.setCell ⟨w.heap.size, 3, none⟩ (.int .i64 a3)) := by
   have fzn := fun (q : Nat) => HX.out.unfrozen (b := w.heap.size) (Nat.le_refl _) q
   refine run_copy_cells (P := Tryz.prog) t0 25 25 3 2 w.heap.size 3 1 2 ⟨w.heap.size, 4, none⟩ 1 1 [.int .i64 a3] Tryz.underlying25 zy2 rfl ?_ ?_ (fun j _ => fzn _) (by simp [Value.oneCell'])
   ·intro j v hv
    have q := HA.out (4 + j) v (by
     rw [← hv]
     match j with
     | 0 => rfl
     | j + 1 => simp at hv)
    rw [Addr.add_lit]
    exact q
   ·intro j hj
    have hj' : j < 1 := hj
    have q := HA.out (3 + j) _ (List.getElem?_eq_getElem (by simp; omega))
    rw [q]; rfl
  refine zg (i := 10) (by kernel_rfl) rfl (fun K hK => ?_)
  go_simp
  refine hK.out _ _ (fun _ => trivial) ?_
  clear hK K
  try simp only [Act.put, sT, sZ, sS]
  refine zh (by kernel_rfl) ?_ _
  exact ⟨rfl, by kernel_rfl, (HX.out.fresh (Nat.le_refl _) 3 (.int .i64 a3)), (HA.out.set1 (j := 3) (by simp) (.int .i64 a3)), (HZ.out.other (B := w.heap.size) (j := 3) (by omega) (.int .i64 a3))⟩
 rintro a' W2 ⟨rfl, hx, ha, hz⟩
 replace HX := hide hx
 replace HA := hide ha
 replace HZ := hide hz
 clear hx ha hz SA
 simp only [Act.put, sT, sZ, sS]
 go_wp2_with fail
 have SA : Hid ((fun _ : World => True) W2.drew) := trivial
 refine zq (fun ac a' w' => a' = (((((((((ac.put (some 32) (.pointer (some ⟨w.heap.size, 5, none⟩))).put (some 33) (.int .i64 2)).put (some 34) (.int .i64 3)).put (some 35) (.slice (some ⟨w.heap.size, 7, none⟩) 1 2)).put (some 36) (.pointer (some ⟨w.heap.size, 5, none⟩))).put (some 37) (.int .i64 2)).put (some 38) (.int .i64 3)).put (some 39) (.slice (some ⟨w.heap.size, 8, none⟩) 1 1)).put (some 40) (.int .i64 1)) ∧ Ext w w' ∧ AtB w' w.heap.size [.int .i64 4, .int .i64 a0, .int .i64 a1, .int .i64 a3, .int .i64 a3, .int .i64 s0, .int .i64 s1, .int .i64 s3, .int .i64 s3, .int .i64 off] ∧ AtB w' (w.heap.size + 1) [.int .i64 0, .int .i64 0, .int .i64 0, .int .i64 0, .int .i64 0, .int .i64 0, .int .i64 0, .int .i64 0, .int .i64 0, .int .i64 0]) (S := (fun _ : World => True)) (late := []) (by kernel_rfl) ?_ ?_
 rotate_left
 ·replace HX := hide (HX.out.trans (Ext.refl W2).drew)
  replace HA := hide (HA.out.keep (Ext.refl W2).drew.bl)
  replace HZ := hide (HZ.out.keep (Ext.refl W2).drew.bl)
  generalize W2.drew = t0 at HA HZ HX SA ⊢
  refine zd (i := 0) (d := 32) (v := .pointer (some ⟨w.heap.size, 5, none⟩)) rfl (by rfl) (by kernel_rfl) (by kernel_rfl) (fun _ _ _ h => by cases h.1) _ (by kernel_rfl) (by kernel_rfl) (Or.inl ⟨by kernel_rfl, ?_⟩) SA.out ?_
  ·intro w' h
   have z0 := h
   go_simp
   try rfl
  simp only [Act.put, sT, sZ, sS]
  refine zd (i := 1) (d := 33) (v := .int .i64 2) rfl (by rfl) (by kernel_rfl) (by kernel_rfl) (fun _ _ _ h => by cases h.1) _ (by kernel_rfl) (by kernel_rfl) (Or.inl ⟨by kernel_rfl, ?_⟩) SA.out ?_
  ·intro w' h
   have z0 := h
   go_simp
   try rfl
  simp only [Act.put, sT, sZ, sS]
  refine zd (i := 2) (d := 34) (v := .int .i64 3) rfl (by rfl) (by kernel_rfl) (by kernel_rfl) (fun _ _ _ h => by cases h.1) _ (by kernel_rfl) (by kernel_rfl) (Or.inl ⟨by kernel_rfl, ?_⟩) SA.out ?_
  ·intro w' h
   have z0 := h
   go_simp
   try rfl
  simp only [Act.put, sT, sZ, sS]
  refine zd (i := 3) (d := 35) (v := .slice (some ⟨w.heap.size, 7, none⟩) 1 2) rfl (by rfl) (by kernel_rfl) (by kernel_rfl) (fun _ _ _ h => by cases h.1) _ (by kernel_rfl) (by kernel_rfl) (Or.inl ⟨by kernel_rfl, ?_⟩) SA.out ?_
  ·intro w' h
   have z0 := h
   go_simp
   try rfl
  simp only [Act.put, sT, sZ, sS]
  refine zd (i := 4) (d := 36) (v := .pointer (some ⟨w.heap.size, 5, none⟩)) rfl (by rfl) (by kernel_rfl) (by kernel_rfl) (fun _ _ _ h => by cases h.1) _ (by kernel_rfl) (by kernel_rfl) (Or.inl ⟨by kernel_rfl, ?_⟩) SA.out ?_
  ·intro w' h
   have z0 := h
   go_simp
   try rfl
  simp only [Act.put, sT, sZ, sS]
  refine zd (i := 5) (d := 37) (v := .int .i64 2) rfl (by rfl) (by kernel_rfl) (by kernel_rfl) (fun _ _ _ h => by cases h.1) _ (by kernel_rfl) (by kernel_rfl) (Or.inl ⟨by kernel_rfl, ?_⟩) SA.out ?_
  ·intro w' h
   have z0 := h
   go_simp
   try rfl
  simp only [Act.put, sT, sZ, sS]
  refine zd (i := 6) (d := 38) (v := .int .i64 3) rfl (by rfl) (by kernel_rfl) (by kernel_rfl) (fun _ _ _ h => by cases h.1) _ (by kernel_rfl) (by kernel_rfl) (Or.inl ⟨by kernel_rfl, ?_⟩) SA.out ?_
  ·intro w' h
   have z0 := h
   go_simp
   try rfl
  simp only [Act.put, sT, sZ, sS]
  refine zd (i := 7) (d := 39) (v := .slice (some ⟨w.heap.size, 8, none⟩) 1 1) rfl (by rfl) (by kernel_rfl) (by kernel_rfl) (fun _ _ _ h => by cases h.1) _ (by kernel_rfl) (by kernel_rfl) (Or.inl ⟨by kernel_rfl, ?_⟩) SA.out ?_
  ·intro w' h
   have z0 := h
   go_simp
   try rfl
  simp only [Act.put, sT, sZ, sS]
  have hcp : (Builtin.copy_ #[25, 25] 3 #[.slice (some ⟨w.heap.size, 7, none⟩) 1 2, .slice (some ⟨w.heap.size, 8, none⟩) 1 1]).run Tryz.prog t0 = .ok (goInt 1) (t0.setCell ⟨w.heap.size, 7, none⟩ (.int .i64 s3)) := by
   have fzn := fun (q : Nat) => HX.out.unfrozen (b := w.heap.size) (Nat.le_refl _) q
   refine run_copy_cells (P := Tryz.prog) t0 25 25 3 2 w.heap.size 7 1 2 ⟨w.heap.size, 8, none⟩ 1 1 [.int .i64 s3] Tryz.underlying25 zy2 rfl ?_ ?_ (fun j _ => fzn _) (by simp [Value.oneCell'])
   ·intro j v hv
    have q := HA.out (8 + j) v (by
     rw [← hv]
     match j with
     | 0 => rfl
     | j + 1 => simp at hv)
    rw [Addr.add_lit]
    exact q
   ·intro j hj
    have hj' : j < 1 := hj
    have q := HA.out (7 + j) _ (List.getElem?_eq_getElem (by simp; omega))
    rw [q]; rfl
  refine zg (i := 8) (by kernel_rfl) rfl (fun K hK => ?_)
  go_simp
  refine hK.out _ _ (fun _ => trivial) ?_
  clear hK K
  try simp only [Act.put, sT, sZ, sS]
  refine zh (by kernel_rfl) ?_ _
  exact ⟨rfl, by kernel_rfl, (HX.out.fresh (Nat.le_refl _) 7 (.int .i64 s3)), (HA.out.set1 (j := 7) (by simp) (.int .i64 s3)), (HZ.out.other (B := w.heap.size) (j := 7) (by omega) (.int .i64 s3))⟩
 rintro a' W3 ⟨rfl, hx, ha, hz⟩
 replace HX := hide hx
 replace HA := hide ha
 replace HZ := hide hz
 clear hx ha hz SA
 simp only [Act.put, sT, sZ, sS]
 have c0 : (_ : Option Value) = some (.int .i64 4) := HA.out 0 _ rfl
 have c1 : (_ : Option Value) = some (.int .i64 a0) := HA.out 1 _ rfl
 have c2 : (_ : Option Value) = some (.int .i64 a1) := HA.out 2 _ rfl
 have c3 : (_ : Option Value) = some (.int .i64 a3) := HA.out 3 _ rfl
 have c4 : (_ : Option Value) = some (.int .i64 a3) := HA.out 4 _ rfl
 have c5 : (_ : Option Value) = some (.int .i64 s0) := HA.out 5 _ rfl
 have c6 : (_ : Option Value) = some (.int .i64 s1) := HA.out 6 _ rfl
 have c7 : (_ : Option Value) = some (.int .i64 s3) := HA.out 7 _ rfl
 have c8 : (_ : Option Value) = some (.int .i64 s3) := HA.out 8 _ rfl
 have c9 : (_ : Option Value) = some (.int .i64 off) := HA.out 9 _ rfl
 have z0 : (_ : Option Value) = some (.int .i64 0) := HZ.out 0 _ rfl
 have z1 : (_ : Option Value) = some (.int .i64 0) := HZ.out 1 _ rfl
 have z2 : (_ : Option Value) = some (.int .i64 0) := HZ.out 2 _ rfl
 have z3 : (_ : Option Value) = some (.int .i64 0) := HZ.out 3 _ rfl
 have z4 : (_ : Option Value) = some (.int .i64 0) := HZ.out 4 _ rfl
 have z5 : (_ : Option Value) = some (.int .i64 0) := HZ.out 5 _ rfl
 have z6 : (_ : Option Value) = some (.int .i64 0) := HZ.out 6 _ rfl
 have z7 : (_ : Option Value) = some (.int .i64 0) := HZ.out 7 _ rfl
 have z8 : (_ : Option Value) = some (.int .i64 0) := HZ.out 8 _ rfl
 have z9 : (_ : Option Value) = some (.int .i64 0) := HZ.out 9 _ rfl
 have fzn : ∀ q, W3.frozen? ⟨w.heap.size, q, none⟩ = false := fun q => HX.out.unfrozen (Nat.le_refl _) q
 have fzm : ∀ q, W3.frozen? ⟨w.heap.size + 1, q, none⟩ = false := fun q => HX.out.unfrozen (by omega) q
 have HA2 := hide ((HA.out.set1 (j := 4) (by simp) (.int .i64 a2)).set1 (j := 8) (by simp) (.int .i64 s2))
 have HZ2 := hide ((HZ.out.other (B := w.heap.size) (j := 4) (by omega) (.int .i64 a2)).other (B := w.heap.size) (j := 8) (by omega) (.int .i64 s2))
 have HX2 := hide ((HX.out.fresh (Nat.le_refl _) 4 (.int .i64 a2)).fresh (Nat.le_refl _) 8 (.int .i64 s2))
 have HZ3 := hide ((((((((((HZ2.out.set1 (j := 0) (by simp) (.int .i64 4)).set1 (j := 1) (by simp) (.int .i64 a0)).set1 (j := 2) (by simp) (.int .i64 a1)).set1 (j := 3) (by simp) (.int .i64 a3)).set1 (j := 4) (by simp) (.int .i64 a2)).set1 (j := 5) (by simp) (.int .i64 s0)).set1 (j := 6) (by simp) (.int .i64 s1)).set1 (j := 7) (by simp) (.int .i64 s3)).set1 (j := 8) (by simp) (.int .i64 s2)).set1 (j := 9) (by simp) (.int .i64 off))
 have HX3 := hide ((((((((((HX2.out.fresh (B := w.heap.size + 1) (by omega) 0 (.int .i64 4)).fresh (B := w.heap.size + 1) (by omega) 1 (.int .i64 a0)).fresh (B := w.heap.size + 1) (by omega) 2 (.int .i64 a1)).fresh (B := w.heap.size + 1) (by omega) 3 (.int .i64 a3)).fresh (B := w.heap.size + 1) (by omega) 4 (.int .i64 a2)).fresh (B := w.heap.size + 1) (by omega) 5 (.int .i64 s0)).fresh (B := w.heap.size + 1) (by omega) 6 (.int .i64 s1)).fresh (B := w.heap.size + 1) (by omega) 7 (.int .i64 s3)).fresh (B := w.heap.size + 1) (by omega) 8 (.int .i64 s2)).fresh (B := w.heap.size + 1) (by omega) 9 (.int .i64 off))
 have y0 := HZ3.out 0 _ rfl
 have y1 := HZ3.out 1 _ rfl
 have y2 := HZ3.out 2 _ rfl
 have y3 := HZ3.out 3 _ rfl
 have y4 := HZ3.out 4 _ rfl
 have y5 := HZ3.out 5 _ rfl
 have y6 := HZ3.out 6 _ rfl
 have y7 := HZ3.out 7 _ rfl
 have y8 := HZ3.out 8 _ rfl
 have y9 := HZ3.out 9 _ rfl
 have HY : Hid True := trivial
 have d0 := HA2.out 0 _ rfl
 have d1 := HA2.out 1 _ rfl
 have d2 := HA2.out 2 _ rfl
 have d3 := HA2.out 3 _ rfl
 have d4 := HA2.out 4 _ rfl
 have d5 := HA2.out 5 _ rfl
 have d6 := HA2.out 6 _ rfl
 have d7 := HA2.out 7 _ rfl
 have d8 := HA2.out 8 _ rfl
 have d9 := HA2.out 9 _ rfl
 go_wp2_with fail
 refine bodyPost_ret (v := .agg #[.int .i64 4, .int .i64 a0, .int .i64 a1, .int .i64 a3, .int .i64 a2, .int .i64 s0, .int .i64 s1, .int .i64 s3, .int .i64 s2, .int .i64 off]) (by simp [results, Tryz.results83, go_sem, y0, y1, y2, y3, y4, y5, y6, y7, y8, y9]) rfl ⟨rfl, HX3.out⟩
theorem zh14 (w : World) (a0 a1 a2 a3 s0 s1 s2 s3 off : Int) :
  Calls Tryz.prog 83 #[.agg #[.int .i64 4, .int .i64 a0, .int .i64 a1, .int .i64 a2, .int .i64 a3, .int .i64 s0, .int .i64 s1, .int .i64 s2, .int .i64 s3, .int .i64 off], .int .i64 3] w fun e w' => e = .returned (.agg #[.int .i64 4, .int .i64 a0, .int .i64 a1, .int .i64 a2, .int .i64 a3, .int .i64 s0, .int .i64 s1, .int .i64 s2, .int .i64 s3, .int .i64 off]) ∧ Ext w w' := by
 have x0 : Ext w ((w.alloc (.cells #[.int .i64 4, .int .i64 a0, .int .i64 a1, .int .i64 a2, .int .i64 a3, .int .i64 s0, .int .i64 s1, .int .i64 s2, .int .i64 s3, .int .i64 off] 83)).alloc (.cells #[.int .i64 0, .int .i64 0, .int .i64 0, .int .i64 0, .int .i64 0, .int .i64 0, .int .i64 0, .int .i64 0, .int .i64 0, .int .i64 0] 83)) := ((Ext.refl w).alloc _ _).alloc _ _
 have x1 : Ext (w.alloc (.cells #[.int .i64 4, .int .i64 a0, .int .i64 a1, .int .i64 a2, .int .i64 a3, .int .i64 s0, .int .i64 s1, .int .i64 s2, .int .i64 s3, .int .i64 off] 83)) ((w.alloc (.cells #[.int .i64 4, .int .i64 a0, .int .i64 a1, .int .i64 a2, .int .i64 a3, .int .i64 s0, .int .i64 s1, .int .i64 s2, .int .i64 s3, .int .i64 off] 83)).alloc (.cells #[.int .i64 0, .int .i64 0, .int .i64 0, .int .i64 0, .int .i64 0, .int .i64 0, .int .i64 0, .int .i64 0, .int .i64 0, .int .i64 0] 83)) := (Ext.refl _).alloc _ _
 have A0 : AtB ((w.alloc (.cells #[.int .i64 4, .int .i64 a0, .int .i64 a1, .int .i64 a2, .int .i64 a3, .int .i64 s0, .int .i64 s1, .int .i64 s2, .int .i64 s3, .int .i64 off] 83)).alloc (.cells #[.int .i64 0, .int .i64 0, .int .i64 0, .int .i64 0, .int .i64 0, .int .i64 0, .int .i64 0, .int .i64 0, .int .i64 0, .int .i64 0] 83)) w.heap.size [.int .i64 4, .int .i64 a0, .int .i64 a1, .int .i64 a2, .int .i64 a3, .int .i64 s0, .int .i64 s1, .int .i64 s2, .int .i64 s3, .int .i64 off] := fun j x hx => x1.box ((ze w _ 83 _ rfl j).trans (by simpa using hx))
 have Z0 : AtB ((w.alloc (.cells #[.int .i64 4, .int .i64 a0, .int .i64 a1, .int .i64 a2, .int .i64 a3, .int .i64 s0, .int .i64 s1, .int .i64 s2, .int .i64 s3, .int .i64 off] 83)).alloc (.cells #[.int .i64 0, .int .i64 0, .int .i64 0, .int .i64 0, .int .i64 0, .int .i64 0, .int .i64 0, .int .i64 0, .int .i64 0, .int .i64 0] 83)) (w.heap.size + 1) [.int .i64 0, .int .i64 0, .int .i64 0, .int .i64 0, .int .i64 0, .int .i64 0, .int .i64 0, .int .i64 0, .int .i64 0, .int .i64 0] := fun j x hx => (ze _ _ 83 _ (by simp) j).trans (by simpa using hx)
 have HA := hide A0
 have HZ := hide Z0
 have HX := hide x0
 clear x0 x1 A0 Z0
 go_enter Tryz.func83, Tryz.ntmps83
 go_wp2_with fail
 generalize (w.alloc (.cells #[.int .i64 4, .int .i64 a0, .int .i64 a1, .int .i64 a2, .int .i64 a3, .int .i64 s0, .int .i64 s1, .int .i64 s2, .int .i64 s3, .int .i64 off] 83)).alloc (.cells #[.int .i64 0, .int .i64 0, .int .i64 0, .int .i64 0, .int .i64 0, .int .i64 0, .int .i64 0, .int .i64 0, .int .i64 0, .int .i64 0] 83) = W0 at HA HZ HX ⊢
 have c0 : (_ : Option Value) = some (.int .i64 4) := HA.out 0 _ rfl
 have c1 : (_ : Option Value) = some (.int .i64 a0) := HA.out 1 _ rfl
 have c2 : (_ : Option Value) = some (.int .i64 a1) := HA.out 2 _ rfl
 have c3 : (_ : Option Value) = some (.int .i64 a2) := HA.out 3 _ rfl
 have c4 : (_ : Option Value) = some (.int .i64 a3) := HA.out 4 _ rfl
 have c5 : (_ : Option Value) = some (.int .i64 s0) := HA.out 5 _ rfl
 have c6 : (_ : Option Value) = some (.int .i64 s1) := HA.out 6 _ rfl
 have c7 : (_ : Option Value) = some (.int .i64 s2) := HA.out 7 _ rfl
 have c8 : (_ : Option Value) = some (.int .i64 s3) := HA.out 8 _ rfl
 have c9 : (_ : Option Value) = some (.int .i64 off) := HA.out 9 _ rfl
 go_region
 go_wp2_with fail
 replace HX := hide (HX.out.trans (Ext.refl W0).drew)
 replace HA := hide (HA.out.keep (Ext.refl W0).drew.bl)
 replace HZ := hide (HZ.out.keep (Ext.refl W0).drew.bl)
 clear c0 c1 c2 c3 c4 c5 c6 c7 c8 c9
 try generalize W0.drew = W1 at HA HZ HX ⊢
 have SA : Hid ((fun _ : World => True) W1.drew) := trivial
 refine zq (fun ac a' w' => a' = (((((((((((ac.put (some 21) (.pointer (some ⟨w.heap.size, 0, none⟩))).put (some 22) (.pointer (some ⟨w.heap.size, 1, none⟩))).put (some 23) (.int .i64 3)).put (some 24) (.int .i64 3)).put (some 25) (.slice (some ⟨w.heap.size, 4, none⟩) 0 1)).put (some 26) (.pointer (some ⟨w.heap.size, 0, none⟩))).put (some 27) (.pointer (some ⟨w.heap.size, 1, none⟩))).put (some 28) (.int .i64 3)).put (some 29) (.int .i64 4)).put (some 30) (.slice (some ⟨w.heap.size, 1, none⟩) 0 0)).put (some 31) (.int .i64 0)) ∧ Ext w w' ∧ AtB w' w.heap.size [.int .i64 4, .int .i64 a0, .int .i64 a1, .int .i64 a2, .int .i64 a3, .int .i64 s0, .int .i64 s1, .int .i64 s2, .int .i64 s3, .int .i64 off] ∧ AtB w' (w.heap.size + 1) [.int .i64 0, .int .i64 0, .int .i64 0, .int .i64 0, .int .i64 0, .int .i64 0, .int .i64 0, .int .i64 0, .int .i64 0, .int .i64 0]) (S := (fun _ : World => True)) (late := []) (by kernel_rfl) ?_ ?_
 rotate_left
 ·replace HX := hide (HX.out.trans (Ext.refl W1).drew)
  replace HA := hide (HA.out.keep (Ext.refl W1).drew.bl)
  replace HZ := hide (HZ.out.keep (Ext.refl W1).drew.bl)
  generalize W1.drew = t0 at HA HZ HX SA ⊢
  refine zd (i := 0) (d := 21) (v := .pointer (some ⟨w.heap.size, 0, none⟩)) rfl (by rfl) (by kernel_rfl) (by kernel_rfl) (fun _ _ _ h => by cases h.1) _ (by kernel_rfl) (by kernel_rfl) (Or.inl ⟨by kernel_rfl, ?_⟩) SA.out ?_
  ·intro w' h
   have z0 := h
   go_simp
   try rfl
  simp only [Act.put, sT, sZ, sS]
  refine zd (i := 1) (d := 22) (v := .pointer (some ⟨w.heap.size, 1, none⟩)) rfl (by rfl) (by kernel_rfl) (by kernel_rfl) (fun _ _ _ h => by cases h.1) _ (by kernel_rfl) (by kernel_rfl) (Or.inl ⟨by kernel_rfl, ?_⟩) SA.out ?_
  ·intro w' h
   have z0 := h
   go_simp
   try rfl
  simp only [Act.put, sT, sZ, sS]
  refine zd (i := 2) (d := 23) (v := .int .i64 3) rfl (by rfl) (by kernel_rfl) (by kernel_rfl) (fun _ _ _ h => by cases h.1) _ (by kernel_rfl) (by kernel_rfl) (Or.inl ⟨by kernel_rfl, ?_⟩) SA.out ?_
  ·intro w' h
   have z0 := h
   go_simp
   try rfl
  simp only [Act.put, sT, sZ, sS]
  refine zd (i := 3) (d := 24) (v := .int .i64 3) rfl (by rfl) (by kernel_rfl) (by kernel_rfl) (fun _ _ _ h => by cases h.1) _ (by kernel_rfl) (by kernel_rfl) (Or.inl ⟨by kernel_rfl, ?_⟩) SA.out ?_
  ·intro w' h
   have z0 := h
   go_simp
   try rfl
  simp only [Act.put, sT, sZ, sS]
  refine zd (i := 4) (d := 25) (v := .slice (some ⟨w.heap.size, 4, none⟩) 0 1) rfl (by rfl) (by kernel_rfl) (by kernel_rfl) (fun _ _ _ h => by cases h.1) _ (by kernel_rfl) (by kernel_rfl) (Or.inl ⟨by kernel_rfl, ?_⟩) SA.out ?_
  ·intro w' h
   have z0 := h
   go_simp
   try rfl
  simp only [Act.put, sT, sZ, sS]
  refine zd (i := 5) (d := 26) (v := .pointer (some ⟨w.heap.size, 0, none⟩)) rfl (by rfl) (by kernel_rfl) (by kernel_rfl) (fun _ _ _ h => by cases h.1) _ (by kernel_rfl) (by kernel_rfl) (Or.inl ⟨by kernel_rfl, ?_⟩) SA.out ?_
  ·intro w' h
   have z0 := h
   go_simp
   try rfl
  simp only [Act.put, sT, sZ, sS]
  refine zd (i := 6) (d := 27) (v := .pointer (some ⟨w.heap.size, 1, none⟩)) rfl (by rfl) (by kernel_rfl) (by kernel_rfl) (fun _ _ _ h => by cases h.1) _ (by kernel_rfl) (by kernel_rfl) (Or.inl ⟨by kernel_rfl, ?_⟩) SA.out ?_
  ·intro w' h
   have z0 := h
   go_simp
   try rfl
  simp only [Act.put, sT, sZ, sS]
  refine zd (i := 7) (d := 28) (v := .int .i64 3) rfl (by rfl) (by kernel_rfl) (by kernel_rfl) (fun _ _ _ h => by cases h.1) _ (by kernel_rfl) (by kernel_rfl) (Or.inl ⟨by kernel_rfl, ?_⟩) SA.out ?_
  ·intro w' h
   have z0 := h
   go_simp
   try rfl
  simp only [Act.put, sT, sZ, sS]
  refine zd (i := 8) (d := 29) (v := .int .i64 4) rfl (by rfl) (by kernel_rfl) (by kernel_rfl) (fun _ _ _ h => by cases h.1) _ (by kernel_rfl) (by kernel_rfl) (Or.inl ⟨by kernel_rfl, ?_⟩) SA.out ?_
  ·intro w' h
   have z0 := h
   go_simp
   try rfl
  simp only [Act.put, sT, sZ, sS]
  refine zd (i := 9) (d := 30) (v := .slice (some ⟨w.heap.size, 1, none⟩) 0 0) rfl (by rfl) (by kernel_rfl) (by kernel_rfl) (fun _ _ _ h => by cases h.1) _ (by kernel_rfl) (by kernel_rfl) (Or.inl ⟨by kernel_rfl, ?_⟩) SA.out ?_
  ·intro w' h
   have z0 := h
   go_simp
   try rfl
  simp only [Act.put, sT, sZ, sS]
  have hcp := run_copy_none (P := Tryz.prog) t0 25 25 3 2 (some ⟨w.heap.size, 4, none⟩) (some ⟨w.heap.size, 1, none⟩) 0 1 0 0 Tryz.underlying25 zy2 rfl
  refine zg (i := 10) (by kernel_rfl) rfl (fun K hK => ?_)
  go_simp
  refine hK.out _ _ (fun _ => trivial) ?_
  clear hK K
  try simp only [Act.put, sT, sZ, sS]
  refine zh (by kernel_rfl) ?_ _
  exact ⟨rfl, by kernel_rfl, HX.out, HA.out, HZ.out⟩
 rintro a' W2 ⟨rfl, hx, ha, hz⟩
 replace HX := hide hx
 replace HA := hide ha
 replace HZ := hide hz
 clear hx ha hz SA
 simp only [Act.put, sT, sZ, sS]
 go_wp2_with fail
 have SA : Hid ((fun _ : World => True) W2.drew) := trivial
 refine zq (fun ac a' w' => a' = (((((((((ac.put (some 32) (.pointer (some ⟨w.heap.size, 5, none⟩))).put (some 33) (.int .i64 3)).put (some 34) (.int .i64 3)).put (some 35) (.slice (some ⟨w.heap.size, 8, none⟩) 0 1)).put (some 36) (.pointer (some ⟨w.heap.size, 5, none⟩))).put (some 37) (.int .i64 3)).put (some 38) (.int .i64 4)).put (some 39) (.slice (some ⟨w.heap.size, 5, none⟩) 0 0)).put (some 40) (.int .i64 0)) ∧ Ext w w' ∧ AtB w' w.heap.size [.int .i64 4, .int .i64 a0, .int .i64 a1, .int .i64 a2, .int .i64 a3, .int .i64 s0, .int .i64 s1, .int .i64 s2, .int .i64 s3, .int .i64 off] ∧ AtB w' (w.heap.size + 1) [.int .i64 0, .int .i64 0, .int .i64 0, .int .i64 0, .int .i64 0, .int .i64 0, .int .i64 0, .int .i64 0, .int .i64 0, .int .i64 0]) (S := (fun _ : World => True)) (late := []) (by kernel_rfl) ?_ ?_
 rotate_left
 ·replace HX := hide (HX.out.trans (Ext.refl W2).drew)
  replace HA := hide (HA.out.keep (Ext.refl W2).drew.bl)
  replace HZ := hide (HZ.out.keep (Ext.refl W2).drew.bl)
  generalize W2.drew = t0 at HA HZ HX SA ⊢
  refine zd (i := 0) (d := 32) (v := .pointer (some ⟨w.heap.size, 5, none⟩)) rfl (by rfl) (by kernel_rfl) (by kernel_rfl) (fun _ _ _ h => by cases h.1) _ (by kernel_rfl) (by kernel_rfl) (Or.inl ⟨by kernel_rfl, ?_⟩) SA.out ?_
  ·intro w' h
   have z0 := h
   go_simp
   try rfl
  simp only [Act.put, sT, sZ, sS]
  refine zd (i := 1) (d := 33) (v := .int .i64 3) rfl (by rfl) (by kernel_rfl) (by kernel_rfl) (fun _ _ _ h => by cases h.1) _ (by kernel_rfl) (by kernel_rfl) (Or.inl ⟨by kernel_rfl, ?_⟩) SA.out ?_
  ·intro w' h
   have z0 := h
   go_simp
   try rfl
  simp only [Act.put, sT, sZ, sS]
  refine zd (i := 2) (d := 34) (v := .int .i64 3) rfl (by rfl) (by kernel_rfl) (by kernel_rfl) (fun _ _ _ h => by cases h.1) _ (by kernel_rfl) (by kernel_rfl) (Or.inl ⟨by kernel_rfl, ?_⟩) SA.out ?_
  ·intro w' h
   have z0 := h
   go_simp
   try rfl
  simp only [Act.put, sT, sZ, sS]
  refine zd (i := 3) (d := 35) (v := .slice (some ⟨w.heap.size, 8, none⟩) 0 1) rfl (by rfl) (by kernel_rfl) (by kernel_rfl) (fun _ _ _ h => by cases h.1) _ (by kernel_rfl) (by kernel_rfl) (Or.inl ⟨by kernel_rfl, ?_⟩) SA.out ?_
  ·intro w' h
   have z0 := h
   go_simp
   try rfl
  simp only [Act.put, sT, sZ, sS]
  refine zd (i := 4) (d := 36) (v := .pointer (some ⟨w.heap.size, 5, none⟩)) rfl (by rfl) (by kernel_rfl) (by kernel_rfl) (fun _ _ _ h => by cases h.1) _ (by kernel_rfl) (by kernel_rfl) (Or.inl ⟨by kernel_rfl, ?_⟩) SA.out ?_
  ·intro w' h
   have z0 := h
   go_simp
   try rfl
  simp only [Act.put, sT, sZ, sS]
  refine zd (i := 5) (d := 37) (v := .int .i64 3) rfl (by rfl) (by kernel_rfl) (by kernel_rfl) (fun _ _ _ h => by cases h.1) _ (by kernel_rfl) (by kernel_rfl) (Or.inl ⟨by kernel_rfl, ?_⟩) SA.out ?_
  ·intro w' h
   have z0 := h
   go_simp
   try rfl
  simp only [Act.put, sT, sZ, sS]
  refine zd (i := 6) (d := 38) (v := .int .i64 4) rfl (by rfl) (by kernel_rfl) (by kernel_rfl) (fun _ _ _ h => by cases h.1) _ (by kernel_rfl) (by kernel_rfl) (Or.inl ⟨by kernel_rfl, ?_⟩) SA.out ?_
  ·intro w' h
   have z0 := h
   go_simp
   try rfl
  simp only [Act.put, sT, sZ, sS]
  refine zd (i := 7) (d := 39) (v := .slice (some ⟨w.heap.size, 5, none⟩) 0 0) rfl (by rfl) (by kernel_rfl) (by kernel_rfl) (fun _ _ _ h => by cases h.1) _ (by kernel_rfl) (by kernel_rfl) (Or.inl ⟨by kernel_rfl, ?_⟩) SA.out ?_
  ·intro w' h
   have z0 := h
   go_simp
   try rfl
  simp only [Act.put, sT, sZ, sS]
  have hcp := run_copy_none (P := Tryz.prog) t0 25 25 3 2 (some ⟨w.heap.size, 8, none⟩) (some ⟨w.heap.size, 5, none⟩) 0 1 0 0 Tryz.underlying25 zy2 rfl
  refine zg (i := 8) (by kernel_rfl) rfl (fun K hK => ?_)
  go_simp
  refine hK.out _ _ (fun _ => trivial) ?_
  clear hK K
  try simp only [Act.put, sT, sZ, sS]
  refine zh (by kernel_rfl) ?_ _
  exact ⟨rfl, by kernel_rfl, HX.out, HA.out, HZ.out⟩
 rintro a' W3 ⟨rfl, hx, ha, hz⟩
 replace HX := hide hx
 replace HA := hide ha
 replace HZ := hide hz
 clear hx ha hz SA
 simp only [Act.put, sT, sZ, sS]
 have c0 : (_ : Option Value) = some (.int .i64 4) := HA.out 0 _ rfl
 have c1 : (_ : Option Value) = some (.int .i64 a0) := HA.out 1 _ rfl
 have c2 : (_ : Option Value) = some (.int .i64 a1) := HA.out 2 _ rfl
 have c3 : (_ : Option Value) = some (.int .i64 a2) := HA.out 3 _ rfl
 have c4 : (_ : Option Value) = some (.int .i64 a3) := HA.out 4 _ rfl
 have c5 : (_ : Option Value) = some (.int .i64 s0) := HA.out 5 _ rfl
 have c6 : (_ : Option Value) = some (.int .i64 s1) := HA.out 6 _ rfl
 have c7 : (_ : Option Value) = some (.int .i64 s2) := HA.out 7 _ rfl
 have c8 : (_ : Option Value) = some (.int .i64 s3) := HA.out 8 _ rfl
 have c9 : (_ : Option Value) = some (.int .i64 off) := HA.out 9 _ rfl
 have z0 : (_ : Option Value) = some (.int .i64 0) := HZ.out 0 _ rfl
 have z1 : (_ : Option Value) = some (.int .i64 0) := HZ.out 1 _ rfl
 have z2 : (_ : Option Value) = some (.int .i64 0) := HZ.out 2 _ rfl
 have z3 : (_ : Option Value) = some (.int .i64 0) := HZ.out 3 _ rfl
 have z4 : (_ : Option Value) = some (.int .i64 0) := HZ.out 4 _ rfl
 have z5 : (_ : Option Value) = some (.int .i64 0) := HZ.out 5 _ rfl
 have z6 : (_ : Option Value) = some (.int .i64 0) := HZ.out 6 _ rfl
 have z7 : (_ : Option Value) = some (.int .i64 0) := HZ.out 7 _ rfl
 have z8 : (_ : Option Value) = some (.int .i64 0) := HZ.out 8 _ rfl
 have z9 : (_ : Option Value) = some (.int .i64 0) := HZ.out 9 _ rfl
 have fzn : ∀ q, W3.frozen? ⟨w.heap.size, q, none⟩ = false := fun q => HX.out.unfrozen (Nat.le_refl _) q
 have fzm : ∀ q, W3.frozen? ⟨w.heap.size + 1, q, none⟩ = false := fun q => HX.out.unfrozen (by omega) q
 have HA2 := hide ((HA.out.set1 (j := 4) (by simp) (.int .i64 a3)).set1 (j := 8) (by simp) (.int .i64 s3))
 have HZ2 := hide ((HZ.out.other (B := w.heap.size) (j := 4) (by omega) (.int .i64 a3)).other (B := w.heap.size) (j := 8) (by omega) (.int .i64 s3))
 have HX2 := hide ((HX.out.fresh (Nat.le_refl _) 4 (.int .i64 a3)).fresh (Nat.le_refl _) 8 (.int .i64 s3))
 have HZ3 := hide ((((((((((HZ2.out.set1 (j := 0) (by simp) (.int .i64 4)).set1 (j := 1) (by simp) (.int .i64 a0)).set1 (j := 2) (by simp) (.int .i64 a1)).set1 (j := 3) (by simp) (.int .i64 a2)).set1 (j := 4) (by simp) (.int .i64 a3)).set1 (j := 5) (by simp) (.int .i64 s0)).set1 (j := 6) (by simp) (.int .i64 s1)).set1 (j := 7) (by simp) (.int .i64 s2)).set1 (j := 8) (by simp) (.int .i64 s3)).set1 (j := 9) (by simp) (.int .i64 off))
 have HX3 := hide ((((((((((HX2.out.fresh (B := w.heap.size + 1) (by omega) 0 (.int .i64 4)).fresh (B := w.heap.size + 1) (by omega) 1 (.int .i64 a0)).fresh (B := w.heap.size + 1) (by omega) 2 (.int .i64 a1)).fresh (B := w.heap.size + 1) (by omega) 3 (.int .i64 a2)).fresh (B := w.heap.size + 1) (by omega) 4 (.int .i64 a3)).fresh (B := w.heap.size + 1) (by omega) 5 (.int .i64 s0)).fresh (B := w.heap.size + 1) (by omega) 6 (.int .i64 s1)).fresh (B := w.heap.size + 1) (by omega) 7 (.int .i64 s2)).fresh (B := w.heap.size + 1) (by omega) 8 (.int .i64 s3)).fresh (B := w.heap.size + 1) (by omega) 9 (.int .i64 off))
 have y0 := HZ3.out 0 _ rfl
 have y1 := HZ3.out 1 _ rfl
 have y2 := HZ3.out 2 _ rfl
 have y3 := HZ3.out 3 _ rfl
 have y4 := HZ3.out 4 _ rfl
 have y5 := HZ3.out 5 _ rfl
 have y6 := HZ3.out 6 _ rfl
 have y7 := HZ3.out 7 _ rfl
 have y8 := HZ3.out 8 _ rfl
 have y9 := HZ3.out 9 _ rfl
 have HY : Hid True := trivial
 have d0 := HA2.out 0 _ rfl
 have d1 := HA2.out 1 _ rfl
 have d2 := HA2.out 2 _ rfl
 have d3 := HA2.out 3 _ rfl
 have d4 := HA2.out 4 _ rfl
 have d5 := HA2.out 5 _ rfl
 have d6 := HA2.out 6 _ rfl
 have d7 := HA2.out 7 _ rfl
 have d8 := HA2.out 8 _ rfl
 have d9 := HA2.out 9 _ rfl
 go_wp2_with fail
 refine bodyPost_ret (v := .agg #[.int .i64 4, .int .i64 a0, .int .i64 a1, .int .i64 a2, .int .i64 a3, .int .i64 s0, .int .i64 s1, .int .i64 s2, .int .i64 s3, .int .i64 off]) (by simp [results, Tryz.results83, go_sem, y0, y1, y2, y3, y4, y5, y6, y7, y8, y9]) rfl ⟨rfl, HX3.out⟩
end Go.Proofs.YtfhcpicddegblaaGreat
