import Derived.Test.YtfhcpicddegblaaGreatM5
import Derived.Test.YtfhcpicddegblaaGreatM7
import Derived.Test.YtfhcpicddegblaaGreatFsCh
import Derived.Laws.IdiomCopy
import Derived.RegionTactic
import Derived.BigRegion
namespace Go.Proofs.YtfhcpicddegblaaGreat
open Go.ChangeShapes Go.RowKit FL
set_option linter.unusedSimpArgs false
set_option linter.unusedVariables false

theorem info67 : (Tryz.prog.info? 67).map (fun i => (i.zero, i.size, i.bytes)) = some (some (.slice none 0 0), 1, 24) := by kernel_rfl
/-- What a round over the lanes leaves. -/
structure S1 (w : World) (sB base : Nat) (rv : Value) (k : Nat) (xs : List Value) (K : Nat) (F : List Nat) (w' : World) (b g cap : Nat) : Prop where
  box : w'.cell? ⟨sB, 0, none⟩ = some (.slice (some ⟨g, 0, none⟩) (k + 1) cap)
  bfz : ∀ o, w'.frozen? ⟨sB, o, none⟩ = w.frozen? ⟨sB, o, none⟩
  own : w'.ownsRow base 67 1 (.slice (some ⟨g, 0, none⟩) (k + 1) cap) (k + 1) (xs ++ [.slice (some ⟨b, 0, none⟩) K K])
  row : FRow w' b F
  blo : w.heap.size ≤ b
  bhi : b < w'.heap.size
  gb : rv.ownBlock = some g ∨ b < g
  size : w.heap.size ≤ w'.heap.size
  keep : ∀ c, c < w.heap.size → c ≠ sB → rv.ownBlock ≠ some c → w'.heap[c]? = w.heap[c]?
  bl : ∀ lo, lo ≤ sB → lo ≤ base → Below lo w w'
  r1 : ∀ o x, o ≠ 0 → w.cell? ⟨sB, o, none⟩ = some x → w'.cell? ⟨sB, o, none⟩ = some x

set_option maxRecDepth 100000 in
set_option maxHeartbeats 2000000 in
theorem solve1_any {w : World} {sB base bc o k : Nat} {rv : Value} {xs : List Value} {cs : List C3} (hrow : CRow w bc o cs) (hpos : 0 < cs.length) (hg : ∀ j, B64 ((cs.map (·.2.1)).getD j 0)) (hl : cs.length ≤ 4096)
    (hbox : w.cell? ⟨sB, 0, none⟩ = some rv) (hfz : w.frozen? ⟨sB, 0, none⟩ = false) (hown : w.ownsRow base 67 1 rv k xs) (hk : k ≤ 4096) (hb : base ≤ w.heap.size) (hsB : sB < base) :
    Calls Tryz.prog 42 #[.slice (some ⟨bc, o, none⟩) cs.length cs.length, .pointer (some ⟨sB, 0, none⟩)] w fun e w' => e = .returned (.tuple #[]) ∧ ∃ b g cap, S1 w sB base rv k xs cs.length (cs.map (·.2.1)) w' b g cap := by
  obtain ⟨i7, hi7, hx0, hx1, hx2⟩ := info_parts info67
  have hCV : CV w (.slice (some ⟨bc, o, none⟩) cs.length cs.length) cs := ⟨_, _, rfl, Or.inr ⟨bc, o, rfl, hrow⟩⟩
  have HF := hide (floatsOf_any (w := w.drew) (hCV.keep (show Bel w w.drew from (Below.refl _ _).drew)) hg hl)
  have SA : Hid ((fun w' : World => w'.cell? ⟨sB, 0, none⟩ = some rv) w.drew) := hbox
  have hov : ∀ c, rv.ownBlock = some c → base ≤ c ∧ c < w.heap.size := fun c hc => hown.lt c hc
  have Hov := hide hov
  have HO := hide hown
  clear hCV hrow hov hown
  go_enter Tryz.func42, Tryz.ntmps42
  go_wp2_with fail
  refine region_u (S := (fun w' : World => w'.cell? ⟨sB, 0, none⟩ = some rv)) (late := [7]) (by kernel_rfl) ?_
  refine wpAnyU_take (i := 0) (v := .pointer (some ⟨sB, 0, none⟩)) rfl (by kernel_rfl) (by kernel_rfl) (fun _ _ _ h => by cases h.1) _ (by kernel_rfl) (by kernel_rfl) (Or.inl ⟨by rfl, ?_⟩) SA.out ?_
  · intro w' hSw
    have z0 := hSw
    go_simp
  simp only [Act.put, List.setIfInBounds_toArray, List.set_cons_zero, List.set_cons_succ]
  refine wpAnyU_take (i := 1) (v := rv) rfl (by kernel_rfl) (by kernel_rfl) (fun _ _ _ h => by cases h.1) _ (by kernel_rfl) (by kernel_rfl) (Or.inl ⟨by rfl, ?_⟩) SA.out ?_
  · intro w' hSw
    have z0 := hSw
    go_simp
  simp only [Act.put, List.setIfInBounds_toArray, List.set_cons_zero, List.set_cons_succ]
  refine wpAnyU_take (i := 2) (v := .slice (some ⟨bc, o, none⟩) cs.length cs.length) rfl (by kernel_rfl) (by kernel_rfl) (fun _ _ _ h => by cases h.1) _ (by kernel_rfl) (by kernel_rfl) (Or.inl ⟨by rfl, ?_⟩) SA.out ?_
  · intro w' hSw
    have z0 := hSw
    go_simp
  simp only [Act.put, List.setIfInBounds_toArray, List.set_cons_zero, List.set_cons_succ]
  refine wpAnyU_one (i := 3) (by kernel_rfl) rfl (fun K hK => ?_)
  go_simp
  refine HF.out.mono ?_
  rintro e W2 ⟨b, rfl, hFR, hbb, hB2⟩
  refine hK.out _ _ (fun _ => Bel.box hB2 SA.out) ?_
  clear hK K
  try simp only [Act.put, List.setIfInBounds_toArray, List.set_cons_zero, List.set_cons_succ]
  have HB2 : Hid (Bel w W2) := Bel.tr (show Bel w w.drew from (Below.refl _ _).drew) hB2
  have HFR := hide hFR
  have hbb : w.heap.size ≤ b := hbb
  have hb2 : b < W2.heap.size := cell_lt (hFR.cell 0 (by simpa using hpos))
  have hs2 : w.heap.size ≤ W2.heap.size := hB2.size
  clear hFR hB2 HF
  refine wpAnyU_one (i := 4) (by kernel_rfl) rfl (fun K hK => ?_)
  go_simp
  refine hK.out _ _ (fun _ => Bel.box (Below.alloc HB2.out HB2.out.size _) SA.out) ?_
  clear hK K
  try simp only [Act.put, List.setIfInBounds_toArray, List.set_cons_zero, List.set_cons_succ]
  refine wpAnyU_one (i := 5) (by kernel_rfl) rfl (fun K hK => ?_)
  refine step_append_lies _ (by rfl) (.tmp 4) (.tmp 7) 92 (by rfl) base 67 i7 (.slice none 0 0) 1 24 Tryz.underlying92 hi7 hx0 hx1 hx2 rfl (by decide) rv k xs (by rfl) ((own_bel HO.out HB2.out).alloc _) ⟨W2.heap.size, 0, none⟩ 1 1 [.slice (some ⟨b, 0, none⟩) cs.length cs.length] (by rfl) (by rfl) (fun j u hj => by
    rw [Addr.add_lit, Nat.zero_add, new_cell W2 _ 67 _ rfl j]
    simpa using hj) (by simp [Value.oneCell']) (by omega) (by unfold maxLen; omega) (by omega) (by rw [World.size_alloc]; omega) (W2.heap.size + 1) (by simp) ?_
  intro g5 cap5 w5 hown5 hgrow5 hat5 hlt5
  have c5 : w5.cell? ⟨sB, 0, none⟩ = some rv := by
    have q : (W2.alloc (.cells #[.slice (some ⟨b, 0, none⟩) cs.length cs.length] 67)).cell? ⟨sB, 0, none⟩ = some rv := Bel.box (Below.alloc HB2.out HB2.out.size _) SA.out
    exact (World.cell?_of_block (w := W2.alloc (.cells #[.slice (some ⟨b, 0, none⟩) cs.length cs.length] 67)) (a := ⟨sB, 0, none⟩) (hgrow5.block sB (cell_lt q) (fun e => by have := Hov.out sB e.symm; omega))).trans q
  refine hK.out _ _ (fun _ => c5) ?_
  clear hK K
  try simp only [Act.put, List.setIfInBounds_toArray, List.set_cons_zero, List.set_cons_succ]
  have hblk : ∀ c, c < W2.heap.size → rv.ownBlock ≠ some c → w5.heap[c]? = W2.heap[c]? := fun c hc hn => by
    rw [hgrow5.block c (by rw [World.size_alloc]; omega) (fun e => hn e.symm)]
    exact ((Below.refl W2.heap.size W2).alloc (Nat.le_refl _) _).block c hc
  have f5 : ∀ o, w5.frozen? ⟨sB, o, none⟩ = w.frozen? ⟨sB, o, none⟩ := fun o => World.frozen?_of_block (w := w) (a := ⟨sB, o, none⟩) ((hblk sB (by omega) (fun e => by have := Hov.out sB e; omega)).trans (HB2.out.block sB (by omega)))
  have f50 := (f5 0).trans hfz
  have hs5 : W2.heap.size + 1 ≤ w5.heap.size := by have := hgrow5.size; rw [World.size_alloc] at this; exact this
  have hgb : rv.ownBlock = some g5 ∨ b < g5 := hat5.imp id (fun e => by omega)
  have HS1 : Hid (S1 w sB base rv k xs cs.length (cs.map (·.2.1)) (w5.setCell ⟨sB, 0, none⟩ (.slice (some ⟨g5, 0, none⟩) (k + 1) cap5)) b g5 cap5) := by
    have hb6 : ∀ c, c ≠ sB → (w5.setCell ⟨sB, 0, none⟩ (.slice (some ⟨g5, 0, none⟩) (k + 1) cap5)).heap[c]? = w5.heap[c]? := fun c hc => Below.heap_setCell _ _ _ _ hc
    refine ⟨World.cell?_setCell_same _ _ _ c5, fun o => by rw [World.frozen?_setCell]; exact f5 o, ?_, ?_, hbb, by simp [World.setCell]; omega, hgb, by simp [World.setCell]; omega, fun c hc hne hn => ?_, fun lo h1 h2 => ?_, fun o x ho hx => ?_⟩
    · refine hown5.kept (grownBy_setCell' w5 sB _) (.inr (fun e => ?_))
      have := own_lo hown5 (by omega)
      simp [Value.ownBlock] at e
      omega
    · exact HFR.out.block ((hb6 b (by omega)).trans (hblk b hb2 (fun e => by have := Hov.out b e; omega)))
    · exact (hb6 c hne).trans ((hblk c (by omega) hn).trans (HB2.out.block c hc))
    · refine ⟨?_, ?_, ?_, by simp [World.setCell]; omega, fun c hc => ?_⟩
      · exact hgrow5.os.trans HB2.out.os
      · exact hgrow5.tape.trans HB2.out.tape
      · exact hgrow5.output.trans HB2.out.output
      · exact (hb6 c (by omega)).trans ((hblk c (by omega) (fun e => by have := Hov.out c e; omega)).trans (HB2.out.block c (by omega)))
    · have q : w5.cell? ⟨sB, o, none⟩ = some x := (World.cell?_of_block (w := w) (a := ⟨sB, o, none⟩) ((hblk sB (by omega) (fun e => by have := Hov.out sB e; omega)).trans (HB2.out.block sB (by omega)))).trans hx
      rw [World.cell?_setCell_other _ _ _ _ (by intro e; simp only [Addr.mk.injEq] at e; omega)]
      exact q
  clear hown5 hgrow5 hat5 hlt5 f5 hblk
  refine wpAnyU_take (i := 6) (v := .pointer (some ⟨sB, 0, none⟩)) rfl (by kernel_rfl) (by kernel_rfl) (fun _ _ _ h => by cases h.1) _ (by kernel_rfl) (by kernel_rfl) (Or.inl ⟨by rfl, ?_⟩) c5 ?_
  · intro w' hSw
    have z0 := hSw
    go_simp
  simp only [Act.put, List.setIfInBounds_toArray, List.set_cons_zero, List.set_cons_succ]
  refine wpAnyU_one (i := 7) (by kernel_rfl) rfl (fun K hK => ?_)
  go_simp
  refine hK.out _ _ (fun h => absurd h (by decide)) ?_
  clear hK K
  try simp only [Act.put, List.setIfInBounds_toArray, List.set_cons_zero, List.set_cons_succ]
  refine wpAnyU_done (by kernel_rfl) ?_ _
  refine ⟨rfl, ?_⟩
  go_wp2_with fail
  refine bodyPost_end (results_none rfl _ _ _) rfl ⟨rfl, ?_⟩
  exact ⟨b, g5, cap5, HS1.out⟩
end Go.Proofs.YtfhcpicddegblaaGreat
namespace Go.Proofs.YtfhcpicddegblaaGreat
open Go.RowKit Go.ChangeShapes
set_option linter.unusedSimpArgs false
set_option linter.unusedVariables false

theorem size2 : (Tryz.prog.info? 2).map (·.size) = some 1 := by kernel_rfl
theorem add_at (b o j : Nat) : (⟨b, o, none⟩ : Addr).add j = ⟨b, o + j, none⟩ := by rw [Addr.add_lit]

set_option maxRecDepth 100000 in
set_option maxHeartbeats 1000000 in
theorem shape2_any {w : World} {b o cp : Nat} (x y : Int) (c0 : w.cell? ⟨b, o, none⟩ = some (.int .i64 x)) (c1 : w.cell? ⟨b, o + 1, none⟩ = some (.int .i64 y)) :
    Calls Tryz.prog 35 #[.slice (some ⟨b, o, none⟩) 2 cp] w fun e w' => e = .returned (.agg #[.int .i64 2, .int .i64 x, .int .i64 y, .int .i64 0, .int .i64 0]) ∧ Ext w w' := by
  have x1 : Ext w (w.alloc (.cells #[.int .i64 0, .int .i64 0, .int .i64 0, .int .i64 0, .int .i64 0] 81)) := (Ext.refl w).alloc _ _
  have x2 : Ext (w.alloc (.cells #[.int .i64 0, .int .i64 0, .int .i64 0, .int .i64 0, .int .i64 0] 81)) ((w.alloc (.cells #[.int .i64 0, .int .i64 0, .int .i64 0, .int .i64 0, .int .i64 0] 81)).alloc (.cells #[.int .i64 2, .int .i64 0, .int .i64 0, .int .i64 0, .int .i64 0] 81)) := (Ext.refl _).alloc _ _
  have xx := x1.trans x2
  have n1 := fun j => new_cell w #[.int .i64 0, .int .i64 0, .int .i64 0, .int .i64 0, .int .i64 0] 81 w.heap.size rfl j
  have n2 := fun j => new_cell (w.alloc (.cells #[.int .i64 0, .int .i64 0, .int .i64 0, .int .i64 0, .int .i64 0] 81)) #[.int .i64 2, .int .i64 0, .int .i64 0, .int .i64 0, .int .i64 0] 81 (w.heap.size + 1) (by simp) j
  have hr := run_copy_cells (P := Tryz.prog) ((w.alloc (.cells #[.int .i64 0, .int .i64 0, .int .i64 0, .int .i64 0, .int .i64 0] 81)).alloc (.cells #[.int .i64 2, .int .i64 0, .int .i64 0, .int .i64 0, .int .i64 0] 81)) 25 25 3 2 (w.heap.size + 1) 1 4 4 ⟨b, o, none⟩ 2 cp [.int .i64 x, .int .i64 y] Tryz.underlying25 size2 rfl
    (fun j v hj => by
      match j with
      | 0 => rw [add_at]; simp at hj; rw [← hj]; exact xx.box c0
      | 1 => rw [add_at]; simp at hj; rw [← hj]; exact xx.box c1
      | j + 2 => simp at hj)
    (fun j hj => by
      match j with
      | 0 => rw [n2]; rfl
      | 1 => rw [n2]; rfl
      | j + 2 => simp at hj; omega)
    (fun j hj => xx.unfrozen (by omega) _) (fun v hv => by simp at hv; rcases hv with rfl | rfl <;> rfl)
  simp only [World.setCells] at hr
  clear x1 x2
  clear xx n1 n2
  go_enter Tryz.func35, Tryz.ntmps35
  go_wp2
  refine bodyPost_ret (v := .agg #[.int .i64 2, .int .i64 x, .int .i64 y, .int .i64 0, .int .i64 0]) (by simp [results, Tryz.results35, go_sem]) rfl ⟨rfl, ?_⟩
  exact ((Ext.refl w).alloc _ _).alloc _ _
set_option maxRecDepth 100000 in
set_option maxHeartbeats 1000000 in
theorem shape1_any {w : World} {b o cp : Nat} (x : Int) (c0 : w.cell? ⟨b, o, none⟩ = some (.int .i64 x)) :
    Calls Tryz.prog 35 #[.slice (some ⟨b, o, none⟩) 1 cp] w fun e w' => e = .returned (.agg #[.int .i64 1, .int .i64 x, .int .i64 0, .int .i64 0, .int .i64 0]) ∧ Ext w w' := by
  have x1 : Ext w (w.alloc (.cells #[.int .i64 0, .int .i64 0, .int .i64 0, .int .i64 0, .int .i64 0] 81)) := (Ext.refl w).alloc _ _
  have x2 : Ext (w.alloc (.cells #[.int .i64 0, .int .i64 0, .int .i64 0, .int .i64 0, .int .i64 0] 81)) ((w.alloc (.cells #[.int .i64 0, .int .i64 0, .int .i64 0, .int .i64 0, .int .i64 0] 81)).alloc (.cells #[.int .i64 1, .int .i64 0, .int .i64 0, .int .i64 0, .int .i64 0] 81)) := (Ext.refl _).alloc _ _
  have xx := x1.trans x2
  have n1 := fun j => new_cell w #[.int .i64 0, .int .i64 0, .int .i64 0, .int .i64 0, .int .i64 0] 81 w.heap.size rfl j
  have n2 := fun j => new_cell (w.alloc (.cells #[.int .i64 0, .int .i64 0, .int .i64 0, .int .i64 0, .int .i64 0] 81)) #[.int .i64 1, .int .i64 0, .int .i64 0, .int .i64 0, .int .i64 0] 81 (w.heap.size + 1) (by simp) j
  have hr := run_copy_cells (P := Tryz.prog) ((w.alloc (.cells #[.int .i64 0, .int .i64 0, .int .i64 0, .int .i64 0, .int .i64 0] 81)).alloc (.cells #[.int .i64 1, .int .i64 0, .int .i64 0, .int .i64 0, .int .i64 0] 81)) 25 25 3 2 (w.heap.size + 1) 1 4 4 ⟨b, o, none⟩ 1 cp [.int .i64 x] Tryz.underlying25 size2 rfl
    (fun j v hj => by
      match j with
      | 0 => rw [add_at]; simp at hj; rw [← hj]; exact xx.box c0
      | j + 1 => simp at hj)
    (fun j hj => by
      match j with
      | 0 => rw [n2]; rfl
      | j + 1 => simp at hj)
    (fun j hj => xx.unfrozen (by omega) _) (fun v hv => by simp at hv; subst hv; rfl)
  simp only [World.setCells] at hr
  clear x1 x2
  clear xx n1 n2
  go_enter Tryz.func35, Tryz.ntmps35
  go_wp2
  refine bodyPost_ret (v := .agg #[.int .i64 1, .int .i64 x, .int .i64 0, .int .i64 0, .int .i64 0]) (by simp [results, Tryz.results35, go_sem]) rfl ⟨rfl, ?_⟩
  exact ((Ext.refl w).alloc _ _).alloc _ _
set_option maxRecDepth 100000 in
set_option maxHeartbeats 2000000 in
theorem axisLast_any (w : World) (a0 a1 a2 a3 s0 s1 s2 s3 off : Int) :
    Calls Tryz.prog 83 #[.agg #[.int .i64 2, .int .i64 a0, .int .i64 a1, .int .i64 a2, .int .i64 a3, .int .i64 s0, .int .i64 s1, .int .i64 s2, .int .i64 s3, .int .i64 off], .int .i64 1] w fun e w' => e = .returned (.agg #[.int .i64 2, .int .i64 a0, .int .i64 a1, .int .i64 a2, .int .i64 a3, .int .i64 s0, .int .i64 s1, .int .i64 s2, .int .i64 s3, .int .i64 off]) ∧ Ext w w' := by
  have h1 := fun W => run_copy_none (P := Tryz.prog) W 25 25 3 2 (some ⟨w.heap.size, 2, none⟩) (some ⟨w.heap.size, 3, none⟩) 0 3 2 2 Tryz.underlying25 size2 rfl
  have h2 := fun W => run_copy_none (P := Tryz.prog) W 25 25 3 2 (some ⟨w.heap.size, 6, none⟩) (some ⟨w.heap.size, 7, none⟩) 0 3 2 2 Tryz.underlying25 size2 rfl
  go_enter Tryz.func83, Tryz.ntmps83
  go_wp2_with fail
  go_region
  go_wp2_with fail
  go_region
  go_wp2_with fail
  go_region
  go_wp2_with fail
  refine bodyPost_ret (v := .agg #[.int .i64 2, .int .i64 a0, .int .i64 a1, .int .i64 a2, .int .i64 a3, .int .i64 s0, .int .i64 s1, .int .i64 s2, .int .i64 s3, .int .i64 off]) (by simp [results, Tryz.results83, go_sem]) rfl ⟨rfl, ?_⟩
  first
    | exact (((((Ext.refl w).alloc _ _).alloc _ _).drew).drew).drew
    | exact (((Ext.refl w).alloc _ _).alloc _ _)
end Go.Proofs.YtfhcpicddegblaaGreat
namespace Go.Proofs.YtfhcpicddegblaaGreat
open Go.ChangeShapes Go.RowKit Go.Shelf
set_option linter.unusedSimpArgs false
set_option linter.unusedVariables false

attribute [local go_sem] Oper.semAt_some

theorem make_cells (W : World) (P : Int) (h0 : 0 ≤ P) (h1 : P ≤ 4096) : (Instr.makeSlice 61 (.int .i64 0) (.int .i64 P)).run Tryz.prog W = .ok (.slice (some ⟨W.heap.size, 0, none⟩) 0 P.toNat) (W.alloc (.cells (madeCells #[.int .i64 0, .float .f64 0, .float .f64 0] (P.toNat * 3)) 66)) := by
  obtain ⟨i0, hi0, hz0, hz1, hz2⟩ := info_parts info66
  have h := run_make (P := Tryz.prog) W 61 66 i0 (.agg #[.int .i64 0, .float .f64 0, .float .f64 0]) Tryz.underlying61 hi0 hz0 .i64 .i64 0 P (by omega) (by omega) (by rw [hz2]; omega) (by omega)
  rw [hz1] at h
  exact h

/-- The world where the loop begins. -/
structure RSt (W2 W0 : World) (b P : Nat) : Prop where
  size : W0.heap.size = b + 3
  box : Boxed W0 (b + 1) 61 (.slice (some ⟨b, 0, none⟩) 0 P)
  row : W0.ownsRow b 66 3 (.slice (some ⟨b, 0, none⟩) 0 P) 0 []
  bl : Below b W2 W0
theorem RSt.start {w2 : World} {b P : Nat} (hs : w2.heap.size = b) (hP : P ≤ 4096) (V : Array Value) :
    RSt w2 (((w2.alloc (.cells (madeCells #[.int .i64 0, .float .f64 0, .float .f64 0] (P * 3)) 66)).alloc (.cells #[.slice (some ⟨b, 0, none⟩) 0 P] 61)).alloc (.cells V 83)) b P := by
  have hb : Below b w2 w2 := Below.refl _ _
  refine ⟨by simp; omega, ?_, ?_, ((hb.alloc (by omega) _).alloc (by simp; omega) _).alloc (by simp; omega) _⟩
  · have h := (Boxed.new (w2.alloc (.cells (madeCells #[.int .i64 0, .float .f64 0, .float .f64 0] (P * 3)) 66)) 61 (.slice (some ⟨b, 0, none⟩) 0 P)).alloc (.cells V 83)
    rw [World.size_alloc, hs] at h
    exact h
  · refine World.ownsRow.alloc (World.ownsRow.alloc ?_ _) _
    have h := World.ownsRow_made (base := b) (e := 66) (size := 3) w2 (madeCells #[.int .i64 0, .float .f64 0, .float .f64 0] (P * 3)) P (by omega) (by unfold maxLen; omega) (by simp [madeCells])
    rw [hs] at h
    exact h

/-- .. with room for them. -/
def CellsCap (w : World) (cs : List C3) (e : Ending) (w' : World) : Prop := ∃ (sa : Option Addr) (cap : Nat), e = .returned (.slice sa cs.length cap) ∧ OwnC w' w.heap.size sa cs ∧ Below w.heap.size w w' ∧ cs.length ≤ cap
set_option maxRecDepth 100000 in
set_option maxHeartbeats 2000000 in
theorem readc_in (n : Nat) (hn : 3 ≤ n) (xs ss : List Int) (off st dt : Int) {w : World} {su : Option Addr} {cu : Nat} {cs : List C3} (hcv : CV w (.slice su cs.length cu) cs) (hlc : cs.length ≤ 1048576) (hv : ValidV xs ss off) (hin : ∀ p ∈ offsL xs ss off, p < (cs.length : Int)) :
    CallsIn Fence.wide n Tryz.prog 40 #[.agg #[.int .i64 xs.length, .int .i64 (xs.getD 0 0), .int .i64 (xs.getD 1 0), .int .i64 (xs.getD 2 0), .int .i64 (xs.getD 3 0), .int .i64 (ss.getD 0 0), .int .i64 (ss.getD 1 0), .int .i64 (ss.getD 2 0), .int .i64 (ss.getD 3 0), .int .i64 off, .int .i64 st, .int .i64 dt, .slice su cs.length cu]] w fun e w' => CellsCap w ((offsL xs ss off).map fun p => cs.getD p.toNat k0) e w' := by
  have hdd : ∀ k : Nat, (Fence.wide.depth.isSome = true → 1 ≤ k) := fun k h => by cases h
  have hl4 := hv.1.1
  have hpb : 0 ≤ prod xs ∧ prod xs ≤ 4096 := ⟨by have := prod_plen (fun m hm => (good_nonneg hv.1 m hm).1); omega, hv.1.2.2⟩
  have hcnt := hide (fun W => count_any W xs hv.1.1 hv.1.2.1)
  have hpl := hide (fun n W => placesF_in n xs ss off W)
  have hst := hide (fun n Bf W hB => placesKN (cs.length : Int) n Bf xs ss off hv.1.1 hv.2.1 hv.1.2.1 hv.1.2.2 hv.2.2.2.1 hv.2.2.1 (fun x hx => ⟨(offs_in hv x hx).1, hin x hx⟩) W hB)
  have hOP := offs_cap hv
  clear hv hin
  have hmk := fun W => make_cells W (prod xs) hpb.1 hpb.2
  unfold vw at hpl hst
  unfold shp at hcnt
  generalize hOL : offsL xs ss off = OL at hst hOP
  have HOL := hide hOL
  clear hOL
  generalize xs.getD 0 0 = a0 at *
  generalize xs.getD 1 0 = a1 at *
  generalize xs.getD 2 0 = a2 at *
  generalize xs.getD 3 0 = a3 at *
  generalize ss.getD 0 0 = s0 at *
  generalize ss.getD 1 0 = s1 at *
  generalize ss.getD 2 0 = s2 at *
  generalize ss.getD 3 0 = s3 at *
  generalize hP : prod xs = P at *
  have HP := hide hP
  clear hP
  have hs2 : ((w.alloc (.cells #[.int .i64 xs.length, .int .i64 a0, .int .i64 a1, .int .i64 a2, .int .i64 a3, .int .i64 s0, .int .i64 s1, .int .i64 s2, .int .i64 s3, .int .i64 off, .int .i64 st, .int .i64 dt, .slice su cs.length cu] 85)).alloc (.cells #[.int .i64 xs.length, .int .i64 a0, .int .i64 a1, .int .i64 a2, .int .i64 a3] 81)).heap.size = w.heap.size + 1 + 1 := by simp
  have x2 : Ext w ((w.alloc (.cells #[.int .i64 xs.length, .int .i64 a0, .int .i64 a1, .int .i64 a2, .int .i64 a3, .int .i64 s0, .int .i64 s1, .int .i64 s2, .int .i64 s3, .int .i64 off, .int .i64 st, .int .i64 dt, .slice su cs.length cu] 85)).alloc (.cells #[.int .i64 xs.length, .int .i64 a0, .int .i64 a1, .int .i64 a2, .int .i64 a3] 81)) := ((Ext.refl w).alloc _ _).alloc _ _
  have c12 : ((w.alloc (.cells #[.int .i64 xs.length, .int .i64 a0, .int .i64 a1, .int .i64 a2, .int .i64 a3, .int .i64 s0, .int .i64 s1, .int .i64 s2, .int .i64 s3, .int .i64 off, .int .i64 st, .int .i64 dt, .slice su cs.length cu] 85)).alloc (.cells #[.int .i64 xs.length, .int .i64 a0, .int .i64 a1, .int .i64 a2, .int .i64 a3] 81)).cell? ⟨w.heap.size, 12, none⟩ = some (.slice su cs.length cu) := ((Ext.refl (w.alloc (.cells #[.int .i64 xs.length, .int .i64 a0, .int .i64 a1, .int .i64 a2, .int .i64 a3, .int .i64 s0, .int .i64 s1, .int .i64 s2, .int .i64 s3, .int .i64 off, .int .i64 st, .int .i64 dt, .slice su cs.length cu] 85))).alloc _ _).box (new_cell w #[.int .i64 xs.length, .int .i64 a0, .int .i64 a1, .int .i64 a2, .int .i64 a3, .int .i64 s0, .int .i64 s1, .int .i64 s2, .int .i64 s3, .int .i64 off, .int .i64 st, .int .i64 dt, .slice su cs.length cu] 85 w.heap.size rfl 12)
  have O0 := hide (RSt.start hs2 (show P.toNat ≤ 4096 by omega) #[.int .i64 xs.length, .int .i64 a0, .int .i64 a1, .int .i64 a2, .int .i64 a3, .int .i64 s0, .int .i64 s1, .int .i64 s2, .int .i64 s3, .int .i64 off])
  have hst2 := hide (hst.out (n - 1) (w.heap.size + 1 + 1 + 1 + 1) ((((w.alloc (.cells #[.int .i64 xs.length, .int .i64 a0, .int .i64 a1, .int .i64 a2, .int .i64 a3, .int .i64 s0, .int .i64 s1, .int .i64 s2, .int .i64 s3, .int .i64 off, .int .i64 st, .int .i64 dt, .slice su cs.length cu] 85)).alloc (.cells #[.int .i64 xs.length, .int .i64 a0, .int .i64 a1, .int .i64 a2, .int .i64 a3] 81)).alloc (.cells (madeCells #[.int .i64 0, .float .f64 0, .float .f64 0] (P.toNat * 3)) 66)).alloc (.cells #[.slice (some ⟨w.heap.size + 1 + 1, 0, none⟩) 0 P.toNat] 61)) (by simp))
  have X2 := hide x2.bl
  have HC12 := hide c12
  have HCV := hide hcv
  have Hs2 := hide hs2
  clear hst x2 c12 hcv hs2
  refine callsIn_of_wp_marks Tryz.func40 rfl trivial ?_ rfl
  simp only [Tryz.ntmps40, List.size_toArray, List.length_cons, List.length_nil, Nat.reduceAdd, Nat.reduceSub, Array.replicate_succ, Array.replicate_zero, List.push_toArray, List.append_toArray, List.nil_append, List.cons_append]
  gi_wp2
  refine ⟨trivial, hdd _, ?_⟩
  refine (callsIn_wide.2 (hcnt.out _)).mono ?_
  rintro e w2 ⟨rfl, hw2⟩
  have hmk2 := hmk w2
  gi_wp2
  refine ⟨trivial, hdd _, ?_⟩
  refine (hpl.out _ _).mono ?_
  rintro e w' ⟨rfl, rfl⟩
  clear hpl hmk2 hmk hcnt hw2
  have h1 : 1 ≤ n := by omega
  gi_wp2
  generalize hW0 : World.alloc ((((w.alloc (.cells #[.int .i64 xs.length, .int .i64 a0, .int .i64 a1, .int .i64 a2, .int .i64 a3, .int .i64 s0, .int .i64 s1, .int .i64 s2, .int .i64 s3, .int .i64 off, .int .i64 st, .int .i64 dt, .slice su cs.length cu] 85)).alloc (.cells #[.int .i64 xs.length, .int .i64 a0, .int .i64 a1, .int .i64 a2, .int .i64 a3] 81)).alloc _).alloc _) _ = W0 at O0 hst2 ⊢
  clear hW0
  generalize hW2 : ((w.alloc (.cells #[.int .i64 xs.length, .int .i64 a0, .int .i64 a1, .int .i64 a2, .int .i64 a3, .int .i64 s0, .int .i64 s1, .int .i64 s2, .int .i64 s3, .int .i64 off, .int .i64 st, .int .i64 dt, .slice su cs.length cu] 85)).alloc (.cells #[.int .i64 xs.length, .int .i64 a0, .int .i64 a1, .int .i64 a2, .int .i64 a3] 81)) = W2 at O0 X2 HC12 Hs2
  clear hW2
  have hsz := O0.out.size
  have hs2 := Hs2.out
  have hbl := O0.out.bl
  rw [← hs2] at hbl
  obtain ⟨i0, hi0, hz0, hz1, hz2⟩ := info_parts info66
  refine wpIn_rangeFunc_ownF rfl h1 (gf := 119) (lb := #[.pointer (some ⟨w.heap.size + 1 + 1 + 1 + 1, 0, none⟩)]) rfl trivial (enters_of Tryz.func119 (by kernel_rfl) rfl)
    hst2.out (fun h k => KC.trans h k) (fun W l o o' h1 h2 h3 h4 => kc_put W l o o' h1 h2 h3 h4) (Below.refl _ _) (fun _ => rfl)
    (fun pre W => (∃ v, Boxed W (w.heap.size + 1 + 1 + 1) 61 v ∧ W.ownsRow (w.heap.size + 1 + 1) 66 3 v pre.length (flat ((pnv pre).map fun p => cs.getD p.toNat k0)) ∧ v = .slice (some ⟨w.heap.size + 1 + 1, 0, none⟩) pre.length P.toNat) ∧ Below W2.heap.size W2 W)
    (fun _ _ _ => False)
    (OwnFrom.and (Own.from (holdsRow_own (w.heap.size + 1 + 1) (w.heap.size + 1 + 1 + 1) 61 66 3 (fun pre : List (PlN (cs.length : Int)) => pre.length) (fun pre => flat ((pnv pre).map fun p => cs.getD p.toNat k0)) (fun pre v => v = .slice (some ⟨w.heap.size + 1 + 1, 0, none⟩) pre.length P.toNat)) _) (ownFrom_below (Nat.le_refl _) (by omega)))
    (fun _ _ _ _ _ hs _ _ => hs)
    ⟨⟨_, O0.out.box, O0.out.row, rfl⟩, hbl⟩
    (fun x => { tmps := #[.agg #[.int .i64 xs.length, .int .i64 a0, .int .i64 a1, .int .i64 a2, .int .i64 a3, .int .i64 s0, .int .i64 s1, .int .i64 s2, .int .i64 s3, .int .i64 off, .int .i64 st, .int .i64 dt, .slice su cs.length cu], .pointer (some ⟨w.heap.size, 0, none⟩), .slice none 0 0, .pointer (some ⟨w.heap.size + 1 + 1 + 1, 0, none⟩), .int .i64 x.1, .pointer (some ⟨w.heap.size, 0, none⟩), .pointer (some ⟨w.heap.size, 0, none⟩), .agg #[.int .i64 xs.length, .int .i64 a0, .int .i64 a1, .int .i64 a2, .int .i64 a3], .int .i64 P, .slice (some ⟨w.heap.size + 1 + 1, 0, none⟩) 0 P.toNat, .pointer (some ⟨w.heap.size, 0, none⟩), .agg #[.int .i64 xs.length, .int .i64 a0, .int .i64 a1, .int .i64 a2, .int .i64 a3, .int .i64 s0, .int .i64 s1, .int .i64 s2, .int .i64 s3, .int .i64 off], .func (.func 119) #[] #[.pointer (some ⟨w.heap.size + 1 + 1 + 1 + 1, 0, none⟩)], .int .i64 x.1, undef, undef, undef, undef, undef, undef, undef, undef, undef], defers := [] }) ?assign ?body ?done ?stop
  case assign =>
    intro l x W K hK
    gi_wp2
    exact hK
  case body =>
    rintro l pre ⟨x, hx⟩ W ⟨⟨v, hbox, hrow, rfl⟩, hB⟩ hlen
    obtain ⟨k, rfl⟩ : ∃ k : Nat, x = k := ⟨x.toNat, by omega⟩
    have hc0 := hbox.cell
    have hf0 := hbox.frozen
    have hWs := hbox.lt
    have ha := Bel.box hB HC12.out
    have hkl : k < cs.length := by omega
    rcases HCV.out with ⟨su2, cu2, e2, h0 | ⟨bc, oc, e3, hrowC⟩⟩
    · rw [h0] at hkl; simp at hkl
    injection e2 with e4 _ _
    subst e4
    subst e3
    have hk0 : (0 : Int) ≤ (k : Int) := Int.natCast_nonneg _
    have hk1 : (k : Int) < (cs.length : Int) := by omega
    obtain ⟨t0, t1, t2⟩ := hrowC k hkl
    have hgd : Hid ((fun p : Int => cs.getD p.toNat k0) (k : Int) = cs.getD k k0) := by show cs.getD (k : Int).toNat k0 = _; rw [Int.toNat_natCast]
    generalize cs.getD k k0 = cx at t0 t1 t2 hgd
    obtain ⟨A, B, C⟩ := cx
    have hSB : Hid (∀ W' : World, Below W2.heap.size W2 W' → (fun w' : World => w'.cell? ⟨w.heap.size, 12, none⟩ = some (.slice (some ⟨bc, oc, none⟩) cs.length cu) ∧ w'.cell? ⟨bc, oc + k * 3, none⟩ = some (.int .i64 A) ∧ w'.cell? ⟨bc, oc + k * 3 + 1, none⟩ = some (.float .f64 B) ∧ w'.cell? ⟨bc, oc + k * 3 + 2, none⟩ = some (.float .f64 C)) W') := fun W' h' => ⟨Bel.box h' HC12.out, Bel.box h' (Bel.box X2.out t0), Bel.box h' (Bel.box X2.out t1), Bel.box h' (Bel.box X2.out t2)⟩
    have HS0 : Hid ((fun w' : World => w'.cell? ⟨w.heap.size, 12, none⟩ = some (.slice (some ⟨bc, oc, none⟩) cs.length cu) ∧ w'.cell? ⟨bc, oc + k * 3, none⟩ = some (.int .i64 A) ∧ w'.cell? ⟨bc, oc + k * 3 + 1, none⟩ = some (.float .f64 B) ∧ w'.cell? ⟨bc, oc + k * 3 + 2, none⟩ = some (.float .f64 C)) W.drew) := hSB.out W hB
    clear hrowC t0 t1 t2 ha
    gi_wp2
    refine region_in (S := (fun w' : World => w'.cell? ⟨w.heap.size, 12, none⟩ = some (.slice (some ⟨bc, oc, none⟩) cs.length cu) ∧ w'.cell? ⟨bc, oc + k * 3, none⟩ = some (.int .i64 A) ∧ w'.cell? ⟨bc, oc + k * 3 + 1, none⟩ = some (.float .f64 B) ∧ w'.cell? ⟨bc, oc + k * 3 + 2, none⟩ = some (.float .f64 C))) (by kernel_rfl) (by rfl) ?_
    refine wpAnyH_take (i := 1) (oi := { dst := some 15, op := Op.fieldAddr 85 (Operand.tmp 1) 3, type := 0, pos := _, after := #[], guard := none }) (v := (.pointer (some ⟨w.heap.size, 12, none⟩))) rfl (by kernel_rfl) (by kernel_rfl) (by kernel_rfl) (fun _ _ _ h => by cases h.1) (Or.inl ⟨by rfl, ?_⟩) HS0.out ?_
    · intro w' hSw
      obtain ⟨z0, z1, z2, z3⟩ := hSw
      go_simp
    simp only [Act.put, List.setIfInBounds_toArray, List.set_cons_zero, List.set_cons_succ]
    refine wpAnyH_take (i := 2) (oi := { dst := some 16, op := Op.load 61 (Operand.tmp 15), type := 61, pos := _, after := #[{ on := 1, ground := Ground.data }], guard := none }) (v := (.slice (some ⟨bc, oc, none⟩) cs.length cu)) rfl (by kernel_rfl) (by kernel_rfl) (by kernel_rfl) (fun _ _ _ h => by cases h.1) (Or.inl ⟨by rfl, ?_⟩) HS0.out ?_
    · intro w' hSw
      obtain ⟨z0, z1, z2, z3⟩ := hSw
      go_simp
    simp only [Act.put, List.setIfInBounds_toArray, List.set_cons_zero, List.set_cons_succ]
    refine wpAnyH_take (i := 3) (oi := { dst := some 17, op := Op.move (Operand.tmp 4), type := 2, pos := _, after := #[], guard := none }) (v := (.int .i64 (k : Int))) rfl (by kernel_rfl) (by kernel_rfl) (by kernel_rfl) (fun _ _ _ h => by cases h.1) (Or.inl ⟨by rfl, ?_⟩) HS0.out ?_
    · intro w' hSw
      obtain ⟨z0, z1, z2, z3⟩ := hSw
      go_simp
    simp only [Act.put, List.setIfInBounds_toArray, List.set_cons_zero, List.set_cons_succ]
    refine wpAnyH_take (i := 4) (oi := { dst := some 18, op := Op.indexAddr 61 (Operand.tmp 16) (Operand.tmp 17), type := 0, pos := _, after := #[{ on := 2, ground := Ground.data }, { on := 3, ground := Ground.data }], guard := none }) (v := (.pointer (some ⟨bc, oc + k * 3, none⟩))) rfl (by kernel_rfl) (by kernel_rfl) (by kernel_rfl) (fun _ _ _ h => by cases h.1) (Or.inl ⟨by rfl, ?_⟩) HS0.out ?_
    · intro w' hSw
      obtain ⟨z0, z1, z2, z3⟩ := hSw
      go_simp
    simp only [Act.put, List.setIfInBounds_toArray, List.set_cons_zero, List.set_cons_succ]
    refine wpAnyH_take (i := 5) (oi := { dst := some 19, op := Op.load 66 (Operand.tmp 18), type := 66, pos := _, after := #[{ on := 4, ground := Ground.data }], guard := none }) (v := (.agg #[.int .i64 A, .float .f64 B, .float .f64 C])) rfl (by kernel_rfl) (by kernel_rfl) (by kernel_rfl) (fun _ _ _ h => by cases h.1) (Or.inl ⟨by rfl, ?_⟩) HS0.out ?_
    · intro w' hSw
      obtain ⟨z0, z1, z2, z3⟩ := hSw
      go_simp
    simp only [Act.put, List.setIfInBounds_toArray, List.set_cons_zero, List.set_cons_succ]
    have HN := hide (World.news_of_block (w := (W.alloc (.cells #[.int .i64 A, .float .f64 B, .float .f64 C] 66)).drew) (cs := #[.int .i64 A, .float .f64 B, .float .f64 C]) (t := 66) (fr := (0, 0)) (heap_alloc_new W _))
    have HS1 : Hid ((fun w' : World => w'.cell? ⟨w.heap.size, 12, none⟩ = some (.slice (some ⟨bc, oc, none⟩) cs.length cu) ∧ w'.cell? ⟨bc, oc + k * 3, none⟩ = some (.int .i64 A) ∧ w'.cell? ⟨bc, oc + k * 3 + 1, none⟩ = some (.float .f64 B) ∧ w'.cell? ⟨bc, oc + k * 3 + 2, none⟩ = some (.float .f64 C)) (W.alloc (.cells #[.int .i64 A, .float .f64 B, .float .f64 C] 66)).drew) := hSB.out (W.alloc (.cells #[.int .i64 A, .float .f64 B, .float .f64 C] 66)) (hB.alloc hB.size _)
    have hb1 : pre.length + 1 ≤ P.toNat := by omega
    have hWs2 := hB.size
    refine wpAnyH_ready (rs := [0, 6]) (by kernel_rfl) (by simp) ?_
    refine AllReadyH.cons (o := { dst := some 14, op := Op.load 61 (Operand.tmp 3), type := 61, pos := _, after := #[], guard := none }) rfl (fun K hK => ?_) (AllReadyH.cons (o := { dst := some 20, op := Op.buildSlice 61 1 #[(0, Operand.tmp 19)], type := 61, pos := _, after := #[{ on := 5, ground := Ground.data }], guard := none }) rfl (fun K hK => ?_) AllReadyH.nil)
    · go_simp
      refine hK.out _ _ HS0.out (fun _ => ?_)
      clear hK K
      try simp only [Act.put, List.setIfInBounds_toArray, List.set_cons_zero, List.set_cons_succ]
      refine wpAnyH_ready (rs := [6]) (by kernel_rfl) (by simp) ?_
      refine AllReadyH.cons (o := { dst := some 20, op := Op.buildSlice 61 1 #[(0, Operand.tmp 19)], type := 61, pos := _, after := #[{ on := 5, ground := Ground.data }], guard := none }) rfl (fun K hK => ?_) AllReadyH.nil
      go_simp
      refine hK.out _ _ HS1.out (fun _ => ?_)
      clear hK K
      try simp only [Act.put, List.setIfInBounds_toArray, List.set_cons_zero, List.set_cons_succ]
      refine wpAnyH_ready (rs := [7]) (by kernel_rfl) (by simp) ?_
      refine AllReadyH.cons (o := { dst := some 21, op := Op.call { callee := Callee.builtin Builtin.append, args := #[Operand.tmp 14, Operand.tmp 20], argTypes := #[61, 61] }, type := 61, pos := _, after := #[{ on := 0, ground := Ground.data }, { on := 6, ground := Ground.data }], guard := none }) rfl (fun K hK => ?_) AllReadyH.nil
      refine step_append_fits (by rfl) (.tmp 14) (.tmp 20) 61 (by rfl) (w.heap.size + 1 + 1) 66 i0 3 Tryz.underlying61 hi0 hz1 (w.heap.size + 1 + 1) pre.length P.toNat _ (by rfl) ((hrow.alloc _).drew) ⟨W.heap.size, 0, none⟩ 1 1 (c3v (A, B, C)) (by rfl) (by rfl) HN.out (c3v_one _) hb1 ?_
      intro w3 hown3 hgrow3
      have hgrow4 : (W.alloc (.cells #[.int .i64 A, .float .f64 B, .float .f64 C] 66)).grownBy w3 (some (w.heap.size + 1 + 1)) := ⟨hgrow3.os, hgrow3.tape, hgrow3.output, hgrow3.size, hgrow3.block⟩
      obtain ⟨hv1, hv2, hr2, hk2, hb2⟩ := hbox.appended (by decide) hrow (by omega) (by omega) hown3 hgrow4
      have hb3 : Below W2.heap.size W (w3.setCell ⟨w.heap.size + 1 + 1 + 1, 0, none⟩ (.slice (some ⟨w.heap.size + 1 + 1, 0, none⟩) (pre.length + 1) P.toNat)) := by rw [hs2]; exact hb2
      have HB4 := hide (hB.trans hb3)
      have HB3 := hide (Below.grown (hB.alloc hB.size (.cells #[.int .i64 A, .float .f64 B, .float .f64 C] 66)) hgrow4 (by simp; omega) (fun j hj => by cases hj; omega))
      have hc1 := hv1.cell
      have hf1 := hv1.frozen
      refine hK.out _ _ (hSB.out _ HB3.out) (fun _ => ?_)
      clear hK K
      try simp only [Act.put, List.setIfInBounds_toArray, List.set_cons_zero, List.set_cons_succ]
      refine wpAnyH_ready (rs := [8]) (by kernel_rfl) (by simp) ?_
      refine AllReadyH.cons (o := { dst := none, op := Op.store 61 (Operand.tmp 3) (Operand.tmp 21), type := 0, pos := _, after := #[{ on := 7, ground := Ground.data }, { on := 7, ground := Ground.chain }, { on := 0, ground := Ground.phase }, { on := 1, ground := Ground.phase }, { on := 2, ground := Ground.phase }, { on := 3, ground := Ground.phase }, { on := 4, ground := Ground.phase }, { on := 5, ground := Ground.phase }, { on := 6, ground := Ground.phase }, { on := 7, ground := Ground.phase }], guard := none }) rfl (fun K hK => ?_) AllReadyH.nil
      go_simp
      refine hK.out _ _ (hSB.out _ HB4.out) (fun _ => ?_)
      refine wpAnyH_done (by kernel_rfl) ?_ _
      refine ⟨rfl, ?_⟩
      refine ⟨hk2, ((KC.alloc _ W _).trans (KC.grown hgrow4 (by omega))).trans (KC.setCell w3 (p := ⟨w.heap.size + 1 + 1 + 1, 0, none⟩) (by show w.heap.size + 1 + 1 + 1 < _; omega) _), ⟨_, hv2, ?_, ?_⟩, HB4.out⟩
      · rw [pnv_append, List.map_append]
        show World.ownsRow _ _ _ _ _ _ (flat (_ ++ [cs.getD (k : Int).toNat k0]))
        rw [show cs.getD (k : Int).toNat k0 = (A, B, C) from hgd.out, flat_one, List.length_append]
        exact hr2
      · simp
    · go_simp
      refine hK.out _ _ HS1.out (fun _ => ?_)
      clear hK K
      try simp only [Act.put, List.setIfInBounds_toArray, List.set_cons_zero, List.set_cons_succ]
      refine wpAnyH_ready (rs := [0]) (by kernel_rfl) (by simp) ?_
      refine AllReadyH.cons (o := { dst := some 14, op := Op.load 61 (Operand.tmp 3), type := 61, pos := _, after := #[], guard := none }) rfl (fun K hK => ?_) AllReadyH.nil
      have hc0a : (W.alloc (.cells #[.int .i64 A, .float .f64 B, .float .f64 C] 66)).cell? ⟨w.heap.size + 1 + 1 + 1, 0, none⟩ = some (.slice (some ⟨w.heap.size + 1 + 1, 0, none⟩) pre.length P.toNat) := cell_al _ hc0
      go_simp
      refine hK.out _ _ HS1.out (fun _ => ?_)
      clear hK K
      try simp only [Act.put, List.setIfInBounds_toArray, List.set_cons_zero, List.set_cons_succ]
      refine wpAnyH_ready (rs := [7]) (by kernel_rfl) (by simp) ?_
      refine AllReadyH.cons (o := { dst := some 21, op := Op.call { callee := Callee.builtin Builtin.append, args := #[Operand.tmp 14, Operand.tmp 20], argTypes := #[61, 61] }, type := 61, pos := _, after := #[{ on := 0, ground := Ground.data }, { on := 6, ground := Ground.data }], guard := none }) rfl (fun K hK => ?_) AllReadyH.nil
      refine step_append_fits (by rfl) (.tmp 14) (.tmp 20) 61 (by rfl) (w.heap.size + 1 + 1) 66 i0 3 Tryz.underlying61 hi0 hz1 (w.heap.size + 1 + 1) pre.length P.toNat _ (by rfl) ((hrow.alloc _).drew) ⟨W.heap.size, 0, none⟩ 1 1 (c3v (A, B, C)) (by rfl) (by rfl) HN.out (c3v_one _) hb1 ?_
      intro w3 hown3 hgrow3
      have hgrow4 : (W.alloc (.cells #[.int .i64 A, .float .f64 B, .float .f64 C] 66)).grownBy w3 (some (w.heap.size + 1 + 1)) := ⟨hgrow3.os, hgrow3.tape, hgrow3.output, hgrow3.size, hgrow3.block⟩
      obtain ⟨hv1, hv2, hr2, hk2, hb2⟩ := hbox.appended (by decide) hrow (by omega) (by omega) hown3 hgrow4
      have hb3 : Below W2.heap.size W (w3.setCell ⟨w.heap.size + 1 + 1 + 1, 0, none⟩ (.slice (some ⟨w.heap.size + 1 + 1, 0, none⟩) (pre.length + 1) P.toNat)) := by rw [hs2]; exact hb2
      have HB4 := hide (hB.trans hb3)
      have HB3 := hide (Below.grown (hB.alloc hB.size (.cells #[.int .i64 A, .float .f64 B, .float .f64 C] 66)) hgrow4 (by simp; omega) (fun j hj => by cases hj; omega))
      have hc1 := hv1.cell
      have hf1 := hv1.frozen
      refine hK.out _ _ (hSB.out _ HB3.out) (fun _ => ?_)
      clear hK K
      try simp only [Act.put, List.setIfInBounds_toArray, List.set_cons_zero, List.set_cons_succ]
      refine wpAnyH_ready (rs := [8]) (by kernel_rfl) (by simp) ?_
      refine AllReadyH.cons (o := { dst := none, op := Op.store 61 (Operand.tmp 3) (Operand.tmp 21), type := 0, pos := _, after := #[{ on := 7, ground := Ground.data }, { on := 7, ground := Ground.chain }, { on := 0, ground := Ground.phase }, { on := 1, ground := Ground.phase }, { on := 2, ground := Ground.phase }, { on := 3, ground := Ground.phase }, { on := 4, ground := Ground.phase }, { on := 5, ground := Ground.phase }, { on := 6, ground := Ground.phase }, { on := 7, ground := Ground.phase }], guard := none }) rfl (fun K hK => ?_) AllReadyH.nil
      go_simp
      refine hK.out _ _ (hSB.out _ HB4.out) (fun _ => ?_)
      refine wpAnyH_done (by kernel_rfl) ?_ _
      refine ⟨rfl, ?_⟩
      refine ⟨hk2, ((KC.alloc _ W _).trans (KC.grown hgrow4 (by omega))).trans (KC.setCell w3 (p := ⟨w.heap.size + 1 + 1 + 1, 0, none⟩) (by show w.heap.size + 1 + 1 + 1 < _; omega) _), ⟨_, hv2, ?_, ?_⟩, HB4.out⟩
      · rw [pnv_append, List.map_append]
        show World.ownsRow _ _ _ _ _ _ (flat (_ ++ [cs.getD (k : Int).toNat k0]))
        rw [show cs.getD (k : Int).toNat k0 = (A, B, C) from hgd.out, flat_one, List.length_append]
        exact hr2
      · simp
  case done =>
    rintro D ys W hD hS ⟨⟨v, hbox, hrow, rfl⟩, hB⟩ hK
    have hc0 := hbox.cell
    gi_wp2
    refine ⟨by simp, .inl ⟨_, _, rfl, run_takeDeferred hK, ?_⟩⟩
    refine ⟨_, results_tmp rfl _ _ _, ?_⟩
    have hrow2 := hrow.kept (grownBy_putObj' W D (.deferred none)) (.inr (fun e => by
      have : w.heap.size + 1 + 1 = D := by simpa [Value.ownBlock] using e
      omega))
    obtain ⟨sa3, cap3, e3, o3⟩ := own_cells (lo := w.heap.size) (by omega) hrow2
    have hcap : ((pnv ys).map fun p => cs.getD p.toNat k0).length ≤ cap3 := by
      injection e3 with _ _ e9
      rw [List.length_map, hS, ← e9]
      exact hOP
    rw [← hS]
    refine ⟨sa3, cap3, ?_, o3, Bel.tr X2.out (hB.trans (belowK_b (w := W2) (Nat.le_refl _) W D _ _ (by omega) hK rfl rfl)), hcap⟩
    rw [← e3]
    rfl
  case stop =>
    rintro D c pre W _ _ h _
    exact h.elim
theorem read_in (n : Nat) (hn : 3 ≤ n) (xs ss : List Int) (off st dt : Int) {w : World} {su : Option Addr} {cu : Nat} {cs : List C3} (hcv : CV w (.slice su cs.length cu) cs) (hlc : cs.length ≤ 1048576) (hv : ValidV xs ss off) (hin : ∀ p ∈ offsL xs ss off, p < (cs.length : Int)) :
    CallsIn Fence.wide n Tryz.prog 40 #[.agg #[.int .i64 xs.length, .int .i64 (xs.getD 0 0), .int .i64 (xs.getD 1 0), .int .i64 (xs.getD 2 0), .int .i64 (xs.getD 3 0), .int .i64 (ss.getD 0 0), .int .i64 (ss.getD 1 0), .int .i64 (ss.getD 2 0), .int .i64 (ss.getD 3 0), .int .i64 off, .int .i64 st, .int .i64 dt, .slice su cs.length cu]] w fun e w' => CellsOk w ((offsL xs ss off).map fun p => cs.getD p.toNat k0) e w' :=
  (readc_in n hn xs ss off st dt hcv hlc hv hin).mono (fun e w' h => by
    obtain ⟨sa, cap, h1, h2, h3, _⟩ := h
    exact ⟨sa, cap, h1, h2, h3⟩)
end Go.Proofs.YtfhcpicddegblaaGreat
