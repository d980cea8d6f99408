import Derived.Test.YtiekkninnjffpaaDiffer
namespace Go.Proofs.Ytiekkninnjffpaa
open Go.ChangeShapes Go.RowKit Go.Shelf
set_option linter.unusedSimpArgs false
set_option linter.unusedVariables false

attribute [local go_sem] Oper.semAt_some

/-- The world where the first loop begins. -/
structure ESt (w W0 : World) (V : Array Value) : Prop where
  size : W0.heap.size = w.heap.size + 5
  view : ∀ j v, V[j]? = some v → W0.cell? ⟨w.heap.size + 1, j, none⟩ = some v
  res : W0.cell? ⟨w.heap.size + 1 + 1, 0, none⟩ = some (.bool false)
  resF : W0.frozen? ⟨w.heap.size + 1 + 1, 0, none⟩ = false
  mrk : Mk W0 (w.heap.size + 1 + 1 + 1) []
  bl : Below w.heap.size w W0
theorem ESt.start (w : World) (U V : Array Value) : ESt w (((((w.alloc (.cells U 64)).alloc (.cells V 64)).alloc (.cells #[.bool false] 4)).alloc (.cells Try.zeroCells95 95)).alloc (.cells U 64)) V := by
  have hb1 : Below w.heap.size w (w.alloc (.cells U 64)) := (Below.refl _ w).alloc (Nat.le_refl _) _
  have hb2 : Below w.heap.size w ((w.alloc (.cells U 64)).alloc (.cells V 64)) := hb1.alloc (by simp) _
  have hb3 := hb2.alloc (by simp; omega) (.cells #[.bool false] 4)
  have hb4 := hb3.alloc (by simp; omega) (.cells Try.zeroCells95 95)
  have c0 : ∀ j v, V[j]? = some v → ((w.alloc (.cells U 64)).alloc (.cells V 64)).cell? ⟨w.heap.size + 1, j, none⟩ = some v := fun j v h => (new_cell _ _ 64 _ (by simp) j).trans h
  have c1 : (((w.alloc (.cells U 64)).alloc (.cells V 64)).alloc (.cells #[.bool false] 4)).cell? ⟨w.heap.size + 1 + 1, 0, none⟩ = some (.bool false) := new_cell _ _ 4 _ (by simp) 0
  have f1 : (((w.alloc (.cells U 64)).alloc (.cells V 64)).alloc (.cells #[.bool false] 4)).frozen? ⟨w.heap.size + 1 + 1, 0, none⟩ = false := frozen_nw _ _ 4 _ 0 (by simp)
  have c2 : ∀ j, j < 4096 → ((((w.alloc (.cells U 64)).alloc (.cells V 64)).alloc (.cells #[.bool false] 4)).alloc (.cells Try.zeroCells95 95)).cell? ⟨w.heap.size + 1 + 1 + 1, j, none⟩ = some (.bool false) := fun j hj => (new_cell _ _ 95 _ (by simp) j).trans (zero95_get j hj)
  have f2 : ∀ j, j < 4096 → ((((w.alloc (.cells U 64)).alloc (.cells V 64)).alloc (.cells #[.bool false] 4)).alloc (.cells Try.zeroCells95 95)).frozen? ⟨w.heap.size + 1 + 1 + 1, j, none⟩ = false := fun j _ => frozen_nw _ _ 95 _ j (by simp)
  exact ⟨by simp, fun j v h => cell_al _ (cell_al _ (cell_al _ (c0 j v h))), cell_al _ (cell_al _ c1), frozen_al _ (cell_al _ c1) (frozen_al _ c1 f1), ⟨fun j hj => by rw [cell_al _ (c2 j hj)]; simp, fun j hj => frozen_al _ (c2 j hj) (f2 j hj)⟩, hb4.alloc (by simp; omega) _⟩

set_option maxRecDepth 100000 in
set_option maxHeartbeats 2000000 in
theorem meets_in (n : Nat) (hn : 3 ≤ n) (xs ss ys ts : List Int) (off ogg : Int) (w : World)
    (hst1 : ∀ (n Bf : Nat) (W : World), Bf = W.heap.size → SeqStopsK Fence.wide n Try.prog 82 #[.pointer (some ⟨Bf, 0, none⟩)] (fun x : Pl => #[Value.int .i64 x.1]) (KC (W.alloc (.cells (vw xs ss off) 64)).heap.size) (fun ys => plv ys = offsL xs ss off) (fun pre => plv pre <+: offsL xs ss off) (offsL xs ss off).length (W.alloc (.cells (vw xs ss off) 64)))
    (hst2 : ∀ (n Bf : Nat) (W : World), Bf = W.heap.size → SeqStopsK Fence.wide n Try.prog 82 #[.pointer (some ⟨Bf, 0, none⟩)] (fun x : Pl => #[Value.int .i64 x.1]) (KC (W.alloc (.cells (vw ys ts ogg) 64)).heap.size) (fun zs => plv zs = offsL ys ts ogg) (fun pre => plv pre <+: offsL ys ts ogg) (offsL ys ts ogg).length (W.alloc (.cells (vw ys ts ogg) 64))) :
    CallsIn Fence.wide n Try.prog 60 #[.agg (vw xs ss off), .agg (vw ys ts ogg)] w fun e w' => e = .returned (.bool (decide (∃ p ∈ offsL ys ts ogg, p ∈ offsL xs ss off))) ∧ Below w.heap.size w w' := by
  have hpl1 := hide (fun n W => placesF_in n xs ss off W)
  have hpl2 := hide (fun n W => placesF_in n ys ts ogg W)
  have hs1 := hide (hst1 (n - 1) (w.heap.size + 1 + 1 + 1 + 1) ((((w.alloc (.cells (vw xs ss off) 64)).alloc (.cells (vw ys ts ogg) 64)).alloc (.cells #[.bool false] 4)).alloc (.cells Try.zeroCells95 95)) (by simp))
  have hs2 := hide (fun W : World => hst2 (n - 1) W.heap.size W rfl)
  clear hst1 hst2
  have hdd : ∀ k : Nat, (Fence.wide.depth.isSome = true → 1 ≤ k) := fun k h => by cases h
  have X0 := hide (ESt.start w (vw xs ss off) (vw ys ts ogg))
  generalize offsL xs ss off = OL at *
  generalize offsL ys ts ogg = OM at *
  unfold vw at hpl1 hpl2 X0 hs1 hs2 ⊢
  generalize xs.getD 0 0 = a0 at *
  generalize xs.getD 1 0 = a1 at *
  generalize xs.getD 2 0 = a2 at *
  generalize xs.getD 3 0 = a3 at *
  generalize ss.getD 0 0 = a4 at *
  generalize ss.getD 1 0 = a5 at *
  generalize ss.getD 2 0 = a6 at *
  generalize ss.getD 3 0 = a7 at *
  generalize ys.getD 0 0 = c0 at *
  generalize ys.getD 1 0 = c1 at *
  generalize ys.getD 2 0 = c2 at *
  generalize ys.getD 3 0 = c3 at *
  generalize ts.getD 0 0 = c4 at *
  generalize ts.getD 1 0 = c5 at *
  generalize ts.getD 2 0 = c6 at *
  generalize ts.getD 3 0 = c7 at *
  refine callsIn_of_wp_marks Try.func60 rfl trivial ?_ rfl
  simp only [Try.ntmps60, List.size_toArray, List.length_cons, List.length_nil, Nat.reduceAdd, Nat.reduceSub, Array.replicate_succ, Array.replicate_zero, List.push_toArray, List.append_toArray, List.nil_append, List.cons_append]
  gi_wp2
  refine ⟨trivial, hdd _, ?_⟩
  refine (hpl1.out _ _).mono ?_
  rintro e w' ⟨rfl, rfl⟩
  clear hpl1
  have h1 : 1 ≤ n := by omega
  gi_wp2
  generalize hW0 : World.alloc ((((w.alloc _).alloc _).alloc _).alloc _) _ = W0 at X0 hs1 ⊢
  clear hW0
  have hsz := X0.out.size
  refine wpIn_rangeFunc_ownF rfl h1 (gf := 82) (lb := #[.pointer (some ⟨w.heap.size + 1 + 1 + 1 + 1, 0, none⟩)]) rfl trivial (enters_of Try.func82 (by kernel_rfl) rfl)
    hs1.out (fun h k => KC.trans h k) (fun W l o o' h1 h2 h3 h4 => kc_put W l o o' h1 h2 h3 h4) (Below.refl _ _) (fun _ => rfl)
    (fun pre W => ((∀ j v, (#[.int .i64 ys.length, .int .i64 c0, .int .i64 c1, .int .i64 c2, .int .i64 c3, .int .i64 c4, .int .i64 c5, .int .i64 c6, .int .i64 c7, .int .i64 ogg] : Array Value)[j]? = some v → W.cell? ⟨w.heap.size + 1, j, none⟩ = some v) ∧ W.cell? ⟨w.heap.size + 1 + 1, 0, none⟩ = some (.bool false) ∧ W.frozen? ⟨w.heap.size + 1 + 1, 0, none⟩ = false ∧ Mk W (w.heap.size + 1 + 1 + 1) (plv pre)) ∧ Below w.heap.size w W)
    (fun _ _ _ => False)
    (OwnFrom.and (Own.from (fun s A B row hs hg hr => ⟨fun j v h => cell_kept (hs.1 j v h) hg hr, cell_kept hs.2.1 hg hr, (frozen_kept hs.2.1 hg hr).trans hs.2.2.1, hs.2.2.2.kept hg hr⟩) _) (ownFrom_below (Nat.le_refl _) (by omega)))
    (fun _ _ _ _ _ hs _ _ => hs)
    ⟨⟨X0.out.view, X0.out.res, X0.out.resF, X0.out.mrk⟩, X0.out.bl⟩
    (fun x => { tmps := #[.agg #[.int .i64 xs.length, .int .i64 a0, .int .i64 a1, .int .i64 a2, .int .i64 a3, .int .i64 a4, .int .i64 a5, .int .i64 a6, .int .i64 a7, .int .i64 off], .agg #[.int .i64 ys.length, .int .i64 c0, .int .i64 c1, .int .i64 c2, .int .i64 c3, .int .i64 c4, .int .i64 c5, .int .i64 c6, .int .i64 c7, .int .i64 ogg], .pointer (some ⟨w.heap.size, 0, none⟩), .pointer (some ⟨w.heap.size + 1, 0, none⟩), .pointer (some ⟨w.heap.size + 1 + 1, 0, none⟩), .pointer (some ⟨w.heap.size + 1 + 1 + 1, 0, none⟩), .int .i64 x.1, undef, .agg #[.int .i64 xs.length, .int .i64 a0, .int .i64 a1, .int .i64 a2, .int .i64 a3, .int .i64 a4, .int .i64 a5, .int .i64 a6, .int .i64 a7, .int .i64 off], .func (.func 82) #[] #[.pointer (some ⟨w.heap.size + 1 + 1 + 1 + 1, 0, none⟩)], .int .i64 x.1, undef, undef, undef, undef, undef, undef, undef, undef], defers := [] }) ?assign ?body ?done ?stop
  case assign =>
    intro l x W K hK
    gi_wp2
    exact hK
  case body =>
    rintro l pre ⟨x, hx⟩ W ⟨⟨hvw, hcr, hfr, hmk⟩, hB⟩ _
    obtain ⟨k, rfl⟩ : ∃ k : Nat, x = k := ⟨x.toNat, by omega⟩
    have hk : k < 4096 := by omega
    have q0 := hmk.at_ k hk
    have q1 := hmk.fz k hk
    have Hvw := hide hvw
    clear hvw
    gi_wp2
    refine ⟨KeepsOthers.setCell _ _ _, KC.setCell W (p := ⟨w.heap.size + 1 + 1 + 1, k, none⟩) (by show w.heap.size + 1 + 1 + 1 < _; omega) _, ⟨fun j v h => ?_, ?_, ?_, ?_⟩, hB.setCell (p := ⟨w.heap.size + 1 + 1 + 1, k, none⟩) (by show _ ≤ w.heap.size + 1 + 1 + 1; omega) _⟩
    · exact (World.cell?_of_block (Below.heap_setCell _ _ _ _ (by show w.heap.size + 1 ≠ w.heap.size + 1 + 1 + 1; omega))).trans (Hvw.out j v h)
    · exact (World.cell?_of_block (Below.heap_setCell _ _ _ _ (by show w.heap.size + 1 + 1 ≠ w.heap.size + 1 + 1 + 1; omega))).trans hcr
    · exact (World.frozen?_setCell _ _ _ _).trans hfr
    · rw [plv_append]; exact hmk.mark k hk
  case stop =>
    rintro D c pre W _ _ h _
    exact h.elim
  case done =>
    rintro D zs W1 hD hS ⟨⟨hvw, hcr, hfr, hmk⟩, hB⟩ hK
    have v0 : W1.cell? ⟨w.heap.size + 1, 0, none⟩ = _ := hvw 0 _ rfl
    have v1 : W1.cell? ⟨w.heap.size + 1, 1, none⟩ = _ := hvw 1 _ rfl
    have v2 : W1.cell? ⟨w.heap.size + 1, 2, none⟩ = _ := hvw 2 _ rfl
    have v3 : W1.cell? ⟨w.heap.size + 1, 3, none⟩ = _ := hvw 3 _ rfl
    have v4 : W1.cell? ⟨w.heap.size + 1, 4, none⟩ = _ := hvw 4 _ rfl
    have v5 : W1.cell? ⟨w.heap.size + 1, 5, none⟩ = _ := hvw 5 _ rfl
    have v6 : W1.cell? ⟨w.heap.size + 1, 6, none⟩ = _ := hvw 6 _ rfl
    have v7 : W1.cell? ⟨w.heap.size + 1, 7, none⟩ = _ := hvw 7 _ rfl
    have v8 : W1.cell? ⟨w.heap.size + 1, 8, none⟩ = _ := hvw 8 _ rfl
    have v9 : W1.cell? ⟨w.heap.size + 1, 9, none⟩ = _ := hvw 9 _ rfl
    clear hvw hs1 X0
    have hs2' := hide (hs2.out W1)
    have hszW := hB.size
    have hDW : D < W1.heap.size := (Array.getElem?_eq_some_iff.1 hK).1
    clear h1
    gi_wp2
    refine ⟨trivial, hdd _, ?_⟩
    refine (hpl2.out _ _).mono ?_
    rintro e w' ⟨rfl, rfl⟩
    clear hpl2 hs2
    have h1 : 1 ≤ n := by omega
    gi_wp2
    have hW2 : (W1.alloc (.cells #[.int .i64 ys.length, .int .i64 c0, .int .i64 c1, .int .i64 c2, .int .i64 c3, .int .i64 c4, .int .i64 c5, .int .i64 c6, .int .i64 c7, .int .i64 ogg] 64)).heap.size = W1.heap.size + 1 := by simp
    refine wpIn_rangeFunc_ownF rfl h1 (gf := 82) (lb := #[.pointer (some ⟨W1.heap.size, 0, none⟩)]) rfl trivial (enters_of Try.func82 (by kernel_rfl) rfl)
      hs2'.out (fun h k => KC.trans h k) (fun W l o o' h1 h2 h3 h4 => kc_put W l o o' h1 h2 h3 h4) (Below.refl _ _) (fun _ => rfl)
      (fun pre W => (((∀ p ∈ plv pre, p ∉ OL) ∧ W.cell? ⟨w.heap.size + 1 + 1, 0, none⟩ = some (.bool false) ∧ W.frozen? ⟨w.heap.size + 1 + 1, 0, none⟩ = false ∧ Mk W (w.heap.size + 1 + 1 + 1) OL) ∧ Below w.heap.size w W) ∧ W.heap[D]? = some (.deferred (some [])))
      (fun c pre W => ((c = .ret ∧ (∃ p ∈ plv pre, p ∈ OL) ∧ W.cell? ⟨w.heap.size + 1 + 1, 0, none⟩ = some (.bool true)) ∧ Below w.heap.size w W) ∧ W.heap[D]? = some (.deferred (some [])))
      (OwnFrom.and (OwnFrom.and (Own.from (fun s A B row hs hg hr => ⟨hs.1, cell_kept hs.2.1 hg hr, (frozen_kept hs.2.1 hg hr).trans hs.2.2.1, hs.2.2.2.kept hg hr⟩) _) (ownFrom_below (Nat.le_refl _) (by omega))) (fun s A B row hs hg hr => (hg.block D (Array.getElem?_eq_some_iff.1 hs).1 (fun e => by have := (hr D e.symm).1; omega)).trans hs))
      (fun c => OwnFrom.and (OwnFrom.and (Own.from (fun s A B row hs hg hr => ⟨hs.1, hs.2.1, cell_kept hs.2.2 hg hr⟩) _) (ownFrom_below (Nat.le_refl _) (by omega))) (fun s A B row hs hg hr => (hg.block D (Array.getElem?_eq_some_iff.1 hs).1 (fun e => by have := (hr D e.symm).1; omega)).trans hs))
      ⟨⟨⟨by simp [plv], cell_al _ hcr, frozen_al _ hcr hfr, by rw [← hS]; exact hmk.kept (World.grownBy_alloc W1 _ none) (fun r e => by cases e)⟩, hB.alloc hszW _⟩, (Below.heap_alloc W1 _ D hDW).trans hK⟩
      (fun x => { tmps := #[.agg #[.int .i64 xs.length, .int .i64 a0, .int .i64 a1, .int .i64 a2, .int .i64 a3, .int .i64 a4, .int .i64 a5, .int .i64 a6, .int .i64 a7, .int .i64 off], .agg #[.int .i64 ys.length, .int .i64 c0, .int .i64 c1, .int .i64 c2, .int .i64 c3, .int .i64 c4, .int .i64 c5, .int .i64 c6, .int .i64 c7, .int .i64 ogg], .pointer (some ⟨w.heap.size, 0, none⟩), .pointer (some ⟨w.heap.size + 1, 0, none⟩), .pointer (some ⟨w.heap.size + 1 + 1, 0, none⟩), .pointer (some ⟨w.heap.size + 1 + 1 + 1, 0, none⟩), undef, .int .i64 x.1, .agg #[.int .i64 xs.length, .int .i64 a0, .int .i64 a1, .int .i64 a2, .int .i64 a3, .int .i64 a4, .int .i64 a5, .int .i64 a6, .int .i64 a7, .int .i64 off], .func (.func 82) #[] #[.pointer (some ⟨w.heap.size + 1 + 1 + 1 + 1, 0, none⟩)], undef, undef, undef, .agg #[.int .i64 ys.length, .int .i64 c0, .int .i64 c1, .int .i64 c2, .int .i64 c3, .int .i64 c4, .int .i64 c5, .int .i64 c6, .int .i64 c7, .int .i64 ogg], .func (.func 82) #[] #[.pointer (some ⟨W1.heap.size, 0, none⟩)], .int .i64 x.1, undef, undef, undef], defers := [] }) ?assign2 ?body2 ?done2 ?stop2
    case assign2 =>
      intro l x W K hK
      gi_wp2
      exact hK
    case body2 =>
      rintro l pre ⟨x, hx⟩ W ⟨⟨⟨hnd, hcr, hfr, hmk⟩, hB⟩, hK⟩ _
      obtain ⟨k, rfl⟩ : ∃ k : Nat, x = k := ⟨x.toNat, by omega⟩
      have hk : k < 4096 := by omega
      have q0 := hmk.at_ k hk
      have q1 := hmk.fz k hk
      by_cases hin : (k : Int) ∈ OL
      · rw [decide_eq_true hin] at q0
        gi_wp2
        exact ⟨KeepsOthers.setCell _ _ _, ⟨⟨rfl, ⟨k, by rw [plv_append]; exact List.mem_append.2 (.inr (by simp [plv])), hin⟩, World.cell?_setCell_same' _ _ _ (by rw [hcr]; rfl)⟩, hB.setCell (p := ⟨w.heap.size + 1 + 1, 0, none⟩) (by show _ ≤ w.heap.size + 1 + 1; omega) _⟩, (KeepsOthers.setCell W ⟨w.heap.size + 1 + 1, 0, none⟩ (.bool true)).same D _ hK rfl⟩
      · rw [decide_eq_false hin] at q0
        gi_wp2
        refine ⟨KeepsOthers.refl _, KC.refl _ _, ⟨⟨fun p hp => ?_, hcr, hfr, hmk⟩, hB⟩, hK⟩
        rw [plv_append] at hp
        rcases List.mem_append.1 hp with hp | hp
        · exact hnd p hp
        · have : p = (k : Int) := by simpa [plv] using hp
          rw [this]; exact hin
    case done2 =>
      rintro D2 us W hD2 hS2 ⟨⟨⟨hnd, hcr, hfr, hmk⟩, hB⟩, hK1⟩ hK2
      gi_wp2
      have hK2' := (KeepsOthers.setCell W ⟨w.heap.size + 1 + 1, 0, none⟩ (.bool false)).same D2 _ hK2 rfl
      have hK1' := (KeepsOthers.setCell W ⟨w.heap.size + 1 + 1, 0, none⟩ (.bool false)).same D _ hK1 rfl
      have hcW := World.cell?_setCell_same' W ⟨w.heap.size + 1 + 1, 0, none⟩ (.bool false) (by rw [hcr]; rfl)
      have hBW := hB.setCell (p := ⟨w.heap.size + 1 + 1, 0, none⟩) (by show _ ≤ w.heap.size + 1 + 1; omega) (.bool false)
      have hDlt : D < (W.setCell ⟨w.heap.size + 1 + 1, 0, none⟩ (.bool false)).heap.size := (Array.getElem?_eq_some_iff.1 hK1').1
      have hK1'' : ((W.setCell ⟨w.heap.size + 1 + 1, 0, none⟩ (.bool false)).putObj D2 (.deferred none)).heap[D]? = some (.deferred (some [])) := ((grownBy_putObj' (W.setCell ⟨w.heap.size + 1 + 1, 0, none⟩ (.bool false)) D2 (.deferred none)).block D hDlt (fun e => by cases e; omega)).trans hK1'
      refine ⟨by simp, .inl ⟨_, _, rfl, run_takeDeferred hK2', ?_⟩⟩
      refine ⟨by simp, .inl ⟨_, _, rfl, run_takeDeferred hK1'', ?_⟩⟩
      have hc5 := cell_kept (cell_kept hcW (grownBy_putObj' _ D2 (.deferred none)) (fun r e => by cases e; exact ⟨_, hK2', rfl⟩)) (grownBy_putObj' _ D (.deferred none)) (fun r e => by cases e; exact ⟨_, hK1'', rfl⟩)
      refine ⟨.bool false, ?_, by rw [decide_eq_false (fun ⟨p, h1, h2⟩ => hnd p (by rw [hS2]; exact h1) h2)], (hBW.trans (belowK_b (w := w) (Nat.le_refl _) _ D2 _ _ (by omega) hK2' rfl rfl)).trans (belowK_b (w := w) (Nat.le_refl _) _ D _ _ (by omega) hK1'' rfl rfl)⟩
      simp [results, Try.f60, go_sem, hc5]
    case stop2 =>
      rintro D2 c pre W hD2 hpre ⟨⟨⟨rfl, hex, hcr⟩, hB⟩, hK1⟩ hK2
      gi_wp2
      have hK2' := hK2
      have hK1' := hK1
      have hcW := hcr
      have hBW := hB
      have hDlt : D < W.heap.size := (Array.getElem?_eq_some_iff.1 hK1').1
      have hK1'' : (W.putObj D2 (.deferred none)).heap[D]? = some (.deferred (some [])) := ((grownBy_putObj' W D2 (.deferred none)).block D hDlt (fun e => by cases e; omega)).trans hK1'
      refine ⟨by simp, .inl ⟨_, _, rfl, run_takeDeferred hK2', ?_⟩⟩
      refine ⟨by simp, .inl ⟨_, _, rfl, run_takeDeferred hK1'', ?_⟩⟩
      have hc5 := cell_kept (cell_kept hcW (grownBy_putObj' _ D2 (.deferred none)) (fun r e => by cases e; exact ⟨_, hK2', rfl⟩)) (grownBy_putObj' _ D (.deferred none)) (fun r e => by cases e; exact ⟨_, hK1'', rfl⟩)
      refine ⟨.bool true, ?_, by rw [decide_eq_true (by obtain ⟨p, h1, h2⟩ := hex; exact ⟨p, hpre.subset h1, h2⟩)], (hBW.trans (belowK_b (w := w) (Nat.le_refl _) _ D2 _ _ (by omega) hK2' rfl rfl)).trans (belowK_b (w := w) (Nat.le_refl _) _ D _ _ (by omega) hK1'' rfl rfl)⟩
      simp [results, Try.f60, go_sem, hc5]
end Go.Proofs.Ytiekkninnjffpaa
