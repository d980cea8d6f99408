import Derived.Test.YtiekkninnjffpaaM8
import Derived.Test.YtiekkninnjffpaaM12
import Derived.Test.YtiekkninnjffpaaDDb
import Derived.Test.YtiekkninnjffpaaLwD
namespace Go.Proofs.Ytiekkninnjffpaa
open Go.ChangeShapes Go.RowKit Go.Shelf
set_option linter.unusedSimpArgs false
set_option linter.unusedVariables false

attribute [local go_sem] Oper.semAt_some

/-- The world where the first loop begins. -/
structure ESt (w W0 : World) (V : Array Value) : Prop where
  size : W0.heap.size = w.heap.size + 5
  view : ∀ j v, V[j]? = some v → W0.cell? ⟨w.heap.size + 1, j, none⟩ = some v
  res : W0.cell? ⟨w.heap.size + 1 + 1, 0, none⟩ = some (.bool false)
  resF : W0.frozen? ⟨w.heap.size + 1 + 1, 0, none⟩ = false
  mrk : Mk W0 (w.heap.size + 1 + 1 + 1) []
  bl : Below w.heap.size w W0
theorem ESt.start (w : World) (U V : Array Value) : ESt w (((((w.alloc (.cells U 64)).alloc (.cells V 64)).alloc (.cells #[.bool false] 4)).alloc (.cells Try.zeroCells95 95)).alloc (.cells U 64)) V := by
  have hb1 : Below w.heap.size w (w.alloc (.cells U 64)) := (Below.refl _ w).alloc (Nat.le_refl _) _
  have hb2 : Below w.heap.size w ((w.alloc (.cells U 64)).alloc (.cells V 64)) := hb1.alloc (by simp) _
  have hb3 := hb2.alloc (by simp; omega) (.cells #[.bool false] 4)
  have hb4 := hb3.alloc (by simp; omega) (.cells Try.zeroCells95 95)
  have c0 : ∀ j v, V[j]? = some v → ((w.alloc (.cells U 64)).alloc (.cells V 64)).cell? ⟨w.heap.size + 1, j, none⟩ = some v := fun j v h => (new_cell _ _ 64 _ (by simp) j).trans h
  have c1 : (((w.alloc (.cells U 64)).alloc (.cells V 64)).alloc (.cells #[.bool false] 4)).cell? ⟨w.heap.size + 1 + 1, 0, none⟩ = some (.bool false) := new_cell _ _ 4 _ (by simp) 0
  have f1 : (((w.alloc (.cells U 64)).alloc (.cells V 64)).alloc (.cells #[.bool false] 4)).frozen? ⟨w.heap.size + 1 + 1, 0, none⟩ = false := frozen_nw _ _ 4 _ 0 (by simp)
  have c2 : ∀ j, j < 4096 → ((((w.alloc (.cells U 64)).alloc (.cells V 64)).alloc (.cells #[.bool false] 4)).alloc (.cells Try.zeroCells95 95)).cell? ⟨w.heap.size + 1 + 1 + 1, j, none⟩ = some (.bool false) := fun j hj => (new_cell _ _ 95 _ (by simp) j).trans (zero95_get j hj)
  have f2 : ∀ j, j < 4096 → ((((w.alloc (.cells U 64)).alloc (.cells V 64)).alloc (.cells #[.bool false] 4)).alloc (.cells Try.zeroCells95 95)).frozen? ⟨w.heap.size + 1 + 1 + 1, j, none⟩ = false := fun j _ => frozen_nw _ _ 95 _ j (by simp)
  exact ⟨by simp, fun j v h => cell_al _ (cell_al _ (cell_al _ (c0 j v h))), cell_al _ (cell_al _ c1), frozen_al _ (cell_al _ c1) (frozen_al _ c1 f1), ⟨fun j hj => by rw [cell_al _ (c2 j hj)]; simp, fun j hj => frozen_al _ (c2 j hj) (f2 j hj)⟩, hb4.alloc (by simp; omega) _⟩

set_option maxRecDepth 100000 in
set_option maxHeartbeats 2000000 in
theorem meets_in (n : Nat) (hn : 3 ≤ n) (xs ss ys ts : List Int) (off ogg : Int) (w : World)
    (hst1 : ∀ (n Bf : Nat) (W : World), Bf = W.heap.size → SeqStopsK Fence.wide n Try.prog 82 #[.pointer (some ⟨Bf, 0, none⟩)] (fun x : Pl => #[Value.int .i64 x.1]) (KC (W.alloc (.cells (vw xs ss off) 64)).heap.size) (fun ys => plv ys = offsL xs ss off) (fun pre => plv pre <+: offsL xs ss off) (offsL xs ss off).length (W.alloc (.cells (vw xs ss off) 64)))
    (hst2 : ∀ (n Bf : Nat) (W : World), Bf = W.heap.size → SeqStopsK Fence.wide n Try.prog 82 #[.pointer (some ⟨Bf, 0, none⟩)] (fun x : Pl => #[Value.int .i64 x.1]) (KC (W.alloc (.cells (vw ys ts ogg) 64)).heap.size) (fun zs => plv zs = offsL ys ts ogg) (fun pre => plv pre <+: offsL ys ts ogg) (offsL ys ts ogg).length (W.alloc (.cells (vw ys ts ogg) 64))) :
    CallsIn Fence.wide n Try.prog 60 #[.agg (vw xs ss off), .agg (vw ys ts ogg)] w fun e w' => e = .returned (.bool (decide (∃ p ∈ offsL ys ts ogg, p ∈ offsL xs ss off))) ∧ Below w.heap.size w w' := by
  have hpl1 := hide (fun n W => placesF_in n xs ss off W)
  have hpl2 := hide (fun n W => placesF_in n ys ts ogg W)
  have hs1 := hide (hst1 (n - 1) (w.heap.size + 1 + 1 + 1 + 1) ((((w.alloc (.cells (vw xs ss off) 64)).alloc (.cells (vw ys ts ogg) 64)).alloc (.cells #[.bool false] 4)).alloc (.cells Try.zeroCells95 95)) (by simp))
  have hs2 := hide (fun W : World => hst2 (n - 1) W.heap.size W rfl)
  clear hst1 hst2
  have hdd : ∀ k : Nat, (Fence.wide.depth.isSome = true → 1 ≤ k) := fun k h => by cases h
  have X0 := hide (ESt.start w (vw xs ss off) (vw ys ts ogg))
  generalize offsL xs ss off = OL at *
  generalize offsL ys ts ogg = OM at *
  unfold vw at hpl1 hpl2 X0 hs1 hs2 ⊢
  generalize xs.getD 0 0 = a0 at *
  generalize xs.getD 1 0 = a1 at *
  generalize xs.getD 2 0 = a2 at *
  generalize xs.getD 3 0 = a3 at *
  generalize ss.getD 0 0 = a4 at *
  generalize ss.getD 1 0 = a5 at *
  generalize ss.getD 2 0 = a6 at *
  generalize ss.getD 3 0 = a7 at *
  generalize ys.getD 0 0 = c0 at *
  generalize ys.getD 1 0 = c1 at *
  generalize ys.getD 2 0 = c2 at *
  generalize ys.getD 3 0 = c3 at *
  generalize ts.getD 0 0 = c4 at *
  generalize ts.getD 1 0 = c5 at *
  generalize ts.getD 2 0 = c6 at *
  generalize ts.getD 3 0 = c7 at *
  refine callsIn_of_wp_marks Try.func60 rfl trivial ?_ rfl
  simp only [Try.ntmps60, List.size_toArray, List.length_cons, List.length_nil, Nat.reduceAdd, Nat.reduceSub, Array.replicate_succ, Array.replicate_zero, List.push_toArray, List.append_toArray, List.nil_append, List.cons_append]
  gi_wp2
  refine ⟨trivial, hdd _, ?_⟩
  refine (hpl1.out _ _).mono ?_
  rintro e w' ⟨rfl, rfl⟩
  clear hpl1
  have h1 : 1 ≤ n := by omega
  gi_wp2
  generalize hW0 : World.alloc ((((w.alloc _).alloc _).alloc _).alloc _) _ = W0 at X0 hs1 ⊢
  clear hW0
  have hsz := X0.out.size
  refine wpIn_rangeFunc_ownF rfl h1 (gf := 82) (lb := #[.pointer (some ⟨w.heap.size + 1 + 1 + 1 + 1, 0, none⟩)]) rfl trivial (enters_of Try.func82 (by kernel_rfl) rfl)
    hs1.out (fun h k => KC.trans h k) (fun W l o o' h1 h2 h3 h4 => kc_put W l o o' h1 h2 h3 h4) (Below.refl _ _) (fun _ => rfl)
    (fun pre W => ((∀ j v, (#[.int .i64 ys.length, .int .i64 c0, .int .i64 c1, .int .i64 c2, .int .i64 c3, .int .i64 c4, .int .i64 c5, .int .i64 c6, .int .i64 c7, .int .i64 ogg] : Array Value)[j]? = some v → W.cell? ⟨w.heap.size + 1, j, none⟩ = some v) ∧ W.cell? ⟨w.heap.size + 1 + 1, 0, none⟩ = some (.bool false) ∧ W.frozen? ⟨w.heap.size + 1 + 1, 0, none⟩ = false ∧ Mk W (w.heap.size + 1 + 1 + 1) (plv pre)) ∧ Below w.heap.size w W)
    (fun _ _ _ => False)
    (OwnFrom.and (Own.from (fun s A B row hs hg hr => ⟨fun j v h => cell_kept (hs.1 j v h) hg hr, cell_kept hs.2.1 hg hr, (frozen_kept hs.2.1 hg hr).trans hs.2.2.1, hs.2.2.2.kept hg hr⟩) _) (ownFrom_below (Nat.le_refl _) (by omega)))
    (fun _ _ _ _ _ hs _ _ => hs)
    ⟨⟨X0.out.view, X0.out.res, X0.out.resF, X0.out.mrk⟩, X0.out.bl⟩
    (fun x => { tmps := #[.agg #[.int .i64 xs.length, .int .i64 a0, .int .i64 a1, .int .i64 a2, .int .i64 a3, .int .i64 a4, .int .i64 a5, .int .i64 a6, .int .i64 a7, .int .i64 off], .agg #[.int .i64 ys.length, .int .i64 c0, .int .i64 c1, .int .i64 c2, .int .i64 c3, .int .i64 c4, .int .i64 c5, .int .i64 c6, .int .i64 c7, .int .i64 ogg], .pointer (some ⟨w.heap.size, 0, none⟩), .pointer (some ⟨w.heap.size + 1, 0, none⟩), .pointer (some ⟨w.heap.size + 1 + 1, 0, none⟩), .pointer (some ⟨w.heap.size + 1 + 1 + 1, 0, none⟩), .int .i64 x.1, undef, .agg #[.int .i64 xs.length, .int .i64 a0, .int .i64 a1, .int .i64 a2, .int .i64 a3, .int .i64 a4, .int .i64 a5, .int .i64 a6, .int .i64 a7, .int .i64 off], .func (.func 82) #[] #[.pointer (some ⟨w.heap.size + 1 + 1 + 1 + 1, 0, none⟩)], .int .i64 x.1, undef, undef, undef, undef, undef, undef, undef, undef], defers := [] }) ?assign ?body ?done ?stop
  case assign =>
    intro l x W K hK
    gi_wp2
    exact hK
  case body =>
    rintro l pre ⟨x, hx⟩ W ⟨⟨hvw, hcr, hfr, hmk⟩, hB⟩ _
    obtain ⟨k, rfl⟩ : ∃ k : Nat, x = k := ⟨x.toNat, by omega⟩
    have hk : k < 4096 := by omega
    have q0 := hmk.at_ k hk
    have q1 := hmk.fz k hk
    have Hvw := hide hvw
    clear hvw
    gi_wp2
    refine ⟨KeepsOthers.setCell _ _ _, KC.setCell W (p := ⟨w.heap.size + 1 + 1 + 1, k, none⟩) (by show w.heap.size + 1 + 1 + 1 < _; omega) _, ⟨fun j v h => ?_, ?_, ?_, ?_⟩, hB.setCell (p := ⟨w.heap.size + 1 + 1 + 1, k, none⟩) (by show _ ≤ w.heap.size + 1 + 1 + 1; omega) _⟩
    · exact (World.cell?_of_block (Below.heap_setCell _ _ _ _ (by show w.heap.size + 1 ≠ w.heap.size + 1 + 1 + 1; omega))).trans (Hvw.out j v h)
    · exact (World.cell?_of_block (Below.heap_setCell _ _ _ _ (by show w.heap.size + 1 + 1 ≠ w.heap.size + 1 + 1 + 1; omega))).trans hcr
    · exact (World.frozen?_setCell _ _ _ _).trans hfr
    · rw [plv_append]; exact hmk.mark k hk
  case stop =>
    rintro D c pre W _ _ h _
    exact h.elim
  case done =>
    rintro D zs W1 hD hS ⟨⟨hvw, hcr, hfr, hmk⟩, hB⟩ hK
    have v0 : W1.cell? ⟨w.heap.size + 1, 0, none⟩ = _ := hvw 0 _ rfl
    have v1 : W1.cell? ⟨w.heap.size + 1, 1, none⟩ = _ := hvw 1 _ rfl
    have v2 : W1.cell? ⟨w.heap.size + 1, 2, none⟩ = _ := hvw 2 _ rfl
    have v3 : W1.cell? ⟨w.heap.size + 1, 3, none⟩ = _ := hvw 3 _ rfl
    have v4 : W1.cell? ⟨w.heap.size + 1, 4, none⟩ = _ := hvw 4 _ rfl
    have v5 : W1.cell? ⟨w.heap.size + 1, 5, none⟩ = _ := hvw 5 _ rfl
    have v6 : W1.cell? ⟨w.heap.size + 1, 6, none⟩ = _ := hvw 6 _ rfl
    have v7 : W1.cell? ⟨w.heap.size + 1, 7, none⟩ = _ := hvw 7 _ rfl
    have v8 : W1.cell? ⟨w.heap.size + 1, 8, none⟩ = _ := hvw 8 _ rfl
    have v9 : W1.cell? ⟨w.heap.size + 1, 9, none⟩ = _ := hvw 9 _ rfl
    clear hvw hs1 X0
    have hs2' := hide (hs2.out W1)
    have hszW := hB.size
    have hDW : D < W1.heap.size := (Array.getElem?_eq_some_iff.1 hK).1
    clear h1
    gi_wp2
    refine ⟨trivial, hdd _, ?_⟩
    refine (hpl2.out _ _).mono ?_
    rintro e w' ⟨rfl, rfl⟩
    clear hpl2 hs2
    have h1 : 1 ≤ n := by omega
    gi_wp2
    have hW2 : (W1.alloc (.cells #[.int .i64 ys.length, .int .i64 c0, .int .i64 c1, .int .i64 c2, .int .i64 c3, .int .i64 c4, .int .i64 c5, .int .i64 c6, .int .i64 c7, .int .i64 ogg] 64)).heap.size = W1.heap.size + 1 := by simp
    refine wpIn_rangeFunc_ownF rfl h1 (gf := 82) (lb := #[.pointer (some ⟨W1.heap.size, 0, none⟩)]) rfl trivial (enters_of Try.func82 (by kernel_rfl) rfl)
      hs2'.out (fun h k => KC.trans h k) (fun W l o o' h1 h2 h3 h4 => kc_put W l o o' h1 h2 h3 h4) (Below.refl _ _) (fun _ => rfl)
      (fun pre W => (((∀ p ∈ plv pre, p ∉ OL) ∧ W.cell? ⟨w.heap.size + 1 + 1, 0, none⟩ = some (.bool false) ∧ W.frozen? ⟨w.heap.size + 1 + 1, 0, none⟩ = false ∧ Mk W (w.heap.size + 1 + 1 + 1) OL) ∧ Below w.heap.size w W) ∧ W.heap[D]? = some (.deferred (some [])))
      (fun c pre W => ((c = .ret ∧ (∃ p ∈ plv pre, p ∈ OL) ∧ W.cell? ⟨w.heap.size + 1 + 1, 0, none⟩ = some (.bool true)) ∧ Below w.heap.size w W) ∧ W.heap[D]? = some (.deferred (some [])))
      (OwnFrom.and (OwnFrom.and (Own.from (fun s A B row hs hg hr => ⟨hs.1, cell_kept hs.2.1 hg hr, (frozen_kept hs.2.1 hg hr).trans hs.2.2.1, hs.2.2.2.kept hg hr⟩) _) (ownFrom_below (Nat.le_refl _) (by omega))) (fun s A B row hs hg hr => (hg.block D (Array.getElem?_eq_some_iff.1 hs).1 (fun e => by have := (hr D e.symm).1; omega)).trans hs))
      (fun c => OwnFrom.and (OwnFrom.and (Own.from (fun s A B row hs hg hr => ⟨hs.1, hs.2.1, cell_kept hs.2.2 hg hr⟩) _) (ownFrom_below (Nat.le_refl _) (by omega))) (fun s A B row hs hg hr => (hg.block D (Array.getElem?_eq_some_iff.1 hs).1 (fun e => by have := (hr D e.symm).1; omega)).trans hs))
      ⟨⟨⟨by simp [plv], cell_al _ hcr, frozen_al _ hcr hfr, by rw [← hS]; exact hmk.kept (World.grownBy_alloc W1 _ none) (fun r e => by cases e)⟩, hB.alloc hszW _⟩, (Below.heap_alloc W1 _ D hDW).trans hK⟩
      (fun x => { tmps := #[.agg #[.int .i64 xs.length, .int .i64 a0, .int .i64 a1, .int .i64 a2, .int .i64 a3, .int .i64 a4, .int .i64 a5, .int .i64 a6, .int .i64 a7, .int .i64 off], .agg #[.int .i64 ys.length, .int .i64 c0, .int .i64 c1, .int .i64 c2, .int .i64 c3, .int .i64 c4, .int .i64 c5, .int .i64 c6, .int .i64 c7, .int .i64 ogg], .pointer (some ⟨w.heap.size, 0, none⟩), .pointer (some ⟨w.heap.size + 1, 0, none⟩), .pointer (some ⟨w.heap.size + 1 + 1, 0, none⟩), .pointer (some ⟨w.heap.size + 1 + 1 + 1, 0, none⟩), undef, .int .i64 x.1, .agg #[.int .i64 xs.length, .int .i64 a0, .int .i64 a1, .int .i64 a2, .int .i64 a3, .int .i64 a4, .int .i64 a5, .int .i64 a6, .int .i64 a7, .int .i64 off], .func (.func 82) #[] #[.pointer (some ⟨w.heap.size + 1 + 1 + 1 + 1, 0, none⟩)], undef, undef, undef, .agg #[.int .i64 ys.length, .int .i64 c0, .int .i64 c1, .int .i64 c2, .int .i64 c3, .int .i64 c4, .int .i64 c5, .int .i64 c6, .int .i64 c7, .int .i64 ogg], .func (.func 82) #[] #[.pointer (some ⟨W1.heap.size, 0, none⟩)], .int .i64 x.1, undef, undef, undef], defers := [] }) ?assign2 ?body2 ?done2 ?stop2
    case assign2 =>
      intro l x W K hK
      gi_wp2
      exact hK
    case body2 =>
      rintro l pre ⟨x, hx⟩ W ⟨⟨⟨hnd, hcr, hfr, hmk⟩, hB⟩, hK⟩ _
      obtain ⟨k, rfl⟩ : ∃ k : Nat, x = k := ⟨x.toNat, by omega⟩
      have hk : k < 4096 := by omega
      have q0 := hmk.at_ k hk
      have q1 := hmk.fz k hk
      by_cases hin : (k : Int) ∈ OL
      · rw [decide_eq_true hin] at q0
        gi_wp2
        exact ⟨KeepsOthers.setCell _ _ _, ⟨⟨rfl, ⟨k, by rw [plv_append]; exact List.mem_append.2 (.inr (by simp [plv])), hin⟩, World.cell?_setCell_same' _ _ _ (by rw [hcr]; rfl)⟩, hB.setCell (p := ⟨w.heap.size + 1 + 1, 0, none⟩) (by show _ ≤ w.heap.size + 1 + 1; omega) _⟩, (KeepsOthers.setCell W ⟨w.heap.size + 1 + 1, 0, none⟩ (.bool true)).same D _ hK rfl⟩
      · rw [decide_eq_false hin] at q0
        gi_wp2
        refine ⟨KeepsOthers.refl _, KC.refl _ _, ⟨⟨fun p hp => ?_, hcr, hfr, hmk⟩, hB⟩, hK⟩
        rw [plv_append] at hp
        rcases List.mem_append.1 hp with hp | hp
        · exact hnd p hp
        · have : p = (k : Int) := by simpa [plv] using hp
          rw [this]; exact hin
    case done2 =>
      rintro D2 us W hD2 hS2 ⟨⟨⟨hnd, hcr, hfr, hmk⟩, hB⟩, hK1⟩ hK2
      gi_wp2
      have hK2' := (KeepsOthers.setCell W ⟨w.heap.size + 1 + 1, 0, none⟩ (.bool false)).same D2 _ hK2 rfl
      have hK1' := (KeepsOthers.setCell W ⟨w.heap.size + 1 + 1, 0, none⟩ (.bool false)).same D _ hK1 rfl
      have hcW := World.cell?_setCell_same' W ⟨w.heap.size + 1 + 1, 0, none⟩ (.bool false) (by rw [hcr]; rfl)
      have hBW := hB.setCell (p := ⟨w.heap.size + 1 + 1, 0, none⟩) (by show _ ≤ w.heap.size + 1 + 1; omega) (.bool false)
      have hDlt : D < (W.setCell ⟨w.heap.size + 1 + 1, 0, none⟩ (.bool false)).heap.size := (Array.getElem?_eq_some_iff.1 hK1').1
      have hK1'' : ((W.setCell ⟨w.heap.size + 1 + 1, 0, none⟩ (.bool false)).putObj D2 (.deferred none)).heap[D]? = some (.deferred (some [])) := ((grownBy_putObj' (W.setCell ⟨w.heap.size + 1 + 1, 0, none⟩ (.bool false)) D2 (.deferred none)).block D hDlt (fun e => by cases e; omega)).trans hK1'
      refine ⟨by simp, .inl ⟨_, _, rfl, run_takeDeferred hK2', ?_⟩⟩
      refine ⟨by simp, .inl ⟨_, _, rfl, run_takeDeferred hK1'', ?_⟩⟩
      have hc5 := cell_kept (cell_kept hcW (grownBy_putObj' _ D2 (.deferred none)) (fun r e => by cases e; exact ⟨_, hK2', rfl⟩)) (grownBy_putObj' _ D (.deferred none)) (fun r e => by cases e; exact ⟨_, hK1'', rfl⟩)
      refine ⟨.bool false, ?_, by rw [decide_eq_false (fun ⟨p, h1, h2⟩ => hnd p (by rw [hS2]; exact h1) h2)], (hBW.trans (belowK_b (w := w) (Nat.le_refl _) _ D2 _ _ (by omega) hK2' rfl rfl)).trans (belowK_b (w := w) (Nat.le_refl _) _ D _ _ (by omega) hK1'' rfl rfl)⟩
      simp [results, Try.f60, go_sem, hc5]
    case stop2 =>
      rintro D2 c pre W hD2 hpre ⟨⟨⟨rfl, hex, hcr⟩, hB⟩, hK1⟩ hK2
      gi_wp2
      have hK2' := hK2
      have hK1' := hK1
      have hcW := hcr
      have hBW := hB
      have hDlt : D < W.heap.size := (Array.getElem?_eq_some_iff.1 hK1').1
      have hK1'' : (W.putObj D2 (.deferred none)).heap[D]? = some (.deferred (some [])) := ((grownBy_putObj' W D2 (.deferred none)).block D hDlt (fun e => by cases e; omega)).trans hK1'
      refine ⟨by simp, .inl ⟨_, _, rfl, run_takeDeferred hK2', ?_⟩⟩
      refine ⟨by simp, .inl ⟨_, _, rfl, run_takeDeferred hK1'', ?_⟩⟩
      have hc5 := cell_kept (cell_kept hcW (grownBy_putObj' _ D2 (.deferred none)) (fun r e => by cases e; exact ⟨_, hK2', rfl⟩)) (grownBy_putObj' _ D (.deferred none)) (fun r e => by cases e; exact ⟨_, hK1'', rfl⟩)
      refine ⟨.bool true, ?_, by rw [decide_eq_true (by obtain ⟨p, h1, h2⟩ := hex; exact ⟨p, hpre.subset h1, h2⟩)], (hBW.trans (belowK_b (w := w) (Nat.le_refl _) _ D2 _ _ (by omega) hK2' rfl rfl)).trans (belowK_b (w := w) (Nat.le_refl _) _ D _ _ (by omega) hK1'' rfl rfl)⟩
      simp [results, Try.f60, go_sem, hc5]
end Go.Proofs.Ytiekkninnjffpaa
namespace Go.Proofs.Ytiekkninnjffpaa
open Go.ChangeShapes Go.RowKit
set_option linter.unusedSimpArgs false
set_option linter.unusedVariables false

/-- Two views that share a place. -/
abbrev OvV (xs ss : List Int) (off : Int) (ys ts : List Int) (ogg : Int) : Prop := ValidV xs ss off ∧ ValidV ys ts ogg ∧ ∃ p ∈ offsL ys ts ogg, p ∈ offsL xs ss off
def dcOvV (xs ss : List Int) (off : Int) (ys ts : List Int) (ogg : Int) : Bool := decide (OvV xs ss off ys ts ogg)
theorem dcOvV_t {xs ss : List Int} {off : Int} {ys ts : List Int} {ogg : Int} (h : OvV xs ss off ys ts ogg) : dcOvV xs ss off ys ts ogg = true := decide_eq_true h
theorem dcOvV_f {xs ss : List Int} {off : Int} {ys ts : List Int} {ogg : Int} (h : ¬ OvV xs ss off ys ts ogg) : dcOvV xs ss off ys ts ogg = false := decide_eq_false h

theorem meets_any {xs ss ys ts : List Int} {off ogg : Int} (hv : ValidV xs ss off) (hu : ValidV ys ts ogg) (w : World) :
    Calls Try.prog 60 #[.agg (vw xs ss off), .agg (vw ys ts ogg)] w fun e w' => e = .returned (.bool (decide (∃ p ∈ offsL ys ts ogg, p ∈ offsL xs ss off))) ∧ Bel w w' :=
  callsIn_wide.1 (meets_in 3 (Nat.le_refl _) xs ss ys ts off ogg w
    (fun n Bf W hB => placesK n Bf xs ss off hv.1.1 hv.2.1 hv.1.2.1 hv.1.2.2 hv.2.2.2.1 hv.2.2.1 (offs_in hv) W hB)
    (fun n Bf W hB => placesK n Bf ys ts ogg hu.1.1 hu.2.1 hu.1.2.1 hu.1.2.2 hu.2.2.2.1 hu.2.2.1 (offs_in hu) W hB))

set_option maxRecDepth 100000 in
set_option maxHeartbeats 2000000 in
theorem iOV_any {w : World} {vS vT uS uT : Value} {xs ss ys ts : List Int} (hS : Ints w vS xs) (hT : Ints w vT ss) (gS : Ints w uS ys) (gT : Ints w uT ts) (off ogg : Int) (lx : xs.length ≤ 1048576) (ls : ss.length ≤ 1048576) (ly : ys.length ≤ 1048576) (lt : ts.length ≤ 1048576) :
    Calls Try.prog 29 #[.agg #[vS, vT, .int .i64 off], .agg #[uS, uT, .int .i64 ogg]] w fun e w' => e = .returned (.bool (dcOvV xs ss off ys ts ogg)) ∧ Bel w w' := by
  have x0 : Ext w ((w.alloc (.cells #[vS, vT, .int .i64 off] 27)).alloc (.cells #[uS, uT, .int .i64 ogg] 27)) := ((Ext.refl w).alloc _ _).alloc _ _
  have X0 := hide x0
  have HS := hide (hS.ext x0)
  have HT := hide (hT.ext x0)
  have GS := hide (gS.ext x0)
  have GT := hide (gT.ext x0)
  have n2 := fun j => new_cell (w.alloc (.cells #[vS, vT, .int .i64 off] 27)) #[uS, uT, .int .i64 ogg] 27 (w.heap.size + 1) (by simp) j
  have k0 := n2 0
  have k1 := n2 1
  have k2 := n2 2
  clear n2
  obtain ⟨sa, cap, rfl, _⟩ := hS
  obtain ⟨ta, dap, rfl, _⟩ := hT
  obtain ⟨ua, uap, rfl, _⟩ := gS
  obtain ⟨va, vap, rfl, _⟩ := gT
  clear x0
  go_enter Try.func29, Try.ntmps29
  go_wp2_with fail
  refine (fixView_any HS.out HT.out off lx ls).mono ?_
  rintro e w1 ⟨A, rfl, hA, ⟨a0, a1, a2, a3, a4, a5, a6, a7, a8, a9, rfl⟩, x1⟩
  have X1 := hide (X0.out.trans x1)
  have y1 : Ext w1 (w1.alloc (.cells #[.int .i64 a0, .int .i64 a1, .int .i64 a2, .int .i64 a3, .int .i64 a4, .int .i64 a5, .int .i64 a6, .int .i64 a7, .int .i64 a8, .int .i64 a9] 64)) := (Ext.refl w1).alloc _ _
  have X2 := hide (X1.out.trans y1)
  have GS1 := hide ((GS.out.ext x1).ext y1)
  have GT1 := hide ((GT.out.ext x1).ext y1)
  have m0 := y1.box (x1.box k0)
  have m1 := y1.box (x1.box k1)
  have m2 := y1.box (x1.box k2)
  have n1 := fun j => new_cell w1 #[.int .i64 a0, .int .i64 a1, .int .i64 a2, .int .i64 a3, .int .i64 a4, .int .i64 a5, .int .i64 a6, .int .i64 a7, .int .i64 a8, .int .i64 a9] 64 w1.heap.size rfl j
  have r0 := n1 0
  have r1 := n1 1
  have r2 := n1 2
  have r3 := n1 3
  have r4 := n1 4
  have r5 := n1 5
  have r6 := n1 6
  have r7 := n1 7
  have r8 := n1 8
  have r9 := n1 9
  clear x1 y1 k0 k1 k2 n1 X0 X1 HS HT GS GT
  go_wp2_with fail
  generalize hV1 : w1.alloc (.cells #[.int .i64 a0, .int .i64 a1, .int .i64 a2, .int .i64 a3, .int .i64 a4, .int .i64 a5, .int .i64 a6, .int .i64 a7, .int .i64 a8, .int .i64 a9] 64) = V1 at X2 GS1 GT1 m0 m1 m2 r0 r1 r2 r3 r4 r5 r6 r7 r8 r9 ⊢
  clear hV1
  refine (fixView_any GS1.out GT1.out ogg ly lt).mono ?_
  rintro e w3 ⟨C, rfl, hC, ⟨c0, c1, c2, c3, c4, c5, c6, c7, c8, c9, rfl⟩, x3⟩
  have X3 := hide (X2.out.trans x3)
  have y3 : Ext w3 (w3.alloc (.cells #[.int .i64 c0, .int .i64 c1, .int .i64 c2, .int .i64 c3, .int .i64 c4, .int .i64 c5, .int .i64 c6, .int .i64 c7, .int .i64 c8, .int .i64 c9] 64)) := (Ext.refl w3).alloc _ _
  have X4 := hide (X3.out.trans y3)
  have s0 := y3.box (x3.box r0)
  have s1 := y3.box (x3.box r1)
  have s2 := y3.box (x3.box r2)
  have s3 := y3.box (x3.box r3)
  have s4 := y3.box (x3.box r4)
  have s5 := y3.box (x3.box r5)
  have s6 := y3.box (x3.box r6)
  have s7 := y3.box (x3.box r7)
  have s8 := y3.box (x3.box r8)
  have s9 := y3.box (x3.box r9)
  clear x3 y3 X2 X3 r0 r1 r2 r3 r4 r5 r6 r7 r8 r9 m0 m1 m2 GS1 GT1
  by_cases hv : ValidV xs ss off
  · by_cases hu : ValidV ys ts ogg
    · have HD : Hid (∀ W, Calls Try.prog 60 #[.agg #[.int .i64 a0, .int .i64 a1, .int .i64 a2, .int .i64 a3, .int .i64 a4, .int .i64 a5, .int .i64 a6, .int .i64 a7, .int .i64 a8, .int .i64 a9], .agg #[.int .i64 c0, .int .i64 c1, .int .i64 c2, .int .i64 c3, .int .i64 c4, .int .i64 c5, .int .i64 c6, .int .i64 c7, .int .i64 c8, .int .i64 c9]] W fun e w' => e = .returned (.bool (dcOvV xs ss off ys ts ogg)) ∧ Bel W w') := fun W => by
        rw [hA hv, hC hu]
        have : (dcOvV xs ss off ys ts ogg) = decide (∃ p ∈ offsL ys ts ogg, p ∈ offsL xs ss off) := by
          by_cases h : ∃ p ∈ offsL ys ts ogg, p ∈ offsL xs ss off
          · rw [decide_eq_true h, dcOvV_t (show OvV xs ss off ys ts ogg from ⟨hv, hu, h⟩)]
          · rw [decide_eq_false h, dcOvV_f (fun q : OvV xs ss off ys ts ogg => h q.2.2)]
        rw [this]
        exact meets_any hv hu W
      rw [dcValidV_t hv, dcValidV_t hu]
      clear hA hv hC hu
      generalize hr : (dcOvV xs ss off ys ts ogg) = r at *
      have Hr := hide hr
      clear hr
      go_wp2_with (go_at_call 60; refine (HD.out _).mono ?_; rintro e w5 ⟨rfl, x5⟩)
      go_ret
      exact ⟨ret_bool Hr.out.symm, Bel.tr X4.out.bl x5⟩
    · have hno : Hid ((dcOvV xs ss off ys ts ogg) = false) := decide_eq_false (fun q => hu q.2.1)
      rw [dcValidV_t hv, dcValidV_f hu]
      clear hA hv hC hu
      go_wp2
      go_ret
      exact ⟨ret_bool hno.out.symm, X4.out.bl⟩
  · have hno : Hid ((dcOvV xs ss off ys ts ogg) = false) := decide_eq_false (fun q => hv q.1)
    rw [dcValidV_f hv]
    generalize (dcValidV ys ts ogg) = b2
    clear hA hv hC
    go_wp2
    go_ret
    exact ⟨ret_bool hno.out.symm, X4.out.bl⟩
end Go.Proofs.Ytiekkninnjffpaa
namespace Go.Proofs.Ytiekkninnjffpaa
open Go.ChangeShapes Go.RowKit
set_option linter.unusedSimpArgs false
set_option linter.unusedVariables false

theorem IntsB.mono {w : World} {lo hi lo2 hi2 : Nat} {v : Value} {L : List Int} (h : IntsB w lo hi v L) (h1 : lo2 ≤ lo) (h2 : hi ≤ hi2) : IntsB w lo2 hi2 v L := by
  obtain ⟨sa, cap, e, h⟩ := h
  exact ⟨sa, cap, e, h.imp id (fun ⟨b, o, q1, q2, q3, q4⟩ => ⟨b, o, q1, by omega, by omega, q4⟩)⟩
/-- The world of the first loop: the marks of what has come. -/
structure NR (w wr : World) (Bm : Nat) (sa : Option Addr) (L : List Int) (uS uT : Value) (ogg : Int) (ys ts : List Int) (k : Nat) : Prop where
  mrk : Mk wr Bm (L.take k)
  own : OwnI wr (Bm + 1) sa L
  bl : Below w.heap.size w wr
  c0 : wr.cell? ⟨w.heap.size + 1, 0, none⟩ = some uS
  c1 : wr.cell? ⟨w.heap.size + 1, 1, none⟩ = some uT
  c2 : wr.cell? ⟨w.heap.size + 1, 2, none⟩ = some (.int .i64 ogg)
  iS : IntsB wr 0 Bm uS ys
  iT : IntsB wr 0 Bm uT ts
theorem NR.step {w wr : World} {Bm : Nat} {sa : Option Addr} {L : List Int} {uS uT : Value} {ogg : Int} {ys ts : List Int} {k m : Nat} (h : NR w wr Bm sa L uS uT ogg ys ts k) (hk : k < L.length) (hm : L.getD k 0 = (m : Int)) (hm4 : m < 4096) (hw : w.heap.size + 1 < Bm) : NR w (wr.setCell ⟨Bm, m, none⟩ (.bool true)) Bm sa L uS uT ogg ys ts (k + 1) := by
  have e := take_snoc L k hk
  rw [hm] at e
  have keep : ∀ b o v, b ≠ Bm → wr.cell? ⟨b, o, none⟩ = some v → (wr.setCell ⟨Bm, m, none⟩ (.bool true)).cell? ⟨b, o, none⟩ = some v := fun b o v hb hc => (World.cell?_of_block (Below.heap_setCell _ _ _ b (by show b ≠ Bm; exact hb))).trans hc
  have hI : ∀ v zs, IntsB wr 0 Bm v zs → IntsB (wr.setCell ⟨Bm, m, none⟩ (.bool true)) 0 Bm v zs := fun v zs ⟨sa, cap, e, h⟩ => ⟨sa, cap, e, h.imp id (fun ⟨b, o, h1, h2, h3, h4⟩ => ⟨b, o, h1, h2, h3, fun j hj => keep _ _ _ (by omega) (h4 j hj)⟩)⟩
  refine ⟨?_, ?_, h.bl.setCell (p := ⟨Bm, m, none⟩) (by show _ ≤ Bm; omega) _, keep _ _ _ (by omega) h.c0, keep _ _ _ (by omega) h.c1, keep _ _ _ (by omega) h.c2, hI _ _ h.iS, hI _ _ h.iT⟩
  · rw [e]; exact h.mrk.mark m hm4
  · rcases h.own with h0 | ⟨g, h1, h2, h3, h4⟩
    · exact Or.inl h0
    · exact Or.inr ⟨g, h1, h2, fun j hj => keep _ _ _ (by omega) (h3 j hj), fun o => (World.frozen?_setCell _ _ _ _).trans (h4 o)⟩

set_option maxRecDepth 100000 in
set_option maxHeartbeats 4000000 in
theorem sOV_any {w : World} {vS vT uS uT : Value} {xs ss ys ts : List Int} (hS : Ints w vS xs) (hT : Ints w vT ss) (gS : Ints w uS ys) (gT : Ints w uT ts) (off ogg : Int) (lx : xs.length ≤ 1048576) (ls : ss.length ≤ 1048576) (ly : ys.length ≤ 1048576) (lt : ts.length ≤ 1048576) :
    Calls Try.prog 28 #[.agg #[vS, vT, .int .i64 off], .agg #[uS, uT, .int .i64 ogg]] w fun e w' => e = .returned (.bool (dcOvV xs ss off ys ts ogg)) ∧ Bel w w' := by
  have x0 : Ext w ((w.alloc (.cells #[vS, vT, .int .i64 off] 27)).alloc (.cells #[uS, uT, .int .i64 ogg] 27)) := ((Ext.refl w).alloc _ _).alloc _ _
  have y0 : Ext (w.alloc (.cells #[vS, vT, .int .i64 off] 27)) ((w.alloc (.cells #[vS, vT, .int .i64 off] 27)).alloc (.cells #[uS, uT, .int .i64 ogg] 27)) := (Ext.refl _).alloc _ _
  have X0 := hide x0.bl
  have HS := hide (hS.ext x0)
  have HT := hide (hT.ext x0)
  have GS := hide (gS.bound.keep x0.bl)
  have GT := hide (gT.bound.keep x0.bl)
  have n1 := fun j => new_cell w #[vS, vT, .int .i64 off] 27 w.heap.size rfl j
  have n2 := fun j => new_cell (w.alloc (.cells #[vS, vT, .int .i64 off] 27)) #[uS, uT, .int .i64 ogg] 27 (w.heap.size + 1) (by simp) j
  have j0 := y0.box (n1 0)
  have j1 := y0.box (n1 1)
  have j2 := y0.box (n1 2)
  have k0 := n2 0
  have k1 := n2 1
  have k2 := n2 2
  have hz0 : Hid (((w.alloc (.cells #[vS, vT, .int .i64 off] 27)).alloc (.cells #[uS, uT, .int .i64 ogg] 27)).heap.size = w.heap.size + 2) := by show _ = _; simp
  clear n1 n2 x0 y0
  obtain ⟨sa, cap, rfl, _⟩ := hS
  obtain ⟨ta, dap, rfl, _⟩ := hT
  obtain ⟨ua, uap, rfl, _⟩ := gS
  obtain ⟨va, vap, rfl, _⟩ := gT
  go_enter Try.func28, Try.ntmps28
  go_wp2_with fail
  generalize hW0 : World.alloc (w.alloc _) _ = W0 at X0 HS HT GS GT j0 j1 j2 k0 k1 k2 hz0 ⊢
  clear hW0
  refine (sVV_any HS.out HT.out off lx ls).mono ?_
  rintro e W1 ⟨rfl, B1⟩
  have X1 := hide (X0.out.trans (B1.mono X0.out.size))
  have HS1 := hide (HS.out.below B1)
  have HT1 := hide (HT.out.below B1)
  have GS1 := hide (GS.out.keep B1)
  have GT1 := hide (GT.out.keep B1)
  have d0 := Bel.box B1 j0
  have d1 := Bel.box B1 j1
  have d2 := Bel.box B1 j2
  have f0 := Bel.box B1 k0
  have f1 := Bel.box B1 k1
  have f2 := Bel.box B1 k2
  have hz1 : Hid (w.heap.size + 2 ≤ W1.heap.size) := by have := hz0.out; have := Below.size B1; show _ ≤ _; omega
  clear j0 j1 j2 k0 k1 k2 X0 B1 HS HT GS GT hz0
  by_cases hv : ValidV xs ss off
  · rw [dcValidV_t hv]
    go_wp2_with fail
    refine (sVV_any GS1.out.ints GT1.out.ints ogg ly lt).mono ?_
    rintro e W2 ⟨rfl, B2⟩
    have X2 := hide (X1.out.trans (B2.mono X1.out.size))
    have HS2 := hide (HS1.out.below B2)
    have HT2 := hide (HT1.out.below B2)
    have GS2 := hide (GS1.out.keep B2)
    have GT2 := hide (GT1.out.keep B2)
    have e0 := Bel.box B2 d0
    have e1 := Bel.box B2 d1
    have e2 := Bel.box B2 d2
    have g0 := Bel.box B2 f0
    have g1 := Bel.box B2 f1
    have g2 := Bel.box B2 f2
    have hz2 : Hid (w.heap.size + 2 ≤ W2.heap.size) := by have := hz1.out; have := Below.size B2; show _ ≤ _; omega
    clear d0 d1 d2 f0 f1 f2 X1 B2 HS1 HT1 GS1 GT1 hz1
    by_cases hu : ValidV ys ts ogg
    · rw [dcValidV_t hu]
      have hin := hide (offs_in hv)
      have hin' := hide (offs_in hu)
      have hlen := offs_len hv
      have hlen' := offs_len hu
      obtain ⟨MC, hMC, hmk⟩ := make_marks W2
      have M2 : Hid (Mk (W2.alloc (.cells MC 4)) W2.heap.size []) := ⟨fun j hj => (new_cell W2 MC 4 _ rfl j).trans ((hMC j hj).trans (by simp)), fun j _ => frozen_nw W2 MC 4 _ j rfl⟩
      have x3 : Ext W2 (W2.alloc (.cells MC 4)) := (Ext.refl W2).alloc _ _
      have HP := hide (l2Offsets_any (HS2.out.ext x3) (HT2.out.ext x3) off hv)
      have HQ := hide (fun (W : World) (vS vT : Value) (a : Ints W vS ys) (b : Ints W vT ts) => l2Offsets_any a b ogg hu)
      have X3 := hide (X2.out.trans (x3.bl.mono X2.out.size))
      have GS3 := hide (GS2.out.keep x3.bl)
      have GT3 := hide (GT2.out.keep x3.bl)
      have p0 := x3.box e0
      have p1 := x3.box e1
      have p2 := x3.box e2
      have q0 := x3.box g0
      have q1 := x3.box g1
      have q2 := x3.box g2
      have hs2 : Hid ((W2.alloc (.cells MC 4)).heap.size = W2.heap.size + 1) := by show _ = _; simp
      have hWr : Hid ((dcOvV xs ss off ys ts ogg) = decide (∃ p ∈ offsL ys ts ogg, p ∈ offsL xs ss off)) := by
        show _ = _
        by_cases h : ∃ p ∈ offsL ys ts ogg, p ∈ offsL xs ss off
        · rw [decide_eq_true h, dcOvV_t (show OvV xs ss off ys ts ogg from ⟨hv, hu, h⟩)]
        · rw [decide_eq_false h, dcOvV_f (fun q : OvV xs ss off ys ts ogg => h q.2.2)]
      clear hv hu hMC x3 HS2 HT2 GS2 GT2 X2 e0 e1 e2 g0 g1 g2
      generalize offsL xs ss off = L at *
      generalize offsL ys ts ogg = M at *
      go_wp2_with fail
      generalize hW3 : W2.alloc (.cells MC 4) = W3 at *
      clear hW3
      refine HP.out.mono ?_
      clear HP
      rintro e W4 ⟨s4, c4, rfl, own4, B4⟩
      have S0 : Hid (NR w W4 W2.heap.size s4 L (.slice ua ys.length uap) (.slice va ts.length vap) ogg ys ts 0) := ⟨⟨fun j hj => by rw [Bel.box B4 (M2.out.at_ j hj)]; simp, fun j hj => (Below.frozen B4 (cell_lt (M2.out.at_ j hj))).trans (M2.out.fz j hj)⟩, by rw [← hs2.out]; exact own4, X3.out.trans (B4.mono X3.out.size), Bel.box B4 q0, Bel.box B4 q1, Bel.box B4 q2, (GS3.out.keep B4).mono (Nat.le_refl _) (by have := hz2.out; omega), (GT3.out.keep B4).mono (Nat.le_refl _) (by have := hz2.out; omega)⟩
      clear hmk p0 p1 p2 q0 q1 q2 B4 own4 M2 X3 hs2 GS3 GT3
      generalize W2.heap.size = Bm at *
      have hz := hz2.out
      go_wp2
      go_loopw [7] (fun i wr => ∃ k : Nat, i = .int .i64 k ∧ k ≤ L.length ∧ NR w wr Bm s4 L (.slice ua ys.length uap) (.slice va ts.length vap) ogg ys ts k) (fun i _ => L.length - (intOf i).toNat)
      case atStart => exact ⟨0, rfl, by omega, S0.out⟩
      case round =>
        obtain ⟨k, rfl, hk, hM⟩ := hrel
        have HM := hide hM
        clear S0
        by_cases hlt : k < L.length
        · rcases hM.own with h0 | ⟨g, rfl, hg, hrow, _⟩
          · rw [h0] at hlt; simp at hlt
          have hmem : L.getD k 0 ∈ L := by
            rw [List.getD_eq_getElem?_getD, List.getElem?_eq_getElem hlt]; exact List.getElem_mem _
          have hr4 := hin.out _ hmem
          have r0 := hrow k hlt
          rw [Nat.zero_add] at r0
          obtain ⟨m, hm⟩ : ∃ m : Nat, L.getD k 0 = (m : Int) := ⟨(L.getD k 0).toNat, by omega⟩
          rw [hm] at r0 hr4
          have hm4 : m < 4096 := by omega
          have r1 := hM.mrk.at_ m hm4
          have r2 := hM.mrk.fz m hm4
          have hk0 : (0 : Int) ≤ (k : Int) := Int.natCast_nonneg _
          have hk1 : (k : Int) < (L.length : Int) := by omega
          have hst := hide (hM.step hlt hm hm4 (by omega))
          clear hrow hmem hM hm
          go_wp2
          go_roundw
          · exact ⟨k + 1, by go_num, by omega, hst.out⟩
          · simp [intOf]; omega
        · have hkk : k = L.length := by omega
          subst hkk
          have t0 := hM.c0
          have t1 := hM.c1
          have t2 := hM.c2
          have HQ2 := hide (HQ.out wr _ _ hM.iS.ints hM.iT.ints)
          have hmkL : Hid (Mk wr Bm L) := by have := hM.mrk; rw [List.take_length] at this; exact this
          clear hM
          go_wp2_with fail
          refine HQ2.out.mono ?_
          clear HQ2
          rintro e W5 ⟨s5, c5, rfl, own5, B5⟩
          have M5 : Hid (Mk W5 Bm L) := ⟨fun j hj => Bel.box B5 (hmkL.out.at_ j hj), fun j hj => (Below.frozen B5 (cell_lt (hmkL.out.at_ j hj))).trans (hmkL.out.fz j hj)⟩
          have X5 : Hid (Below w.heap.size w W5) := HM.out.bl.trans (B5.mono HM.out.bl.size)
          have O5 := hide own5
          clear t0 t1 t2 B5 own5 hmkL HM
          go_wp2
          go_loopw [9] (fun i wr => ∃ k : Nat, i = .int .i64 k ∧ k ≤ M.length ∧ (∀ p ∈ M.take k, p ∉ L) ∧ wr = W5) (fun i _ => M.length - (intOf i).toNat)
          case atStart => exact ⟨0, rfl, by omega, by simp, rfl⟩
          case round =>
            obtain ⟨k, rfl, hk, hno, rfl⟩ := hrel
            have Hno := hide hno
            clear hno
            by_cases hlt : k < M.length
            · rcases O5.out with h0 | ⟨g, rfl, hg, hrow, _⟩
              · rw [h0] at hlt; simp at hlt
              have hmem : M.getD k 0 ∈ M := by
                rw [List.getD_eq_getElem?_getD, List.getElem?_eq_getElem hlt]; exact List.getElem_mem _
              have hr4 := hin'.out _ hmem
              have r0 := hrow k hlt
              rw [Nat.zero_add] at r0
              obtain ⟨m, hm⟩ : ∃ m : Nat, M.getD k 0 = (m : Int) := ⟨(M.getD k 0).toNat, by omega⟩
              rw [hm] at r0 hr4 hmem
              have hm4 : m < 4096 := by omega
              have r1 := M5.out.at_ m hm4
              have r2 := M5.out.fz m hm4
              have hk0 : (0 : Int) ≤ (k : Int) := Int.natCast_nonneg _
              have hk1 : (k : Int) < (M.length : Int) := by omega
              have e := hide (take_snoc M k hlt)
              rw [hm] at e
              clear hrow hm
              by_cases hin2 : (m : Int) ∈ L
              · have hyes : Hid ((dcOvV xs ss off ys ts ogg) = true) := hWr.out.trans (decide_eq_true ⟨(m : Int), hmem, hin2⟩)
                rw [decide_eq_true hin2] at r1
                clear hin2 hmem
                go_wp2
                go_ret
                exact ⟨ret_bool hyes.out.symm, X5.out⟩
              · have hst : Hid (∀ p ∈ M.take (k + 1), p ∉ L) := fun p hp => by
                  rw [e.out] at hp
                  rcases List.mem_append.1 hp with hp | hp
                  · exact Hno.out p hp
                  · have : p = (m : Int) := by simpa using hp
                    rw [this]; exact hin2
                rw [decide_eq_false hin2] at r1
                clear hin2 hmem
                go_wp2
                go_roundw
                · exact ⟨k + 1, by go_num, by omega, hst.out, by trivial⟩
                · simp [intOf]; omega
            · have hkk : k = M.length := by omega
              have hnn : Hid ((dcOvV xs ss off ys ts ogg) = false) := hWr.out.trans (decide_eq_false (fun ⟨p, h1, h2⟩ => Hno.out p (by rw [hkk, List.take_length]; exact h1) h2))
              subst hkk
              go_wp2
              go_ret
              exact ⟨ret_bool hnn.out.symm, X5.out⟩
    · have hno : Hid ((dcOvV xs ss off ys ts ogg) = false) := decide_eq_false (fun q => hu q.2.1)
      rw [dcValidV_f hu]
      clear hv hu
      go_wp2
      go_ret
      exact ⟨ret_bool hno.out.symm, X2.out⟩
  · have hno : Hid ((dcOvV xs ss off ys ts ogg) = false) := decide_eq_false (fun q => hv q.1)
    rw [dcValidV_f hv]
    clear hv
    go_wp2
    go_ret
    exact ⟨ret_bool hno.out.symm, X1.out⟩
end Go.Proofs.Ytiekkninnjffpaa
namespace Go.Proofs.Ytiekkninnjffpaa
open Go.ChangeShapes Go.RowKit
set_option linter.unusedSimpArgs false
set_option linter.unusedVariables false

/-- What code 0 of each of the three says. -/
theorem slL_ok {xs ss : List Int} {off axis start stop step : Int} {L S : List Int} {o : Int} (h : slL xs ss off axis start stop step = (0, L, S, o)) :
    ∃ a : Nat, axis = (a : Int) ∧ ValidV L S o ∧ ss.length = xs.length ∧ L.length = xs.length ∧ a < xs.length ∧ (-1000000 ≤ step ∧ step ≤ 1000000) ∧ (-4096 ≤ o ∧ o ≤ 4096) ∧ (∀ i, i < ss.length → -4096 ≤ ss.getD i 0 ∧ ss.getD i 0 ≤ 4096) ∧ (-4096 ≤ off ∧ off ≤ 4096) ∧
      ∀ k, k < (offsL L S o).length → (offsL L S o).getD k 0 = off + dotL ss ((idxL L k).set a ((idxL L k).getD a 0 * step)) + (o - off) := by
  unfold slL at h
  split at h
  · next hv =>
    split at h
    · next ha =>
      split at h
      · next hs =>
        simp only [Prod.mk.injEq] at h
        obtain ⟨_, rfl, rfl, rfl⟩ := h
        have hp := hplS hv (a := axis.toNat) (F := slF xs axis.toNat start step) (C := slC xs axis.toNat start stop step) (by omega) hs.1 hs.2.1 hs.2.2.1 rfl rfl
        have ho := hv.2.2.1
        have ho2 := hp.1.2.2.1
        exact ⟨axis.toNat, by omega, hp.1, hv.2.1, by simp, by omega, okS hs.2.2.2, by omega, hv.2.2.2.1, by omega, hp.2⟩
      · simp at h
    · simp at h
  · simp at h
theorem trL_ok {xs ss ps : List Int} {off : Int} {L S : List Int} {o : Int} (h : trL xs ss off ps = (0, L, S, o)) :
    ValidV L S o ∧ ss.length = xs.length ∧ L.length = xs.length ∧ ps.length = xs.length ∧ (∀ i, i < ss.length → -4096 ≤ ss.getD i 0 ∧ ss.getD i 0 ≤ 4096) ∧ (-4096 ≤ off ∧ off ≤ 4096) ∧
      ∀ k, k < (offsL L S o).length → (offsL L S o).getD k 0 = off + dotL ss ((List.range xs.length).map fun (i : Nat) => pick ps (idxL L k) (i : Int) 0) := by
  unfold trL at h
  split at h
  · next hv =>
    split at h
    · next ha =>
      simp only [Prod.mk.injEq] at h
      obtain ⟨_, rfl, rfl, rfl⟩ := h
      have hp := hplT hv ha
      have ho := hv.2.2.1
      exact ⟨hp.1, hv.2.1, by rw [trx_len, ha.1], ha.1, hv.2.2.2.1, by omega, hp.2⟩
    · simp at h
  · simp at h
theorem brL_ok {xs ss ys : List Int} {off : Int} {L S : List Int} {o : Int} (h : brL xs ss off ys = (0, L, S, o)) :
    L = ys ∧ ValidV L S o ∧ ss.length = xs.length ∧ xs.length ≤ L.length ∧ (∀ i, i < ss.length → -4096 ≤ ss.getD i 0 ∧ ss.getD i 0 ≤ 4096) ∧ (-4096 ≤ off ∧ off ≤ 4096) ∧
      ∀ k, k < (offsL L S o).length → (offsL L S o).getD k 0 = off + dotL ss (isB xs (idxL L k) (L.length - xs.length)) := by
  unfold brL at h
  split at h
  · next hv =>
    split at h
    · next ha =>
      simp only [Prod.mk.injEq] at h
      obtain ⟨_, rfl, rfl, rfl⟩ := h
      have hp := hplB hv ha.1 ha.2
      have ho := hv.2.2.1
      exact ⟨rfl, hp.1, hv.2.1, ha.2.1, hv.2.2.2.1, by omega, hp.2⟩
    · simp at h
  · simp at h

/-- A list that does not lie in block R. -/
def Off (W : World) (R : Nat) (v : Value) (L : List Int) : Prop := ∃ lo hi, IntsB W lo hi v L ∧ (R < lo ∨ hi ≤ R)
theorem Off.ints {W : World} {R : Nat} {v : Value} {L : List Int} (h : Off W R v L) : Ints W v L := by obtain ⟨_, _, h, _⟩ := h; exact h.ints
theorem Off.keep {W W' : World} {R : Nat} {v : Value} {L : List Int} (h : Off W R v L) (x : Bel W W') : Off W' R v L := by obtain ⟨lo, hi, h, q⟩ := h; exact ⟨lo, hi, h.keep x, q⟩
theorem Off.mut {W W' : World} {R : Nat} {v : Value} {L : List Int} (h : Off W R v L) (m : Mut R W W') : Off W' R v L := by obtain ⟨lo, hi, h, q⟩ := h; exact ⟨lo, hi, h.mut m q, q⟩
theorem Ints.ib {W : World} {v : Value} {L : List Int} (h : Ints W v L) : IntsB W 0 W.heap.size v L := by
  obtain ⟨sa, cap, rfl, h⟩ := h
  refine ⟨sa, cap, rfl, ?_⟩
  rcases h with h | ⟨b, o, h1, h2⟩
  · exact Or.inl h
  · by_cases e : L = []
    · exact Or.inl e
    · exact Or.inr ⟨b, o, h1, Nat.zero_le _, cell_lt (h2 0 (List.length_pos_iff.2 e)), h2⟩
/-- v and r in their boxes. -/
structure LV0 (w W : World) (BV BR : Nat) (vS vT : Value) (xs ss : List Int) (off c : Int) (rA rB : Value) (ro : Int) : Prop where
  v0 : W.cell? ⟨BV, 0, none⟩ = some vS
  v1 : W.cell? ⟨BV, 1, none⟩ = some vT
  v2 : W.cell? ⟨BV, 2, none⟩ = some (.int .i64 off)
  vf : ∀ o, W.frozen? ⟨BV, o, none⟩ = false
  q0 : W.cell? ⟨BR, 0, none⟩ = some (.int .i64 c)
  q1 : W.cell? ⟨BR, 1, none⟩ = some rA
  q2 : W.cell? ⟨BR, 2, none⟩ = some rB
  q3 : W.cell? ⟨BR, 3, none⟩ = some (.int .i64 ro)
  qf : ∀ o, W.frozen? ⟨BR, o, none⟩ = false
  iS : Off W BR vS xs
  iT : Off W BR vT ss
  bl : Bel w W
  hV : w.heap.size ≤ BV
  hR : w.heap.size ≤ BR
  ne : BV ≠ BR
structure LV (w W : World) (BV BR : Nat) (vS vT : Value) (xs ss : List Int) (off c : Int) (rA rB : Value) (L S : List Int) (ro : Int) : Prop where
  l : LV0 w W BV BR vS vT xs ss off c rA rB ro
  iA : Ints W rA L
  iB : Ints W rB S
theorem fz_keep {W W' : World} {B : Nat} (x : Bel W W') (hB : B < W.heap.size) (h : ∀ o, W.frozen? ⟨B, o, none⟩ = false) : ∀ o, W'.frozen? ⟨B, o, none⟩ = false := fun o => (Below.frozen x (p := ⟨B, o, none⟩) hB).trans (h o)
theorem LV0.keep {w W W' : World} {BV BR : Nat} {vS vT : Value} {xs ss : List Int} {off c : Int} {rA rB : Value} {ro : Int} (h : LV0 w W BV BR vS vT xs ss off c rA rB ro) (x : Bel W W') : LV0 w W' BV BR vS vT xs ss off c rA rB ro :=
  ⟨x.box h.v0, x.box h.v1, x.box h.v2, fz_keep x (cell_lt h.v0) h.vf, x.box h.q0, x.box h.q1, x.box h.q2, x.box h.q3, fz_keep x (cell_lt h.q0) h.qf, h.iS.keep x, h.iT.keep x, Bel.tr h.bl x, h.hV, h.hR, h.ne⟩
theorem LV.keep {w W W' : World} {BV BR : Nat} {vS vT : Value} {xs ss : List Int} {off c : Int} {rA rB : Value} {L S : List Int} {ro : Int} (h : LV w W BV BR vS vT xs ss off c rA rB L S ro) (x : Bel W W') : LV w W' BV BR vS vT xs ss off c rA rB L S ro := ⟨h.l.keep x, h.iA.below x, h.iB.below x⟩
/-- The first time: both boxes are new. -/
theorem LV.make {w W1 W2 : World} {vS vT : Value} {xs ss : List Int} {off : Int} {c : Int} {rA rB : Value} {L S : List Int} {ro : Int} (b1 : Bel w W1) (hS : Ints W1 vS xs) (hT : Ints W1 vT ss) (x2 : Bel (W1.alloc (.cells #[vS, vT, .int .i64 off] 27)) W2) (hA : Ints W2 rA L) (hB : Ints W2 rB S) :
    LV w (W2.alloc (.cells #[.int .i64 c, rA, rB, .int .i64 ro] 43)) W1.heap.size W2.heap.size vS vT xs ss off c rA rB L S ro := by
  have n1 := fun j => new_cell W1 #[vS, vT, .int .i64 off] 27 W1.heap.size rfl j
  have y1 : Ext W1 (W1.alloc (.cells #[vS, vT, .int .i64 off] 27)) := (Ext.refl _).alloc _ _
  have n2 := fun j => new_cell W2 #[.int .i64 c, rA, rB, .int .i64 ro] 43 W2.heap.size rfl j
  have y2 : Ext W2 (W2.alloc (.cells #[.int .i64 c, rA, rB, .int .i64 ro] 43)) := (Ext.refl _).alloc _ _
  have x := Bel.tr x2 y2.bl
  have xx := Bel.tr y1.bl x
  have h1 := Below.size b1
  have h2 := Below.size x2
  have h3 : (W1.alloc (.cells #[vS, vT, .int .i64 off] 27)).heap.size = W1.heap.size + 1 := by simp
  exact ⟨⟨x.box (n1 0), x.box (n1 1), x.box (n1 2), fz_keep x (by rw [h3]; omega) (fun o => y1.unfrozen (Nat.le_refl _) o), n2 0, n2 1, n2 2, n2 3, fun o => y2.unfrozen (Nat.le_refl _) o, (show Off _ _ _ _ from ⟨0, W1.heap.size, hS.ib.keep xx, Or.inr (by omega)⟩), (show Off _ _ _ _ from ⟨0, W1.heap.size, hT.ib.keep xx, Or.inr (by omega)⟩), Bel.tr b1 xx, h1, by omega, by omega⟩, hA.below y2.bl, hB.below y2.bl⟩
/-- Another view lies in v. -/
theorem LV0.setV {w W W' : World} {BV BR : Nat} {vS vT vS' vT' : Value} {xs ss xs' ss' : List Int} {off off' c : Int} {rA rB : Value} {ro : Int} (h : LV0 w W BV BR vS vT xs ss off c rA rB ro) (x : Bel W W') (hS : IntsB W' W.heap.size W'.heap.size vS' xs') (hT : IntsB W' W.heap.size W'.heap.size vT' ss') :
    LV0 w (((W'.setCell ⟨BV, 0, none⟩ vS').setCell ⟨BV, 1, none⟩ vT').setCell ⟨BV, 2, none⟩ (.int .i64 off')) BV BR vS' vT' xs' ss' off' c rA rB ro := by
  have k := h.keep x
  have m : Mut BV W' (((W'.setCell ⟨BV, 0, none⟩ vS').setCell ⟨BV, 1, none⟩ vT').setCell ⟨BV, 2, none⟩ (.int .i64 off')) := (((Mut.refl _ _).setCell _ _).setCell _ _).setCell _ _
  have hlt := cell_lt h.v0
  have hltR := cell_lt h.q0
  have ne : BR ≠ BV := fun e => h.ne e.symm
  exact ⟨set3_0 k.v0, set3_1 k.v1, set3_2 k.v2, fun o => (m.fz _).trans (k.vf o), m.box ne k.q0, m.box ne k.q1, m.box ne k.q2, m.box ne k.q3, fun o => (m.fz _).trans (k.qf o), ⟨_, _, hS.mut m (Or.inl hlt), Or.inl hltR⟩, ⟨_, _, hT.mut m (Or.inl hlt), Or.inl hltR⟩, ((k.bl.setCell k.hV _).setCell k.hV _).setCell k.hV _, k.hV, k.hR, k.ne⟩
theorem two_ib {lo : Nat} {W : World} {v u : Value} {xs ss : List Int} (h : Two lo W v u xs ss) : IntsB W lo W.heap.size v xs ∧ IntsB W lo W.heap.size u ss := by
  obtain ⟨g, k, h1, h2, _, h4, h5, h6, h7, _⟩ := h
  exact ⟨h6.mono h1 h4, h7.mono h2 h5⟩
/-- The answer of the program lies in r. -/
theorem LV0.setR {w W W' : World} {BV BR : Nat} {vS vT rA' rB' : Value} {xs ss : List Int} {off c c' : Int} {rA rB : Value} {L S : List Int} {ro ro' : Int} (h : LV0 w W BV BR vS vT xs ss off c rA rB ro) (x : Bel W W') (hT : Two W.heap.size W' rA' rB' L S) :
    LV w ((((W'.setCell ⟨BR, 0, none⟩ (.int .i64 c')).setCell ⟨BR, 1, none⟩ rA').setCell ⟨BR, 2, none⟩ rB').setCell ⟨BR, 3, none⟩ (.int .i64 ro')) BV BR vS vT xs ss off c' rA' rB' L S ro' := by
  have k := h.keep x
  have m := chain4m BR W' (.int .i64 c') rA' rB' (.int .i64 ro')
  have hlt := cell_lt h.q0
  obtain ⟨i1, i2⟩ := two_ib hT
  refine ⟨⟨m.box k.ne k.v0, m.box k.ne k.v1, m.box k.ne k.v2, fun o => (m.fz _).trans (k.vf o), set4_0 k.q0, set4_1 k.q1, set4_2 k.q2, set4_3 k.q3, fun o => (m.fz _).trans (k.qf o), k.iS.mut m, k.iT.mut m, (((k.bl.setCell k.hR _).setCell k.hR _).setCell k.hR _).setCell k.hR _, k.hV, k.hR, k.ne⟩, (i1.mut m (Or.inl hlt)).ints, (i2.mut m (Or.inl hlt)).ints⟩
end Go.Proofs.Ytiekkninnjffpaa
