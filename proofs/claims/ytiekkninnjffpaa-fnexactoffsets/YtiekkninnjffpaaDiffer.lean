import Derived.Test.YtiekkninnjffpaaIter3
namespace Go.Proofs.Ytiekkninnjffpaa
open Go.ChangeShapes Go.RowKit Go.Shelf
set_option linter.unusedSimpArgs false
set_option linter.unusedVariables false

attribute [local go_sem] Oper.semAt_some

theorem zero95 : Try.zeroCells95 = Array.replicate 4096 (.bool false) := by kernel_rfl
theorem zero95_get (j : Nat) (hj : j < 4096) : Try.zeroCells95[j]? = some (.bool false) := by
  rw [zero95, Array.getElem?_replicate, if_pos hj]
theorem KC.setCell {b : Nat} (A : World) {p : Addr} (hp : p.block < b) (v : Value) : KC b A (A.setCell p v) :=
  ⟨(KeepsWalks.setCell A _ v).size, fun k o hk h _ => (Below.heap_setCell _ _ _ k (fun e => by omega)).trans h⟩

/-- The marks of the places that have come. -/
structure Mk (W : World) (Bs : Nat) (L : List Int) : Prop where
  at_ : ∀ j : Nat, j < 4096 → W.cell? ⟨Bs, j, none⟩ = some (.bool (decide ((j : Int) ∈ L)))
  fz : ∀ j : Nat, j < 4096 → W.frozen? ⟨Bs, j, none⟩ = false
theorem Mk.kept {W W' : World} {Bs : Nat} {L : List Int} {row : Option Nat} (h : Mk W Bs L) (hg : W.grownBy W' row) (hr : ∀ r, row = some r → ∃ o : Obj, W.heap[r]? = some o ∧ o.isCells = false) : Mk W' Bs L :=
  ⟨fun j hj => cell_kept (h.at_ j hj) hg hr, fun j hj => (frozen_kept (h.at_ j hj) hg hr).trans (h.fz j hj)⟩
theorem Mk.other {W : World} {Bs B o : Nat} {L : List Int} (h : Mk W Bs L) (hB : B ≠ Bs) (v : Value) : Mk (W.setCell ⟨B, o, none⟩ v) Bs L :=
  ⟨fun j hj => (World.cell?_of_block (Below.heap_setCell _ _ _ Bs (fun e => hB (show B = Bs from e.symm)))).trans (h.at_ j hj), fun j hj => (World.frozen?_setCell _ _ _ _).trans (h.fz j hj)⟩
theorem Mk.mark {W : World} {Bs : Nat} {L : List Int} (h : Mk W Bs L) (k : Nat) (hk : k < 4096) : Mk (W.setCell ⟨Bs, k, none⟩ (.bool true)) Bs (L ++ [(k : Int)]) := by
  refine ⟨fun j hj => ?_, fun j hj => (World.frozen?_setCell _ _ _ _).trans (h.fz j hj)⟩
  by_cases e : j = k
  · subst e
    rw [World.cell?_setCell_same' _ _ _ (by rw [h.at_ j hj]; rfl)]
    simp
  · rw [show (W.setCell ⟨Bs, k, none⟩ (.bool true)).cell? ⟨Bs, j, none⟩ = W.cell? ⟨Bs, j, none⟩ from World.cell?_setCell_other _ _ _ _ (fun q => e (by cases q; rfl)), h.at_ j hj]
    have : ((j : Int) ∈ L ++ [(k : Int)]) ↔ ((j : Int) ∈ L) := by
      simp only [List.mem_append, List.mem_singleton]
      exact ⟨fun q => q.elim id (fun q => absurd (by omega) e), Or.inl⟩
    simp only [this]

/-- The same over a view that has just been boxed. -/
theorem placesK (n Bf : Nat) (xs ss : List Int) (off : Int) (h4 : xs.length ≤ 4) (hl : ss.length = xs.length) (hr : InR xs xs.length) (hp : prod xs ≤ 4096) (hss : InS ss ss.length) (ho : 0 ≤ off ∧ off ≤ 4096) (hPr : ∀ x ∈ offsL xs ss off, 0 ≤ x ∧ x < 4096) (W : World) (hB : Bf = W.heap.size) :
    SeqStopsK Fence.wide n Try.prog 82 #[.pointer (some ⟨Bf, 0, none⟩)] (fun x : Pl => #[Value.int .i64 x.1]) (KC (W.alloc (.cells (vw xs ss off) 64)).heap.size) (fun ys => plv ys = offsL xs ss off) (fun pre => plv pre <+: offsL xs ss off) (offsL xs ss off).length (W.alloc (.cells (vw xs ss off) 64)) := by
  subst hB
  exact places_stops n _ _ xs ss off h4 hl hr hp hss ho hPr _ (Nat.le_refl _) (fun j _ => new_cell W _ 64 W.heap.size rfl j) (by simp)

theorem cell_al {W : World} {a : Addr} {v : Value} (o : Obj) (h : W.cell? a = some v) : (W.alloc o).cell? a = some v := cell_kept h (World.grownBy_alloc W o none) (fun r e => by cases e)
theorem frozen_al {W : World} {a : Addr} {v : Value} (o : Obj) (h : W.cell? a = some v) (hf : W.frozen? a = false) : (W.alloc o).frozen? a = false := (frozen_kept h (World.grownBy_alloc W o none) (fun r e => by cases e)).trans hf
theorem frozen_nw (W : World) (cs : Array Value) (t b j : Nat) (hb : b = W.heap.size) : (W.alloc (.cells cs t)).frozen? ⟨b, j, none⟩ = false := by
  subst hb
  have h := World.alloc_heap_new W (.cells cs t)
  unfold World.frozen?
  simp only [h]
  simp

/-- The world where the loop begins. -/
structure DSt (w W0 : World) : Prop where
  size : W0.heap.size = w.heap.size + 4
  res : W0.cell? ⟨w.heap.size + 1, 0, none⟩ = some (.bool false)
  resF : W0.frozen? ⟨w.heap.size + 1, 0, none⟩ = false
  mrk : Mk W0 (w.heap.size + 1 + 1) []
  bl : Below w.heap.size w W0
theorem DSt.start (w : World) (V : Array Value) : DSt w ((((w.alloc (.cells V 64)).alloc (.cells #[.bool false] 4)).alloc (.cells Try.zeroCells95 95)).alloc (.cells V 64)) := by
  have hb1 : Below w.heap.size w (w.alloc (.cells V 64)) := (Below.refl _ w).alloc (Nat.le_refl _) _
  have hb2 : Below w.heap.size w ((w.alloc (.cells V 64)).alloc (.cells #[.bool false] 4)) := hb1.alloc (by simp) _
  have hb3 : Below w.heap.size w (((w.alloc (.cells V 64)).alloc (.cells #[.bool false] 4)).alloc (.cells Try.zeroCells95 95)) := hb2.alloc (by simp; omega) _
  have c1 : ((w.alloc (.cells V 64)).alloc (.cells #[.bool false] 4)).cell? ⟨w.heap.size + 1, 0, none⟩ = some (.bool false) := new_cell _ _ 4 _ (by simp) 0
  have f1 : ((w.alloc (.cells V 64)).alloc (.cells #[.bool false] 4)).frozen? ⟨w.heap.size + 1, 0, none⟩ = false := frozen_nw _ _ 4 _ 0 (by simp)
  have c2 : ∀ j, j < 4096 → (((w.alloc (.cells V 64)).alloc (.cells #[.bool false] 4)).alloc (.cells Try.zeroCells95 95)).cell? ⟨w.heap.size + 1 + 1, j, none⟩ = some (.bool false) := fun j hj => (new_cell _ _ 95 _ (by simp) j).trans (zero95_get j hj)
  have f2 : ∀ j, j < 4096 → (((w.alloc (.cells V 64)).alloc (.cells #[.bool false] 4)).alloc (.cells Try.zeroCells95 95)).frozen? ⟨w.heap.size + 1 + 1, j, none⟩ = false := fun j _ => frozen_nw _ _ 95 _ j (by simp)
  exact ⟨by simp, cell_al _ (cell_al _ c1), frozen_al _ (cell_al _ c1) (frozen_al _ c1 f1), ⟨fun j hj => by rw [cell_al _ (c2 j hj)]; simp, fun j hj => frozen_al _ (c2 j hj) (f2 j hj)⟩, hb3.alloc (by simp; omega) _⟩

set_option maxRecDepth 100000 in
set_option maxHeartbeats 1000000 in
theorem differ_in (n : Nat) (hn : 3 ≤ n) (xs ss : List Int) (off : Int) (w : World) (h4 : xs.length ≤ 4) (hl : ss.length = xs.length) (hr : InR xs xs.length) (hp : prod xs ≤ 4096) (hss : InS ss ss.length) (ho : 0 ≤ off ∧ off ≤ 4096) (hPr : ∀ x ∈ offsL xs ss off, 0 ≤ x ∧ x < 4096) :
    CallsIn Fence.wide n Try.prog 59 #[.agg (vw xs ss off)] w fun e w' => e = .returned (.bool (decide (offsL xs ss off).Nodup)) ∧ Below w.heap.size w w' := by
  have hpl := hide (fun n W => placesF_in n xs ss off W)
  have hst := hide (placesK (n - 1) (w.heap.size + 1 + 1 + 1) xs ss off h4 hl hr hp hss ho hPr (((w.alloc (.cells (vw xs ss off) 64)).alloc (.cells #[.bool false] 4)).alloc (.cells Try.zeroCells95 95)) (by simp))
  have hdd : ∀ k : Nat, (Fence.wide.depth.isSome = true → 1 ≤ k) := fun k h => by cases h
  have X0 := hide (DSt.start w (vw xs ss off))
  clear hPr hss hp hr ho hl h4
  generalize offsL xs ss off = OL at *
  unfold vw at hpl X0 hst ⊢
  generalize xs.getD 0 0 = a0 at *
  generalize xs.getD 1 0 = a1 at *
  generalize xs.getD 2 0 = a2 at *
  generalize xs.getD 3 0 = a3 at *
  generalize ss.getD 0 0 = s0 at *
  generalize ss.getD 1 0 = s1 at *
  generalize ss.getD 2 0 = s2 at *
  generalize ss.getD 3 0 = s3 at *
  refine callsIn_of_wp_marks Try.func59 rfl trivial ?_ rfl
  simp only [Try.ntmps59, List.size_toArray, List.length_cons, List.length_nil, Nat.reduceAdd, Nat.reduceSub, Array.replicate_succ, Array.replicate_zero, List.push_toArray, List.append_toArray, List.nil_append, List.cons_append]
  gi_wp2
  refine ⟨trivial, hdd _, ?_⟩
  refine (hpl.out _ _).mono ?_
  rintro e w' ⟨rfl, rfl⟩
  clear hpl
  have h1 : 1 ≤ n := by omega
  gi_wp2
  generalize hW0 : World.alloc (((w.alloc _).alloc _).alloc _) _ = W0 at X0 hst ⊢
  clear hW0
  have hsz := X0.out.size
  refine wpIn_rangeFunc_ownF rfl h1 (gf := 82) (lb := #[.pointer (some ⟨w.heap.size + 1 + 1 + 1, 0, none⟩)]) rfl trivial (enters_of Try.func82 (by kernel_rfl) rfl)
    hst.out (fun h k => KC.trans h k) (fun W l o o' h1 h2 h3 h4 => kc_put W l o o' h1 h2 h3 h4) (Below.refl _ _) (fun _ => rfl)
    (fun pre W => ((plv pre).Nodup ∧ W.cell? ⟨w.heap.size + 1, 0, none⟩ = some (.bool false) ∧ W.frozen? ⟨w.heap.size + 1, 0, none⟩ = false ∧ Mk W (w.heap.size + 1 + 1) (plv pre)) ∧ Below w.heap.size w W)
    (fun c pre W => (c = .ret ∧ ¬ (plv pre).Nodup ∧ W.cell? ⟨w.heap.size + 1, 0, none⟩ = some (.bool false)) ∧ Below w.heap.size w W)
    (OwnFrom.and (Own.from (fun s A B row hs hg hr => ⟨hs.1, cell_kept hs.2.1 hg hr, (frozen_kept hs.2.1 hg hr).trans hs.2.2.1, hs.2.2.2.kept hg hr⟩) _) (ownFrom_below (Nat.le_refl _) (by omega)))
    (fun c => OwnFrom.and (Own.from (fun s A B row hs hg hr => ⟨hs.1, hs.2.1, cell_kept hs.2.2 hg hr⟩) _) (ownFrom_below (Nat.le_refl _) (by omega)))
    ⟨⟨by simp [plv], X0.out.res, X0.out.resF, X0.out.mrk⟩, X0.out.bl⟩
    (fun x => { tmps := #[.agg #[.int .i64 xs.length, .int .i64 a0, .int .i64 a1, .int .i64 a2, .int .i64 a3, .int .i64 s0, .int .i64 s1, .int .i64 s2, .int .i64 s3, .int .i64 off], .pointer (some ⟨w.heap.size, 0, none⟩), .pointer (some ⟨w.heap.size + 1, 0, none⟩), .pointer (some ⟨w.heap.size + 1 + 1, 0, none⟩), .int .i64 x.1, .agg #[.int .i64 xs.length, .int .i64 a0, .int .i64 a1, .int .i64 a2, .int .i64 a3, .int .i64 s0, .int .i64 s1, .int .i64 s2, .int .i64 s3, .int .i64 off], .func (.func 82) #[] #[.pointer (some ⟨w.heap.size + 1 + 1 + 1, 0, none⟩)], .int .i64 x.1, undef, undef, undef, undef, undef], defers := [] }) ?assign ?body ?done ?stop
  case assign =>
    intro l x W K hK
    gi_wp2
    exact hK
  case body =>
    rintro l pre ⟨x, hx⟩ W ⟨⟨hnd, hcr, hfr, hmk⟩, hB⟩ _
    obtain ⟨k, rfl⟩ : ∃ k : Nat, x = k := ⟨x.toNat, by omega⟩
    have hk : k < 4096 := by omega
    have q0 := hmk.at_ k hk
    have q1 := hmk.fz k hk
    by_cases hin : (k : Int) ∈ plv pre
    · rw [decide_eq_true hin] at q0
      gi_wp2
      exact ⟨KeepsOthers.setCell _ _ _, ⟨rfl, fun h => by
        rw [plv_append] at h
        exact (List.nodup_append.1 h).2.2 _ hin _ (List.mem_singleton.2 rfl) rfl, World.cell?_setCell_same' _ _ _ (by rw [hcr]; rfl)⟩, hB.setCell (p := ⟨w.heap.size + 1, 0, none⟩) (by simp) _⟩
    · rw [decide_eq_false hin] at q0
      gi_wp2
      refine ⟨KeepsOthers.setCell _ _ _, KC.setCell W (p := ⟨w.heap.size + 1 + 1, k, none⟩) (by show w.heap.size + 1 + 1 < _; omega) _, ⟨?_, ?_, ?_, ?_⟩, hB.setCell (p := ⟨w.heap.size + 1 + 1, k, none⟩) (by show _ ≤ w.heap.size + 1 + 1; omega) _⟩
      · rw [plv_append]
        refine List.nodup_append.2 ⟨hnd, by simp [plv], fun a ha b hb e => ?_⟩
        have : b = (k : Int) := by simpa [plv] using hb
        subst this
        subst e
        exact hin ha
      · exact (World.cell?_of_block (Below.heap_setCell _ _ _ _ (by show w.heap.size + 1 ≠ w.heap.size + 1 + 1; omega))).trans hcr
      · exact (World.frozen?_setCell _ _ _ _).trans hfr
      · rw [plv_append]; exact hmk.mark k hk
  case done =>
    rintro D ys W hD hS ⟨⟨hnd, hcr, hfr, hmk⟩, hB⟩ hK
    gi_wp2
    have hK' := (KeepsOthers.setCell W ⟨w.heap.size + 1, 0, none⟩ (.bool true)).same D _ hK rfl
    refine ⟨by simp, .inl ⟨_, _, rfl, run_takeDeferred hK', ?_⟩⟩
    have hc5 := cell_kept (World.cell?_setCell_same' W ⟨w.heap.size + 1, 0, none⟩ (.bool true) (by rw [hcr]; rfl)) (grownBy_putObj' _ D (.deferred none)) (fun r e => by cases e; exact ⟨_, hK', rfl⟩)
    refine ⟨.bool true, ?_, by rw [decide_eq_true (by rw [← hS]; exact hnd)], (hB.setCell (p := ⟨w.heap.size + 1, 0, none⟩) (by simp) _).trans (belowK_b (w := w) (Nat.le_refl _) _ D _ _ (by omega) hK' rfl rfl)⟩
    simp [results, Try.f59, go_sem, hc5]
  case stop =>
    rintro D c pre W hD hpre ⟨⟨rfl, hnd, hcr⟩, hB⟩ hK
    gi_wp2
    refine ⟨by simp, .inl ⟨_, _, rfl, run_takeDeferred hK, ?_⟩⟩
    have hc5 := cell_kept hcr (grownBy_putObj' _ D (.deferred none)) (fun r e => by cases e; exact ⟨_, hK, rfl⟩)
    refine ⟨.bool false, ?_, by rw [decide_eq_false (fun h => hnd (List.Sublist.nodup hpre.sublist h))], hB.trans (belowK_b (w := w) (Nat.le_refl _) W D _ _ (by omega) hK rfl rfl)⟩
    simp [results, Try.f59, go_sem, hc5]
end Go.Proofs.Ytiekkninnjffpaa
