import Derived.Test.YtiekkninnjffpaaM8
namespace Go.Proofs.Ytiekkninnjffpaa
open Go.ChangeShapes Go.RowKit Go.Shelf
set_option linter.unusedSimpArgs false
set_option linter.unusedVariables false

attribute [local go_sem] Oper.semAt_some

/-- n places in a row, from off on. -/
def ups (off : Int) (n : Nat) : List Int := (List.range n).map (fun i : Nat => off + (i : Int))
theorem ups_len (off : Int) (n : Nat) : (ups off n).length = n := by simp [ups]
theorem ups_succ (off : Int) (n : Nat) : ups off (n + 1) = ups off n ++ [off + (n : Int)] := by simp [ups, List.range_succ]
theorem ups_prefix {off : Int} {p L : List Int} (h : p <+: L) (e : L = ups off L.length) : p = ups off p.length := by
  have hp : p = L.take p.length := List.prefix_iff_eq_take.1 h
  have hl := h.length_le
  rw [e] at hp
  unfold ups at hp ⊢
  rw [← List.map_take, List.take_range, Nat.min_eq_left hl] at hp
  exact hp

/-- The world where the loop begins. -/
structure GSt (w W0 : World) (off : Int) : Prop where
  size : W0.heap.size = w.heap.size + 4
  res : W0.cell? ⟨w.heap.size + 1, 0, none⟩ = some (.bool false)
  resF : W0.frozen? ⟨w.heap.size + 1, 0, none⟩ = false
  wan : W0.cell? ⟨w.heap.size + 1 + 1, 0, none⟩ = some (.int .i64 off)
  wanF : W0.frozen? ⟨w.heap.size + 1 + 1, 0, none⟩ = false
  bl : Below w.heap.size w W0
theorem GSt.start (w : World) (V : Array Value) (off : Int) : GSt w ((((w.alloc (.cells V 64)).alloc (.cells #[.bool false] 4)).alloc (.cells #[.int .i64 off] 2)).alloc (.cells V 64)) off := by
  have hb1 : Below w.heap.size w (w.alloc (.cells V 64)) := (Below.refl _ w).alloc (Nat.le_refl _) _
  have hb2 : Below w.heap.size w ((w.alloc (.cells V 64)).alloc (.cells #[.bool false] 4)) := hb1.alloc (by simp) _
  have hb3 := hb2.alloc (by simp; omega) (.cells #[.int .i64 off] 2)
  have c1 : ((w.alloc (.cells V 64)).alloc (.cells #[.bool false] 4)).cell? ⟨w.heap.size + 1, 0, none⟩ = some (.bool false) := new_cell _ _ 4 _ (by simp) 0
  have f1 : ((w.alloc (.cells V 64)).alloc (.cells #[.bool false] 4)).frozen? ⟨w.heap.size + 1, 0, none⟩ = false := frozen_nw _ _ 4 _ 0 (by simp)
  have c2 : (((w.alloc (.cells V 64)).alloc (.cells #[.bool false] 4)).alloc (.cells #[.int .i64 off] 2)).cell? ⟨w.heap.size + 1 + 1, 0, none⟩ = some (.int .i64 off) := new_cell _ _ 2 _ (by simp) 0
  have f2 : (((w.alloc (.cells V 64)).alloc (.cells #[.bool false] 4)).alloc (.cells #[.int .i64 off] 2)).frozen? ⟨w.heap.size + 1 + 1, 0, none⟩ = false := frozen_nw _ _ 2 _ 0 (by simp)
  exact ⟨by simp, cell_al _ (cell_al _ c1), frozen_al _ (cell_al _ c1) (frozen_al _ c1 f1), cell_al _ c2, frozen_al _ c2 f2, hb3.alloc (by simp; omega) _⟩

set_option maxRecDepth 100000 in
set_option maxHeartbeats 1000000 in
theorem goesUp_in (n : Nat) (hn : 3 ≤ n) (xs ss : List Int) (off : Int) (w : World) (h4 : xs.length ≤ 4) (hl : ss.length = xs.length) (hr : InR xs xs.length) (hp : prod xs ≤ 4096) (hss : InS ss ss.length) (ho : 0 ≤ off ∧ off ≤ 4096) (hPr : ∀ x ∈ offsL xs ss off, 0 ≤ x ∧ x < 4096) (hN : (offsL xs ss off).length ≤ 4096) :
    CallsIn Fence.wide n Try.prog 68 #[.agg (vw xs ss off)] w fun e w' => e = .returned (.bool (decide (offsL xs ss off = ups off (offsL xs ss off).length))) ∧ Below w.heap.size w w' := by
  have hpl := hide (fun n W => placesF_in n xs ss off W)
  have hst := hide (placesK (n - 1) (w.heap.size + 1 + 1 + 1) xs ss off h4 hl hr hp hss ho hPr (((w.alloc (.cells (vw xs ss off) 64)).alloc (.cells #[.bool false] 4)).alloc (.cells #[.int .i64 off] 2)) (by simp))
  have hdd : ∀ k : Nat, (Fence.wide.depth.isSome = true → 1 ≤ k) := fun k h => by cases h
  have X0 := hide (GSt.start w (vw xs ss off) off)
  clear hPr hss hp hr hl h4
  generalize offsL xs ss off = OL at *
  unfold vw at hpl X0 hst ⊢
  generalize xs.getD 0 0 = a0 at *
  generalize xs.getD 1 0 = a1 at *
  generalize xs.getD 2 0 = a2 at *
  generalize xs.getD 3 0 = a3 at *
  generalize ss.getD 0 0 = s0 at *
  generalize ss.getD 1 0 = s1 at *
  generalize ss.getD 2 0 = s2 at *
  generalize ss.getD 3 0 = s3 at *
  refine callsIn_of_wp_marks Try.func68 rfl trivial ?_ rfl
  simp only [Try.ntmps68, List.size_toArray, List.length_cons, List.length_nil, Nat.reduceAdd, Nat.reduceSub, Array.replicate_succ, Array.replicate_zero, List.push_toArray, List.append_toArray, List.nil_append, List.cons_append]
  gi_wp2
  refine ⟨trivial, hdd _, ?_⟩
  refine (hpl.out _ _).mono ?_
  rintro e w' ⟨rfl, rfl⟩
  clear hpl
  have h1 : 1 ≤ n := by omega
  gi_wp2
  generalize hW0 : World.alloc (((w.alloc _).alloc _).alloc _) _ = W0 at X0 hst ⊢
  clear hW0
  have hsz := X0.out.size
  refine wpIn_rangeFunc_ownF rfl h1 (gf := 82) (lb := #[.pointer (some ⟨w.heap.size + 1 + 1 + 1, 0, none⟩)]) rfl trivial (enters_of Try.func82 (by kernel_rfl) rfl)
    hst.out (fun h k => KC.trans h k) (fun W l o o' h1 h2 h3 h4 => kc_put W l o o' h1 h2 h3 h4) (Below.refl _ _) (fun _ => rfl)
    (fun pre W => (plv pre = ups off pre.length ∧ W.cell? ⟨w.heap.size + 1, 0, none⟩ = some (.bool false) ∧ W.frozen? ⟨w.heap.size + 1, 0, none⟩ = false ∧ W.cell? ⟨w.heap.size + 1 + 1, 0, none⟩ = some (.int .i64 (off + (pre.length : Int))) ∧ W.frozen? ⟨w.heap.size + 1 + 1, 0, none⟩ = false) ∧ Below w.heap.size w W)
    (fun c pre W => (c = .ret ∧ plv pre ≠ ups off pre.length ∧ W.cell? ⟨w.heap.size + 1, 0, none⟩ = some (.bool false)) ∧ Below w.heap.size w W)
    (OwnFrom.and (Own.from (fun s A B row hs hg hr => ⟨hs.1, cell_kept hs.2.1 hg hr, (frozen_kept hs.2.1 hg hr).trans hs.2.2.1, cell_kept hs.2.2.2.1 hg hr, (frozen_kept hs.2.2.2.1 hg hr).trans hs.2.2.2.2⟩) _) (ownFrom_below (Nat.le_refl _) (by omega)))
    (fun c => OwnFrom.and (Own.from (fun s A B row hs hg hr => ⟨hs.1, hs.2.1, cell_kept hs.2.2 hg hr⟩) _) (ownFrom_below (Nat.le_refl _) (by omega)))
    ⟨⟨by simp [plv, ups], X0.out.res, X0.out.resF, by simpa using X0.out.wan, X0.out.wanF⟩, X0.out.bl⟩
    (fun x => { tmps := #[.agg #[.int .i64 xs.length, .int .i64 a0, .int .i64 a1, .int .i64 a2, .int .i64 a3, .int .i64 s0, .int .i64 s1, .int .i64 s2, .int .i64 s3, .int .i64 off], .pointer (some ⟨w.heap.size, 0, none⟩), .pointer (some ⟨w.heap.size + 1, 0, none⟩), .pointer (some ⟨w.heap.size + 1 + 1, 0, none⟩), .int .i64 x.1, .pointer (some ⟨w.heap.size, 9, none⟩), .int .i64 off, .agg #[.int .i64 xs.length, .int .i64 a0, .int .i64 a1, .int .i64 a2, .int .i64 a3, .int .i64 s0, .int .i64 s1, .int .i64 s2, .int .i64 s3, .int .i64 off], .func (.func 82) #[] #[.pointer (some ⟨w.heap.size + 1 + 1 + 1, 0, none⟩)], .int .i64 x.1, undef, undef, undef, undef, undef], defers := [] }) ?assign ?body ?done ?stop
  case assign =>
    intro l x W K hK
    gi_wp2
    exact hK
  case body =>
    rintro l pre ⟨x, hx⟩ W ⟨⟨hnd, hcr, hfr, hcw, hfw⟩, hB⟩ hlt
    have hpl : pre.length < 4096 := by omega
    by_cases hin : x = off + (pre.length : Int)
    · subst hin
      gi_wp2
      refine ⟨KeepsOthers.setCell _ _ _, KC.setCell W (p := ⟨w.heap.size + 1 + 1, 0, none⟩) (by show w.heap.size + 1 + 1 < _; omega) _, ⟨?_, ?_, ?_, ?_, ?_⟩, hB.setCell (p := ⟨w.heap.size + 1 + 1, 0, none⟩) (by show _ ≤ w.heap.size + 1 + 1; omega) _⟩
      · rw [plv_append, List.length_append, List.length_singleton, ups_succ, ← hnd]; rfl
      · exact (World.cell?_of_block (Below.heap_setCell _ _ _ _ (by show w.heap.size + 1 ≠ w.heap.size + 1 + 1; omega))).trans hcr
      · exact (World.frozen?_setCell _ _ _ _).trans hfr
      · rw [World.cell?_setCell_same' _ _ _ (by rw [hcw]; rfl), List.length_append, List.length_singleton, Int.natCast_add, ← Int.add_assoc]; rfl
      · exact (World.frozen?_setCell _ _ _ _).trans hfw
    · have hne : (x == off + (pre.length : Int)) = false := by simp [hin]
      gi_wp2
      exact ⟨KeepsOthers.setCell _ _ _, ⟨rfl, fun h => by
        rw [plv_append, List.length_append, List.length_singleton, ups_succ, ← hnd] at h
        have := List.append_cancel_left h
        simp [plv] at this
        exact hin this, World.cell?_setCell_same' _ _ _ (by rw [hcr]; rfl)⟩, hB.setCell (p := ⟨w.heap.size + 1, 0, none⟩) (by simp) _⟩
  case done =>
    rintro D ys W hD hS ⟨⟨hnd, hcr, hfr, hcw, hfw⟩, hB⟩ hK
    gi_wp2
    have hK' := (KeepsOthers.setCell W ⟨w.heap.size + 1, 0, none⟩ (.bool true)).same D _ hK rfl
    refine ⟨by simp, .inl ⟨_, _, rfl, run_takeDeferred hK', ?_⟩⟩
    have hc5 := cell_kept (World.cell?_setCell_same' W ⟨w.heap.size + 1, 0, none⟩ (.bool true) (by rw [hcr]; rfl)) (grownBy_putObj' _ D (.deferred none)) (fun r e => by cases e; exact ⟨_, hK', rfl⟩)
    refine ⟨.bool true, ?_, by rw [decide_eq_true (by rw [← hS, plv_len]; exact hnd)], (hB.setCell (p := ⟨w.heap.size + 1, 0, none⟩) (by simp) _).trans (belowK_b (w := w) (Nat.le_refl _) _ D _ _ (by omega) hK' rfl rfl)⟩
    simp [results, Try.f68, go_sem, hc5]
  case stop =>
    rintro D c pre W hD hpre ⟨⟨rfl, hnd, hcr⟩, hB⟩ hK
    gi_wp2
    refine ⟨by simp, .inl ⟨_, _, rfl, run_takeDeferred hK, ?_⟩⟩
    have hc5 := cell_kept hcr (grownBy_putObj' _ D (.deferred none)) (fun r e => by cases e; exact ⟨_, hK, rfl⟩)
    refine ⟨.bool false, ?_, by rw [decide_eq_false (fun h => hnd (by have := ups_prefix hpre h; rw [plv_len] at this; exact this))], hB.trans (belowK_b (w := w) (Nat.le_refl _) W D _ _ (by omega) hK rfl rfl)⟩
    simp [results, Try.f68, go_sem, hc5]
end Go.Proofs.Ytiekkninnjffpaa
namespace Go.Proofs.Ytiekkninnjffpaa
open Go.ChangeShapes Go.RowKit Go.Shelf
set_option linter.unusedSimpArgs false
set_option linter.unusedVariables false

theorem prod_drop (xs : List Int) (k : Nat) (hk : k < xs.length) : prod (xs.drop k) = xs.getD k 0 * prod (xs.drop (k + 1)) := by
  rw [List.drop_eq_getElem_cons hk, prod_cons, List.getD_eq_getElem?_getD, List.getElem?_eq_getElem hk]; rfl
theorem getD_drop (xs : List Int) (k j : Nat) : (xs.drop k).getD j 0 = xs.getD (k + j) 0 := by
  simp [List.getD_eq_getElem?_getD, List.getElem?_drop]
theorem drop_inR {xs : List Int} (hr : InR xs xs.length) (k : Nat) : InR (xs.drop k) (xs.drop k).length := fun j hj => by
  rw [getD_drop]
  rw [List.length_drop] at hj
  exact hr _ (by omega)
theorem drop_bd {xs : List Int} (h4 : xs.length ≤ 4) (hr : InR xs xs.length) (k m : Nat) (hm : m ≤ (xs.drop k).length) : 0 ≤ prod ((xs.drop k).take m) ∧ prod ((xs.drop k).take m) ≤ 281474976710656 := by
  have hl : (xs.drop k).length ≤ 4 := by rw [List.length_drop]; omega
  have h := prod_bd (xs.drop k) m (by omega) hm (fun j hj => drop_inR hr k j (by omega))
  have := bd_le m
  omega
theorem drop_bd' {xs : List Int} (h4 : xs.length ≤ 4) (hr : InR xs xs.length) (k : Nat) : 0 ≤ prod (xs.drop k) ∧ prod (xs.drop k) ≤ 281474976710656 := by
  have h := drop_bd h4 hr k (xs.drop k).length (Nat.le_refl _)
  rw [List.take_length] at h
  exact h

/-- The strides of a row-major view. -/
def rmS (xs : List Int) : List Int := (List.range xs.length).map fun i => if prod xs = 0 then 0 else prod (xs.drop (i + 1))
theorem rmS_len (xs : List Int) : (rmS xs).length = xs.length := by simp [rmS]
theorem rmS_getD (xs : List Int) (j : Nat) : (rmS xs).getD j 0 = if j < xs.length then (if prod xs = 0 then 0 else prod (xs.drop (j + 1))) else 0 := by
  unfold rmS
  by_cases h : j < xs.length
  · rw [if_pos h]; simp [List.getD_eq_getElem?_getD, h]
  · rw [if_neg h]; simp [List.getD_eq_getElem?_getD, h]

theorem places_head : ∀ (xs ss : List Int) (at_ : Int), xs.length = ss.length → (∀ n ∈ xs, 1 ≤ n) → (places xs ss at_).head? = some at_
  | [], ss, at_, hl, h => by simp [places]
  | n :: ns, [], at_, hl, h => by simp at hl
  | n :: ns, s :: ss, at_, hl, h => by
    have hn : 1 ≤ n := h n (by simp)
    obtain ⟨m, hm⟩ : ∃ m, n.toNat = m + 1 := ⟨n.toNat - 1, by omega⟩
    have ih := places_head ns ss at_ (by simpa using hl) (fun m hm => h m (by simp [hm]))
    simp only [places]
    rw [hm, List.range_succ_eq_map, List.flatMap_cons]
    have e0 : at_ + ((0 : Nat) : Int) * s = at_ := by simp
    rw [e0, List.head?_append, ih]
    rfl
theorem offs_head {xs ss : List Int} {off : Int} (hv : ValidV xs ss off) : offsL xs ss off = [] ∨ (offsL xs ss off).head? = some off := by
  unfold offsL
  by_cases hz : prod xs = 0
  · rw [if_pos hz]; exact Or.inl rfl
  · rw [if_neg hz]
    exact Or.inr (places_head xs ss off hv.2.1.symm (prod_pos_of hv.1.2.1 hz))

/-- Each place is the one behind the last. -/
def GoUp (L : List Int) (k : Nat) : Prop := ∀ i, i + 1 < k → L.getD (i + 1) 0 = L.getD i 0 + 1
theorem GoUp.step {L : List Int} {k : Nat} (h : GoUp L (k + 1)) (e : L.getD (k + 1) 0 = L.getD k 0 + 1) : GoUp L (k + 1 + 1) := fun i hi => by
  by_cases q : i = k
  · subst q; exact e
  · exact h i (by omega)
theorem ups_getD (off : Int) (n j : Nat) (h : j < n) : (ups off n).getD j 0 = off + (j : Int) := by
  simp [ups, List.getD_eq_getElem?_getD, h]
theorem goUp_iff {L : List Int} {off : Int} (h : L = [] ∨ L.head? = some off) : L = ups off L.length ↔ GoUp L L.length := by
  constructor
  · intro e i hi
    rw [e, ups_getD _ _ _ hi, ups_getD _ _ _ (by omega)]
    omega
  · intro g
    rcases h with h | h
    · subst h; rfl
    · have key : ∀ j, j < L.length → L.getD j 0 = off + (j : Int) := by
        intro j
        induction j with
        | zero =>
          intro hj
          rw [List.getD_eq_getElem?_getD, ← List.head?_eq_getElem?, h]
          simp
        | succ j ih =>
          intro hj
          rw [g j hj, ih (by omega)]
          omega
      refine List.ext_getElem (by rw [ups_len]) fun j h1 h2 => ?_
      have a := key j h1
      have b := ups_getD off L.length j h1
      rw [List.getD_eq_getElem?_getD, List.getElem?_eq_getElem h1] at a
      rw [List.getD_eq_getElem?_getD, List.getElem?_eq_getElem h2] at b
      exact a.trans b.symm

def rsL (xs ss : List Int) (off : Int) (ys : List Int) : Int × List Int × List Int × Int :=
  if ValidV xs ss off then (if Good ys ∧ prod ys = prod xs then (if offsL xs ss off = ups off (offsL xs ss off).length then (0, ys, rmS ys, off) else (13, [], [], 0)) else (6, [], [], 0)) else (12, [], [], 0)
theorem goesUp_any {xs ss : List Int} {off : Int} (hv : ValidV xs ss off) (w : World) :
    Calls Try.prog 68 #[.agg (vw xs ss off)] w fun e w' => e = .returned (.bool (decide (offsL xs ss off = ups off (offsL xs ss off).length))) ∧ Bel w w' :=
  callsIn_wide.1 (goesUp_in 3 (Nat.le_refl _) xs ss off w hv.1.1 hv.2.1 hv.1.2.1 hv.1.2.2 hv.2.2.2.1 hv.2.2.1 (offs_in hv) (offs_len hv))
theorem rsL_len {xs ss : List Int} {off : Int} {ys : List Int} {c : Int} {L S : List Int} {o : Int} (h : rsL xs ss off ys = (c, L, S, o)) : L.length ≤ 4 ∧ S.length ≤ 4 := by
  unfold rsL at h
  split at h
  · next v =>
    split at h
    · next g =>
      split at h
      · simp only [Prod.mk.injEq] at h
        obtain ⟨_, rfl, rfl, _⟩ := h
        rw [rmS_len]
        exact ⟨g.1.1, g.1.1⟩
      · simp only [Prod.mk.injEq] at h
        obtain ⟨_, rfl, rfl, _⟩ := h
        simp
    · simp only [Prod.mk.injEq] at h
      obtain ⟨_, rfl, rfl, _⟩ := h
      simp
  · simp only [Prod.mk.injEq] at h
    obtain ⟨_, rfl, rfl, _⟩ := h
    simp
end Go.Proofs.Ytiekkninnjffpaa
