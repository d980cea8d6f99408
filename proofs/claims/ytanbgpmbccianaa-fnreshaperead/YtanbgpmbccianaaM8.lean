import Derived.Test.YtanbgpmbccianaaM6
import Derived.Test.YtanbgpmbccianaaM4
import Derived.Deep.OwnRows
namespace Go.Proofs.Ytanbgpmbccianaa
open Go.ChangeShapes Go.RowKit Go.Shelf
set_option linter.unusedSimpArgs false
set_option linter.unusedVariables false

attribute [local go_sem] Oper.semAt_some

set_option maxRecDepth 100000 in
set_option maxHeartbeats 2000000 in
/-- The closure that 'places' answers. -/
theorem places1_in (n l Bf b : Nat) (xs ss : List Int) (off : Int) (h4 : xs.length ≤ 4) (hl : ss.length = xs.length) (hr : InR xs xs.length) (hp : prod xs ≤ 4096) (hss : InS ss ss.length) (ho : 0 ≤ off ∧ off ≤ 4096) (Pr : Int → Prop) (hPr : ∀ x ∈ offsL xs ss off, Pr x) (J Jx : List Int → World → Prop) (hJ : AbidesFrom b J)
    (hY : ∀ m pre x W, Pr x → J pre W → pre.length < (offsL xs ss off).length → YieldAt Fence.wide m Try.prog l #[.int .i64 x] W fun e W' =>
      (e = .returned (.bool true) ∧ J (pre ++ [x]) W' ∧ KC b W W') ∨ (e = .returned (.bool false) ∧ Jx (pre ++ [x]) W'))
    (W : World) (hb : b ≤ W.heap.size) (hc : ∀ j, j < 10 → W.cell? ⟨Bf, j, none⟩ = (vw xs ss off)[j]?) (h0 : J [] W) :
    CallsIn Fence.wide n Try.prog 37 #[.func (.yield l) #[] #[], .pointer (some ⟨Bf, 0, none⟩)] W fun e W' => (∃ v, e = .returned v) ∧
      ((∃ ys, ys = offsL xs ss off ∧ J ys W') ∨ (∃ pre, pre <+: offsL xs ss off ∧ Jx pre W')) := by
  have c0 : W.cell? ⟨Bf, 0, none⟩ = some (.int .i64 xs.length) := hc 0 (by omega)
  have c1 : W.cell? ⟨Bf, 1, none⟩ = some (.int .i64 (xs.getD 0 0)) := hc 1 (by omega)
  have c2 : W.cell? ⟨Bf, 2, none⟩ = some (.int .i64 (xs.getD 1 0)) := hc 2 (by omega)
  have c3 : W.cell? ⟨Bf, 3, none⟩ = some (.int .i64 (xs.getD 2 0)) := hc 3 (by omega)
  have c4 : W.cell? ⟨Bf, 4, none⟩ = some (.int .i64 (xs.getD 3 0)) := hc 4 (by omega)
  have c5 : W.cell? ⟨Bf, 5, none⟩ = some (.int .i64 (ss.getD 0 0)) := hc 5 (by omega)
  have c6 : W.cell? ⟨Bf, 6, none⟩ = some (.int .i64 (ss.getD 1 0)) := hc 6 (by omega)
  have c7 : W.cell? ⟨Bf, 7, none⟩ = some (.int .i64 (ss.getD 2 0)) := hc 7 (by omega)
  have c8 : W.cell? ⟨Bf, 8, none⟩ = some (.int .i64 (ss.getD 3 0)) := hc 8 (by omega)
  have c9 : W.cell? ⟨Bf, 9, none⟩ = some (.int .i64 off) := hc 9 (by omega)
  have hcnt : Hid (Calls Try.prog 19 #[.agg (shp xs)] W fun e W1 => e = .returned (.int .i64 (prod xs)) ∧ Ext W W1) := (count_any W xs h4 hr).mono (fun e W1 h => ⟨h.1, by rw [h.2]; exact (Ext.refl W).alloc _ _⟩)
  have hmgd := hide (fun W => merged_any W xs ss off h4 hl hr hss)
  have hwk := hide (fun hz n W hb h0 => walk_merged l b xs ss off h4 hl hr hz hp hss ho Pr hPr J Jx hJ hY n W hb h0)
  have hl4 : (mrg xs ss).1.reverse.length ≤ 4 := by rw [List.length_reverse]; have := mrg_len2 xs ss hl.symm; omega
  clear hY hc
  have hOz : prod xs = 0 → offsL xs ss off = [] := fun h => by unfold offsL; rw [if_pos h]
  generalize offsL xs ss off = OL at *
  unfold shp at hcnt
  unfold vw at hmgd hwk
  generalize (mrg xs ss).1.reverse = M at *
  generalize (mrg xs ss).2.reverse = S at *
  generalize xs.getD 0 0 = a0 at *
  generalize xs.getD 1 0 = a1 at *
  generalize xs.getD 2 0 = a2 at *
  generalize xs.getD 3 0 = a3 at *
  generalize ss.getD 0 0 = s0 at *
  generalize ss.getD 1 0 = s1 at *
  generalize ss.getD 2 0 = s2 at *
  generalize ss.getD 3 0 = s3 at *
  generalize M.getD 0 0 = m0 at *
  generalize M.getD 1 0 = m1 at *
  generalize M.getD 2 0 = m2 at *
  generalize M.getD 3 0 = m3 at *
  generalize S.getD 0 0 = t0 at *
  generalize S.getD 1 0 = t1 at *
  generalize S.getD 2 0 = t2 at *
  generalize S.getD 3 0 = t3 at *
  generalize hML : M.length = ml at *
  clear hML
  generalize hp0 : prod xs = p at *
  clear hp0
  have Hr := hide hr
  clear hr hss
  refine callsIn_of_wp Try.func37 rfl trivial ?_ rfl
  simp only [Try.ntmps37, List.size_toArray, List.length_cons, List.length_nil, Nat.reduceAdd, Nat.reduceSub, Array.replicate_succ, Array.replicate_zero, List.push_toArray, List.append_toArray, List.nil_append, List.cons_append]
  have hdd : ∀ k : Nat, (Fence.wide.depth.isSome = true → 1 ≤ k) := fun k h => by cases h
  by_cases hz : p = 0
  · have HO := hide (hOz hz)
    clear hOz hwk hmgd
    gi_wp2_with (refine ⟨trivial, hdd _, ?_⟩; gi_at_call 19; refine (callsIn_wide.2 hcnt.out).mono ?_; clear hcnt; rintro e W1 ⟨rfl, x1⟩)
    refine bodyPost_ret (results_none rfl _ _ _) rfl ?_
    exact ⟨⟨_, rfl⟩, .inl ⟨[], HO.out.symm, hJ [] _ _ none h0 (grown_ext x1) (fun r e => by cases e)⟩⟩
  · have hw := hide (hwk.out hz)
    clear hOz hwk
    gi_wp2_with (refine ⟨trivial, hdd _, ?_⟩; gi_at_call 19; refine (callsIn_wide.2 hcnt.out).mono ?_; clear hcnt; rintro e W1 ⟨rfl, x1⟩; have d0 := x1.box c0; have d1 := x1.box c1; have d2 := x1.box c2; have d3 := x1.box c3; have d4 := x1.box c4; have d5 := x1.box c5; have d6 := x1.box c6; have d7 := x1.box c7; have d8 := x1.box c8; have d9 := x1.box c9)
    refine ⟨trivial, hdd _, ?_⟩
    refine (callsIn_wide.2 (hmgd.out _)).mono ?_
    rintro e W2 ⟨rfl, x2⟩
    have hJ2 := hide (hJ [] _ _ none (hJ [] _ _ none h0 (grown_ext x1) (fun r e => by cases e)) (grown_ext x2) (fun r e => by cases e))
    have hs1 := x1.bl.size
    have hs2 := x2.bl.size
    clear hmgd d0 d1 d2 d3 d4 d5 d6 d7 d8 d9 c0 c1 c2 c3 c4 c5 c6 c7 c8 c9
    gi_wp2
    refine ⟨trivial, hdd _, ?_⟩
    refine (hw.out _ _ (by simp; omega) (hJ [] _ _ none hJ2.out (World.grownBy_alloc W2 _ none) (fun r e => by cases e))).mono ?_
    rintro e W3 (⟨rfl, hJ3⟩ | ⟨rfl, q, hq, hx⟩)
    · gi_wp2
      go_end0
      exact ⟨⟨_, rfl⟩, .inl ⟨_, rfl, hJ3⟩⟩
    · gi_wp2
      go_end0
      exact ⟨⟨_, rfl⟩, .inr ⟨q, hq, hx⟩⟩

set_option maxRecDepth 100000 in
set_option maxHeartbeats 1000000 in
/-- places: the view is boxed; the function value captures the box. -/
theorem placesF_in (n : Nat) (xs ss : List Int) (off : Int) (w : World) :
    CallsIn Fence.wide n Try.prog 31 #[.agg (vw xs ss off)] w fun e w' => e = .returned (.func (.func 37) #[] #[.pointer (some ⟨w.heap.size, 0, none⟩)]) ∧ w' = w.alloc (.cells (vw xs ss off) 58) := by
  unfold vw
  refine callsIn_of_wp Try.func31 rfl trivial ?_ rfl
  simp only [Try.ntmps31, List.size_toArray, List.length_cons, List.length_nil, Nat.reduceAdd, Nat.reduceSub, Array.replicate_succ, Array.replicate_zero, List.push_toArray, List.append_toArray, List.nil_append, List.cons_append]
  gi_wp2
  go_ret
  exact ⟨rfl, rfl⟩

theorem yield_any {m : Nat} (m' : Nat) {P : Program} {l : Nat} {args : Array Value} {W : World} {R : Ending → World → Prop} (h : YieldAt Fence.wide m P l args W R) : YieldAt Fence.wide m' P l args W R := by
  obtain ⟨fn, tmps, assign, body, hy, hR⟩ := h
  exact ⟨fn, tmps, assign, body, hy, hR.1, fun c cs _ => hR.2 c cs (room_of_none rfl _)⟩
theorem kc_put {n : Nat} {w : World} (W : World) (l : Nat) (o o' : Obj) (_ : w.heap.size ≤ l) (h : W.heap[l]? = some o) (hc : o.isCells = false) (_ : o.isWalk = false) : KC n W (W.putObj l o') := by
  have g := grownBy_putObj' W l o'
  refine ⟨g.size, fun k o2 hb h2 hc2 => ?_⟩
  have hk : k < W.heap.size := (Array.getElem?_eq_some_iff.1 h2).1
  have hne : k ≠ l := fun e => by
    subst e
    rw [h] at h2
    cases h2
    rw [hc] at hc2
    cases hc2
  exact (g.block k hk (fun e => hne (by cases e; rfl))).trans h2

/-- A place of a store. -/
abbrev Pl := { x : Int // 0 ≤ x ∧ x < 4096 }
def plv (ps : List Pl) : List Int := ps.map (·.1)
theorem plv_append (p q : List Pl) : plv (p ++ q) = plv p ++ plv q := List.map_append ..
theorem plv_len (p : List Pl) : (plv p).length = p.length := List.length_map ..

/-- What 'places' answers is a function that goes by the places of the view in order. -/
theorem places_stops (n Bf n₀ : Nat) (xs ss : List Int) (off : Int) (h4 : xs.length ≤ 4) (hl : ss.length = xs.length) (hr : InR xs xs.length) (hp : prod xs ≤ 4096) (hss : InS ss ss.length) (ho : 0 ≤ off ∧ off ≤ 4096) (hPr : ∀ x ∈ offsL xs ss off, 0 ≤ x ∧ x < 4096) (w : World) (hn : n₀ ≤ w.heap.size)
    (hc : ∀ j, j < 10 → w.cell? ⟨Bf, j, none⟩ = (vw xs ss off)[j]?) (hBf : Bf < w.heap.size) :
    SeqStopsK Fence.wide n Try.prog 37 #[.pointer (some ⟨Bf, 0, none⟩)] (fun x : Pl => #[Value.int .i64 x.1]) (KC n₀) (fun ys => plv ys = offsL xs ss off) (fun pre => plv pre <+: offsL xs ss off) (offsL xs ss off).length w := fun l J Jx W hW hJ hJx hY h0 => by
  have hbW : w.heap.size ≤ W.heap.size := hW.size
  have hc2 : ∀ j, j < 10 → W.cell? ⟨Bf, j, none⟩ = (vw xs ss off)[j]? := fun j hj => (hW.cell (p := ⟨Bf, j, none⟩) hBf).trans (hc j hj)
  have key := places1_in n l Bf W.heap.size xs ss off h4 hl hr hp hss ho (fun x => 0 ≤ x ∧ x < 4096) hPr (fun pre W => ∃ ps, plv ps = pre ∧ J ps W) (fun pre W => ∃ ps, plv ps = pre ∧ Jx ps W)
    (fun pre A B row ⟨ps, e, h⟩ hg hrow => ⟨ps, e, hJ ps A B row h hg hrow⟩)
    (fun m pre x A hx ⟨ps, e, h⟩ hlen => by
      subst e
      have hy := yield_any m (hY ps ⟨x, hx⟩ A h (by rw [← plv_len]; exact hlen))
      refine hy.mono ?_
      rintro e W' (⟨rfl, h1, h2⟩ | ⟨rfl, h1⟩)
      · exact .inl ⟨rfl, ⟨_, plv_append _ _, h1⟩, ⟨h2.size, fun k o hb h hc => h2.keep k o (by omega) h hc⟩⟩
      · exact .inr ⟨rfl, ⟨_, plv_append _ _, h1⟩⟩)
    W (Nat.le_refl _) hc2 ⟨[], rfl, h0⟩
  refine key.mono ?_
  rintro e W' ⟨hv, ⟨ys, rfl, ps, e1, h⟩ | ⟨pre, hpre, ps, e1, h⟩⟩
  · exact ⟨hv, .inl ⟨ps, e1, h⟩⟩
  · exact ⟨hv, .inr ⟨ps, by show plv ps <+: _; rw [e1]; exact hpre, h⟩⟩
end Go.Proofs.Ytanbgpmbccianaa
namespace Go.Proofs.Ytanbgpmbccianaa
open Go.ChangeShapes Go.RowKit Go.Shelf
set_option linter.unusedSimpArgs false
set_option linter.unusedVariables false

attribute [local go_sem] Oper.semAt_some

theorem KC.setCell {b : Nat} (A : World) {p : Addr} (hp : p.block < b) (v : Value) : KC b A (A.setCell p v) :=
  ⟨(KeepsWalks.setCell A _ v).size, fun k o hk h _ => (Below.heap_setCell _ _ _ k (fun e => by omega)).trans h⟩

/-- The marks of the places that have come. -/
structure Mk (W : World) (Bs : Nat) (L : List Int) : Prop where
  at_ : ∀ j : Nat, j < 4096 → W.cell? ⟨Bs, j, none⟩ = some (.bool (decide ((j : Int) ∈ L)))
  fz : ∀ j : Nat, j < 4096 → W.frozen? ⟨Bs, j, none⟩ = false
theorem Mk.kept {W W' : World} {Bs : Nat} {L : List Int} {row : Option Nat} (h : Mk W Bs L) (hg : W.grownBy W' row) (hr : ∀ r, row = some r → ∃ o : Obj, W.heap[r]? = some o ∧ o.isCells = false) : Mk W' Bs L :=
  ⟨fun j hj => cell_kept (h.at_ j hj) hg hr, fun j hj => (frozen_kept (h.at_ j hj) hg hr).trans (h.fz j hj)⟩
theorem Mk.other {W : World} {Bs B o : Nat} {L : List Int} (h : Mk W Bs L) (hB : B ≠ Bs) (v : Value) : Mk (W.setCell ⟨B, o, none⟩ v) Bs L :=
  ⟨fun j hj => (World.cell?_of_block (Below.heap_setCell _ _ _ Bs (fun e => hB (show B = Bs from e.symm)))).trans (h.at_ j hj), fun j hj => (World.frozen?_setCell _ _ _ _).trans (h.fz j hj)⟩
theorem Mk.mark {W : World} {Bs : Nat} {L : List Int} (h : Mk W Bs L) (k : Nat) (hk : k < 4096) : Mk (W.setCell ⟨Bs, k, none⟩ (.bool true)) Bs (L ++ [(k : Int)]) := by
  refine ⟨fun j hj => ?_, fun j hj => (World.frozen?_setCell _ _ _ _).trans (h.fz j hj)⟩
  by_cases e : j = k
  · subst e
    rw [World.cell?_setCell_same' _ _ _ (by rw [h.at_ j hj]; rfl)]
    simp
  · rw [show (W.setCell ⟨Bs, k, none⟩ (.bool true)).cell? ⟨Bs, j, none⟩ = W.cell? ⟨Bs, j, none⟩ from World.cell?_setCell_other _ _ _ _ (fun q => e (by cases q; rfl)), h.at_ j hj]
    have : ((j : Int) ∈ L ++ [(k : Int)]) ↔ ((j : Int) ∈ L) := by
      simp only [List.mem_append, List.mem_singleton]
      exact ⟨fun q => q.elim id (fun q => absurd (by omega) e), Or.inl⟩
    simp only [this]

/-- The same over a view that has just been boxed. -/
theorem placesK (n Bf : Nat) (xs ss : List Int) (off : Int) (h4 : xs.length ≤ 4) (hl : ss.length = xs.length) (hr : InR xs xs.length) (hp : prod xs ≤ 4096) (hss : InS ss ss.length) (ho : 0 ≤ off ∧ off ≤ 4096) (hPr : ∀ x ∈ offsL xs ss off, 0 ≤ x ∧ x < 4096) (W : World) (hB : Bf = W.heap.size) :
    SeqStopsK Fence.wide n Try.prog 37 #[.pointer (some ⟨Bf, 0, none⟩)] (fun x : Pl => #[Value.int .i64 x.1]) (KC (W.alloc (.cells (vw xs ss off) 58)).heap.size) (fun ys => plv ys = offsL xs ss off) (fun pre => plv pre <+: offsL xs ss off) (offsL xs ss off).length (W.alloc (.cells (vw xs ss off) 58)) := by
  subst hB
  exact places_stops n _ _ xs ss off h4 hl hr hp hss ho hPr _ (Nat.le_refl _) (fun j _ => new_cell W _ 58 W.heap.size rfl j) (by simp)

theorem cell_al {W : World} {a : Addr} {v : Value} (o : Obj) (h : W.cell? a = some v) : (W.alloc o).cell? a = some v := cell_kept h (World.grownBy_alloc W o none) (fun r e => by cases e)
theorem frozen_al {W : World} {a : Addr} {v : Value} (o : Obj) (h : W.cell? a = some v) (hf : W.frozen? a = false) : (W.alloc o).frozen? a = false := (frozen_kept h (World.grownBy_alloc W o none) (fun r e => by cases e)).trans hf
theorem frozen_nw (W : World) (cs : Array Value) (t b j : Nat) (hb : b = W.heap.size) : (W.alloc (.cells cs t)).frozen? ⟨b, j, none⟩ = false := by
  subst hb
  have h := World.alloc_heap_new W (.cells cs t)
  unfold World.frozen?
  simp only [h]
  simp

/-- The world where the loop begins. -/
structure DSt (w W0 : World) : Prop where
  size : W0.heap.size = w.heap.size + 4
  res : W0.cell? ⟨w.heap.size + 1, 0, none⟩ = some (.bool false)
  resF : W0.frozen? ⟨w.heap.size + 1, 0, none⟩ = false
  mrk : Mk W0 (w.heap.size + 1 + 1) []
  bl : Below w.heap.size w W0
end Go.Proofs.Ytanbgpmbccianaa
namespace Go.Proofs.Ytanbgpmbccianaa
open Go.ChangeShapes Go.RowKit Go.Shelf
set_option linter.unusedSimpArgs false
set_option linter.unusedVariables false

attribute [local go_sem] Oper.semAt_some

/-- n places in a row, from off on. -/
def ups (off : Int) (n : Nat) : List Int := (List.range n).map (fun i : Nat => off + (i : Int))
theorem ups_len (off : Int) (n : Nat) : (ups off n).length = n := by simp [ups]
theorem ups_succ (off : Int) (n : Nat) : ups off (n + 1) = ups off n ++ [off + (n : Int)] := by simp [ups, List.range_succ]
theorem ups_prefix {off : Int} {p L : List Int} (h : p <+: L) (e : L = ups off L.length) : p = ups off p.length := by
  have hp : p = L.take p.length := List.prefix_iff_eq_take.1 h
  have hl := h.length_le
  rw [e] at hp
  unfold ups at hp ⊢
  rw [← List.map_take, List.take_range, Nat.min_eq_left hl] at hp
  exact hp

/-- The world where the loop begins. -/
structure GSt (w W0 : World) (off : Int) : Prop where
  size : W0.heap.size = w.heap.size + 4
  res : W0.cell? ⟨w.heap.size + 1, 0, none⟩ = some (.bool false)
  resF : W0.frozen? ⟨w.heap.size + 1, 0, none⟩ = false
  wan : W0.cell? ⟨w.heap.size + 1 + 1, 0, none⟩ = some (.int .i64 off)
  wanF : W0.frozen? ⟨w.heap.size + 1 + 1, 0, none⟩ = false
  bl : Below w.heap.size w W0
theorem GSt.start (w : World) (V : Array Value) (off : Int) : GSt w ((((w.alloc (.cells V 58)).alloc (.cells #[.bool false] 4)).alloc (.cells #[.int .i64 off] 2)).alloc (.cells V 58)) off := by
  have hb1 : Below w.heap.size w (w.alloc (.cells V 58)) := (Below.refl _ w).alloc (Nat.le_refl _) _
  have hb2 : Below w.heap.size w ((w.alloc (.cells V 58)).alloc (.cells #[.bool false] 4)) := hb1.alloc (by simp) _
  have hb3 := hb2.alloc (by simp; omega) (.cells #[.int .i64 off] 2)
  have c1 : ((w.alloc (.cells V 58)).alloc (.cells #[.bool false] 4)).cell? ⟨w.heap.size + 1, 0, none⟩ = some (.bool false) := new_cell _ _ 4 _ (by simp) 0
  have f1 : ((w.alloc (.cells V 58)).alloc (.cells #[.bool false] 4)).frozen? ⟨w.heap.size + 1, 0, none⟩ = false := frozen_nw _ _ 4 _ 0 (by simp)
  have c2 : (((w.alloc (.cells V 58)).alloc (.cells #[.bool false] 4)).alloc (.cells #[.int .i64 off] 2)).cell? ⟨w.heap.size + 1 + 1, 0, none⟩ = some (.int .i64 off) := new_cell _ _ 2 _ (by simp) 0
  have f2 : (((w.alloc (.cells V 58)).alloc (.cells #[.bool false] 4)).alloc (.cells #[.int .i64 off] 2)).frozen? ⟨w.heap.size + 1 + 1, 0, none⟩ = false := frozen_nw _ _ 2 _ 0 (by simp)
  exact ⟨by simp, cell_al _ (cell_al _ c1), frozen_al _ (cell_al _ c1) (frozen_al _ c1 f1), cell_al _ c2, frozen_al _ c2 f2, hb3.alloc (by simp; omega) _⟩

set_option maxRecDepth 100000 in
set_option maxHeartbeats 1000000 in
theorem goesUp_in (n : Nat) (hn : 3 ≤ n) (xs ss : List Int) (off : Int) (w : World) (h4 : xs.length ≤ 4) (hl : ss.length = xs.length) (hr : InR xs xs.length) (hp : prod xs ≤ 4096) (hss : InS ss ss.length) (ho : 0 ≤ off ∧ off ≤ 4096) (hPr : ∀ x ∈ offsL xs ss off, 0 ≤ x ∧ x < 4096) (hN : (offsL xs ss off).length ≤ 4096) :
    CallsIn Fence.wide n Try.prog 20 #[.agg (vw xs ss off)] w fun e w' => e = .returned (.bool (decide (offsL xs ss off = ups off (offsL xs ss off).length))) ∧ Below w.heap.size w w' := by
  have hpl := hide (fun n W => placesF_in n xs ss off W)
  have hst := hide (placesK (n - 1) (w.heap.size + 1 + 1 + 1) xs ss off h4 hl hr hp hss ho hPr (((w.alloc (.cells (vw xs ss off) 58)).alloc (.cells #[.bool false] 4)).alloc (.cells #[.int .i64 off] 2)) (by simp))
  have hdd : ∀ k : Nat, (Fence.wide.depth.isSome = true → 1 ≤ k) := fun k h => by cases h
  have X0 := hide (GSt.start w (vw xs ss off) off)
  clear hPr hss hp hr hl h4
  generalize offsL xs ss off = OL at *
  unfold vw at hpl X0 hst ⊢
  generalize xs.getD 0 0 = a0 at *
  generalize xs.getD 1 0 = a1 at *
  generalize xs.getD 2 0 = a2 at *
  generalize xs.getD 3 0 = a3 at *
  generalize ss.getD 0 0 = s0 at *
  generalize ss.getD 1 0 = s1 at *
  generalize ss.getD 2 0 = s2 at *
  generalize ss.getD 3 0 = s3 at *
  refine callsIn_of_wp_marks Try.func20 rfl trivial ?_ rfl
  simp only [Try.ntmps20, List.size_toArray, List.length_cons, List.length_nil, Nat.reduceAdd, Nat.reduceSub, Array.replicate_succ, Array.replicate_zero, List.push_toArray, List.append_toArray, List.nil_append, List.cons_append]
  gi_wp2
  refine ⟨trivial, hdd _, ?_⟩
  refine (hpl.out _ _).mono ?_
  rintro e w' ⟨rfl, rfl⟩
  clear hpl
  have h1 : 1 ≤ n := by omega
  gi_wp2
  generalize hW0 : World.alloc (((w.alloc _).alloc _).alloc _) _ = W0 at X0 hst ⊢
  clear hW0
  have hsz := X0.out.size
  refine wpIn_rangeFunc_ownF rfl h1 (gf := 37) (lb := #[.pointer (some ⟨w.heap.size + 1 + 1 + 1, 0, none⟩)]) rfl trivial (enters_of Try.func37 (by kernel_rfl) rfl)
    hst.out (fun h k => KC.trans h k) (fun W l o o' h1 h2 h3 h4 => kc_put W l o o' h1 h2 h3 h4) (Below.refl _ _) (fun _ => rfl)
    (fun pre W => (plv pre = ups off pre.length ∧ W.cell? ⟨w.heap.size + 1, 0, none⟩ = some (.bool false) ∧ W.frozen? ⟨w.heap.size + 1, 0, none⟩ = false ∧ W.cell? ⟨w.heap.size + 1 + 1, 0, none⟩ = some (.int .i64 (off + (pre.length : Int))) ∧ W.frozen? ⟨w.heap.size + 1 + 1, 0, none⟩ = false) ∧ Below w.heap.size w W)
    (fun c pre W => (c = .ret ∧ plv pre ≠ ups off pre.length ∧ W.cell? ⟨w.heap.size + 1, 0, none⟩ = some (.bool false)) ∧ Below w.heap.size w W)
    (OwnFrom.and (Own.from (fun s A B row hs hg hr => ⟨hs.1, cell_kept hs.2.1 hg hr, (frozen_kept hs.2.1 hg hr).trans hs.2.2.1, cell_kept hs.2.2.2.1 hg hr, (frozen_kept hs.2.2.2.1 hg hr).trans hs.2.2.2.2⟩) _) (ownFrom_below (Nat.le_refl _) (by omega)))
    (fun c => OwnFrom.and (Own.from (fun s A B row hs hg hr => ⟨hs.1, hs.2.1, cell_kept hs.2.2 hg hr⟩) _) (ownFrom_below (Nat.le_refl _) (by omega)))
    ⟨⟨by simp [plv, ups], X0.out.res, X0.out.resF, by simpa using X0.out.wan, X0.out.wanF⟩, X0.out.bl⟩
    (fun x => { tmps := #[.agg #[.int .i64 xs.length, .int .i64 a0, .int .i64 a1, .int .i64 a2, .int .i64 a3, .int .i64 s0, .int .i64 s1, .int .i64 s2, .int .i64 s3, .int .i64 off], .pointer (some ⟨w.heap.size, 0, none⟩), .pointer (some ⟨w.heap.size + 1, 0, none⟩), .pointer (some ⟨w.heap.size + 1 + 1, 0, none⟩), .int .i64 x.1, .pointer (some ⟨w.heap.size, 9, none⟩), .int .i64 off, .agg #[.int .i64 xs.length, .int .i64 a0, .int .i64 a1, .int .i64 a2, .int .i64 a3, .int .i64 s0, .int .i64 s1, .int .i64 s2, .int .i64 s3, .int .i64 off], .func (.func 37) #[] #[.pointer (some ⟨w.heap.size + 1 + 1 + 1, 0, none⟩)], .int .i64 x.1, undef, undef, undef, undef, undef], defers := [] }) ?assign ?body ?done ?stop
  case assign =>
    intro l x W K hK
    gi_wp2
    exact hK
  case body =>
    rintro l pre ⟨x, hx⟩ W ⟨⟨hnd, hcr, hfr, hcw, hfw⟩, hB⟩ hlt
    have hpl : pre.length < 4096 := by omega
    by_cases hin : x = off + (pre.length : Int)
    · subst hin
      gi_wp2
      refine ⟨KeepsOthers.setCell _ _ _, KC.setCell W (p := ⟨w.heap.size + 1 + 1, 0, none⟩) (by show w.heap.size + 1 + 1 < _; omega) _, ⟨?_, ?_, ?_, ?_, ?_⟩, hB.setCell (p := ⟨w.heap.size + 1 + 1, 0, none⟩) (by show _ ≤ w.heap.size + 1 + 1; omega) _⟩
      · rw [plv_append, List.length_append, List.length_singleton, ups_succ, ← hnd]; rfl
      · exact (World.cell?_of_block (Below.heap_setCell _ _ _ _ (by show w.heap.size + 1 ≠ w.heap.size + 1 + 1; omega))).trans hcr
      · exact (World.frozen?_setCell _ _ _ _).trans hfr
      · rw [World.cell?_setCell_same' _ _ _ (by rw [hcw]; rfl), List.length_append, List.length_singleton, Int.natCast_add, ← Int.add_assoc]; rfl
      · exact (World.frozen?_setCell _ _ _ _).trans hfw
    · have hne : (x == off + (pre.length : Int)) = false := by simp [hin]
      gi_wp2
      exact ⟨KeepsOthers.setCell _ _ _, ⟨rfl, fun h => by
        rw [plv_append, List.length_append, List.length_singleton, ups_succ, ← hnd] at h
        have := List.append_cancel_left h
        simp [plv] at this
        exact hin this, World.cell?_setCell_same' _ _ _ (by rw [hcr]; rfl)⟩, hB.setCell (p := ⟨w.heap.size + 1, 0, none⟩) (by simp) _⟩
  case done =>
    rintro D ys W hD hS ⟨⟨hnd, hcr, hfr, hcw, hfw⟩, hB⟩ hK
    gi_wp2
    have hK' := (KeepsOthers.setCell W ⟨w.heap.size + 1, 0, none⟩ (.bool true)).same D _ hK rfl
    refine ⟨by simp, .inl ⟨_, _, rfl, run_takeDeferred hK', ?_⟩⟩
    have hc5 := cell_kept (World.cell?_setCell_same' W ⟨w.heap.size + 1, 0, none⟩ (.bool true) (by rw [hcr]; rfl)) (grownBy_putObj' _ D (.deferred none)) (fun r e => by cases e; exact ⟨_, hK', rfl⟩)
    refine ⟨.bool true, ?_, by rw [decide_eq_true (by rw [← hS, plv_len]; exact hnd)], (hB.setCell (p := ⟨w.heap.size + 1, 0, none⟩) (by simp) _).trans (belowK_b (w := w) (Nat.le_refl _) _ D _ _ (by omega) hK' rfl rfl)⟩
    simp [results, Try.f20, go_sem, hc5]
  case stop =>
    rintro D c pre W hD hpre ⟨⟨rfl, hnd, hcr⟩, hB⟩ hK
    gi_wp2
    refine ⟨by simp, .inl ⟨_, _, rfl, run_takeDeferred hK, ?_⟩⟩
    have hc5 := cell_kept hcr (grownBy_putObj' _ D (.deferred none)) (fun r e => by cases e; exact ⟨_, hK, rfl⟩)
    refine ⟨.bool false, ?_, by rw [decide_eq_false (fun h => hnd (by have := ups_prefix hpre h; rw [plv_len] at this; exact this))], hB.trans (belowK_b (w := w) (Nat.le_refl _) W D _ _ (by omega) hK rfl rfl)⟩
    simp [results, Try.f20, go_sem, hc5]
end Go.Proofs.Ytanbgpmbccianaa
namespace Go.Proofs.Ytanbgpmbccianaa
open Go.ChangeShapes Go.RowKit
set_option linter.unusedSimpArgs false
set_option linter.unusedVariables false

/-- A view that may be written. -/
abbrev WrV (xs ss : List Int) (off : Int) : Prop := ValidV xs ss off ∧ (offsL xs ss off).Nodup
def dcWrV (xs ss : List Int) (off : Int) : Bool := decide (WrV xs ss off)
theorem dcWrV_t {xs ss : List Int} {off : Int} (h : WrV xs ss off) : dcWrV xs ss off = true := decide_eq_true h
theorem dcWrV_f {xs ss : List Int} {off : Int} (h : ¬ WrV xs ss off) : dcWrV xs ss off = false := decide_eq_false h

theorem offs_in {xs ss : List Int} {off : Int} (hv : ValidV xs ss off) : ∀ x ∈ offsL xs ss off, 0 ≤ x ∧ x < 4096 := fun x hx => by
  unfold offsL at hx
  split at hx
  · cases hx
  · next hz =>
    obtain ⟨hg, hl, _, _, h | h⟩ := hv
    · exact absurd h hz
    · exact (all_in xs ss off hl.symm (fun n hn => (good_pos hg hz n hn).1)).2 h x hx
end Go.Proofs.Ytanbgpmbccianaa
namespace Go.Proofs.Ytanbgpmbccianaa
open Go.ChangeShapes Go.RowKit Go.Shelf
set_option linter.unusedSimpArgs false
set_option linter.unusedVariables false

theorem list_nil {w w' : World} {L : List Int} (h : L = []) (sa : Option Addr) (cap : Nat) (hB : Below w.heap.size w w') : ListOk w L (.returned (.slice sa 0 cap)) w' := by
  subst h
  exact ⟨sa, cap, rfl, Or.inl rfl, hB⟩
theorem ListOk.from {w w1 w' : World} {L : List Int} {e : Ending} (hB : Below w.heap.size w w1) (h : ListOk w1 L e w') : ListOk w L e w' := by
  obtain ⟨sa, cap, h1, h2, h3⟩ := h
  refine ⟨sa, cap, h1, ?_, hB.trans (h3.mono hB.size)⟩
  rcases h2 with h2 | ⟨g, h4, h5, h6⟩
  · exact Or.inl h2
  · exact Or.inr ⟨g, h4, Nat.le_trans hB.size h5, h6⟩

set_option maxRecDepth 100000 in
set_option maxHeartbeats 1000000 in
/-- l2Offsets. -/
theorem l2Offsets_any {w : World} {vS vT : Value} {xs ss : List Int} (hS : Ints w vS xs) (hT : Ints w vT ss) (off : Int) (hv : ValidV xs ss off) :
    Calls Try.prog 24 #[.agg #[vS, vT, .int .i64 off]] w fun e w' => ListOk w (offsL xs ss off) e w' := by
  obtain ⟨hg, hl, ho, hin, _⟩ := hv
  have x0 : Ext w (w.alloc (.cells #[vS, vT, .int .i64 off] 25)) := (Ext.refl w).alloc _ _
  have X0 := hide x0.bl
  have HS := hide (hS.ext x0)
  have HT := hide (hT.ext x0)
  have n1 := fun j => new_cell w #[vS, vT, .int .i64 off] 25 w.heap.size rfl j
  have k0 := n1 0
  have k1 := n1 1
  have k2 := n1 2
  clear n1 x0
  obtain ⟨sa, cap, rfl, _⟩ := hS
  obtain ⟨ta, dap, rfl, _⟩ := hT
  have hcn : cntL xs = prod xs := if_pos hg
  have hx4 := hg.1
  have hpb := prod_bd xs xs.length hg.1 (Nat.le_refl _) hg.2.1
  rw [List.take_length] at hpb
  have hOz : Hid (prod xs = 0 → offsL xs ss off = []) := fun h => by unfold offsL; rw [if_pos h]
  have hpl : Hid (prod xs ≠ 0 → ∀ w, Ints w (.slice sa xs.length cap) xs → Ints w (.slice ta ss.length dap) ss → Calls Try.prog 33 #[.agg #[.slice sa xs.length cap, .slice ta ss.length dap, .int .i64 off], .int .i64 0, .int .i64 off] w fun e w' => ListOk w (offsL xs ss off) e w') := fun hz w h1 h2 => by
    have hst : ∀ s ∈ ss, -4096 ≤ s ∧ s ≤ 4096 := fun s hs => by
      obtain ⟨j, hj, rfl⟩ := getD_mem hs
      exact hin j hj
    have hpln : plen xs ≤ 4096 := by
      have h1 := prod_plen (fun m hm => (good_nonneg hg m hm).1)
      have h2 := hg.2.2
      omega
    have key := places_any xs ss hl.symm hx4 (good_pos hg hz) hst off _ _ xs.length 0 (by omega) w off h1 h2 (by rw [List.drop_zero]; exact hpln) (by omega)
    rw [List.drop_zero, List.drop_zero] at key
    unfold offsL
    rw [if_neg hz]
    exact key
  have Hcnt := hide (l2Count_any HS.out (by omega))
  rw [hcn] at Hcnt
  have Hg := hide hg
  clear hg hcn hin hl
  go_enter Try.func24, Try.ntmps24
  go_wp2_with fail
  generalize hW0 : w.alloc (.cells #[.slice sa xs.length cap, .slice ta ss.length dap, .int .i64 off] 25) = W0 at X0 HS HT k0 k1 k2 Hcnt ⊢
  clear hW0
  refine Hcnt.out.mono ?_
  clear Hcnt
  rintro e w' ⟨rfl, rfl⟩
  generalize prod xs = P at *
  by_cases hz : P = 0
  · have HO := hide (hOz.out hz)
    subst hz
    clear hpl hOz
    go_wp2
    go_ret
    exact list_nil HO.out _ _ (by first | exact X0.out | exact X0.out.alloc X0.out.size _)
  · have HP := hide (hpl.out hz _ HS.out HT.out)
    have hPn : (P == 0) = false := by simp [hz]
    clear hpl hOz
    go_wp2_with (go_at_call 33; refine HP.out.mono ?_; intro e w2 hok; obtain ⟨sa2, cap2, rfl, hok2⟩ := hok)
    go_ret
    exact ListOk.from X0.out ⟨sa2, cap2, rfl, hok2⟩

/-- The answer of Offsets. -/
def offsA (xs ss : List Int) (off : Int) : List Int := if ValidV xs ss off then offsL xs ss off else []

end Go.Proofs.Ytanbgpmbccianaa
namespace Go.Proofs.Ytanbgpmbccianaa
open Go.ChangeShapes Go.RowKit
set_option linter.unusedSimpArgs false
set_option linter.unusedVariables false

theorem info4 : (Try.prog.info? 4).map (fun i => (i.zero, i.size, i.bytes)) = some (some (.bool false), 1, 1) := by kernel_rfl
theorem offs_len {xs ss : List Int} {off : Int} (hv : ValidV xs ss off) : (offsL xs ss off).length ≤ 4096 := by
  unfold offsL
  split
  · simp
  · rw [places_len xs ss off hv.2.1.symm]
    have h1 := prod_plen (fun m hm => (good_nonneg hv.1 m hm).1)
    have h2 := hv.1.2.2
    omega

/-- The world of the loop. -/
structure MR (w wr : World) (Bm : Nat) (sa : Option Addr) (L : List Int) (k : Nat) : Prop where
  nd : (L.take k).Nodup
  mrk : Mk wr Bm (L.take k)
  own : OwnI wr (Bm + 1) sa L
  bl : Below w.heap.size w wr
theorem MR.step {w wr : World} {Bm : Nat} {sa : Option Addr} {L : List Int} {k m : Nat} (h : MR w wr Bm sa L k) (hk : k < L.length) (hm : L.getD k 0 = (m : Int)) (hm4 : m < 4096) (hn : ¬ ((m : Int) ∈ L.take k)) (hw : w.heap.size ≤ Bm) : MR w (wr.setCell ⟨Bm, m, none⟩ (.bool true)) Bm sa L (k + 1) := by
  have e := take_snoc L k hk
  rw [hm] at e
  refine ⟨?_, ?_, ?_, h.bl.setCell (p := ⟨Bm, m, none⟩) hw _⟩
  · rw [e]
    refine List.nodup_append.2 ⟨h.nd, by simp, fun a ha b hb q => ?_⟩
    have : b = (m : Int) := by simpa using hb
    subst this
    subst q
    exact hn ha
  · rw [e]; exact h.mrk.mark m hm4
  · rcases h.own with h0 | ⟨g, h1, h2, h3, h4⟩
    · exact Or.inl h0
    · refine Or.inr ⟨g, h1, h2, fun j hj => ?_, fun o => (World.frozen?_setCell _ _ _ _).trans (h4 o)⟩
      exact (World.cell?_of_block (Below.heap_setCell _ _ _ g (by show g ≠ Bm; omega))).trans (h3 j hj)

end Go.Proofs.Ytanbgpmbccianaa
namespace Go.Proofs.Ytanbgpmbccianaa
open Go.ChangeShapes Go.RowKit Go.Shelf
set_option linter.unusedSimpArgs false
set_option linter.unusedVariables false

theorem prod_drop (xs : List Int) (k : Nat) (hk : k < xs.length) : prod (xs.drop k) = xs.getD k 0 * prod (xs.drop (k + 1)) := by
  rw [List.drop_eq_getElem_cons hk, prod_cons, List.getD_eq_getElem?_getD, List.getElem?_eq_getElem hk]; rfl
theorem getD_drop (xs : List Int) (k j : Nat) : (xs.drop k).getD j 0 = xs.getD (k + j) 0 := by
  simp [List.getD_eq_getElem?_getD, List.getElem?_drop]
theorem drop_inR {xs : List Int} (hr : InR xs xs.length) (k : Nat) : InR (xs.drop k) (xs.drop k).length := fun j hj => by
  rw [getD_drop]
  rw [List.length_drop] at hj
  exact hr _ (by omega)
theorem drop_bd {xs : List Int} (h4 : xs.length ≤ 4) (hr : InR xs xs.length) (k m : Nat) (hm : m ≤ (xs.drop k).length) : 0 ≤ prod ((xs.drop k).take m) ∧ prod ((xs.drop k).take m) ≤ 281474976710656 := by
  have hl : (xs.drop k).length ≤ 4 := by rw [List.length_drop]; omega
  have h := prod_bd (xs.drop k) m (by omega) hm (fun j hj => drop_inR hr k j (by omega))
  have := bd_le m
  omega
theorem drop_bd' {xs : List Int} (h4 : xs.length ≤ 4) (hr : InR xs xs.length) (k : Nat) : 0 ≤ prod (xs.drop k) ∧ prod (xs.drop k) ≤ 281474976710656 := by
  have h := drop_bd h4 hr k (xs.drop k).length (Nat.le_refl _)
  rw [List.take_length] at h
  exact h

/-- The strides of a row-major view. -/
def rmS (xs : List Int) : List Int := (List.range xs.length).map fun i => if prod xs = 0 then 0 else prod (xs.drop (i + 1))
theorem rmS_len (xs : List Int) : (rmS xs).length = xs.length := by simp [rmS]
theorem rmS_getD (xs : List Int) (j : Nat) : (rmS xs).getD j 0 = if j < xs.length then (if prod xs = 0 then 0 else prod (xs.drop (j + 1))) else 0 := by
  unfold rmS
  by_cases h : j < xs.length
  · rw [if_pos h]; simp [List.getD_eq_getElem?_getD, h]
  · rw [if_neg h]; simp [List.getD_eq_getElem?_getD, h]

theorem places_head : ∀ (xs ss : List Int) (at_ : Int), xs.length = ss.length → (∀ n ∈ xs, 1 ≤ n) → (places xs ss at_).head? = some at_
  | [], ss, at_, hl, h => by simp [places]
  | n :: ns, [], at_, hl, h => by simp at hl
  | n :: ns, s :: ss, at_, hl, h => by
    have hn : 1 ≤ n := h n (by simp)
    obtain ⟨m, hm⟩ : ∃ m, n.toNat = m + 1 := ⟨n.toNat - 1, by omega⟩
    have ih := places_head ns ss at_ (by simpa using hl) (fun m hm => h m (by simp [hm]))
    simp only [places]
    rw [hm, List.range_succ_eq_map, List.flatMap_cons]
    have e0 : at_ + ((0 : Nat) : Int) * s = at_ := by simp
    rw [e0, List.head?_append, ih]
    rfl
theorem offs_head {xs ss : List Int} {off : Int} (hv : ValidV xs ss off) : offsL xs ss off = [] ∨ (offsL xs ss off).head? = some off := by
  unfold offsL
  by_cases hz : prod xs = 0
  · rw [if_pos hz]; exact Or.inl rfl
  · rw [if_neg hz]
    exact Or.inr (places_head xs ss off hv.2.1.symm (prod_pos_of hv.1.2.1 hz))

/-- Each place is the one behind the last. -/
def GoUp (L : List Int) (k : Nat) : Prop := ∀ i, i + 1 < k → L.getD (i + 1) 0 = L.getD i 0 + 1
theorem GoUp.step {L : List Int} {k : Nat} (h : GoUp L (k + 1)) (e : L.getD (k + 1) 0 = L.getD k 0 + 1) : GoUp L (k + 1 + 1) := fun i hi => by
  by_cases q : i = k
  · subst q; exact e
  · exact h i (by omega)
theorem ups_getD (off : Int) (n j : Nat) (h : j < n) : (ups off n).getD j 0 = off + (j : Int) := by
  simp [ups, List.getD_eq_getElem?_getD, h]
theorem goUp_iff {L : List Int} {off : Int} (h : L = [] ∨ L.head? = some off) : L = ups off L.length ↔ GoUp L L.length := by
  constructor
  · intro e i hi
    rw [e, ups_getD _ _ _ hi, ups_getD _ _ _ (by omega)]
    omega
  · intro g
    rcases h with h | h
    · subst h; rfl
    · have key : ∀ j, j < L.length → L.getD j 0 = off + (j : Int) := by
        intro j
        induction j with
        | zero =>
          intro hj
          rw [List.getD_eq_getElem?_getD, ← List.head?_eq_getElem?, h]
          simp
        | succ j ih =>
          intro hj
          rw [g j hj, ih (by omega)]
          omega
      refine List.ext_getElem (by rw [ups_len]) fun j h1 h2 => ?_
      have a := key j h1
      have b := ups_getD off L.length j h1
      rw [List.getD_eq_getElem?_getD, List.getElem?_eq_getElem h1] at a
      rw [List.getD_eq_getElem?_getD, List.getElem?_eq_getElem h2] at b
      exact a.trans b.symm

def rsL (xs ss : List Int) (off : Int) (ys : List Int) : Int × List Int × List Int × Int :=
  if ValidV xs ss off then (if Good ys ∧ prod ys = prod xs then (if offsL xs ss off = ups off (offsL xs ss off).length then (0, ys, rmS ys, off) else (13, [], [], 0)) else (6, [], [], 0)) else (12, [], [], 0)
theorem goesUp_any {xs ss : List Int} {off : Int} (hv : ValidV xs ss off) (w : World) :
    Calls Try.prog 20 #[.agg (vw xs ss off)] w fun e w' => e = .returned (.bool (decide (offsL xs ss off = ups off (offsL xs ss off).length))) ∧ Bel w w' :=
  callsIn_wide.1 (goesUp_in 3 (Nat.le_refl _) xs ss off w hv.1.1 hv.2.1 hv.1.2.1 hv.1.2.2 hv.2.2.2.1 hv.2.2.1 (offs_in hv) (offs_len hv))
theorem rsL_len {xs ss : List Int} {off : Int} {ys : List Int} {c : Int} {L S : List Int} {o : Int} (h : rsL xs ss off ys = (c, L, S, o)) : L.length ≤ 4 ∧ S.length ≤ 4 := by
  unfold rsL at h
  split at h
  · next v =>
    split at h
    · next g =>
      split at h
      · simp only [Prod.mk.injEq] at h
        obtain ⟨_, rfl, rfl, _⟩ := h
        rw [rmS_len]
        exact ⟨g.1.1, g.1.1⟩
      · simp only [Prod.mk.injEq] at h
        obtain ⟨_, rfl, rfl, _⟩ := h
        simp
    · simp only [Prod.mk.injEq] at h
      obtain ⟨_, rfl, rfl, _⟩ := h
      simp
  · simp only [Prod.mk.injEq] at h
    obtain ⟨_, rfl, rfl, _⟩ := h
    simp
end Go.Proofs.Ytanbgpmbccianaa
