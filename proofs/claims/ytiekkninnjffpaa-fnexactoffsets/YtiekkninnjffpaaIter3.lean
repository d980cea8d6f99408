import Derived.Test.YtiekkninnjffpaaIter2
namespace Go.Proofs.Ytiekkninnjffpaa
open Go.ChangeShapes Go.RowKit Go.Shelf
set_option linter.unusedSimpArgs false
set_option linter.unusedVariables false

attribute [local go_sem] Oper.semAt_some

set_option maxRecDepth 100000 in
set_option maxHeartbeats 2000000 in
/-- The closure that 'places' answers. -/
theorem places1_in (n l Bf b : Nat) (xs ss : List Int) (off : Int) (h4 : xs.length ≤ 4) (hl : ss.length = xs.length) (hr : InR xs xs.length) (hp : prod xs ≤ 4096) (hss : InS ss ss.length) (ho : 0 ≤ off ∧ off ≤ 4096) (Pr : Int → Prop) (hPr : ∀ x ∈ offsL xs ss off, Pr x) (J Jx : List Int → World → Prop) (hJ : AbidesFrom b J)
    (hY : ∀ m pre x W, Pr x → J pre W → pre.length < (offsL xs ss off).length → YieldAt Fence.wide m Try.prog l #[.int .i64 x] W fun e W' =>
      (e = .returned (.bool true) ∧ J (pre ++ [x]) W' ∧ KC b W W') ∨ (e = .returned (.bool false) ∧ Jx (pre ++ [x]) W'))
    (W : World) (hb : b ≤ W.heap.size) (hc : ∀ j, j < 10 → W.cell? ⟨Bf, j, none⟩ = (vw xs ss off)[j]?) (h0 : J [] W) :
    CallsIn Fence.wide n Try.prog 82 #[.func (.yield l) #[] #[], .pointer (some ⟨Bf, 0, none⟩)] W fun e W' => (∃ v, e = .returned v) ∧
      ((∃ ys, ys = offsL xs ss off ∧ J ys W') ∨ (∃ pre, pre <+: offsL xs ss off ∧ Jx pre W')) := by
  have c0 : W.cell? ⟨Bf, 0, none⟩ = some (.int .i64 xs.length) := hc 0 (by omega)
  have c1 : W.cell? ⟨Bf, 1, none⟩ = some (.int .i64 (xs.getD 0 0)) := hc 1 (by omega)
  have c2 : W.cell? ⟨Bf, 2, none⟩ = some (.int .i64 (xs.getD 1 0)) := hc 2 (by omega)
  have c3 : W.cell? ⟨Bf, 3, none⟩ = some (.int .i64 (xs.getD 2 0)) := hc 3 (by omega)
  have c4 : W.cell? ⟨Bf, 4, none⟩ = some (.int .i64 (xs.getD 3 0)) := hc 4 (by omega)
  have c5 : W.cell? ⟨Bf, 5, none⟩ = some (.int .i64 (ss.getD 0 0)) := hc 5 (by omega)
  have c6 : W.cell? ⟨Bf, 6, none⟩ = some (.int .i64 (ss.getD 1 0)) := hc 6 (by omega)
  have c7 : W.cell? ⟨Bf, 7, none⟩ = some (.int .i64 (ss.getD 2 0)) := hc 7 (by omega)
  have c8 : W.cell? ⟨Bf, 8, none⟩ = some (.int .i64 (ss.getD 3 0)) := hc 8 (by omega)
  have c9 : W.cell? ⟨Bf, 9, none⟩ = some (.int .i64 off) := hc 9 (by omega)
  have hcnt : Hid (Calls Try.prog 61 #[.agg (shp xs)] W fun e W1 => e = .returned (.int .i64 (prod xs)) ∧ Ext W W1) := (count_any W xs h4 hr).mono (fun e W1 h => ⟨h.1, by rw [h.2]; exact (Ext.refl W).alloc _ _⟩)
  have hmgd := hide (fun W => merged_any W xs ss off h4 hl hr hss)
  have hwk := hide (fun hz n W hb h0 => walk_merged l b xs ss off h4 hl hr hz hp hss ho Pr hPr J Jx hJ hY n W hb h0)
  have hl4 : (mrg xs ss).1.reverse.length ≤ 4 := by rw [List.length_reverse]; have := mrg_len2 xs ss hl.symm; omega
  clear hY hc
  have hOz : prod xs = 0 → offsL xs ss off = [] := fun h => by unfold offsL; rw [if_pos h]
  generalize offsL xs ss off = OL at *
  unfold shp at hcnt
  unfold vw at hmgd hwk
  generalize (mrg xs ss).1.reverse = M at *
  generalize (mrg xs ss).2.reverse = S at *
  generalize xs.getD 0 0 = a0 at *
  generalize xs.getD 1 0 = a1 at *
  generalize xs.getD 2 0 = a2 at *
  generalize xs.getD 3 0 = a3 at *
  generalize ss.getD 0 0 = s0 at *
  generalize ss.getD 1 0 = s1 at *
  generalize ss.getD 2 0 = s2 at *
  generalize ss.getD 3 0 = s3 at *
  generalize M.getD 0 0 = m0 at *
  generalize M.getD 1 0 = m1 at *
  generalize M.getD 2 0 = m2 at *
  generalize M.getD 3 0 = m3 at *
  generalize S.getD 0 0 = t0 at *
  generalize S.getD 1 0 = t1 at *
  generalize S.getD 2 0 = t2 at *
  generalize S.getD 3 0 = t3 at *
  generalize hML : M.length = ml at *
  clear hML
  generalize hp0 : prod xs = p at *
  clear hp0
  have Hr := hide hr
  clear hr hss
  refine callsIn_of_wp Try.func82 rfl trivial ?_ rfl
  simp only [Try.ntmps82, List.size_toArray, List.length_cons, List.length_nil, Nat.reduceAdd, Nat.reduceSub, Array.replicate_succ, Array.replicate_zero, List.push_toArray, List.append_toArray, List.nil_append, List.cons_append]
  have hdd : ∀ k : Nat, (Fence.wide.depth.isSome = true → 1 ≤ k) := fun k h => by cases h
  by_cases hz : p = 0
  · have HO := hide (hOz hz)
    clear hOz hwk hmgd
    gi_wp2_with (refine ⟨trivial, hdd _, ?_⟩; gi_at_call 61; refine (callsIn_wide.2 hcnt.out).mono ?_; clear hcnt; rintro e W1 ⟨rfl, x1⟩)
    refine bodyPost_ret (results_none rfl _ _ _) rfl ?_
    exact ⟨⟨_, rfl⟩, .inl ⟨[], HO.out.symm, hJ [] _ _ none h0 (grown_ext x1) (fun r e => by cases e)⟩⟩
  · have hw := hide (hwk.out hz)
    clear hOz hwk
    gi_wp2_with (refine ⟨trivial, hdd _, ?_⟩; gi_at_call 61; refine (callsIn_wide.2 hcnt.out).mono ?_; clear hcnt; rintro e W1 ⟨rfl, x1⟩; have d0 := x1.box c0; have d1 := x1.box c1; have d2 := x1.box c2; have d3 := x1.box c3; have d4 := x1.box c4; have d5 := x1.box c5; have d6 := x1.box c6; have d7 := x1.box c7; have d8 := x1.box c8; have d9 := x1.box c9)
    refine ⟨trivial, hdd _, ?_⟩
    refine (callsIn_wide.2 (hmgd.out _)).mono ?_
    rintro e W2 ⟨rfl, x2⟩
    have hJ2 := hide (hJ [] _ _ none (hJ [] _ _ none h0 (grown_ext x1) (fun r e => by cases e)) (grown_ext x2) (fun r e => by cases e))
    have hs1 := x1.bl.size
    have hs2 := x2.bl.size
    clear hmgd d0 d1 d2 d3 d4 d5 d6 d7 d8 d9 c0 c1 c2 c3 c4 c5 c6 c7 c8 c9
    gi_wp2
    refine ⟨trivial, hdd _, ?_⟩
    refine (hw.out _ _ (by simp; omega) (hJ [] _ _ none hJ2.out (World.grownBy_alloc W2 _ none) (fun r e => by cases e))).mono ?_
    rintro e W3 (⟨rfl, hJ3⟩ | ⟨rfl, q, hq, hx⟩)
    · gi_wp2
      go_end0
      exact ⟨⟨_, rfl⟩, .inl ⟨_, rfl, hJ3⟩⟩
    · gi_wp2
      go_end0
      exact ⟨⟨_, rfl⟩, .inr ⟨q, hq, hx⟩⟩

set_option maxRecDepth 100000 in
set_option maxHeartbeats 1000000 in
/-- places: the view is boxed; the function value captures the box. -/
theorem placesF_in (n : Nat) (xs ss : List Int) (off : Int) (w : World) :
    CallsIn Fence.wide n Try.prog 62 #[.agg (vw xs ss off)] w fun e w' => e = .returned (.func (.func 82) #[] #[.pointer (some ⟨w.heap.size, 0, none⟩)]) ∧ w' = w.alloc (.cells (vw xs ss off) 64) := by
  unfold vw
  refine callsIn_of_wp Try.func62 rfl trivial ?_ rfl
  simp only [Try.ntmps62, List.size_toArray, List.length_cons, List.length_nil, Nat.reduceAdd, Nat.reduceSub, Array.replicate_succ, Array.replicate_zero, List.push_toArray, List.append_toArray, List.nil_append, List.cons_append]
  gi_wp2
  go_ret
  exact ⟨rfl, rfl⟩

theorem yield_any {m : Nat} (m' : Nat) {P : Program} {l : Nat} {args : Array Value} {W : World} {R : Ending → World → Prop} (h : YieldAt Fence.wide m P l args W R) : YieldAt Fence.wide m' P l args W R := by
  obtain ⟨fn, tmps, assign, body, hy, hR⟩ := h
  exact ⟨fn, tmps, assign, body, hy, hR.1, fun c cs _ => hR.2 c cs (room_of_none rfl _)⟩
theorem kc_put {n : Nat} {w : World} (W : World) (l : Nat) (o o' : Obj) (_ : w.heap.size ≤ l) (h : W.heap[l]? = some o) (hc : o.isCells = false) (_ : o.isWalk = false) : KC n W (W.putObj l o') := by
  have g := grownBy_putObj' W l o'
  refine ⟨g.size, fun k o2 hb h2 hc2 => ?_⟩
  have hk : k < W.heap.size := (Array.getElem?_eq_some_iff.1 h2).1
  have hne : k ≠ l := fun e => by
    subst e
    rw [h] at h2
    cases h2
    rw [hc] at hc2
    cases hc2
  exact (g.block k hk (fun e => hne (by cases e; rfl))).trans h2

/-- A place of a store. -/
abbrev Pl := { x : Int // 0 ≤ x ∧ x < 4096 }
def plv (ps : List Pl) : List Int := ps.map (·.1)
theorem plv_append (p q : List Pl) : plv (p ++ q) = plv p ++ plv q := List.map_append ..
theorem plv_len (p : List Pl) : (plv p).length = p.length := List.length_map ..

/-- What 'places' answers is a function that goes by the places of the view in order. -/
theorem places_stops (n Bf n₀ : Nat) (xs ss : List Int) (off : Int) (h4 : xs.length ≤ 4) (hl : ss.length = xs.length) (hr : InR xs xs.length) (hp : prod xs ≤ 4096) (hss : InS ss ss.length) (ho : 0 ≤ off ∧ off ≤ 4096) (hPr : ∀ x ∈ offsL xs ss off, 0 ≤ x ∧ x < 4096) (w : World) (hn : n₀ ≤ w.heap.size)
    (hc : ∀ j, j < 10 → w.cell? ⟨Bf, j, none⟩ = (vw xs ss off)[j]?) (hBf : Bf < w.heap.size) :
    SeqStopsK Fence.wide n Try.prog 82 #[.pointer (some ⟨Bf, 0, none⟩)] (fun x : Pl => #[Value.int .i64 x.1]) (KC n₀) (fun ys => plv ys = offsL xs ss off) (fun pre => plv pre <+: offsL xs ss off) (offsL xs ss off).length w := fun l J Jx W hW hJ hJx hY h0 => by
  have hbW : w.heap.size ≤ W.heap.size := hW.size
  have hc2 : ∀ j, j < 10 → W.cell? ⟨Bf, j, none⟩ = (vw xs ss off)[j]? := fun j hj => (hW.cell (p := ⟨Bf, j, none⟩) hBf).trans (hc j hj)
  have key := places1_in n l Bf W.heap.size xs ss off h4 hl hr hp hss ho (fun x => 0 ≤ x ∧ x < 4096) hPr (fun pre W => ∃ ps, plv ps = pre ∧ J ps W) (fun pre W => ∃ ps, plv ps = pre ∧ Jx ps W)
    (fun pre A B row ⟨ps, e, h⟩ hg hrow => ⟨ps, e, hJ ps A B row h hg hrow⟩)
    (fun m pre x A hx ⟨ps, e, h⟩ hlen => by
      subst e
      have hy := yield_any m (hY ps ⟨x, hx⟩ A h (by rw [← plv_len]; exact hlen))
      refine hy.mono ?_
      rintro e W' (⟨rfl, h1, h2⟩ | ⟨rfl, h1⟩)
      · exact .inl ⟨rfl, ⟨_, plv_append _ _, h1⟩, ⟨h2.size, fun k o hb h hc => h2.keep k o (by omega) h hc⟩⟩
      · exact .inr ⟨rfl, ⟨_, plv_append _ _, h1⟩⟩)
    W (Nat.le_refl _) hc2 ⟨[], rfl, h0⟩
  refine key.mono ?_
  rintro e W' ⟨hv, ⟨ys, rfl, ps, e1, h⟩ | ⟨pre, hpre, ps, e1, h⟩⟩
  · exact ⟨hv, .inl ⟨ps, e1, h⟩⟩
  · exact ⟨hv, .inr ⟨ps, by show plv ps <+: _; rw [e1]; exact hpre, h⟩⟩
end Go.Proofs.Ytiekkninnjffpaa
