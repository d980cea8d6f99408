import Derived.Test.YtiekkninnjffpaaSpecWR
namespace Go.Proofs.Ytiekkninnjffpaa
open Go.ChangeShapes Go.RowKit Go.Shelf
set_option linter.unusedSimpArgs false
set_option linter.unusedVariables false

attribute [local go_sem] Oper.semAt_some

theorem make_cap (W : World) (P : Int) (h0 : 0 ≤ P) (h1 : P ≤ 4096) : (Instr.makeSlice 22 (.int .i64 0) (.int .i64 P)).run Try.prog W = .ok (.slice (some ⟨W.heap.size, 0, none⟩) 0 P.toNat) (W.alloc (.cells (madeCells #[.int .i64 0] P.toNat) 2)) := by
  obtain ⟨i0, hi0, hz0, hz1, hz2⟩ := info_parts info2
  have h := run_make (P := Try.prog) W 22 2 i0 (.int .i64 0) Try.underlying22 hi0 hz0 .i64 .i64 0 P (by omega) (by omega) (by rw [hz2]; omega) (by omega)
  rw [hz1, Nat.mul_one] at h
  exact h

theorem KC.grown {b g : Nat} {A B : World} (hg : A.grownBy B (some g)) (h : g < b) : KC b A B :=
  ⟨hg.size, fun k o hk ho _ => (hg.block k (Array.getElem?_eq_some_iff.1 ho).1 (fun e => by cases e; omega)).trans ho⟩
theorem offs_cap {xs ss : List Int} {off : Int} (hv : ValidV xs ss off) : (offsL xs ss off).length ≤ (prod xs).toNat := by
  unfold offsL
  split
  · simp
  · rw [places_len xs ss off hv.2.1.symm]
    have h1 := prod_plen (fun m hm => (good_nonneg hv.1 m hm).1)
    omega

/-- The world where the loop begins. -/
structure OSt (w W0 : World) (b P : Nat) : Prop where
  size : W0.heap.size = b + 5
  box : Boxed W0 (b + 1 + 1 + 1) 22 (.slice (some ⟨b + 1 + 1, 0, none⟩) 0 P)
  row : W0.ownsRow w.heap.size 2 1 (.slice (some ⟨b + 1 + 1, 0, none⟩) 0 P) 0 []
  bl : Below w.heap.size w W0
theorem OSt.start {w w2 : World} {b P : Nat} (hs : w2.heap.size = b + 1 + 1) (hb : Below w.heap.size w w2) (hP : P ≤ 4096) (MC V : Array Value) (hM : MC.size = P) :
    OSt w (((w2.alloc (.cells MC 2)).alloc (.cells #[.slice (some ⟨b + 1 + 1, 0, none⟩) 0 P] 22)).alloc (.cells V 64)) b P := by
  have hw := hb.size
  refine ⟨by simp; omega, ?_, ?_, ((hb.alloc hw _).alloc (by simp; omega) _).alloc (by simp; omega) _⟩
  · have h := (Boxed.new (w2.alloc (.cells MC 2)) 22 (.slice (some ⟨b + 1 + 1, 0, none⟩) 0 P)).alloc (.cells V 64)
    rw [World.size_alloc, hs] at h
    exact h
  · refine World.ownsRow.alloc (World.ownsRow.alloc ?_ _) _
    have h := World.alloc_heap_new w2 (.cells MC 2)
    rw [hs] at h
    exact ⟨by simp, .inr ⟨b + 1 + 1, P, MC, rfl, by omega, h, by omega, by unfold maxLen; omega, by omega, by simp⟩⟩

set_option maxRecDepth 100000 in
set_option maxHeartbeats 2000000 in
theorem iOF_in {w : World} {vS vT : Value} {xs ss : List Int} (hS : Ints w vS xs) (hT : Ints w vT ss) (off : Int) (lx : xs.length ≤ 1048576) (ls : ss.length ≤ 1048576) (n : Nat) (hn : 3 ≤ n) :
    CallsIn Fence.wide n Try.prog 31 #[.agg #[vS, vT, .int .i64 off]] w fun e w' => ListOk w (offsA xs ss off) e w' := by
  have x0 : Ext w (w.alloc (.cells #[vS, vT, .int .i64 off] 27)) := (Ext.refl w).alloc _ _
  have X0 := hide x0
  have HS := hide (hS.ext x0)
  have HT := hide (hT.ext x0)
  obtain ⟨sa, cap, rfl, _⟩ := hS
  obtain ⟨ta, dap, rfl, _⟩ := hT
  clear x0
  have hdd : ∀ k : Nat, (Fence.wide.depth.isSome = true → 1 ≤ k) := fun k h => by cases h
  refine callsIn_of_wp_marks Try.func31 rfl trivial ?_ rfl
  simp only [Try.ntmps31, List.size_toArray, List.length_cons, List.length_nil, Nat.reduceAdd, Nat.reduceSub, Array.replicate_succ, Array.replicate_zero, List.push_toArray, List.append_toArray, List.nil_append, List.cons_append]
  gi_wp2
  refine ⟨trivial, hdd _, ?_⟩
  refine (callsIn_wide.2 (fixView_any HS.out HT.out off lx ls)).mono ?_
  rintro e w1 ⟨A, rfl, hA, hex, x1⟩
  have X1 := hide (X0.out.trans x1)
  clear x1
  by_cases hv : ValidV xs ss off
  · have hA1 := hA hv
    subst hA1
    clear hA hex HS HT X0
    rw [dcValidV_t hv]
    have hl4 := hv.1.1
    have hpb : 0 ≤ prod xs ∧ prod xs ≤ 4096 := ⟨by have := prod_plen (fun m hm => (good_nonneg hv.1 m hm).1); omega, hv.1.2.2⟩
    have hcnt := hide (fun W => count_any W xs hv.1.1 hv.1.2.1)
    have hpl := hide (fun n W => placesF_in n xs ss off W)
    have hst := hide (fun n Bf W hB => placesK n Bf xs ss off hv.1.1 hv.2.1 hv.1.2.1 hv.1.2.2 hv.2.2.2.1 hv.2.2.1 (offs_in hv) W hB)
    have hOP := offs_cap hv
    have hAL : Hid (offsA xs ss off = offsL xs ss off) := if_pos hv
    clear hv
    have hmk := fun W => make_cap W (prod xs) hpb.1 hpb.2
    unfold vw at hpl hst ⊢
    unfold shp at hcnt
    generalize hOL : offsL xs ss off = OL at hst hOP
    have HOL := hide hOL
    clear hOL
    generalize xs.getD 0 0 = a0 at *
    generalize xs.getD 1 0 = a1 at *
    generalize xs.getD 2 0 = a2 at *
    generalize xs.getD 3 0 = a3 at *
    generalize ss.getD 0 0 = s0 at *
    generalize ss.getD 1 0 = s1 at *
    generalize ss.getD 2 0 = s2 at *
    generalize ss.getD 3 0 = s3 at *
    generalize hP : prod xs = P at *
    have HP := hide hP
    clear hP
    gi_wp2
    refine ⟨trivial, hdd _, ?_⟩
    refine (callsIn_wide.2 (hcnt.out _)).mono ?_
    rintro e w2 ⟨rfl, hw2⟩
    have hmk2 := hmk w2
    have hs2 : w2.heap.size = w1.heap.size + 1 + 1 := by rw [hw2]; simp
    have kk : ∀ j, j < 10 → w2.cell? ⟨w1.heap.size, j, none⟩ = (#[.int .i64 xs.length, .int .i64 a0, .int .i64 a1, .int .i64 a2, .int .i64 a3, .int .i64 s0, .int .i64 s1, .int .i64 s2, .int .i64 s3, .int .i64 off] : Array Value)[j]? := fun j hj => by
      rw [hw2]
      rw [show (World.alloc (w1.alloc _) _).cell? ⟨w1.heap.size, j, none⟩ = _ from ((Below.refl _ (w1.alloc _)).alloc (Nat.le_refl _) _).cell (p := ⟨w1.heap.size, j, none⟩) (by show w1.heap.size < _; simp)]
      exact new_cell w1 _ 64 _ rfl j
    have k0 : w2.cell? ⟨w1.heap.size, 0, none⟩ = some (.int .i64 xs.length) := kk 0 (by omega)
    have k1 : w2.cell? ⟨w1.heap.size, 1, none⟩ = some (.int .i64 a0) := kk 1 (by omega)
    have k2 : w2.cell? ⟨w1.heap.size, 2, none⟩ = some (.int .i64 a1) := kk 2 (by omega)
    have k3 : w2.cell? ⟨w1.heap.size, 3, none⟩ = some (.int .i64 a2) := kk 3 (by omega)
    have k4 : w2.cell? ⟨w1.heap.size, 4, none⟩ = some (.int .i64 a3) := kk 4 (by omega)
    have k5 : w2.cell? ⟨w1.heap.size, 5, none⟩ = some (.int .i64 s0) := kk 5 (by omega)
    have k6 : w2.cell? ⟨w1.heap.size, 6, none⟩ = some (.int .i64 s1) := kk 6 (by omega)
    have k7 : w2.cell? ⟨w1.heap.size, 7, none⟩ = some (.int .i64 s2) := kk 7 (by omega)
    have k8 : w2.cell? ⟨w1.heap.size, 8, none⟩ = some (.int .i64 s3) := kk 8 (by omega)
    have k9 : w2.cell? ⟨w1.heap.size, 9, none⟩ = some (.int .i64 off) := kk 9 (by omega)
    have X2 : Hid (Below w.heap.size w w2) := by rw [hw2]; exact ((X1.out.alloc _ _).alloc _ _).bl
    have O0 := hide (OSt.start hs2 X2.out (show P.toNat ≤ 4096 by omega) (madeCells #[Value.int .i64 0] P.toNat) #[.int .i64 xs.length, .int .i64 a0, .int .i64 a1, .int .i64 a2, .int .i64 a3, .int .i64 s0, .int .i64 s1, .int .i64 s2, .int .i64 s3, .int .i64 off] (size_madeCells _ _))
    have hst2 := hide (hst.out (n - 1) (w1.heap.size + 1 + 1 + 1 + 1) ((w2.alloc (.cells (madeCells #[Value.int .i64 0] P.toNat) 2)).alloc (.cells #[.slice (some ⟨w1.heap.size + 1 + 1, 0, none⟩) 0 P.toNat] 22)) (by simp; omega))
    have hww := hide X2.out.size
    clear kk hw2 hmk hcnt X1 hst
    have hlt1 : w1.heap.size < w2.heap.size := by omega
    generalize hMC : madeCells #[Value.int .i64 0] P.toNat = MC at *
    have l0 := cell_al (.cells #[.slice (some ⟨w2.heap.size, 0, none⟩) 0 P.toNat] 22) (cell_al (.cells MC 2) k0)
    have l1 := cell_al (.cells #[.slice (some ⟨w2.heap.size, 0, none⟩) 0 P.toNat] 22) (cell_al (.cells MC 2) k1)
    have l2 := cell_al (.cells #[.slice (some ⟨w2.heap.size, 0, none⟩) 0 P.toNat] 22) (cell_al (.cells MC 2) k2)
    have l3 := cell_al (.cells #[.slice (some ⟨w2.heap.size, 0, none⟩) 0 P.toNat] 22) (cell_al (.cells MC 2) k3)
    have l4 := cell_al (.cells #[.slice (some ⟨w2.heap.size, 0, none⟩) 0 P.toNat] 22) (cell_al (.cells MC 2) k4)
    have l5 := cell_al (.cells #[.slice (some ⟨w2.heap.size, 0, none⟩) 0 P.toNat] 22) (cell_al (.cells MC 2) k5)
    have l6 := cell_al (.cells #[.slice (some ⟨w2.heap.size, 0, none⟩) 0 P.toNat] 22) (cell_al (.cells MC 2) k6)
    have l7 := cell_al (.cells #[.slice (some ⟨w2.heap.size, 0, none⟩) 0 P.toNat] 22) (cell_al (.cells MC 2) k7)
    have l8 := cell_al (.cells #[.slice (some ⟨w2.heap.size, 0, none⟩) 0 P.toNat] 22) (cell_al (.cells MC 2) k8)
    have l9 := cell_al (.cells #[.slice (some ⟨w2.heap.size, 0, none⟩) 0 P.toNat] 22) (cell_al (.cells MC 2) k9)
    gi_wp2
    refine ⟨trivial, hdd _, ?_⟩
    refine (hpl.out _ _).mono ?_
    rintro e w' ⟨rfl, rfl⟩
    clear hpl l0 l1 l2 l3 l4 l5 l6 l7 l8 l9 k0 k1 k2 k3 k4 k5 k6 k7 k8 k9 hmk2
    have h1 : 1 ≤ n := by omega
    gi_wp2
    generalize hW0 : World.alloc ((w2.alloc _).alloc _) _ = W0 at O0 hst2 ⊢
    clear hW0
    have hsz := O0.out.size
    have hw2' := hww.out
    obtain ⟨i0, hi0, hz0, hz1, hz2⟩ := info_parts info2
    refine wpIn_rangeFunc_ownF rfl h1 (gf := 82) (lb := #[.pointer (some ⟨w1.heap.size + 1 + 1 + 1 + 1, 0, none⟩)]) rfl trivial (enters_of Try.func82 (by kernel_rfl) rfl)
      hst2.out (fun h k => KC.trans h k) (fun W l o o' h1 h2 h3 h4 => kc_put W l o o' h1 h2 h3 h4) (Below.refl _ _) (fun _ => rfl)
      (fun pre W => (∃ v, Boxed W (w1.heap.size + 1 + 1 + 1) 22 v ∧ W.ownsRow w.heap.size 2 1 v pre.length ((plv pre).map (Value.int .i64)) ∧ v = .slice (some ⟨w1.heap.size + 1 + 1, 0, none⟩) pre.length P.toNat) ∧ Below w.heap.size w W)
      (fun _ _ _ => False)
      (OwnFrom.and (Own.from (holdsRow_own w.heap.size (w1.heap.size + 1 + 1 + 1) 22 2 1 (fun pre : List Pl => pre.length) (fun pre => (plv pre).map (Value.int .i64)) (fun pre v => v = .slice (some ⟨w1.heap.size + 1 + 1, 0, none⟩) pre.length P.toNat)) _) (ownFrom_below (Nat.le_refl _) (by omega)))
      (fun _ _ _ _ _ hs _ _ => hs)
      ⟨⟨_, O0.out.box, O0.out.row, rfl⟩, O0.out.bl⟩
      (fun x => { tmps := #[.agg #[.slice sa xs.length cap, .slice ta ss.length dap, .int .i64 off], .pointer (some ⟨w.heap.size, 0, none⟩), .slice none 0 0, .pointer (some ⟨w1.heap.size, 0, none⟩), .bool true, .pointer (some ⟨w1.heap.size + 1 + 1 + 1, 0, none⟩), .int .i64 x.1, .tuple #[.agg #[.int .i64 xs.length, .int .i64 a0, .int .i64 a1, .int .i64 a2, .int .i64 a3, .int .i64 s0, .int .i64 s1, .int .i64 s2, .int .i64 s3, .int .i64 off], .bool true], .agg #[.slice sa xs.length cap, .slice ta ss.length dap, .int .i64 off], .tuple #[.agg #[.int .i64 xs.length, .int .i64 a0, .int .i64 a1, .int .i64 a2, .int .i64 a3, .int .i64 s0, .int .i64 s1, .int .i64 s2, .int .i64 s3, .int .i64 off], .bool true], .agg #[.int .i64 xs.length, .int .i64 a0, .int .i64 a1, .int .i64 a2, .int .i64 a3, .int .i64 s0, .int .i64 s1, .int .i64 s2, .int .i64 s3, .int .i64 off], .bool true, .bool true, .bool false, undef, .pointer (some ⟨w1.heap.size, 0, none⟩), .agg #[.int .i64 xs.length, .int .i64 a0, .int .i64 a1, .int .i64 a2, .int .i64 a3], .int .i64 P, .slice (some ⟨w1.heap.size + 1 + 1, 0, none⟩) 0 P.toNat, .agg #[.int .i64 xs.length, .int .i64 a0, .int .i64 a1, .int .i64 a2, .int .i64 a3, .int .i64 s0, .int .i64 s1, .int .i64 s2, .int .i64 s3, .int .i64 off], .func (.func 82) #[] #[.pointer (some ⟨w1.heap.size + 1 + 1 + 1 + 1, 0, none⟩)], .int .i64 x.1, undef, undef, undef, undef, undef], defers := [] }) ?assign ?body ?done ?stop
    case assign =>
      intro l x W K hK
      gi_wp2
      exact hK
    case body =>
      rintro l pre ⟨x, hx⟩ W ⟨⟨v, hbox, hrow, rfl⟩, hB⟩ hlen
      have hc0 := hbox.cell
      have hWs := hbox.lt
      gi_wp2_with (gi_at_builtin; refine wpListIn_append_fits _ rfl _ _ 22 rfl w.heap.size 2 i0 1 Try.underlying22 hi0 hz1 (w1.heap.size + 1 + 1) pre.length P.toNat _ rfl (hrow.alloc _) ⟨W.heap.size, 0, none⟩ 1 1 [.int .i64 x] rfl rfl (cell_one_new _ _ _) (by simp [Value.oneCell']) (by omega) ?_; intro w3 hown' hgrow; obtain ⟨hv1, hv2, hr2, hk2, hb2⟩ := hbox.appended (by decide) hrow hB.size (by omega) hown' hgrow; have hc1 := hv1.cell; have hf1 := hv1.frozen)
      refine ⟨hk2, ((KC.alloc _ W _).trans (KC.grown hgrow (by omega))).trans (KC.setCell w3 (p := ⟨w1.heap.size + 1 + 1 + 1, 0, none⟩) (by show w1.heap.size + 1 + 1 + 1 < _; omega) _), ⟨_, hv2, ?_, ?_⟩, hB.trans hb2⟩
      · simpa [plv] using hr2
      · simp
    case done =>
      rintro D ys W hD hS ⟨⟨v, hbox, hrow, rfl⟩, hB⟩ hK
      have hc0 := hbox.cell
      gi_wp2
      refine ⟨by simp, .inl ⟨_, _, rfl, run_takeDeferred hK, ?_⟩⟩
      refine ⟨_, results_tmp rfl _ _ _, ?_⟩
      have hrow2 := hrow.kept (grownBy_putObj' W D (.deferred none)) (.inr (fun e => by
        have : w1.heap.size + 1 + 1 = D := by simpa [Value.ownBlock] using e
        omega))
      obtain ⟨sa3, cap3, e3, o3⟩ := own_of (w := w) (Nat.le_refl _) hrow2
      rw [hAL.out, HOL.out, ← hS]
      refine ⟨sa3, cap3, ?_, o3, hB.trans (belowK_b (w := w) (Nat.le_refl _) W D _ _ (by omega) hK rfl rfl)⟩
      rw [← e3]
      rfl
    case stop =>
      rintro D c pre W _ _ h _
      exact h.elim
  · have hno : Hid (offsA xs ss off = []) := if_neg hv
    rw [dcValidV_f hv]
    obtain ⟨a0, a1, a2, a3, a4, a5, a6, a7, a8, a9, rfl⟩ := hex
    clear hA hv HS HT X0
    gi_wp2
    refine ⟨_, results_tmp rfl _ _ _, ?_⟩
    exact list_nil hno.out _ _ ((X1.out.alloc _ _).alloc _ _).bl
end Go.Proofs.Ytiekkninnjffpaa
