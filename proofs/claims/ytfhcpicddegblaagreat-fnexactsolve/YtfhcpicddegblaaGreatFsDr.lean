import Derived.Test.YtfhcpicddegblaaGreatFsCh
import Derived.Test.YtfhcpicddegblaaGreatM9
namespace Go.Proofs.YtfhcpicddegblaaGreat
open Go.ChangeShapes Go.RowKit FL
set_option linter.unusedSimpArgs false
set_option linter.unusedVariables false

theorem HOwn.keep {w w' : World} {lo g : Nat} {cb : Nat → Nat} {ss : List St} (h : HOwn w lo g cb ss) (hb : ∀ b, lo ≤ b → b < w.heap.size → w'.heap[b]? = w.heap[b]?) (hs : w.heap.size ≤ w'.heap.size) : HOwn w' lo g cb ss := by
  have hlg := h.lo_g
  have hc : ∀ {b o x}, lo ≤ b → w.cell? ⟨b, o, none⟩ = some x → w'.cell? ⟨b, o, none⟩ = some x := fun {b o x} hl hx => (World.cell?_of_block (w := w) (a := ⟨b, o, none⟩) (hb b hl (cell_lt hx))).trans hx
  refine ⟨fun j hj => hc h.lo_g (h.dt j hj), fun j hj => ?_, fun j hj hne => ?_, fun o => (World.frozen?_of_block (w := w) (a := ⟨g, o, none⟩) (hb g h.lo_g h.g_lt)).trans (h.fz o), fun j hj hne o => ?_, h.lo_g, Nat.lt_of_lt_of_le h.g_lt hs, h.g_cb, h.inc⟩
  · obtain ⟨sa, cap, h1, h2⟩ := h.sl j hj
    exact ⟨sa, cap, hc h.lo_g h1, h2⟩
  · have hl : lo ≤ cb j := by have := h.g_cb j hj hne; omega
    have hr := h.row j hj hne
    exact fun i hi => ⟨hc hl (hr i hi).1, hc hl (hr i hi).2.1, hc hl (hr i hi).2.2⟩
  · have hl : lo ≤ cb j := by have := h.g_cb j hj hne; omega
    have hlt := cell_lt (h.row j hj hne 0 (List.length_pos_iff.2 hne)).1
    exact (World.frozen?_of_block (w := w) (a := ⟨cb j, o, none⟩) (hb _ hl hlt)).trans (h.fzr j hj hne o)
theorem HOwn.lower {w : World} {lo lo' g : Nat} {cb : Nat → Nat} {ss : List St} (h : HOwn w lo g cb ss) (hl : lo' ≤ lo) : HOwn w lo' g cb ss :=
  ⟨h.dt, h.sl, h.row, h.fz, h.fzr, Nat.le_trans hl h.lo_g, h.g_lt, h.g_cb, h.inc⟩

set_option maxRecDepth 100000 in
set_option maxHeartbeats 2000000 in
theorem draft_any {w : World} {v : Value} {ss : List St} (h : SV w v ss) (hl : SL ss 1048576) (a a0 a1 a2 a3 b0 b1 b2 b3 off dt : Int) (m : Nat) (u : Value) (hm : m < ss.length) :
    Calls Tryz.prog 88 #[.agg #[.int .i64 a, .int .i64 a0, .int .i64 a1, .int .i64 a2, .int .i64 a3, .int .i64 b0, .int .i64 b1, .int .i64 b2, .int .i64 b3, .int .i64 off, .int .i64 m, .int .i64 dt, u], .agg #[v], .int .i64 8] w fun e w' => ∃ g cb sb cp, e = .returned (.agg #[.slice (some ⟨g, 0, none⟩) ss.length ss.length, .slice sb (ss.getD m s0).2.length cp, .int .i64 8, .int .i64 dt]) ∧ HOwn w' w.heap.size g cb ss ∧ Bel w w' ∧ w'.cell? ⟨g, m * 2 + 1, none⟩ = some (.slice sb (ss.getD m s0).2.length cp) := by
  obtain ⟨sa, cap, rfl, hx⟩ := h
  have h : SV w (.slice sa ss.length cap) ss := ⟨sa, cap, rfl, hx⟩
  have hl1 := hl.1
  have x0 : Ext w (((w.alloc (.cells #[.int .i64 a, .int .i64 a0, .int .i64 a1, .int .i64 a2, .int .i64 a3, .int .i64 b0, .int .i64 b1, .int .i64 b2, .int .i64 b3, .int .i64 off, .int .i64 m, .int .i64 dt, u] 85)).alloc (.cells #[.slice sa ss.length cap] 34)).alloc (.cells #[.slice none 0 0, .slice none 0 0, .int .i64 0, .int .i64 0] 148)) := (((Ext.refl w).alloc _ _).alloc _ _).alloc _ _
  have hs0 : ((((w.alloc (.cells #[.int .i64 a, .int .i64 a0, .int .i64 a1, .int .i64 a2, .int .i64 a3, .int .i64 b0, .int .i64 b1, .int .i64 b2, .int .i64 b3, .int .i64 off, .int .i64 m, .int .i64 dt, u] 85)).alloc (.cells #[.slice sa ss.length cap] 34)).alloc (.cells #[.slice none 0 0, .slice none 0 0, .int .i64 0, .int .i64 0] 148))).heap.size = w.heap.size + 3 := by simp
  have xa : Ext (w.alloc (.cells #[.int .i64 a, .int .i64 a0, .int .i64 a1, .int .i64 a2, .int .i64 a3, .int .i64 b0, .int .i64 b1, .int .i64 b2, .int .i64 b3, .int .i64 off, .int .i64 m, .int .i64 dt, u] 85)) (((w.alloc (.cells #[.int .i64 a, .int .i64 a0, .int .i64 a1, .int .i64 a2, .int .i64 a3, .int .i64 b0, .int .i64 b1, .int .i64 b2, .int .i64 b3, .int .i64 off, .int .i64 m, .int .i64 dt, u] 85)).alloc (.cells #[.slice sa ss.length cap] 34)).alloc (.cells #[.slice none 0 0, .slice none 0 0, .int .i64 0, .int .i64 0] 148)) := ((Ext.refl _).alloc _ _).alloc _ _
  have k10 := xa.box (new_cell w #[.int .i64 a, .int .i64 a0, .int .i64 a1, .int .i64 a2, .int .i64 a3, .int .i64 b0, .int .i64 b1, .int .i64 b2, .int .i64 b3, .int .i64 off, .int .i64 m, .int .i64 dt, u] 85 w.heap.size rfl 10)
  have k11 := xa.box (new_cell w #[.int .i64 a, .int .i64 a0, .int .i64 a1, .int .i64 a2, .int .i64 a3, .int .i64 b0, .int .i64 b1, .int .i64 b2, .int .i64 b3, .int .i64 off, .int .i64 m, .int .i64 dt, u] 85 w.heap.size rfl 11)
  have nr := fun j => new_cell ((w.alloc (.cells #[.int .i64 a, .int .i64 a0, .int .i64 a1, .int .i64 a2, .int .i64 a3, .int .i64 b0, .int .i64 b1, .int .i64 b2, .int .i64 b3, .int .i64 off, .int .i64 m, .int .i64 dt, u] 85)).alloc (.cells #[.slice sa ss.length cap] 34)) #[.slice none 0 0, .slice none 0 0, .int .i64 0, .int .i64 0] 148 (w.heap.size + 2) (by simp) j
  have r0 := nr 0
  have r1 := nr 1
  have r2 := nr 2
  have r3 := nr 3
  simp only [List.getElem?_toArray, List.getElem?_cons_zero, List.getElem?_cons_succ] at r0 r1 r2 r3 k10 k11
  have HCP := hide (copyHeap_any (h.keep x0.bl) hl)
  have X0 := hide x0
  have HS0 := hide hs0
  clear hx h xa nr x0 hs0 hl
  go_enter Tryz.func88, Tryz.ntmps88
  go_wp2_with fail
  generalize (((w.alloc (.cells #[.int .i64 a, .int .i64 a0, .int .i64 a1, .int .i64 a2, .int .i64 a3, .int .i64 b0, .int .i64 b1, .int .i64 b2, .int .i64 b3, .int .i64 off, .int .i64 m, .int .i64 dt, u] 85)).alloc (.cells #[.slice sa ss.length cap] 34)).alloc (.cells #[.slice none 0 0, .slice none 0 0, .int .i64 0, .int .i64 0] 148)) = W0 at *
  refine HCP.out.mono ?_
  rintro e w2 ⟨g, cb, rfl, hO, hB⟩
  have hlg := hO.lo_g
  have hgl := hO.g_lt
  rw [HS0.out] at hlg
  have k10 := Bel.box hB k10
  have k11 := Bel.box hB k11
  have r0 := Bel.box hB r0
  have r1 := Bel.box hB r1
  have r2 := Bel.box hB r2
  have r3 := Bel.box hB r3
  obtain ⟨sb, cb', kc, kd⟩ := hO.sl m hm
  have fz := fun (q : Nat) => (Below.frozen hB (p := ⟨w.heap.size + 2, q, none⟩) (cell_lt (Bel.box (Below.refl _ _) r0) |> fun _ => by rw [HS0.out]; show w.heap.size + 2 < _; omega)).trans (X0.out.unfrozen (by omega) q)
  have f0 := fz 0
  have f1 := fz 1
  have f2 := fz 2
  have f3 := fz 3
  have HO := hide hO
  have HB := hide (Bel.tr X0.out.bl hB)
  have hw2 := Below.size hB
  rw [HS0.out] at hw2
  clear HCP hO hB fz kd
  generalize hcs : (ss.getD m s0).2 = cs at kc ⊢
  have Hcs := hide hcs
  clear hcs
  have x3 : Ext w2 (w2.alloc (.cells #[.slice (some ⟨g, 0, none⟩) ss.length ss.length] 34)) := (Ext.refl _).alloc _ _
  have n3 := new_cell w2 #[.slice (some ⟨g, 0, none⟩) ss.length ss.length] 34 w2.heap.size rfl 0
  have SA : Hid ((fun w' : World => w'.cell? ⟨w2.heap.size, 0, none⟩ = some (.slice (some ⟨g, 0, none⟩) ss.length ss.length) ∧ w'.cell? ⟨w.heap.size, 10, none⟩ = some (.int .i64 m) ∧ w'.cell? ⟨w.heap.size, 11, none⟩ = some (.int .i64 dt) ∧ w'.cell? ⟨g, m * 2 + 1, none⟩ = some (.slice sb cs.length cb')) (w2.alloc (.cells #[.slice (some ⟨g, 0, none⟩) ss.length ss.length] 34)).drew) := ⟨n3, x3.box k10, x3.box k11, x3.box kc⟩
  have r0 := x3.box r0
  have r1 := x3.box r1
  have r2 := x3.box r2
  have r3 := x3.box r3
  have f0 := (x3.fz _).trans f0
  have f1 := (x3.fz _).trans f1
  have f2 := (x3.fz _).trans f2
  have f3 := (x3.fz _).trans f3
  have X3 := hide x3
  have kg : w.heap.size + 2 ≠ g := by omega
  have hm0 : (0 : Int) ≤ (m : Int) := Int.natCast_nonneg _
  have hm1 : (m : Int) < (ss.length : Int) := by omega
  clear x3 n3 k10 k11 kc
  go_wp2_with fail
  generalize w2.alloc (.cells #[.slice (some ⟨g, 0, none⟩) ss.length ss.length] 34) = W3 at *
  refine region_u (S := (fun w' : World => w'.cell? ⟨w2.heap.size, 0, none⟩ = some (.slice (some ⟨g, 0, none⟩) ss.length ss.length) ∧ w'.cell? ⟨w.heap.size, 10, none⟩ = some (.int .i64 m) ∧ w'.cell? ⟨w.heap.size, 11, none⟩ = some (.int .i64 dt) ∧ w'.cell? ⟨g, m * 2 + 1, none⟩ = some (.slice sb cs.length cb'))) (late := [12]) (by kernel_rfl) ?_
  refine wpAnyU_take (i := 0) (v := .agg #[.slice (some ⟨g, 0, none⟩) ss.length ss.length]) rfl (by kernel_rfl) (by kernel_rfl) (fun _ _ _ h => by cases h.1) _ (by kernel_rfl) (by kernel_rfl) (Or.inl ⟨by rfl, ?_⟩) SA.out ?_
  · intro w' hSw
    obtain ⟨z0, z1, z2, z3⟩ := hSw
    go_simp
  simp only [Act.put, List.setIfInBounds_toArray, List.set_cons_zero, List.set_cons_succ]
  refine wpAnyU_take (i := 1) (v := .pointer (some ⟨w2.heap.size, 0, none⟩)) rfl (by kernel_rfl) (by kernel_rfl) (fun _ _ _ h => by cases h.1) _ (by kernel_rfl) (by kernel_rfl) (Or.inl ⟨by rfl, ?_⟩) SA.out ?_
  · intro w' hSw
    obtain ⟨z0, z1, z2, z3⟩ := hSw
    go_simp
  simp only [Act.put, List.setIfInBounds_toArray, List.set_cons_zero, List.set_cons_succ]
  refine wpAnyU_take (i := 2) (v := .slice (some ⟨g, 0, none⟩) ss.length ss.length) rfl (by kernel_rfl) (by kernel_rfl) (fun _ _ _ h => by cases h.1) _ (by kernel_rfl) (by kernel_rfl) (Or.inl ⟨by rfl, ?_⟩) SA.out ?_
  · intro w' hSw
    obtain ⟨z0, z1, z2, z3⟩ := hSw
    go_simp
  simp only [Act.put, List.setIfInBounds_toArray, List.set_cons_zero, List.set_cons_succ]
  refine wpAnyU_take (i := 3) (v := .pointer (some ⟨w.heap.size, 10, none⟩)) rfl (by kernel_rfl) (by kernel_rfl) (fun _ _ _ h => by cases h.1) _ (by kernel_rfl) (by kernel_rfl) (Or.inl ⟨by rfl, ?_⟩) SA.out ?_
  · intro w' hSw
    obtain ⟨z0, z1, z2, z3⟩ := hSw
    go_simp
  simp only [Act.put, List.setIfInBounds_toArray, List.set_cons_zero, List.set_cons_succ]
  refine wpAnyU_take (i := 4) (v := .int .i64 m) rfl (by kernel_rfl) (by kernel_rfl) (fun _ _ _ h => by cases h.1) _ (by kernel_rfl) (by kernel_rfl) (Or.inl ⟨by rfl, ?_⟩) SA.out ?_
  · intro w' hSw
    obtain ⟨z0, z1, z2, z3⟩ := hSw
    go_simp
  simp only [Act.put, List.setIfInBounds_toArray, List.set_cons_zero, List.set_cons_succ]
  refine wpAnyU_take (i := 5) (v := .pointer (some ⟨g, m * 2, none⟩)) rfl (by kernel_rfl) (by kernel_rfl) (fun _ _ _ h => by cases h.1) _ (by kernel_rfl) (by kernel_rfl) (Or.inl ⟨by rfl, ?_⟩) SA.out ?_
  · intro w' hSw
    obtain ⟨z0, z1, z2, z3⟩ := hSw
    go_simp
  simp only [Act.put, List.setIfInBounds_toArray, List.set_cons_zero, List.set_cons_succ]
  refine wpAnyU_take (i := 6) (v := .pointer (some ⟨g, m * 2 + 1, none⟩)) rfl (by kernel_rfl) (by kernel_rfl) (fun _ _ _ h => by cases h.1) _ (by kernel_rfl) (by kernel_rfl) (Or.inl ⟨by rfl, ?_⟩) SA.out ?_
  · intro w' hSw
    obtain ⟨z0, z1, z2, z3⟩ := hSw
    go_simp
  simp only [Act.put, List.setIfInBounds_toArray, List.set_cons_zero, List.set_cons_succ]
  refine wpAnyU_take (i := 7) (v := .slice sb cs.length cb') rfl (by kernel_rfl) (by kernel_rfl) (fun _ _ _ h => by cases h.1) _ (by kernel_rfl) (by kernel_rfl) (Or.inl ⟨by rfl, ?_⟩) SA.out ?_
  · intro w' hSw
    obtain ⟨z0, z1, z2, z3⟩ := hSw
    go_simp
  simp only [Act.put, List.setIfInBounds_toArray, List.set_cons_zero, List.set_cons_succ]
  refine wpAnyU_take (i := 8) (v := .int .i64 8) rfl (by kernel_rfl) (by kernel_rfl) (fun _ _ _ h => by cases h.1) _ (by kernel_rfl) (by kernel_rfl) (Or.inl ⟨by rfl, ?_⟩) SA.out ?_
  · intro w' hSw
    obtain ⟨z0, z1, z2, z3⟩ := hSw
    go_simp
  simp only [Act.put, List.setIfInBounds_toArray, List.set_cons_zero, List.set_cons_succ]
  refine wpAnyU_take (i := 9) (v := .pointer (some ⟨w.heap.size, 11, none⟩)) rfl (by kernel_rfl) (by kernel_rfl) (fun _ _ _ h => by cases h.1) _ (by kernel_rfl) (by kernel_rfl) (Or.inl ⟨by rfl, ?_⟩) SA.out ?_
  · intro w' hSw
    obtain ⟨z0, z1, z2, z3⟩ := hSw
    go_simp
  simp only [Act.put, List.setIfInBounds_toArray, List.set_cons_zero, List.set_cons_succ]
  refine wpAnyU_take (i := 10) (v := .int .i64 dt) rfl (by kernel_rfl) (by kernel_rfl) (fun _ _ _ h => by cases h.1) _ (by kernel_rfl) (by kernel_rfl) (Or.inl ⟨by rfl, ?_⟩) SA.out ?_
  · intro w' hSw
    obtain ⟨z0, z1, z2, z3⟩ := hSw
    go_simp
  simp only [Act.put, List.setIfInBounds_toArray, List.set_cons_zero, List.set_cons_succ]
  refine wpAnyU_take (i := 11) (v := .agg #[.slice (some ⟨g, 0, none⟩) ss.length ss.length, .slice sb cs.length cb', .int .i64 8, .int .i64 dt]) rfl (by kernel_rfl) (by kernel_rfl) (fun _ _ _ h => by cases h.1) _ (by kernel_rfl) (by kernel_rfl) (Or.inl ⟨by rfl, ?_⟩) SA.out ?_
  · intro w' hSw
    obtain ⟨z0, z1, z2, z3⟩ := hSw
    go_simp
  simp only [Act.put, List.setIfInBounds_toArray, List.set_cons_zero, List.set_cons_succ]
  refine wpAnyU_one (i := 12) (by kernel_rfl) rfl (fun K hK => ?_)
  go_simp
  refine hK.out _ _ (fun h => absurd h (by decide)) ?_
  clear hK K
  try simp only [Act.put, List.setIfInBounds_toArray, List.set_cons_zero, List.set_cons_succ]
  refine wpAnyU_done (by kernel_rfl) ?_ _
  refine ⟨rfl, ?_⟩
  go_wp2_with fail
  have hb8 : ∀ b, b ≠ w.heap.size + 2 → ((((W3.setCell ⟨w.heap.size + 2, 0, none⟩ (.slice (some ⟨g, 0, none⟩) ss.length ss.length)).setCell ⟨w.heap.size + 2, 1, none⟩ (.slice sb cs.length cb')).setCell ⟨w.heap.size + 2, 2, none⟩ (.int .i64 8)).setCell ⟨w.heap.size + 2, 3, none⟩ (.int .i64 dt)).heap[b]? = W3.heap[b]? := fun b hb => (Below.heap_setCell _ _ _ _ hb).trans ((Below.heap_setCell _ _ _ _ hb).trans ((Below.heap_setCell _ _ _ _ hb).trans (Below.heap_setCell _ _ _ _ hb)))
  refine bodyPost_ret (v := .agg #[.slice (some ⟨g, 0, none⟩) ss.length ss.length, .slice sb cs.length cb', .int .i64 8, .int .i64 dt]) (by simp [results, Tryz.results88, go_sem, r0, r1, r2, r3]) rfl ⟨g, cb, sb, cb', by rw [Hcs.out], ?_, ?_, ?_⟩
  · refine (HOwn.keep HO.out (fun b hb hlt => ?_) ?_).lower (by rw [HS0.out]; omega)
    · exact (hb8 b (by rw [HS0.out] at hb; omega)).trans (X3.out.bl.block b hlt)
    · have := X3.out.bl.size
      simpa [World.setCell] using this
  · have hp : ∀ q, w.heap.size ≤ (⟨w.heap.size + 1 + 1, q, none⟩ : Addr).block := fun q => by show _ ≤ w.heap.size + 1 + 1; omega
    exact (((((Bel.tr HB.out X3.out.bl).setCell (hp 0) _).setCell (hp 1) _).setCell (hp 2) _).setCell (hp 3) _).drew
  · rw [Hcs.out]
    exact (World.cell?_of_block (w := W3) (a := ⟨g, m * 2 + 1, none⟩) (hb8 g (Ne.symm kg))).trans SA.out.2.2.2
end Go.Proofs.YtfhcpicddegblaaGreat
