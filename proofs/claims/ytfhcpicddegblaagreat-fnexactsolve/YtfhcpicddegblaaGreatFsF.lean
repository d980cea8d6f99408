import Derived.Test.YtfhcpicddegblaaGreatM2
import Derived.Test.YtfhcpicddegblaaGreatM2
import Derived.BigRegion
import Derived.Test.YtfhcpicddegblaaGreatM5
namespace Go.Proofs.YtfhcpicddegblaaGreat
open Go.RowKit FL
set_option linter.unusedSimpArgs false
set_option linter.unusedVariables false

/-- The blocks of a system. -/
def InSy (g h n : Nat) (bs : List Nat) (b : Nat) : Prop := b = g ∨ b = h ∨ ∃ i, i < n ∧ b = bs.getD i 0
/-- The rows' blocks, in another order. -/
def Among (n : Nat) (bs bs1 : List Nat) : Prop := ∀ i, i < n → ∃ j, j < n ∧ bs1.getD i 0 = bs.getD j 0
theorem Among.refl (n : Nat) (bs : List Nat) : Among n bs bs := fun i hi => ⟨i, hi, rfl⟩
theorem Among.swap {n : Nat} {bs bs1 : List Nat} (h : Among n bs bs1) {k p : Nat} (hl : bs1.length = n) (hk : k < n) (hp : p < n) : Among n bs (swapL bs1 k p 0) := fun i hi => by
  obtain ⟨j, hj, e⟩ := h (if i = p then k else if i = k then p else i) (by split <;> (try split) <;> omega)
  exact ⟨j, hj, by rw [swapL_getD _ _ _ _ _ (by omega) (by omega)]; exact e⟩
/-- Where elimination stands in front of column k. -/
def ElSt (w W1 : World) (g h n : Nat) (bs : List Nat) (t : Sys) (k : Nat) (wr : World) : Prop := ∃ (bs1 : List Nat) (s1 t1 : Sys), t.elim k = some t1 ∧ SysIn wr g h n bs1 s1 ∧ SmS s1 t1 ∧ Among n bs bs1 ∧ MutP (InSy g h n bs) W1 wr
/-- What elimination leaves. -/
def ElOk (w : World) (g h n : Nat) (bs : List Nat) (t : Sys) (e : Ending) (w' : World) : Prop := MutP (InSy g h n bs) w w' ∧ ((t.elim n = none ∧ e = .returned (.bool false)) ∨
  (e = .returned (.bool true) ∧ ∃ (bs1 : List Nat) (s1 t1 : Sys), t.elim n = some t1 ∧ SysIn w' g h n bs1 s1 ∧ SmS s1 t1 ∧ Among n bs bs1))
theorem elim_none {t : Sys} {k n : Nat} (h : t.elim k = none) (hk : k ≤ n) : t.elim n = none := by
  obtain ⟨m, rfl⟩ : ∃ m, n = k + m := ⟨n - k, by omega⟩
  clear hk
  induction m with
  | zero => exact h
  | succ m ih => show (t.elim (k + m)).bind _ = none; rw [ih]; rfl

set_option maxHeartbeats 4000000 in
theorem eliminate_any {w : World} {g h n cg : Nat} {bs : List Nat} {s t : Sys} (H : SysIn w g h n bs s) (hst : SmS s t) (hn0 : 0 < n) (hn : n ≤ 4096) :
    Calls Tryz.prog 43 #[.agg #[.slice (some ⟨g, 0, none⟩) n cg, .slice (some ⟨h, 0, none⟩) n n]] w fun e w' => ElOk w g h n bs t e w' := by
  have x0 : Ext w (w.alloc (.cells #[.slice (some ⟨g, 0, none⟩) n cg, .slice (some ⟨h, 0, none⟩) n n] 94)) := (Ext.refl w).alloc _ _
  have n1 := fun j => new_cell w #[.slice (some ⟨g, 0, none⟩) n cg, .slice (some ⟨h, 0, none⟩) n n] 94 w.heap.size rfl j
  have c0 := n1 0
  have c1 := n1 1
  simp only [List.getElem?_toArray, List.getElem?_cons_zero, List.getElem?_cons_succ] at c0 c1
  have hgl : g < w.heap.size := cell_lt (H.out 0 hn0)
  have hhl : h < w.heap.size := cell_lt (H.rt.cell 0 (by rw [H.sq.2.1]; exact hn0))
  have hBn : ¬ InSy g h n bs w.heap.size := fun q => by
    rcases q with q | q | ⟨i, hi, q⟩
    · omega
    · omega
    · have := H.lt hi; omega
  have htl : t.1.length = n := by rw [← hst.1]; exact H.sq.1
  have hts : t.Sq n := ⟨htl, by rw [← hst.2.2.1]; exact H.sq.2.1, fun i hi => by rw [← (hst.2.1 i).1]; exact H.sq.2.2 i hi⟩
  have HW0 : Hid (ElSt w (w.alloc (.cells #[.slice (some ⟨g, 0, none⟩) n cg, .slice (some ⟨h, 0, none⟩) n n] 94)) g h n bs t 0 (w.alloc (.cells #[.slice (some ⟨g, 0, none⟩) n cg, .slice (some ⟨h, 0, none⟩) n n] 94))) :=
    ⟨bs, s, t, rfl, H.blocks (x0.bl.block _ hgl) (x0.bl.block _ hhl) (fun i hi => x0.bl.block _ (H.lt hi)), hst, Among.refl _ _, MutP.refl _ _⟩
  have X0 := hide x0
  have C0 : Hid ((w.alloc (.cells #[.slice (some ⟨g, 0, none⟩) n cg, .slice (some ⟨h, 0, none⟩) n n] 94)).cell? ⟨w.heap.size, 0, none⟩ = some (.slice (some ⟨g, 0, none⟩) n cg)) := c0
  have C1 : Hid ((w.alloc (.cells #[.slice (some ⟨g, 0, none⟩) n cg, .slice (some ⟨h, 0, none⟩) n n] 94)).cell? ⟨w.heap.size, 1, none⟩ = some (.slice (some ⟨h, 0, none⟩) n n)) := c1
  clear H hst n1 x0 c1
  go_enter Tryz.func43, Tryz.ntmps43
  go_wp2_with fail
  clear c0
  generalize w.alloc (.cells #[.slice (some ⟨g, 0, none⟩) n cg, .slice (some ⟨h, 0, none⟩) n n] 94) = W1 at X0 C0 C1 HW0 ⊢
  go_loopw [10] (fun i wr => ∃ k : Nat, i = .int .i64 k ∧ k ≤ n ∧ ElSt w W1 g h n bs t k wr) (fun i _ => n - (intOf i).toNat)
  case atStart => exact ⟨0, rfl, by omega, HW0.out⟩
  case round =>
    obtain ⟨k, rfl, hk, bs1, s1, t1, he, hS, hT, hA, hM⟩ := hrel
    have c0 := hM.box hBn C0.out
    have c1 := hM.box hBn C1.out
    by_cases hkn : k < n
    · have k0 : (0 : Int) ≤ (k : Int) := Int.natCast_nonneg _
      have k1 : (k : Int) < (n : Int) := by omega
      have hsq : t1.Sq n := hts.elim hk he
      have hpl := Sys.piv_le hsq k hkn
      have HPV := hide (pivot_any (cg := cg) hS hT k hkn hn)
      have HE := hide he
      have HS := hide hS
      have HT := hide hT
      have HA := hide hA
      have HM := hide hM
      clear he hS hT hA hM
      go_wp2_with fail
      refine HPV.out.mono ?_
      rintro e w2 ⟨rfl, x2⟩
      have HS2 := hide (HS.out.blocks (x2.bl.block _ (cell_lt (HS.out.out k hkn))) (x2.bl.block _ (cell_lt (HS.out.rt.cell k (by rw [HS.out.sq.2.1]; exact hkn)))) (fun i hi => x2.bl.block _ (HS.out.lt hi)))
      have HM2 := hide (HM.out.trans (x2.mutP _))
      have hkp : Hid (t1.piv k = t1.piv k) := rfl
      have c0 := x2.box c0
      have c1 := x2.box c1
      generalize hp : t1.piv k = p at hpl ⊢
      have Hp := hide hp
      obtain ⟨hp0, hp1⟩ := hpl
      clear hp hkp x2 HM HS HPV
      have d1 := HS2.out.out k hkn
      have d2 := HS2.out.out p hp1
      have f1 := HS2.out.ofz k
      have f2 := HS2.out.ofz p
      have d3 := HS2.out.rt.cell k (by rw [HS2.out.sq.2.1]; exact hkn)
      have d4 := HS2.out.rt.cell p (by rw [HS2.out.sq.2.1]; exact hp1)
      have f3 := HS2.out.rt.fz k
      have f4 := HS2.out.rt.fz p
      have p0 : (0 : Int) ≤ (p : Int) := Int.natCast_nonneg _
      have p1 : (p : Int) < (n : Int) := by omega
      generalize hbk : bs1.getD k 0 = bk at d1
      generalize hbp : bs1.getD p 0 = bp at d2
      generalize hyk : s1.2.getD k 0 = yk at d3
      generalize hyp : s1.2.getD p 0 = yp at d4
      have Hbk := hide hbk
      have Hbp := hide hbp
      have Hyk := hide hyk
      have Hyp := hide hyp
      clear hbk hbp hyk hyp
      have hgh := HS2.out.gh
      have q1 : (w2.setCell ⟨g, k, none⟩ (.slice (some ⟨bp, 0, none⟩) n n)).cell? ⟨g, p, none⟩ = some (.slice (some ⟨bp, 0, none⟩) n n) := by
        by_cases e : k = p
        · subst e; rw [World.cell?_setCell_same _ _ _ d1]
        · rw [World.cell?_setCell_other _ _ _ _ (by intro q; simp only [Addr.mk.injEq] at q; omega), d2]
      go_wp2_with fail
      go_region
      have W3 : Hid (World.drew ((w2.setCell ⟨g, k, none⟩ (.slice (some ⟨bp, 0, none⟩) n n)).setCell ⟨g, p, none⟩ (.slice (some ⟨bk, 0, none⟩) n n)) = World.drew ((w2.setCell ⟨g, k, none⟩ (.slice (some ⟨bp, 0, none⟩) n n)).setCell ⟨g, p, none⟩ (.slice (some ⟨bk, 0, none⟩) n n))) := rfl
      have ho : Hid (∀ i, i < n → (World.drew ((w2.setCell ⟨g, k, none⟩ (.slice (some ⟨bp, 0, none⟩) n n)).setCell ⟨g, p, none⟩ (.slice (some ⟨bk, 0, none⟩) n n))).cell? ⟨g, i, none⟩ = some (.slice (some ⟨(swapL bs1 k p 0).getD i 0, 0, none⟩) n n)) := by
        have e := out_set (out_set HS2.out.out HS2.out.len hkn bp) (by simpa using HS2.out.len) hp1 bk
        have e1 := Hbk.out
        have e2 := Hbp.out
        rw [show swapL bs1 k p 0 = (bs1.set k bp).set p bk by unfold swapL; rw [e1, e2]]
        exact e
      have hbl : Hid (∀ b, b ≠ g → (World.drew ((w2.setCell ⟨g, k, none⟩ (.slice (some ⟨bp, 0, none⟩) n n)).setCell ⟨g, p, none⟩ (.slice (some ⟨bk, 0, none⟩) n n))).heap[b]? = w2.heap[b]?) := fun b hb => (Below.heap_setCell _ _ _ _ hb).trans (Below.heap_setCell _ _ _ _ hb)
      have hm3 : Hid (Mut g w2 (World.drew ((w2.setCell ⟨g, k, none⟩ (.slice (some ⟨bp, 0, none⟩) n n)).setCell ⟨g, p, none⟩ (.slice (some ⟨bk, 0, none⟩) n n)))) := (((Mut.refl g w2).setCell k _).setCell p _).drew
      generalize (World.drew ((w2.setCell ⟨g, k, none⟩ (.slice (some ⟨bp, 0, none⟩) n n)).setCell ⟨g, p, none⟩ (.slice (some ⟨bk, 0, none⟩) n n))) = w3 at ho hbl hm3 ⊢
      have c0b := hm3.out.box (show w.heap.size ≠ g by omega) c0
      have c1b := hm3.out.box (show w.heap.size ≠ g by omega) c1
      have d3b := hm3.out.box (Ne.symm hgh) d3
      have d4b := hm3.out.box (Ne.symm hgh) d4
      have f3b := (hm3.out.fz _).trans f3
      have f4b := (hm3.out.fz _).trans f4
      have q2 : (w3.setCell ⟨h, k, none⟩ (.float .f64 yp)).cell? ⟨h, p, none⟩ = some (.float .f64 yp) := by
        by_cases e : k = p
        · subst e; rw [World.cell?_setCell_same _ _ _ d3b]
        · rw [World.cell?_setCell_other _ _ _ _ (by intro q; simp only [Addr.mk.injEq] at q; omega), d4b]
      have q3 : (w3.setCell ⟨h, k, none⟩ (.float .f64 yp)).cell? ⟨w.heap.size, 1, none⟩ = some (.slice (some ⟨h, 0, none⟩) n n) := by
        rw [World.cell?_setCell_other _ _ _ _ (by intro q; simp only [Addr.mk.injEq] at q; omega), c1b]
      clear q1 W3 d1 d2 f1 f2 c0 c1 d3 d4 f3 f4
      have hne : h ≠ w.heap.size := by omega
      have TA : Hid ((fun w' : World => w'.cell? ⟨w.heap.size, 1, none⟩ = some (.slice (some ⟨h, 0, none⟩) n n)) w3.drew) := c1b
      have SA : Hid ((fun w' : World => w'.cell? ⟨h, k, none⟩ = some (.float .f64 yk) ∧ w'.cell? ⟨h, p, none⟩ = some (.float .f64 yp)) w3.drew) := ⟨d3b, d4b⟩
      have TB : Hid (∀ (W : World) (v : Value) (j : Nat), (fun w' : World => w'.cell? ⟨w.heap.size, 1, none⟩ = some (.slice (some ⟨h, 0, none⟩) n n)) W → (fun w' : World => w'.cell? ⟨w.heap.size, 1, none⟩ = some (.slice (some ⟨h, 0, none⟩) n n)) (W.setCell ⟨h, j, none⟩ v)) := fun W v j hh => (World.cell?_setCell_other _ _ _ _ (by intro q; simp only [Addr.mk.injEq] at q; omega)).trans hh
      go_wp2_with fail
      refine region_v (S := (fun w' : World => w'.cell? ⟨h, k, none⟩ = some (.float .f64 yk) ∧ w'.cell? ⟨h, p, none⟩ = some (.float .f64 yp))) (T := (fun w' : World => w'.cell? ⟨w.heap.size, 1, none⟩ = some (.slice (some ⟨h, 0, none⟩) n n))) (late := [17]) (by kernel_rfl) ?_
      refine wpAnyV_hold (i := 0) (v := .pointer (some ⟨w.heap.size, 1, none⟩)) rfl (by kernel_rfl) (by kernel_rfl) (fun _ _ _ h => by cases h.1) _ (by kernel_rfl) (by kernel_rfl) (Or.inl ⟨by rfl, ?_⟩) TA.out (fun _ => SA.out) ?_
      · intro w' hSw
        have z0 := hSw
        go_simp
      simp only [Act.put, List.setIfInBounds_toArray, List.set_cons_zero, List.set_cons_succ]
      refine wpAnyV_hold (i := 1) (v := .slice (some ⟨h, 0, none⟩) n n) rfl (by kernel_rfl) (by kernel_rfl) (fun _ _ _ h => by cases h.1) _ (by kernel_rfl) (by kernel_rfl) (Or.inl ⟨by rfl, ?_⟩) TA.out (fun _ => SA.out) ?_
      · intro w' hSw
        have z0 := hSw
        go_simp
      simp only [Act.put, List.setIfInBounds_toArray, List.set_cons_zero, List.set_cons_succ]
      refine wpAnyV_hold (i := 2) (v := .int .i64 k) rfl (by kernel_rfl) (by kernel_rfl) (fun _ _ _ h => by cases h.1) _ (by kernel_rfl) (by kernel_rfl) (Or.inl ⟨by rfl, ?_⟩) TA.out (fun _ => SA.out) ?_
      · intro w' hSw
        have z0 := hSw
        go_simp
      simp only [Act.put, List.setIfInBounds_toArray, List.set_cons_zero, List.set_cons_succ]
      refine wpAnyV_hold (i := 3) (v := .pointer (some ⟨w.heap.size, 1, none⟩)) rfl (by kernel_rfl) (by kernel_rfl) (fun _ _ _ h => by cases h.1) _ (by kernel_rfl) (by kernel_rfl) (Or.inl ⟨by rfl, ?_⟩) TA.out (fun _ => SA.out) ?_
      · intro w' hSw
        have z0 := hSw
        go_simp
      simp only [Act.put, List.setIfInBounds_toArray, List.set_cons_zero, List.set_cons_succ]
      refine wpAnyV_hold (i := 4) (v := .slice (some ⟨h, 0, none⟩) n n) rfl (by kernel_rfl) (by kernel_rfl) (fun _ _ _ h => by cases h.1) _ (by kernel_rfl) (by kernel_rfl) (Or.inl ⟨by rfl, ?_⟩) TA.out (fun _ => SA.out) ?_
      · intro w' hSw
        have z0 := hSw
        go_simp
      simp only [Act.put, List.setIfInBounds_toArray, List.set_cons_zero, List.set_cons_succ]
      refine wpAnyV_hold (i := 5) (v := .int .i64 p) rfl (by kernel_rfl) (by kernel_rfl) (fun _ _ _ h => by cases h.1) _ (by kernel_rfl) (by kernel_rfl) (Or.inl ⟨by rfl, ?_⟩) TA.out (fun _ => SA.out) ?_
      · intro w' hSw
        have z0 := hSw
        go_simp
      simp only [Act.put, List.setIfInBounds_toArray, List.set_cons_zero, List.set_cons_succ]
      refine wpAnyV_hold (i := 6) (v := .pointer (some ⟨w.heap.size, 1, none⟩)) rfl (by kernel_rfl) (by kernel_rfl) (fun _ _ _ h => by cases h.1) _ (by kernel_rfl) (by kernel_rfl) (Or.inl ⟨by rfl, ?_⟩) TA.out (fun _ => SA.out) ?_
      · intro w' hSw
        have z0 := hSw
        go_simp
      simp only [Act.put, List.setIfInBounds_toArray, List.set_cons_zero, List.set_cons_succ]
      refine wpAnyV_hold (i := 7) (v := .slice (some ⟨h, 0, none⟩) n n) rfl (by kernel_rfl) (by kernel_rfl) (fun _ _ _ h => by cases h.1) _ (by kernel_rfl) (by kernel_rfl) (Or.inl ⟨by rfl, ?_⟩) TA.out (fun _ => SA.out) ?_
      · intro w' hSw
        have z0 := hSw
        go_simp
      simp only [Act.put, List.setIfInBounds_toArray, List.set_cons_zero, List.set_cons_succ]
      refine wpAnyV_hold (i := 8) (v := .int .i64 p) rfl (by kernel_rfl) (by kernel_rfl) (fun _ _ _ h => by cases h.1) _ (by kernel_rfl) (by kernel_rfl) (Or.inl ⟨by rfl, ?_⟩) TA.out (fun _ => SA.out) ?_
      · intro w' hSw
        have z0 := hSw
        go_simp
      simp only [Act.put, List.setIfInBounds_toArray, List.set_cons_zero, List.set_cons_succ]
      refine wpAnyV_hold (i := 9) (v := .pointer (some ⟨h, p, none⟩)) rfl (by kernel_rfl) (by kernel_rfl) (fun _ _ _ h => by cases h.1) _ (by kernel_rfl) (by kernel_rfl) (Or.inl ⟨by rfl, ?_⟩) TA.out (fun _ => SA.out) ?_
      · intro w' hSw
        have z0 := hSw
        go_simp
      simp only [Act.put, List.setIfInBounds_toArray, List.set_cons_zero, List.set_cons_succ]
      refine wpAnyV_hold (i := 11) (v := .pointer (some ⟨w.heap.size, 1, none⟩)) rfl (by kernel_rfl) (by kernel_rfl) (fun _ _ _ h => by cases h.1) _ (by kernel_rfl) (by kernel_rfl) (Or.inl ⟨by rfl, ?_⟩) TA.out (fun _ => SA.out) ?_
      · intro w' hSw
        have z0 := hSw
        go_simp
      simp only [Act.put, List.setIfInBounds_toArray, List.set_cons_zero, List.set_cons_succ]
      refine wpAnyV_hold (i := 12) (v := .slice (some ⟨h, 0, none⟩) n n) rfl (by kernel_rfl) (by kernel_rfl) (fun _ _ _ h => by cases h.1) _ (by kernel_rfl) (by kernel_rfl) (Or.inl ⟨by rfl, ?_⟩) TA.out (fun _ => SA.out) ?_
      · intro w' hSw
        have z0 := hSw
        go_simp
      simp only [Act.put, List.setIfInBounds_toArray, List.set_cons_zero, List.set_cons_succ]
      refine wpAnyV_hold (i := 13) (v := .int .i64 k) rfl (by kernel_rfl) (by kernel_rfl) (fun _ _ _ h => by cases h.1) _ (by kernel_rfl) (by kernel_rfl) (Or.inl ⟨by rfl, ?_⟩) TA.out (fun _ => SA.out) ?_
      · intro w' hSw
        have z0 := hSw
        go_simp
      simp only [Act.put, List.setIfInBounds_toArray, List.set_cons_zero, List.set_cons_succ]
      refine wpAnyV_hold (i := 14) (v := .pointer (some ⟨h, k, none⟩)) rfl (by kernel_rfl) (by kernel_rfl) (fun _ _ _ h => by cases h.1) _ (by kernel_rfl) (by kernel_rfl) (Or.inl ⟨by rfl, ?_⟩) TA.out (fun _ => SA.out) ?_
      · intro w' hSw
        have z0 := hSw
        go_simp
      simp only [Act.put, List.setIfInBounds_toArray, List.set_cons_zero, List.set_cons_succ]
      refine wpAnyV_take (i := 10) (v := .float .f64 yp) rfl (by kernel_rfl) (by kernel_rfl) (by kernel_rfl) (fun _ _ _ h => by cases h.1) _ (by kernel_rfl) (by kernel_rfl) (by kernel_rfl) (Or.inl ⟨by rfl, ?_⟩) TA.out SA.out ?_
      · intro w' hSw
        obtain ⟨z0, z1⟩ := hSw
        go_simp
      simp only [Act.put, List.setIfInBounds_toArray, List.set_cons_zero, List.set_cons_succ]
      refine wpAnyV_take (i := 15) (v := .float .f64 yk) rfl (by kernel_rfl) (by kernel_rfl) (by kernel_rfl) (fun _ _ _ h => by cases h.1) _ (by kernel_rfl) (by kernel_rfl) (by kernel_rfl) (Or.inl ⟨by rfl, ?_⟩) TA.out SA.out ?_
      · intro w' hSw
        obtain ⟨z0, z1⟩ := hSw
        go_simp
      simp only [Act.put, List.setIfInBounds_toArray, List.set_cons_zero, List.set_cons_succ]
      refine wpAnyV_hold (i := 16) (v := .pointer (some ⟨h, k, none⟩)) rfl (by kernel_rfl) (by kernel_rfl) (fun _ _ _ h => by cases h.1) _ (by kernel_rfl) (by kernel_rfl) (Or.inl ⟨by rfl, ?_⟩) TA.out (fun _ => SA.out) ?_
      · intro w' hSw
        have z0 := hSw
        go_simp
      simp only [Act.put, List.setIfInBounds_toArray, List.set_cons_zero, List.set_cons_succ]
      refine wpAnyV_one (i := 17) (by kernel_rfl) rfl (fun K hK => ?_)
      go_simp
      refine hK.out _ _ (TB.out _ _ _ TA.out) (fun h => absurd (show true = false from h.symm.trans (by kernel_rfl)) Bool.noConfusion) ?_
      clear hK K
      try simp only [Act.put, List.setIfInBounds_toArray, List.set_cons_zero, List.set_cons_succ]
      refine wpAnyV_hold (i := 18) (v := .pointer (some ⟨h, p, none⟩)) rfl (by kernel_rfl) (by kernel_rfl) (fun _ _ _ h => by cases h.1) _ (by kernel_rfl) (by kernel_rfl) (Or.inl ⟨by rfl, ?_⟩) (TB.out _ _ _ TA.out) (fun h => absurd (show true = false from h.symm.trans (by kernel_rfl)) Bool.noConfusion) ?_
      · intro w' hSw
        have z0 := hSw
        go_simp
      simp only [Act.put, List.setIfInBounds_toArray, List.set_cons_zero, List.set_cons_succ]
      refine wpAnyV_one (i := 19) (by kernel_rfl) rfl (fun K hK => ?_)
      go_simp
      refine hK.out _ _ (TB.out _ _ _ (TB.out _ _ _ TA.out)) (fun h => absurd (show true = false from h.symm.trans (by kernel_rfl)) Bool.noConfusion) ?_
      clear hK K
      try simp only [Act.put, List.setIfInBounds_toArray, List.set_cons_zero, List.set_cons_succ]
      refine wpAnyV_done (by kernel_rfl) ?_ _
      refine ⟨rfl, ?_⟩
      have by64 : B64 yp := by rw [← Hyp.out]; exact HS2.out.rt.b64 p
      have bk64 : B64 yk := by rw [← Hyk.out]; exact HS2.out.rt.b64 k
      have hrl := HS2.out.sq.2.1
      have R4 : Hid (FRow (World.drew ((w3.setCell ⟨h, k, none⟩ (.float .f64 yp)).setCell ⟨h, p, none⟩ (.float .f64 yk))) h (swapL s1.2 k p 0)) := by
        have e := ((HS2.out.rt.block (hbl.out h (Ne.symm hgh))).set (k := k) (by omega) by64).set (k := p) (by simp; omega) bk64
        rw [show swapL s1.2 k p 0 = (s1.2.set k yp).set p yk by unfold swapL; rw [Hyk.out, Hyp.out]]
        exact e.block rfl
      have hb3 : ∀ b, b ≠ h → (World.drew ((w3.setCell ⟨h, k, none⟩ (.float .f64 yp)).setCell ⟨h, p, none⟩ (.float .f64 yk))).heap[b]? = w3.heap[b]? := fun b hb => (Below.heap_setCell _ _ _ _ hb).trans (Below.heap_setCell _ _ _ _ hb)
      have hM4 : Hid (Mut h w3 (World.drew ((w3.setCell ⟨h, k, none⟩ (.float .f64 yp)).setCell ⟨h, p, none⟩ (.float .f64 yk)))) := (((Mut.refl h w3).setCell k _).setCell p _).drew
      have G4 : Hid (SysIn (World.drew ((w3.setCell ⟨h, k, none⟩ (.float .f64 yp)).setCell ⟨h, p, none⟩ (.float .f64 yk))) g h n (swapL bs1 k p 0) (s1.swap k p)) :=
        HS2.out.swap hkn hp1 (fun i hi => (World.cell?_of_block (w := w3) (a := ⟨g, i, none⟩) (hb3 g hgh)).trans (ho.out i hi)) (fun o => (hM4.out.fz _).trans ((hm3.out.fz _).trans (HS2.out.ofz o)))
          (fun i hi => (hb3 _ (HS2.out.hb i hi)).trans (hbl.out _ (HS2.out.gb i hi))) R4.out
      have M4 : Hid (MutP (InSy g h n bs) W1 (World.drew ((w3.setCell ⟨h, k, none⟩ (.float .f64 yp)).setCell ⟨h, p, none⟩ (.float .f64 yk)))) := HM2.out.trans ((hm3.out.mutP (.inl rfl)).trans (hM4.out.mutP (.inr (.inl rfl))))
      have T4 : Hid (SmS (s1.swap k p) (t1.swap k p)) := HT.out.swap (by rw [HS2.out.sq.1]; exact hkn) (by rw [HS2.out.sq.1]; exact hp1)
      have A4 : Hid (Among n bs (swapL bs1 k p 0)) := HA.out.swap HS2.out.len hkn hp1
      have E4 : Hid (t.elim (k + 1) = if nanD ((t1.swap k p).at k k) || feq ((t1.swap k p).at k k) 0 then none else some ((t1.swap k p).subs k (n - k - 1))) := by
        show t.elim (k + 1) = _
        have e : t.elim (k + 1) = (t.elim k).bind fun t => t.round k := rfl
        rw [e, HE.out]
        show t1.round k = _
        unfold Sys.round
        rw [Hp.out, hsq.1]
      clear q2 q3 c0b c1b d3b d4b f3b f4b hb3 hM4 R4 hm3 hbl ho HM2 HT HA HE HS2
      generalize (World.drew ((w3.setCell ⟨h, k, none⟩ (.float .f64 yp)).setCell ⟨h, p, none⟩ (.float .f64 yk))) = W4 at G4 M4 ⊢
      generalize swapL bs1 k p 0 = bs4 at G4 A4
      generalize s1.swap k p = s4 at G4 T4
      generalize t1.swap k p = t4 at T4 E4
      have c0 := M4.out.box hBn C0.out
      have c1 := M4.out.box hBn C1.out
      have d7 := G4.out.out k hkn
      have d8 := G4.out.elt hkn hkn
      have hnn := same_nan (T4.out.at k k)
      have hff := feq_congr (T4.out.at k k) (same_self 0)
      generalize bs4.getD k 0 = b7 at d7 d8
      generalize hdv : s4.at k k = dv at d8 hnn hff
      clear hdv
      rw [← hnn, ← hff] at E4
      have bad : Hid ((nanD dv || feq dv 0) = true → t.elim n = none) := fun q => elim_none (k := k + 1) (by rw [E4.out, if_pos q]) (by omega)
      have good0 : Hid ((nanD dv || feq dv 0) = false → t.elim (k + 1) = some (t4.subs k (n - k - 1))) := fun q => by rw [E4.out, if_neg (by rw [q]; simp)]
      clear E4 hnn hff
      cases hna : nanD dv with
      | true =>
        go_wp2_with (go_at_call 86; refine (isNaN_any _ _).mono ?_; rintro e w' ⟨rfl, rfl⟩; rw [hna])
        go_ret
        exact ⟨(X0.out.mutP _).trans M4.out, .inl ⟨bad.out (by rw [hna]; rfl), rfl⟩⟩
      | false =>
        cases hze : feq dv 0 with
        | true =>
          go_wp2_with (go_at_call 86; refine (isNaN_any _ _).mono ?_; rintro e w' ⟨rfl, rfl⟩; rw [hna])
          go_ret
          exact ⟨(X0.out.mutP _).trans M4.out, .inl ⟨bad.out (by rw [hze]; simp), rfl⟩⟩
        | false =>
          have good := hide (good0.out (by rw [hna, hze]; rfl))
          clear bad good0
          go_wp2_with (go_at_call 86; refine (isNaN_any _ _).mono ?_; rintro e w' ⟨rfl, rfl⟩; rw [hna])
          go_loopw [6] (fun i wq => ∃ (m : Nat) (s5 : Sys), i = .int .i64 (k + 1 + m : Nat) ∧ k + 1 + m ≤ n ∧ SysIn wq g h n bs4 s5 ∧ SmS s5 (t4.subs k m) ∧ MutP (InSy g h n bs) W1 wq) (fun i _ => n - (intOf i).toNat)
          case atStart => exact ⟨0, s4, by simp, by omega, G4.out, T4.out, M4.out⟩
          case round =>
            obtain ⟨m, s5, rfl, hm, hG5, hT5, hM5⟩ := hrel
            have c0 := hM5.box hBn C0.out
            have c1 := hM5.box hBn C1.out
            by_cases hmn : k + 1 + m < n
            · have HSB := hide (subtract_any (cg := cg) hG5 hT5 (k + 1 + m) k hmn hkn (by omega) hn)
              have hbi : InSy g h n bs (bs4.getD (k + 1 + m) 0) := by
                obtain ⟨j, hj, e⟩ := A4.out (k + 1 + m) hmn
                exact .inr (.inr ⟨j, hj, e⟩)
              have HM5 := hide hM5
              clear hM5 hG5 hT5
              have hd : decide (((k + 1 + m : Nat) : Int) < (n : Int)) = true := decide_eq_true (by omega)
              generalize hI : k + 1 + m = i at *
              go_wp2_with fail
              refine HSB.out.mono ?_
              rintro e w6 ⟨rfl, s6, hG6, hT6, hM6⟩
              have HM6 := hide (HM5.out.trans (hM6.mono (fun b q => by rcases q with rfl | rfl; exact hbi; exact .inr (.inl rfl))))
              have HG6 := hide hG6
              have HT6 := hide hT6
              clear hM6 hG6 hT6
              go_wp2_with fail
              go_roundw
              · exact ⟨m + 1, s6, by rw [← hI]; go_num, by omega, HG6.out, by rw [← hI] at HT6; exact HT6.out, HM6.out⟩
              · simp [intOf]; omega
            · have hmm : m = n - k - 1 := by omega
              subst hmm
              have hd : decide (((k + 1 + (n - k - 1) : Nat) : Int) < (n : Int)) = false := decide_eq_false (by omega)
              have HM5 := hide hM5
              have HG5 := hide hG5
              have HT5 := hide hT5
              clear hM5 hG5 hT5
              go_wp2_with fail
              go_roundw
              · exact ⟨k + 1, by go_num, by omega, bs4, s5, _, good.out, HG5.out, HT5.out, A4.out, HM5.out⟩
              · simp [intOf]; omega
    · have hkk : k = n := by omega
      subst hkk
      go_wp2
      go_ret
      exact ⟨(X0.out.mutP _).trans hM, .inr ⟨rfl, bs1, s1, t1, he, hS, hT, hA⟩⟩
end Go.Proofs.YtfhcpicddegblaaGreat
