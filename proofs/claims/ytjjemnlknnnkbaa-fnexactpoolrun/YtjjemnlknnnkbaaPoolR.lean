import Derived.Test.YtjjemnlknnnkbaaPoolQ
import Derived.Test.YtjjemnlknnnkbaaLawSC
import Derived.Deep.RegionHeld3
namespace Go.Proofs.Ytjjemnlknnnkbaa
open Go.ChangeShapes Go.RowKit Go.MuLone
set_option linter.unusedSimpArgs false
set_option linter.unusedVariables false

theorem info34 : (Try.prog.info? 34).map (fun i => (i.zero, i.size, i.bytes)) = some (some (.agg #[.int .i64 0, .int .i64 0, .int .i64 0]), 3, 24) := by kernel_rfl

set_option maxRecDepth 100000 in
set_option maxHeartbeats 1000000 in
theorem eqAns_same (w : World) (a b c : Int) :
    Calls Try.prog 39 #[.agg #[.int .i64 a, .int .i64 b, .int .i64 c], .agg #[.int .i64 a, .int .i64 b, .int .i64 c]] w fun e w' => e = .returned (.bool true) ∧ Ext w w' := by
  have x0 : Hid (Ext w ((w.alloc (.cells #[.int .i64 a, .int .i64 b, .int .i64 c] 32)).alloc (.cells #[.int .i64 a, .int .i64 b, .int .i64 c] 32))) := ((Ext.refl w).alloc _ _).alloc _ _
  go_enter Try.func39, Try.ntmps39
  go_wp2_with fail
  go_ret
  exact ⟨rfl, x0.out⟩
set_option maxRecDepth 100000 in
set_option maxHeartbeats 1000000 in
theorem eqOp_same (w : World) (a b c : Int) :
    Calls Try.prog 40 #[.agg #[.int .i64 a, .int .i64 b, .int .i64 c], .agg #[.int .i64 a, .int .i64 b, .int .i64 c]] w fun e w' => e = .returned (.bool true) ∧ Ext w w' := by
  have x0 : Hid (Ext w ((w.alloc (.cells #[.int .i64 a, .int .i64 b, .int .i64 c] 34)).alloc (.cells #[.int .i64 a, .int .i64 b, .int .i64 c] 34))) := ((Ext.refl w).alloc _ _).alloc _ _
  go_enter Try.func40, Try.ntmps40
  go_wp2_with fail
  go_ret
  exact ⟨rfl, x0.out⟩
set_option maxRecDepth 100000 in
set_option maxHeartbeats 1000000 in
theorem toOp_any (w : World) (a b c : Int) :
    Calls Try.prog 38 #[.agg #[.int .i64 a, .int .i64 b, .int .i64 c]] w fun e w' => e = .returned (.agg #[.int .i64 a, .int .i64 b, .int .i64 c]) ∧ Ext w w' := by
  go_enter Try.func38, Try.ntmps38
  go_wp2_with fail
  exact bodyPost_ret (v := .agg #[.int .i64 a, .int .i64 b, .int .i64 c]) (by simp [results, Try.results38, go_sem]) rfl ⟨rfl, (((Ext.refl w).alloc _ _).alloc _ _).alloc _ _⟩

set_option maxRecDepth 100000 in
set_option maxHeartbeats 1000000 in
theorem eqAnsS_true {w : World} {v u : Value} {ts : List P3} (h : PV w v ts) (g : PV w u ts) (hl : ts.length ≤ 1048576) :
    Calls Try.prog 22 #[v, u] w fun e w' => e = .returned (.bool true) ∧ Ext w w' := by
  obtain ⟨sa, cap, rfl, hx⟩ := h
  obtain ⟨ta, dap, rfl, hy⟩ := g
  have HX := hide hx
  have HY := hide hy
  clear hx hy
  go_enter Try.func22, Try.ntmps22
  go_wp2
  go_loopw [5] (fun i wr => ∃ k : Nat, i = .int .i64 k ∧ k ≤ ts.length ∧ Ext w wr) (fun i _ => ts.length - (intOf i).toNat)
  case atStart => exact ⟨0, rfl, by omega, Ext.refl w⟩
  case round =>
    obtain ⟨k, rfl, hk, hw⟩ := hrel
    have HW := hide hw
    clear hw
    by_cases hlt : k < ts.length
    · rcases HX.out with h0 | ⟨b, off, rfl, hrow⟩
      · rw [h0] at hlt; simp at hlt
      rcases HY.out with h0 | ⟨b2, off2, rfl, hrow2⟩
      · rw [h0] at hlt; simp at hlt
      have q0 := HW.out.box (hrow k hlt).1
      have q1 := HW.out.box (hrow k hlt).2.1
      have q2 := HW.out.box (hrow k hlt).2.2
      have r0 := HW.out.box (hrow2 k hlt).1
      have r1 := HW.out.box (hrow2 k hlt).2.1
      have r2 := HW.out.box (hrow2 k hlt).2.2
      have hk0 : (0 : Int) ≤ (k : Int) := Int.natCast_nonneg _
      have hk1 : (k : Int) < (ts.length : Int) := by omega
      generalize (ts.getD k p0).1 = A at q0 r0
      generalize (ts.getD k p0).2.1 = B at q1 r1
      generalize (ts.getD k p0).2.2 = C at q2 r2
      clear hrow hrow2
      have SA : Hid ((fun w' => w'.cell? ⟨b, off + k * 3, none⟩ = some (.int .i64 A) ∧ w'.cell? ⟨b, off + k * 3 + 1, none⟩ = some (.int .i64 B) ∧ w'.cell? ⟨b, off + k * 3 + 2, none⟩ = some (.int .i64 C) ∧ w'.cell? ⟨b2, off2 + k * 3, none⟩ = some (.int .i64 A) ∧ w'.cell? ⟨b2, off2 + k * 3 + 1, none⟩ = some (.int .i64 B) ∧ w'.cell? ⟨b2, off2 + k * 3 + 2, none⟩ = some (.int .i64 C)) wr.drew) := ⟨q0, q1, q2, r0, r1, r2⟩
      go_wp2_with fail
      go_region_held3 (fun w' => w'.cell? ⟨b, off + k * 3, none⟩ = some (.int .i64 A) ∧ w'.cell? ⟨b, off + k * 3 + 1, none⟩ = some (.int .i64 B) ∧ w'.cell? ⟨b, off + k * 3 + 2, none⟩ = some (.int .i64 C) ∧ w'.cell? ⟨b2, off2 + k * 3, none⟩ = some (.int .i64 A) ∧ w'.cell? ⟨b2, off2 + k * 3 + 1, none⟩ = some (.int .i64 B) ∧ w'.cell? ⟨b2, off2 + k * 3 + 2, none⟩ = some (.int .i64 C)) (first | with_reducible exact SA.out | with_reducible exact SB'.out | exact SA.out | exact SB'.out | fail) (first | (go_at_call 39; refine (eqAns_same _ A B C).mono ?_; rintro e w2 ⟨rfl, x2⟩; have HW2 := hide (HW.out.drew.trans x2); have SB' : Hid ((fun w' => w'.cell? ⟨b, off + k * 3, none⟩ = some (.int .i64 A) ∧ w'.cell? ⟨b, off + k * 3 + 1, none⟩ = some (.int .i64 B) ∧ w'.cell? ⟨b, off + k * 3 + 2, none⟩ = some (.int .i64 C) ∧ w'.cell? ⟨b2, off2 + k * 3, none⟩ = some (.int .i64 A) ∧ w'.cell? ⟨b2, off2 + k * 3 + 1, none⟩ = some (.int .i64 B) ∧ w'.cell? ⟨b2, off2 + k * 3 + 2, none⟩ = some (.int .i64 C)) w2) := ⟨x2.box q0, x2.box q1, x2.box q2, x2.box r0, x2.box r1, x2.box r2⟩; clear x2) | fail)
      go_wp2
      go_roundw
      · exact ⟨k + 1, by go_num, by omega, HW2.out⟩
      · simp [intOf]; omega
    · have hkk : k = ts.length := by omega
      subst hkk
      go_wp2
      go_ret
      exact ⟨rfl, HW.out⟩

set_option maxRecDepth 100000 in
set_option maxHeartbeats 1000000 in
theorem eqOpS_true {w : World} {v u : Value} {ts : List P3} (h : PV w v ts) (g : PV w u ts) (hl : ts.length ≤ 1048576) :
    Calls Try.prog 23 #[v, u] w fun e w' => e = .returned (.bool true) ∧ Ext w w' := by
  obtain ⟨sa, cap, rfl, hx⟩ := h
  obtain ⟨ta, dap, rfl, hy⟩ := g
  have HX := hide hx
  have HY := hide hy
  clear hx hy
  go_enter Try.func23, Try.ntmps23
  go_wp2
  go_loopw [5] (fun i wr => ∃ k : Nat, i = .int .i64 k ∧ k ≤ ts.length ∧ Ext w wr) (fun i _ => ts.length - (intOf i).toNat)
  case atStart => exact ⟨0, rfl, by omega, Ext.refl w⟩
  case round =>
    obtain ⟨k, rfl, hk, hw⟩ := hrel
    have HW := hide hw
    clear hw
    by_cases hlt : k < ts.length
    · rcases HX.out with h0 | ⟨b, off, rfl, hrow⟩
      · rw [h0] at hlt; simp at hlt
      rcases HY.out with h0 | ⟨b2, off2, rfl, hrow2⟩
      · rw [h0] at hlt; simp at hlt
      have q0 := HW.out.box (hrow k hlt).1
      have q1 := HW.out.box (hrow k hlt).2.1
      have q2 := HW.out.box (hrow k hlt).2.2
      have r0 := HW.out.box (hrow2 k hlt).1
      have r1 := HW.out.box (hrow2 k hlt).2.1
      have r2 := HW.out.box (hrow2 k hlt).2.2
      have hk0 : (0 : Int) ≤ (k : Int) := Int.natCast_nonneg _
      have hk1 : (k : Int) < (ts.length : Int) := by omega
      generalize (ts.getD k p0).1 = A at q0 r0
      generalize (ts.getD k p0).2.1 = B at q1 r1
      generalize (ts.getD k p0).2.2 = C at q2 r2
      clear hrow hrow2
      have SA : Hid ((fun w' => w'.cell? ⟨b, off + k * 3, none⟩ = some (.int .i64 A) ∧ w'.cell? ⟨b, off + k * 3 + 1, none⟩ = some (.int .i64 B) ∧ w'.cell? ⟨b, off + k * 3 + 2, none⟩ = some (.int .i64 C) ∧ w'.cell? ⟨b2, off2 + k * 3, none⟩ = some (.int .i64 A) ∧ w'.cell? ⟨b2, off2 + k * 3 + 1, none⟩ = some (.int .i64 B) ∧ w'.cell? ⟨b2, off2 + k * 3 + 2, none⟩ = some (.int .i64 C)) wr.drew) := ⟨q0, q1, q2, r0, r1, r2⟩
      go_wp2_with fail
      go_region_held3 (fun w' => w'.cell? ⟨b, off + k * 3, none⟩ = some (.int .i64 A) ∧ w'.cell? ⟨b, off + k * 3 + 1, none⟩ = some (.int .i64 B) ∧ w'.cell? ⟨b, off + k * 3 + 2, none⟩ = some (.int .i64 C) ∧ w'.cell? ⟨b2, off2 + k * 3, none⟩ = some (.int .i64 A) ∧ w'.cell? ⟨b2, off2 + k * 3 + 1, none⟩ = some (.int .i64 B) ∧ w'.cell? ⟨b2, off2 + k * 3 + 2, none⟩ = some (.int .i64 C)) (first | with_reducible exact SA.out | with_reducible exact SB'.out | exact SA.out | exact SB'.out | fail) (first | (go_at_call 40; refine (eqOp_same _ A B C).mono ?_; rintro e w2 ⟨rfl, x2⟩; have HW2 := hide (HW.out.drew.trans x2); have SB' : Hid ((fun w' => w'.cell? ⟨b, off + k * 3, none⟩ = some (.int .i64 A) ∧ w'.cell? ⟨b, off + k * 3 + 1, none⟩ = some (.int .i64 B) ∧ w'.cell? ⟨b, off + k * 3 + 2, none⟩ = some (.int .i64 C) ∧ w'.cell? ⟨b2, off2 + k * 3, none⟩ = some (.int .i64 A) ∧ w'.cell? ⟨b2, off2 + k * 3 + 1, none⟩ = some (.int .i64 B) ∧ w'.cell? ⟨b2, off2 + k * 3 + 2, none⟩ = some (.int .i64 C)) w2) := ⟨x2.box q0, x2.box q1, x2.box q2, x2.box r0, x2.box r1, x2.box r2⟩; clear x2) | fail)
      go_wp2
      go_roundw
      · exact ⟨k + 1, by go_num, by omega, HW2.out⟩
      · simp [intOf]; omega
    · have hkk : k = ts.length := by omega
      subst hkk
      go_wp2
      go_ret
      exact ⟨rfl, HW.out⟩

/-- The first k are in, the rest is 0. -/
def pfill (ts : List P3) (k : Nat) : List P3 := ts.take k ++ List.replicate (ts.length - k) p0
theorem pfill_len (ts : List P3) (k : Nat) : (pfill ts k).length = ts.length := by
  unfold pfill; simp; omega
theorem pfill_set (xs : List P3) (k : Nat) (hk : k < xs.length) : (pfill xs k).set k (xs.getD k p0) = pfill xs (k + 1) := by
  unfold pfill
  apply List.ext_getElem?
  intro j
  simp only [List.getElem?_set, List.getElem?_append, List.length_append, List.length_take, List.length_replicate, List.getElem?_take, List.getElem?_replicate, List.getD_eq_getElem?_getD]
  by_cases e : k = j
  · subst e
    have h1 : min k xs.length = k := by omega
    have h2 : min (k + 1) xs.length = k + 1 := by omega
    simp [h1, h2, hk]
    omega
  · have h1 : min k xs.length = k := by omega
    have h2 : min (k + 1) xs.length = k + 1 := by omega
    simp only [h1, h2, e, if_false]
    by_cases h : j < k
    · have : j < k + 1 := by omega
      simp [h, this]
    · have h3 : ¬ j < k + 1 := by omega
      simp only [h, h3, if_false]
      by_cases h4 : j - k < xs.length - k
      · have : j - (k + 1) < xs.length - (k + 1) := by omega
        simp [h4, this]
      · have : ¬ j - (k + 1) < xs.length - (k + 1) := by omega
        simp [h4, this]
theorem pfill_zero (xs : List P3) : pfill xs 0 = List.replicate xs.length p0 := by unfold pfill; simp
theorem pfill_full (xs : List P3) : pfill xs xs.length = xs := by unfold pfill; simp
theorem prow_new (w : World) (n : Nat) (t : TypeId) : PRow (w.alloc (.cells (madeCells #[.int .i64 0, .int .i64 0, .int .i64 0] (n * 3)) t)) w.heap.size 0 (List.replicate n p0) := by
  intro j hj
  rw [List.length_replicate] at hj
  have e : (List.replicate n p0).getD j p0 = p0 := by simp [List.getD_eq_getElem?_getD, hj]
  rw [e]
  have hc := fun o => cell_of_row _ w.heap.size o _ t (0, 0) (heap_alloc_new w (.cells (madeCells #[.int .i64 0, .int .i64 0, .int .i64 0] (n * 3)) t))
  have h0 : (0 + j * 3) % 3 = 0 := by omega
  have h1 : (0 + j * 3 + 1) % 3 = 1 := by omega
  have h2 : (0 + j * 3 + 2) % 3 = 2 := by omega
  have l0 : 0 + j * 3 < n * 3 := by omega
  have l1 : 0 + j * 3 + 1 < n * 3 := by omega
  have l2 : 0 + j * 3 + 2 < n * 3 := by omega
  refine ⟨(hc _).trans ?_, (hc _).trans ?_, (hc _).trans ?_⟩
  · simp only [madeCells]
    rw [Array.getElem?_map, Array.getElem?_range, if_pos l0]
    simp [p0]
  · simp only [madeCells]
    rw [Array.getElem?_map, Array.getElem?_range, if_pos l1]
    simp [p0]
  · simp only [madeCells]
    rw [Array.getElem?_map, Array.getElem?_range, if_pos l2]
    simp [p0]
theorem pget_set (ts : List P3) (i : Nat) (t : P3) (j : Nat) (hi : i < ts.length) : (ts.set i t).getD j p0 = if i = j then t else ts.getD j p0 := by
  rw [List.getD_eq_getElem?_getD, List.getElem?_set, List.getD_eq_getElem?_getD]
  by_cases e : i = j
  · subst e; simp [hi]
  · simp [e]
theorem PRow.set {w : World} {g off : Nat} {ts : List P3} (h : PRow w g off ts) (i : Nat) (hi : i < ts.length) (t : P3) :
    PRow (((w.setCell ⟨g, off + i * 3, none⟩ (.int .i64 t.1)).setCell ⟨g, off + i * 3 + 1, none⟩ (.int .i64 t.2.1)).setCell ⟨g, off + i * 3 + 2, none⟩ (.int .i64 t.2.2)) g off (ts.set i t) := fun j hj => by
  rw [List.length_set] at hj
  rw [pget_set ts i t j hi]
  obtain ⟨a, b, c⟩ := h j hj
  by_cases e : i = j
  · subst e
    rw [if_pos rfl]
    exact ⟨near (by omega) (near (by omega) (World.cell?_setCell_same _ _ _ a)), near (by omega) (World.cell?_setCell_same _ _ _ (near (by omega) b)), World.cell?_setCell_same _ _ _ (near (by omega) (near (by omega) c))⟩
  · rw [if_neg e]
    exact ⟨near (by omega) (near (by omega) (near (by omega) a)), near (by omega) (near (by omega) (near (by omega) b)), near (by omega) (near (by omega) (near (by omega) c))⟩
theorem PRow.ext {w w' : World} {b off : Nat} {ts : List P3} (h : PRow w b off ts) (x : Ext w w') : PRow w' b off ts := h.keep x.bl

set_option maxRecDepth 100000 in
set_option maxHeartbeats 1000000 in
theorem toOps_any {w : World} {v : Value} {ts : List P3} (h : PV w v ts) (hl : ts.length ≤ 1048576) :
    Calls Try.prog 21 #[v] w fun e w' => e = .returned (.slice (some ⟨w.heap.size, 0, none⟩) ts.length ts.length) ∧ PRow w' w.heap.size 0 ts ∧ Ext w w' ∧ w.heap.size < w'.heap.size := by
  obtain ⟨i0, hi0, hz0, hz1, hz2⟩ := info_parts info34
  obtain ⟨sa, cap, rfl, hx⟩ := h
  have hmk := run_make (P := Try.prog) w 25 34 i0 (.agg #[.int .i64 0, .int .i64 0, .int .i64 0]) Try.underlying25 hi0 hz0 .i64 .i64 ts.length ts.length (by omega) (Int.le_refl _) (by rw [hz2]; omega) (by omega)
  simp only [Int.toNat_natCast] at hmk
  have HX := hide hx
  clear hx
  have R0 := hide (prow_new w ts.length 34)
  go_enter Try.func21, Try.ntmps21
  go_wp2
  go_loopw [4] (fun i wr => ∃ k : Nat, i = .int .i64 k ∧ k ≤ ts.length ∧ PRow wr w.heap.size 0 (pfill ts k) ∧ Ext w wr ∧ w.heap.size < wr.heap.size) (fun i _ => ts.length - (intOf i).toNat)
  case atStart => exact ⟨0, rfl, by omega, by rw [pfill_zero]; exact R0.out, (Ext.refl w).alloc _ _, by simp⟩
  case round =>
    obtain ⟨k, rfl, hk, hr, he, hs⟩ := hrel
    have HR := hide hr
    have HE := hide he
    have Hs := hide hs
    clear hr he hs
    by_cases hlt : k < ts.length
    · rcases HX.out with h0 | ⟨b, off, rfl, hrow⟩
      · rw [h0] at hlt; simp at hlt
      have q0 := HE.out.box (hrow k hlt).1
      have q1 := HE.out.box (hrow k hlt).2.1
      have q2 := HE.out.box (hrow k hlt).2.2
      have hk0 : (0 : Int) ≤ (k : Int) := Int.natCast_nonneg _
      have hk1 : (k : Int) < (ts.length : Int) := by omega
      have hst := hide (pfill_set ts k hlt)
      have hml : k < (pfill ts k).length := by rw [pfill_len]; exact hlt
      generalize ts.getD k p0 = t at q0 q1 q2 hst
      clear hrow
      obtain ⟨A, B, C⟩ := t
      simp only at q0 q1 q2
      go_wp2_with fail
      refine (toOp_any _ A B C).mono ?_
      rintro e w2 ⟨rfl, x2⟩
      have HR2 := hide (HR.out.ext x2)
      have HE2 := hide (HE.out.trans x2)
      have St := HR2.out.set k hml (A, B, C)
      rw [hst.out, Nat.zero_add] at St
      have HSt := hide St
      obtain ⟨r0, r1, r2⟩ := HR2.out k hml
      rw [Nat.zero_add] at r0 r1 r2
      generalize ((pfill ts k).getD k p0).1 = A' at r0
      generalize ((pfill ts k).getD k p0).2.1 = B' at r1
      generalize ((pfill ts k).getD k p0).2.2 = C' at r2
      have qf := fun o => HE2.out.unfrozen (Nat.le_refl _) o
      have Hs2 : Hid (w.heap.size < w2.heap.size) := Nat.lt_of_lt_of_le Hs.out (Below.size x2.bl)
      clear St x2 q0 q1 q2
      go_wp2_with fail
      go_roundw
      · exact ⟨k + 1, by go_num, by omega, HSt.out, ((HE2.out.setCell (Nat.le_refl _) _).setCell (Nat.le_refl _) _).setCell (Nat.le_refl _) _, by simpa [World.setCell] using Hs2.out⟩
      · simp [intOf]; omega
    · have hkk : k = ts.length := by omega
      go_wp2
      go_ret
      refine ⟨rfl, ?_, HE.out, Hs.out⟩
      have := HR.out
      rw [hkk, pfill_full] at this
      exact this
end Go.Proofs.Ytjjemnlknnnkbaa
