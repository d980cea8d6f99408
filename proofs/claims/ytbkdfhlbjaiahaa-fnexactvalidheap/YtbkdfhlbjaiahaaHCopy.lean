import Derived.Test.YtbkdfhlbjaiahaaHBase
namespace Go.Proofs.Ytbkdfhlbjaiahaa
open Go.ChangeShapes Go.RowKit FL
set_option linter.unusedSimpArgs false
set_option linter.unusedVariables false
theorem info59 : (Try.prog.info? 59).map (fun i => (i.zero, i.size, i.bytes)) = some (some (.agg #[.int .i64 0, .float .f64 0, .float .f64 0]), 3, 24) := by kernel_rfl
theorem info54 : (Try.prog.info? 54).map (fun i => (i.zero, i.size, i.bytes)) = some (some (.agg #[.int .i64 0, .slice none 0 0]), 2, 32) := by kernel_rfl

set_option maxRecDepth 100000 in
set_option maxHeartbeats 1000000 in
theorem toCells_any {w : World} {v : Value} {cs : List C3} (h : CV w v cs) (hl : cs.length ≤ 1048576) :
    Calls Try.prog 64 #[v] w fun e w' => e = .returned (.slice (some ⟨w.heap.size, 0, none⟩) cs.length cs.length) ∧ CRow w' w.heap.size 0 cs ∧ Ext w w' ∧ w.heap.size < w'.heap.size := by
  obtain ⟨i0, hi0, hz0, hz1, hz2⟩ := info_parts info59
  obtain ⟨sa, cap, rfl, hx⟩ := h
  have hmk := run_make (P := Try.prog) w 46 59 i0 (.agg #[.int .i64 0, .float .f64 0, .float .f64 0]) Try.underlying46 hi0 hz0 .i64 .i64 cs.length cs.length (by omega) (Int.le_refl _) (by rw [hz2]; omega) (by omega)
  simp only [Int.toNat_natCast] at hmk
  have HX := hide hx
  clear hx
  have R0 := hide (crow_new w cs.length 59)
  go_enter Try.func64, Try.ntmps64
  go_wp2
  go_loopw [4] (fun i wr => ∃ k : Nat, i = .int .i64 k ∧ k ≤ cs.length ∧ CRow wr w.heap.size 0 (fillD k0 cs k) ∧ Ext w wr ∧ w.heap.size < wr.heap.size) (fun i _ => cs.length - (intOf i).toNat)
  case atStart => exact ⟨0, rfl, by omega, by rw [fillD_zero]; exact R0.out, (Ext.refl w).alloc _ _, by simp⟩
  case round =>
    obtain ⟨k, rfl, hk, hr, he, hs⟩ := hrel
    have HR := hide hr
    have HE := hide he
    have Hs := hide hs
    clear hr he hs
    by_cases hlt : k < cs.length
    · rcases HX.out with h0 | ⟨b, off, rfl, hrow⟩
      · rw [h0] at hlt; simp at hlt
      have q0 := HE.out.box (hrow k hlt).1
      have q1 := HE.out.box (hrow k hlt).2.1
      have q2 := HE.out.box (hrow k hlt).2.2
      have hk0 : (0 : Int) ≤ (k : Int) := Int.natCast_nonneg _
      have hk1 : (k : Int) < (cs.length : Int) := by omega
      have hst := hide (fillD_set k0 cs k hlt)
      have hml : k < (fillD k0 cs k).length := by rw [fillD_len]; exact hlt
      generalize cs.getD k k0 = t at q0 q1 q2 hst
      clear hrow
      obtain ⟨A, B, C⟩ := t
      simp only at q0 q1 q2
      go_wp2_with fail
      refine (toCell_any A B C _).mono ?_
      rintro e w2 ⟨rfl, x2⟩
      have HR2 := hide (HR.out.keep x2.bl)
      have HE2 := hide (HE.out.trans x2)
      have St := HR2.out.set k hml (A, B, C)
      rw [hst.out, Nat.zero_add] at St
      have HSt := hide St
      obtain ⟨r0, r1, r2⟩ := HR2.out k hml
      rw [Nat.zero_add] at r0 r1 r2
      generalize ((fillD k0 cs k).getD k k0).1 = A' at r0
      generalize ((fillD k0 cs k).getD k k0).2.1 = B' at r1
      generalize ((fillD k0 cs k).getD k k0).2.2 = C' at r2
      have qf := fun o => HE2.out.unfrozen (Nat.le_refl _) o
      have Hs2 : Hid (w.heap.size < w2.heap.size) := Nat.lt_of_lt_of_le Hs.out (Below.size x2.bl)
      clear St x2 q0 q1 q2
      go_wp2_with fail
      go_roundw
      · exact ⟨k + 1, by go_num, by omega, HSt.out, ((HE2.out.setCell (Nat.le_refl _) _).setCell (Nat.le_refl _) _).setCell (Nat.le_refl _) _, by simpa [World.setCell] using Hs2.out⟩
      · simp [intOf]; omega
    · have hkk : k = cs.length := by omega
      go_wp2
      go_ret
      refine ⟨rfl, ?_, HE.out, Hs.out⟩
      have := HR.out
      rw [hkk, fillD_full] at this
      exact this

set_option maxRecDepth 100000 in
set_option maxHeartbeats 1000000 in
theorem toStore_any {w : World} {u : Value} {cs : List C3} (dt : Int) (h : CV w u cs) (hl : cs.length ≤ 1048576) :
    Calls Try.prog 45 #[.agg #[.int .i64 dt, u]] w fun e w' => ∃ v, e = .returned (.agg #[.int .i64 dt, v]) ∧ CVL w' w.heap.size v cs ∧ Ext w w' := by
  obtain ⟨sa, cap, rfl, hx⟩ := h
  have hcv : CV w (.slice sa cs.length cap) cs := ⟨sa, cap, rfl, hx⟩
  generalize hW1 : (w.alloc (.cells #[.int .i64 dt, .slice sa cs.length cap] 85)) = W1
  have x1 : Ext w W1 := by rw [← hW1]; exact (Ext.refl w).alloc _ _
  have hs1 : W1.heap.size = w.heap.size + 1 := by rw [← hW1]; simp
  have x2 : Ext W1 (W1.alloc (.cells #[.int .i64 0, .slice none 0 0] 54)) := (Ext.refl W1).alloc _ _
  have x3 : Ext (W1.alloc (.cells #[.int .i64 0, .slice none 0 0] 54)) ((W1.alloc (.cells #[.int .i64 0, .slice none 0 0] 54)).alloc (.cells #[.int .i64 dt, .slice none 0 0] 54)) := (Ext.refl _).alloc _ _
  have r0 := fun j => new_cell W1 #[.int .i64 0, .slice none 0 0] 54 (w.heap.size + 1) hs1.symm j
  have o0 := fun j => new_cell (W1.alloc (.cells #[.int .i64 0, .slice none 0 0] 54)) #[.int .i64 dt, .slice none 0 0] 54 (w.heap.size + 1 + 1) (by simp [hs1]) j
  have HX := hide ((x1.trans x2).trans x3)
  have R0 := hide (x3.box (r0 0))
  have R1 := hide (x3.box (r0 1))
  have O0 := hide (o0 0)
  have O1 := hide (o0 1)
  have hs3 : Hid (((W1.alloc (.cells #[.int .i64 0, .slice none 0 0] 54)).alloc (.cells #[.int .i64 dt, .slice none 0 0] 54)).heap.size = w.heap.size + 3) := by show ((W1.alloc _).alloc _).heap.size = _; simp [hs1]
  have HC := hide (hcv.keep HX.out.bl)
  clear hx hcv x1 x2 x3 r0 o0 hs1
  subst hW1
  go_enter Try.func45, Try.ntmps45
  go_wp2_with fail
  generalize hW3 : (((w.alloc (.cells #[.int .i64 dt, .slice sa cs.length cap] 85)).alloc (.cells #[.int .i64 0, .slice none 0 0] 54)).alloc (.cells #[.int .i64 dt, .slice none 0 0] 54)) = W3 at *
  clear hW3
  refine (toCells_any HC.out hl).mono ?_
  rintro e w2 ⟨rfl, hr, hx, hsz⟩
  rw [hs3.out] at hr ⊢
  have rc0 := hx.box R0.out
  have rc1 := hx.box R1.out
  have oc0 := hx.box O0.out
  have oc1 := hx.box O1.out
  have HE := hide (HX.out.trans hx)
  have fz := fun b o (hb : w.heap.size ≤ b) => HE.out.unfrozen (b := b) hb o
  have f1 := fz (w.heap.size + 1) 0 (by omega)
  have f2 := fz (w.heap.size + 1) 1 (by omega)
  have f3 := fz (w.heap.size + 1 + 1) 1 (by omega)
  have HR : Hid (CVL w2 (w.heap.size + 3) (.slice (some ⟨w.heap.size + 3, 0, none⟩) cs.length cs.length) cs) := ⟨_, _, rfl, Or.inr ⟨_, 0, rfl, Nat.le_refl _, hr⟩⟩
  clear hr hx hsz HX HC R0 R1 O0 O1 hs3 fz
  go_wp2_with fail
  refine bodyPost_ret (v := .agg #[.int .i64 dt, .slice (some ⟨w.heap.size + 3, 0, none⟩) cs.length cs.length]) (by simp [results, Try.results45, go_sem, rc0, rc1]) rfl ⟨_, rfl, ?_, ?_⟩
  · exact (((HR.out.far (by omega)).far (by omega)).far (by omega)).le (by omega)
  · exact ((HE.out.setCell (p := ⟨w.heap.size + 1 + 1, 1, none⟩) (by show _ ≤ w.heap.size + 1 + 1; omega) _).setCell (p := ⟨w.heap.size + 1, 0, none⟩) (by show _ ≤ w.heap.size + 1; omega) _).setCell (p := ⟨w.heap.size + 1, 1, none⟩) (by show _ ≤ w.heap.size + 1; omega) _

set_option maxRecDepth 100000 in
set_option maxHeartbeats 1000000 in
theorem toStores_any {w : World} {v : Value} {ss : List St} (h : SV w v ss) (hl : SL ss 1048576) :
    Calls Try.prog 26 #[v] w fun e w' => e = .returned (.slice (some ⟨w.heap.size, 0, none⟩) ss.length ss.length) ∧ SRowL w' (w.heap.size + 1) w.heap.size 0 ss ∧ Ext w w' ∧ w.heap.size < w'.heap.size := by
  obtain ⟨i0, hi0, hz0, hz1, hz2⟩ := info_parts info54
  obtain ⟨sa, cap, rfl, hx⟩ := h
  have hl1 := hl.1
  have HL := hide hl
  clear hl
  have hmk := run_make (P := Try.prog) w 27 54 i0 (.agg #[.int .i64 0, .slice none 0 0]) Try.underlying27 hi0 hz0 .i64 .i64 ss.length ss.length (by omega) (Int.le_refl _) (by rw [hz2]; omega) (by omega)
  simp only [Int.toNat_natCast] at hmk
  have HX := hide hx
  clear hx
  have R0 := hide (srow_new w (w.heap.size + 1) ss.length 54)
  go_enter Try.func26, Try.ntmps26
  go_wp2
  go_loopw [4] (fun i wr => ∃ k : Nat, i = .int .i64 k ∧ k ≤ ss.length ∧ SRowL wr (w.heap.size + 1) w.heap.size 0 (fillD s0 ss k) ∧ Ext w wr ∧ w.heap.size < wr.heap.size) (fun i _ => ss.length - (intOf i).toNat)
  case atStart => exact ⟨0, rfl, by omega, by rw [fillD_zero]; exact R0.out, (Ext.refl w).alloc _ _, by simp⟩
  case round =>
    obtain ⟨k, rfl, hk, hr, he, hs⟩ := hrel
    have HR := hide hr
    have HE := hide he
    have Hs := hide hs
    clear hr he hs
    by_cases hlt : k < ss.length
    · rcases HX.out with h0 | ⟨b, off, rfl, hrow⟩
      · rw [h0] at hlt; simp at hlt
      obtain ⟨q0, u, q1, q2⟩ := (hrow.keep HE.out.bl) k hlt
      have hcl := HL.out.at k hlt
      have hk0 : (0 : Int) ≤ (k : Int) := Int.natCast_nonneg _
      have hk1 : (k : Int) < (ss.length : Int) := by omega
      have hst := hide (fillD_set s0 ss k hlt)
      have hml : k < (fillD s0 ss k).length := by rw [fillD_len]; exact hlt
      have Q2 := hide q2
      clear q2
      generalize ss.getD k s0 = t at q0 Q2 hst hcl
      clear hrow
      obtain ⟨A, cs⟩ := t
      simp only at q0 Q2 hcl
      obtain ⟨su, cu, rfl, _⟩ := Q2.out
      go_wp2_with fail
      refine (toStore_any A Q2.out hcl).mono ?_
      rintro e w2 ⟨u2, rfl, hu2, x2⟩
      obtain ⟨sv, cv, rfl, hv⟩ := hu2
      have hu3 : CVL w2 (w.heap.size + 1) (.slice sv cs.length cv) cs := CVL.le ⟨sv, cv, rfl, hv⟩ (by have := Hs.out; omega)
      have HR2 := hide (HR.out.keep x2.bl)
      have HE2 := hide (HE.out.trans x2)
      have St := HR2.out.set (by omega) k hml A _ cs hu3
      rw [hst.out, Nat.zero_add] at St
      have HSt := hide St
      obtain ⟨r0, u', r1, _⟩ := HR2.out k hml
      rw [Nat.zero_add] at r0 r1
      generalize ((fillD s0 ss k).getD k s0).1 = A' at r0
      have qf := fun o => HE2.out.unfrozen (Nat.le_refl _) o
      have Hs2 : Hid (w.heap.size < w2.heap.size) := Nat.lt_of_lt_of_le Hs.out (Below.size x2.bl)
      clear St x2 q0 q1 hv hu3
      go_wp2_with fail
      go_roundw
      · exact ⟨k + 1, by go_num, by omega, HSt.out, (HE2.out.setCell (Nat.le_refl _) _).setCell (Nat.le_refl _) _, by simpa [World.setCell] using Hs2.out⟩
      · simp [intOf]; omega
    · have hkk : k = ss.length := by omega
      go_wp2
      go_ret
      refine ⟨rfl, ?_, HE.out, Hs.out⟩
      have := HR.out
      rw [hkk, fillD_full] at this
      exact this

set_option maxRecDepth 100000 in
set_option maxHeartbeats 1000000 in
theorem toHeap_any {w : World} {v : Value} {ss : List St} (h : SV w v ss) (hl : SL ss 1048576) :
    Calls Try.prog 8 #[.agg #[v]] w fun e w' => ∃ g, e = .returned (.agg #[.slice (some ⟨g, 0, none⟩) ss.length ss.length]) ∧ w.heap.size ≤ g ∧ SRowL w' (g + 1) g 0 ss ∧ Ext w w' := by
  obtain ⟨sa, cap, rfl, hx⟩ := h
  have hcv : SV w (.slice sa ss.length cap) ss := ⟨sa, cap, rfl, hx⟩
  generalize hW1 : (w.alloc (.cells #[.slice sa ss.length cap] 24)) = W1
  have x1 : Ext w W1 := by rw [← hW1]; exact (Ext.refl w).alloc _ _
  have hs1 : W1.heap.size = w.heap.size + 1 := by rw [← hW1]; simp
  have x2 : Ext W1 (W1.alloc (.cells #[.slice none 0 0] 29)) := (Ext.refl W1).alloc _ _
  have x3 : Ext (W1.alloc (.cells #[.slice none 0 0] 29)) ((W1.alloc (.cells #[.slice none 0 0] 29)).alloc (.cells #[.slice none 0 0] 29)) := (Ext.refl _).alloc _ _
  have r0 := fun j => new_cell W1 #[.slice none 0 0] 29 (w.heap.size + 1) hs1.symm j
  have o0 := fun j => new_cell (W1.alloc (.cells #[.slice none 0 0] 29)) #[.slice none 0 0] 29 (w.heap.size + 1 + 1) (by simp [hs1]) j
  have HX := hide ((x1.trans x2).trans x3)
  have R0 := hide (x3.box (r0 0))
  have O0 := hide (o0 0)
  have hs3 : Hid (((W1.alloc (.cells #[.slice none 0 0] 29)).alloc (.cells #[.slice none 0 0] 29)).heap.size = w.heap.size + 3) := by show ((W1.alloc _).alloc _).heap.size = _; simp [hs1]
  have HC := hide (hcv.keep HX.out.bl)
  clear hx hcv x1 x2 x3 r0 o0 hs1
  subst hW1
  go_enter Try.func8, Try.ntmps8
  go_wp2_with fail
  generalize hW3 : (((w.alloc (.cells #[.slice sa ss.length cap] 24)).alloc (.cells #[.slice none 0 0] 29)).alloc (.cells #[.slice none 0 0] 29)) = W3 at *
  clear hW3
  refine (toStores_any HC.out hl).mono ?_
  rintro e w2 ⟨rfl, hr, hx, hsz⟩
  rw [hs3.out] at hr ⊢
  have rc0 := hx.box R0.out
  have oc0 := hx.box O0.out
  have HE := hide (HX.out.trans hx)
  have fz := fun b o (hb : w.heap.size ≤ b) => HE.out.unfrozen (b := b) hb o
  have f1 := fz (w.heap.size + 1) 0 (by omega)
  have f3 := fz (w.heap.size + 1 + 1) 0 (by omega)
  have HR := hide hr
  clear hr hx hsz HX HC R0 O0 hs3 fz
  go_wp2_with fail
  refine bodyPost_ret (v := .agg #[.slice (some ⟨w.heap.size + 3, 0, none⟩) ss.length ss.length]) (by simp [results, Try.results8, go_sem, rc0]) rfl ⟨_, rfl, by omega, ?_, ?_⟩
  · exact (HR.out.far (by omega) (by omega)).far (by omega) (by omega)
  · exact (HE.out.setCell (p := ⟨w.heap.size + 1 + 1, 0, none⟩) (by show _ ≤ w.heap.size + 1 + 1; omega) _).setCell (p := ⟨w.heap.size + 1, 0, none⟩) (by show _ ≤ w.heap.size + 1; omega) _
end Go.Proofs.Ytbkdfhlbjaiahaa
