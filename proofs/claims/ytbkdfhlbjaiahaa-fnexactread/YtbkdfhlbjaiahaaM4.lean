import Derived.Test.YtbkdfhlbjaiahaaM1
import Derived.Test.YtbkdfhlbjaiahaaM3
import Derived.Test.YtbkdfhlbjaiahaaM2
import Derived.RangeFuncNested
import Derived.RangeFuncBound
import Derived.RangeFuncCalls
import Derived.RangeFuncLeaves
import Derived.Shelf.Abstract
import Derived.Shelf.RegionOpen
import Derived.WalkKit
import Derived.OwnWalkIn
import Derived.TacticsInMore
import Derived.LoopNIn
import Derived.LoopIn
import Derived.Test.YtbkdfhlbjaiahaaSpecVV
import Derived.Maps.AppendAt
import Derived.Deep.RegionHeld3
import Derived.Deep.AppendLies
namespace Go.Proofs.Ytbkdfhlbjaiahaa
open Go.ChangeShapes Go.RowKit FL
set_option linter.unusedSimpArgs false
set_option linter.unusedVariables false
theorem info59 : (Try.prog.info? 59).map (fun i => (i.zero, i.size, i.bytes)) = some (some (.agg #[.int .i64 0, .float .f64 0, .float .f64 0]), 3, 24) := by kernel_rfl
theorem info54 : (Try.prog.info? 54).map (fun i => (i.zero, i.size, i.bytes)) = some (some (.agg #[.int .i64 0, .slice none 0 0]), 2, 32) := by kernel_rfl

set_option maxRecDepth 100000 in
set_option maxHeartbeats 1000000 in
theorem toCells_any {w : World} {v : Value} {cs : List C3} (h : CV w v cs) (hl : cs.length ≤ 1048576) :
    Calls Try.prog 64 #[v] w fun e w' => e = .returned (.slice (some ⟨w.heap.size, 0, none⟩) cs.length cs.length) ∧ CRow w' w.heap.size 0 cs ∧ Ext w w' ∧ w.heap.size < w'.heap.size := by
  obtain ⟨i0, hi0, hz0, hz1, hz2⟩ := info_parts info59
  obtain ⟨sa, cap, rfl, hx⟩ := h
  have hmk := run_make (P := Try.prog) w 46 59 i0 (.agg #[.int .i64 0, .float .f64 0, .float .f64 0]) Try.underlying46 hi0 hz0 .i64 .i64 cs.length cs.length (by omega) (Int.le_refl _) (by rw [hz2]; omega) (by omega)
  simp only [Int.toNat_natCast] at hmk
  have HX := hide hx
  clear hx
  have R0 := hide (crow_new w cs.length 59)
  go_enter Try.func64, Try.ntmps64
  go_wp2
  go_loopw [4] (fun i wr => ∃ k : Nat, i = .int .i64 k ∧ k ≤ cs.length ∧ CRow wr w.heap.size 0 (fillD k0 cs k) ∧ Ext w wr ∧ w.heap.size < wr.heap.size) (fun i _ => cs.length - (intOf i).toNat)
  case atStart => exact ⟨0, rfl, by omega, by rw [fillD_zero]; exact R0.out, (Ext.refl w).alloc _ _, by simp⟩
  case round =>
    obtain ⟨k, rfl, hk, hr, he, hs⟩ := hrel
    have HR := hide hr
    have HE := hide he
    have Hs := hide hs
    clear hr he hs
    by_cases hlt : k < cs.length
    · rcases HX.out with h0 | ⟨b, off, rfl, hrow⟩
      · rw [h0] at hlt; simp at hlt
      have q0 := HE.out.box (hrow k hlt).1
      have q1 := HE.out.box (hrow k hlt).2.1
      have q2 := HE.out.box (hrow k hlt).2.2
      have hk0 : (0 : Int) ≤ (k : Int) := Int.natCast_nonneg _
      have hk1 : (k : Int) < (cs.length : Int) := by omega
      have hst := hide (fillD_set k0 cs k hlt)
      have hml : k < (fillD k0 cs k).length := by rw [fillD_len]; exact hlt
      generalize cs.getD k k0 = t at q0 q1 q2 hst
      clear hrow
      obtain ⟨A, B, C⟩ := t
      simp only at q0 q1 q2
      go_wp2_with fail
      refine (toCell_any A B C _).mono ?_
      rintro e w2 ⟨rfl, x2⟩
      have HR2 := hide (HR.out.keep x2.bl)
      have HE2 := hide (HE.out.trans x2)
      have St := HR2.out.set k hml (A, B, C)
      rw [hst.out, Nat.zero_add] at St
      have HSt := hide St
      obtain ⟨r0, r1, r2⟩ := HR2.out k hml
      rw [Nat.zero_add] at r0 r1 r2
      generalize ((fillD k0 cs k).getD k k0).1 = A' at r0
      generalize ((fillD k0 cs k).getD k k0).2.1 = B' at r1
      generalize ((fillD k0 cs k).getD k k0).2.2 = C' at r2
      have qf := fun o => HE2.out.unfrozen (Nat.le_refl _) o
      have Hs2 : Hid (w.heap.size < w2.heap.size) := Nat.lt_of_lt_of_le Hs.out (Below.size x2.bl)
      clear St x2 q0 q1 q2
      go_wp2_with fail
      go_roundw
      · exact ⟨k + 1, by go_num, by omega, HSt.out, ((HE2.out.setCell (Nat.le_refl _) _).setCell (Nat.le_refl _) _).setCell (Nat.le_refl _) _, by simpa [World.setCell] using Hs2.out⟩
      · simp [intOf]; omega
    · have hkk : k = cs.length := by omega
      go_wp2
      go_ret
      refine ⟨rfl, ?_, HE.out, Hs.out⟩
      have := HR.out
      rw [hkk, fillD_full] at this
      exact this

set_option maxRecDepth 100000 in
set_option maxHeartbeats 1000000 in
theorem toStore_any {w : World} {u : Value} {cs : List C3} (dt : Int) (h : CV w u cs) (hl : cs.length ≤ 1048576) :
    Calls Try.prog 45 #[.agg #[.int .i64 dt, u]] w fun e w' => ∃ v, e = .returned (.agg #[.int .i64 dt, v]) ∧ CVL w' w.heap.size v cs ∧ Ext w w' := by
  obtain ⟨sa, cap, rfl, hx⟩ := h
  have hcv : CV w (.slice sa cs.length cap) cs := ⟨sa, cap, rfl, hx⟩
  generalize hW1 : (w.alloc (.cells #[.int .i64 dt, .slice sa cs.length cap] 85)) = W1
  have x1 : Ext w W1 := by rw [← hW1]; exact (Ext.refl w).alloc _ _
  have hs1 : W1.heap.size = w.heap.size + 1 := by rw [← hW1]; simp
  have x2 : Ext W1 (W1.alloc (.cells #[.int .i64 0, .slice none 0 0] 54)) := (Ext.refl W1).alloc _ _
  have x3 : Ext (W1.alloc (.cells #[.int .i64 0, .slice none 0 0] 54)) ((W1.alloc (.cells #[.int .i64 0, .slice none 0 0] 54)).alloc (.cells #[.int .i64 dt, .slice none 0 0] 54)) := (Ext.refl _).alloc _ _
  have r0 := fun j => new_cell W1 #[.int .i64 0, .slice none 0 0] 54 (w.heap.size + 1) hs1.symm j
  have o0 := fun j => new_cell (W1.alloc (.cells #[.int .i64 0, .slice none 0 0] 54)) #[.int .i64 dt, .slice none 0 0] 54 (w.heap.size + 1 + 1) (by simp [hs1]) j
  have HX := hide ((x1.trans x2).trans x3)
  have R0 := hide (x3.box (r0 0))
  have R1 := hide (x3.box (r0 1))
  have O0 := hide (o0 0)
  have O1 := hide (o0 1)
  have hs3 : Hid (((W1.alloc (.cells #[.int .i64 0, .slice none 0 0] 54)).alloc (.cells #[.int .i64 dt, .slice none 0 0] 54)).heap.size = w.heap.size + 3) := by show ((W1.alloc _).alloc _).heap.size = _; simp [hs1]
  have HC := hide (hcv.keep HX.out.bl)
  clear hx hcv x1 x2 x3 r0 o0 hs1
  subst hW1
  go_enter Try.func45, Try.ntmps45
  go_wp2_with fail
  generalize hW3 : (((w.alloc (.cells #[.int .i64 dt, .slice sa cs.length cap] 85)).alloc (.cells #[.int .i64 0, .slice none 0 0] 54)).alloc (.cells #[.int .i64 dt, .slice none 0 0] 54)) = W3 at *
  clear hW3
  refine (toCells_any HC.out hl).mono ?_
  rintro e w2 ⟨rfl, hr, hx, hsz⟩
  rw [hs3.out] at hr ⊢
  have rc0 := hx.box R0.out
  have rc1 := hx.box R1.out
  have oc0 := hx.box O0.out
  have oc1 := hx.box O1.out
  have HE := hide (HX.out.trans hx)
  have fz := fun b o (hb : w.heap.size ≤ b) => HE.out.unfrozen (b := b) hb o
  have f1 := fz (w.heap.size + 1) 0 (by omega)
  have f2 := fz (w.heap.size + 1) 1 (by omega)
  have f3 := fz (w.heap.size + 1 + 1) 1 (by omega)
  have HR : Hid (CVL w2 (w.heap.size + 3) (.slice (some ⟨w.heap.size + 3, 0, none⟩) cs.length cs.length) cs) := ⟨_, _, rfl, Or.inr ⟨_, 0, rfl, Nat.le_refl _, hr⟩⟩
  clear hr hx hsz HX HC R0 R1 O0 O1 hs3 fz
  go_wp2_with fail
  refine bodyPost_ret (v := .agg #[.int .i64 dt, .slice (some ⟨w.heap.size + 3, 0, none⟩) cs.length cs.length]) (by simp [results, Try.results45, go_sem, rc0, rc1]) rfl ⟨_, rfl, ?_, ?_⟩
  · exact (((HR.out.far (by omega)).far (by omega)).far (by omega)).le (by omega)
  · exact ((HE.out.setCell (p := ⟨w.heap.size + 1 + 1, 1, none⟩) (by show _ ≤ w.heap.size + 1 + 1; omega) _).setCell (p := ⟨w.heap.size + 1, 0, none⟩) (by show _ ≤ w.heap.size + 1; omega) _).setCell (p := ⟨w.heap.size + 1, 1, none⟩) (by show _ ≤ w.heap.size + 1; omega) _

set_option maxRecDepth 100000 in
set_option maxHeartbeats 1000000 in
theorem toStores_any {w : World} {v : Value} {ss : List St} (h : SV w v ss) (hl : SL ss 1048576) :
    Calls Try.prog 26 #[v] w fun e w' => e = .returned (.slice (some ⟨w.heap.size, 0, none⟩) ss.length ss.length) ∧ SRowL w' (w.heap.size + 1) w.heap.size 0 ss ∧ Ext w w' ∧ w.heap.size < w'.heap.size := by
  obtain ⟨i0, hi0, hz0, hz1, hz2⟩ := info_parts info54
  obtain ⟨sa, cap, rfl, hx⟩ := h
  have hl1 := hl.1
  have HL := hide hl
  clear hl
  have hmk := run_make (P := Try.prog) w 27 54 i0 (.agg #[.int .i64 0, .slice none 0 0]) Try.underlying27 hi0 hz0 .i64 .i64 ss.length ss.length (by omega) (Int.le_refl _) (by rw [hz2]; omega) (by omega)
  simp only [Int.toNat_natCast] at hmk
  have HX := hide hx
  clear hx
  have R0 := hide (srow_new w (w.heap.size + 1) ss.length 54)
  go_enter Try.func26, Try.ntmps26
  go_wp2
  go_loopw [4] (fun i wr => ∃ k : Nat, i = .int .i64 k ∧ k ≤ ss.length ∧ SRowL wr (w.heap.size + 1) w.heap.size 0 (fillD s0 ss k) ∧ Ext w wr ∧ w.heap.size < wr.heap.size) (fun i _ => ss.length - (intOf i).toNat)
  case atStart => exact ⟨0, rfl, by omega, by rw [fillD_zero]; exact R0.out, (Ext.refl w).alloc _ _, by simp⟩
  case round =>
    obtain ⟨k, rfl, hk, hr, he, hs⟩ := hrel
    have HR := hide hr
    have HE := hide he
    have Hs := hide hs
    clear hr he hs
    by_cases hlt : k < ss.length
    · rcases HX.out with h0 | ⟨b, off, rfl, hrow⟩
      · rw [h0] at hlt; simp at hlt
      obtain ⟨q0, u, q1, q2⟩ := (hrow.keep HE.out.bl) k hlt
      have hcl := HL.out.at k hlt
      have hk0 : (0 : Int) ≤ (k : Int) := Int.natCast_nonneg _
      have hk1 : (k : Int) < (ss.length : Int) := by omega
      have hst := hide (fillD_set s0 ss k hlt)
      have hml : k < (fillD s0 ss k).length := by rw [fillD_len]; exact hlt
      have Q2 := hide q2
      clear q2
      generalize ss.getD k s0 = t at q0 Q2 hst hcl
      clear hrow
      obtain ⟨A, cs⟩ := t
      simp only at q0 Q2 hcl
      obtain ⟨su, cu, rfl, _⟩ := Q2.out
      go_wp2_with fail
      refine (toStore_any A Q2.out hcl).mono ?_
      rintro e w2 ⟨u2, rfl, hu2, x2⟩
      obtain ⟨sv, cv, rfl, hv⟩ := hu2
      have hu3 : CVL w2 (w.heap.size + 1) (.slice sv cs.length cv) cs := CVL.le ⟨sv, cv, rfl, hv⟩ (by have := Hs.out; omega)
      have HR2 := hide (HR.out.keep x2.bl)
      have HE2 := hide (HE.out.trans x2)
      have St := HR2.out.set (by omega) k hml A _ cs hu3
      rw [hst.out, Nat.zero_add] at St
      have HSt := hide St
      obtain ⟨r0, u', r1, _⟩ := HR2.out k hml
      rw [Nat.zero_add] at r0 r1
      generalize ((fillD s0 ss k).getD k s0).1 = A' at r0
      have qf := fun o => HE2.out.unfrozen (Nat.le_refl _) o
      have Hs2 : Hid (w.heap.size < w2.heap.size) := Nat.lt_of_lt_of_le Hs.out (Below.size x2.bl)
      clear St x2 q0 q1 hv hu3
      go_wp2_with fail
      go_roundw
      · exact ⟨k + 1, by go_num, by omega, HSt.out, (HE2.out.setCell (Nat.le_refl _) _).setCell (Nat.le_refl _) _, by simpa [World.setCell] using Hs2.out⟩
      · simp [intOf]; omega
    · have hkk : k = ss.length := by omega
      go_wp2
      go_ret
      refine ⟨rfl, ?_, HE.out, Hs.out⟩
      have := HR.out
      rw [hkk, fillD_full] at this
      exact this

set_option maxRecDepth 100000 in
set_option maxHeartbeats 1000000 in
theorem toHeap_any {w : World} {v : Value} {ss : List St} (h : SV w v ss) (hl : SL ss 1048576) :
    Calls Try.prog 8 #[.agg #[v]] w fun e w' => ∃ g, e = .returned (.agg #[.slice (some ⟨g, 0, none⟩) ss.length ss.length]) ∧ w.heap.size ≤ g ∧ SRowL w' (g + 1) g 0 ss ∧ Ext w w' := by
  obtain ⟨sa, cap, rfl, hx⟩ := h
  have hcv : SV w (.slice sa ss.length cap) ss := ⟨sa, cap, rfl, hx⟩
  generalize hW1 : (w.alloc (.cells #[.slice sa ss.length cap] 24)) = W1
  have x1 : Ext w W1 := by rw [← hW1]; exact (Ext.refl w).alloc _ _
  have hs1 : W1.heap.size = w.heap.size + 1 := by rw [← hW1]; simp
  have x2 : Ext W1 (W1.alloc (.cells #[.slice none 0 0] 29)) := (Ext.refl W1).alloc _ _
  have x3 : Ext (W1.alloc (.cells #[.slice none 0 0] 29)) ((W1.alloc (.cells #[.slice none 0 0] 29)).alloc (.cells #[.slice none 0 0] 29)) := (Ext.refl _).alloc _ _
  have r0 := fun j => new_cell W1 #[.slice none 0 0] 29 (w.heap.size + 1) hs1.symm j
  have o0 := fun j => new_cell (W1.alloc (.cells #[.slice none 0 0] 29)) #[.slice none 0 0] 29 (w.heap.size + 1 + 1) (by simp [hs1]) j
  have HX := hide ((x1.trans x2).trans x3)
  have R0 := hide (x3.box (r0 0))
  have O0 := hide (o0 0)
  have hs3 : Hid (((W1.alloc (.cells #[.slice none 0 0] 29)).alloc (.cells #[.slice none 0 0] 29)).heap.size = w.heap.size + 3) := by show ((W1.alloc _).alloc _).heap.size = _; simp [hs1]
  have HC := hide (hcv.keep HX.out.bl)
  clear hx hcv x1 x2 x3 r0 o0 hs1
  subst hW1
  go_enter Try.func8, Try.ntmps8
  go_wp2_with fail
  generalize hW3 : (((w.alloc (.cells #[.slice sa ss.length cap] 24)).alloc (.cells #[.slice none 0 0] 29)).alloc (.cells #[.slice none 0 0] 29)) = W3 at *
  clear hW3
  refine (toStores_any HC.out hl).mono ?_
  rintro e w2 ⟨rfl, hr, hx, hsz⟩
  rw [hs3.out] at hr ⊢
  have rc0 := hx.box R0.out
  have oc0 := hx.box O0.out
  have HE := hide (HX.out.trans hx)
  have fz := fun b o (hb : w.heap.size ≤ b) => HE.out.unfrozen (b := b) hb o
  have f1 := fz (w.heap.size + 1) 0 (by omega)
  have f3 := fz (w.heap.size + 1 + 1) 0 (by omega)
  have HR := hide hr
  clear hr hx hsz HX HC R0 O0 hs3 fz
  go_wp2_with fail
  refine bodyPost_ret (v := .agg #[.slice (some ⟨w.heap.size + 3, 0, none⟩) ss.length ss.length]) (by simp [results, Try.results8, go_sem, rc0]) rfl ⟨_, rfl, by omega, ?_, ?_⟩
  · exact (HR.out.far (by omega) (by omega)).far (by omega) (by omega)
  · exact (HE.out.setCell (p := ⟨w.heap.size + 1 + 1, 0, none⟩) (by show _ ≤ w.heap.size + 1 + 1; omega) _).setCell (p := ⟨w.heap.size + 1, 0, none⟩) (by show _ ≤ w.heap.size + 1; omega) _
end Go.Proofs.Ytbkdfhlbjaiahaa
namespace Go.Proofs.Ytbkdfhlbjaiahaa
open Go.ChangeShapes Go.RowKit FL
set_option linter.unusedSimpArgs false
set_option linter.unusedVariables false

set_option maxRecDepth 100000 in
set_option maxHeartbeats 1000000 in
theorem eqCell_same (w : World) (a : Int) (f g : Nat) (hf : B64 f) (hg : B64 g) :
    Calls Try.prog 36 #[.agg #[.int .i64 a, .float .f64 f, .float .f64 g], .agg #[.int .i64 a, .float .f64 f, .float .f64 g]] w fun e w' => e = .returned (.bool true) ∧ Ext w w' := by
  have x0 : Hid (Ext w ((w.alloc (.cells #[.int .i64 a, .float .f64 f, .float .f64 g] 59)).alloc (.cells #[.int .i64 a, .float .f64 f, .float .f64 g] 59))) := ((Ext.refl w).alloc _ _).alloc _ _
  have c1 := hide (fun W => sameFloat_any f f hf hf W)
  have c2 := hide (fun W => sameFloat_any g g hg hg W)
  rw [same_self] at c1 c2
  go_enter Try.func36, Try.ntmps36
  go_wp2_with fail
  refine (c1.out _).mono ?_
  rintro e w1 ⟨rfl, rfl⟩
  go_wp2_with fail
  refine (c2.out _).mono ?_
  rintro e w2 ⟨rfl, rfl⟩
  go_wp2
  go_ret
  exact ⟨rfl, x0.out⟩

set_option maxRecDepth 100000 in
set_option maxHeartbeats 1000000 in
theorem eqCells_same {w : World} {v u : Value} {cs : List C3} (h : CV w v cs) (g : CV w u cs) (hg : CG cs) (hl : cs.length ≤ 1048576) :
    Calls Try.prog 18 #[v, u] w fun e w' => e = .returned (.bool true) ∧ Ext w w' := by
  obtain ⟨sa, cap, rfl, hx⟩ := h
  obtain ⟨ta, dap, rfl, hy⟩ := g
  have HX := hide hx
  have HY := hide hy
  clear hx hy
  go_enter Try.func18, Try.ntmps18
  go_wp2
  go_loopw [5] (fun i wr => ∃ k : Nat, i = .int .i64 k ∧ k ≤ cs.length ∧ Ext w wr) (fun i _ => cs.length - (intOf i).toNat)
  case atStart => exact ⟨0, rfl, by omega, Ext.refl w⟩
  case round =>
    obtain ⟨k, rfl, hk, hw⟩ := hrel
    have HW := hide hw
    clear hw
    by_cases hlt : k < cs.length
    · rcases HX.out with h0 | ⟨b, off, rfl, hrow⟩
      · rw [h0] at hlt; simp at hlt
      rcases HY.out with h0 | ⟨b2, off2, rfl, hrow2⟩
      · rw [h0] at hlt; simp at hlt
      have q0 := HW.out.box (hrow k hlt).1
      have q1 := HW.out.box (hrow k hlt).2.1
      have q2 := HW.out.box (hrow k hlt).2.2
      have r0 := HW.out.box (hrow2 k hlt).1
      have r1 := HW.out.box (hrow2 k hlt).2.1
      have r2 := HW.out.box (hrow2 k hlt).2.2
      have hgk := hg.at k hlt
      have hk0 : (0 : Int) ≤ (k : Int) := Int.natCast_nonneg _
      have hk1 : (k : Int) < (cs.length : Int) := by omega
      generalize (cs.getD k k0).1 = A at q0 r0 hgk
      generalize (cs.getD k k0).2.1 = B at q1 r1 hgk
      generalize (cs.getD k k0).2.2 = C at q2 r2 hgk
      have HG := hide hgk.2
      clear hrow hrow2 hgk
      have SA : Hid ((fun w' => w'.cell? ⟨b, off + k * 3, none⟩ = some (.int .i64 A) ∧ w'.cell? ⟨b, off + k * 3 + 1, none⟩ = some (.float .f64 B) ∧ w'.cell? ⟨b, off + k * 3 + 2, none⟩ = some (.float .f64 C) ∧ w'.cell? ⟨b2, off2 + k * 3, none⟩ = some (.int .i64 A) ∧ w'.cell? ⟨b2, off2 + k * 3 + 1, none⟩ = some (.float .f64 B) ∧ w'.cell? ⟨b2, off2 + k * 3 + 2, none⟩ = some (.float .f64 C)) wr.drew) := ⟨q0, q1, q2, r0, r1, r2⟩
      go_wp2_with fail
      go_region_held3 (fun w' => w'.cell? ⟨b, off + k * 3, none⟩ = some (.int .i64 A) ∧ w'.cell? ⟨b, off + k * 3 + 1, none⟩ = some (.float .f64 B) ∧ w'.cell? ⟨b, off + k * 3 + 2, none⟩ = some (.float .f64 C) ∧ w'.cell? ⟨b2, off2 + k * 3, none⟩ = some (.int .i64 A) ∧ w'.cell? ⟨b2, off2 + k * 3 + 1, none⟩ = some (.float .f64 B) ∧ w'.cell? ⟨b2, off2 + k * 3 + 2, none⟩ = some (.float .f64 C)) (first | with_reducible exact SA.out | with_reducible exact SB'.out | exact SA.out | exact SB'.out | fail) (first | (go_at_call 36; refine (eqCell_same _ A B C HG.out.1 HG.out.2).mono ?_; rintro e w2 ⟨rfl, x2⟩; have HW2 := hide (HW.out.drew.trans x2); have SB' : Hid ((fun w' => w'.cell? ⟨b, off + k * 3, none⟩ = some (.int .i64 A) ∧ w'.cell? ⟨b, off + k * 3 + 1, none⟩ = some (.float .f64 B) ∧ w'.cell? ⟨b, off + k * 3 + 2, none⟩ = some (.float .f64 C) ∧ w'.cell? ⟨b2, off2 + k * 3, none⟩ = some (.int .i64 A) ∧ w'.cell? ⟨b2, off2 + k * 3 + 1, none⟩ = some (.float .f64 B) ∧ w'.cell? ⟨b2, off2 + k * 3 + 2, none⟩ = some (.float .f64 C)) w2) := ⟨x2.box q0, x2.box q1, x2.box q2, x2.box r0, x2.box r1, x2.box r2⟩; clear x2) | fail)
      go_wp2
      go_roundw
      · exact ⟨k + 1, by go_num, by omega, HW2.out⟩
      · simp [intOf]; omega
    · have hkk : k = cs.length := by omega
      subst hkk
      go_wp2
      go_ret
      exact ⟨rfl, HW.out⟩

set_option maxRecDepth 100000 in
set_option maxHeartbeats 1000000 in
theorem eqStore_same {w : World} {v u : Value} {cs : List C3} (dt : Int) (h : CV w v cs) (g : CV w u cs) (hg : CG cs) (hl : cs.length ≤ 1048576) :
    Calls Try.prog 48 #[.agg #[.int .i64 dt, v], .agg #[.int .i64 dt, u]] w fun e w' => e = .returned (.bool true) ∧ Ext w w' := by
  obtain ⟨sa, cap, e1, hx⟩ := h
  obtain ⟨ta, dap, e2, hy⟩ := g
  have h : CV w v cs := ⟨sa, cap, e1, hx⟩
  have g : CV w u cs := ⟨ta, dap, e2, hy⟩
  have x0 : Ext w ((w.alloc (.cells #[.int .i64 dt, v] 54)).alloc (.cells #[.int .i64 dt, u] 54)) := ((Ext.refl w).alloc _ _).alloc _ _
  have HX := hide x0
  have C1 := hide (eqCells_same (h.keep x0.bl) (g.keep x0.bl) hg hl)
  clear hx hy h g x0
  subst e1 e2
  go_enter Try.func48, Try.ntmps48
  go_wp2_with fail
  refine C1.out.mono ?_
  rintro e w1 ⟨rfl, x1⟩
  have HX1 := hide (HX.out.trans x1)
  clear x1
  go_wp2
  go_ret
  exact ⟨rfl, HX1.out⟩

set_option maxRecDepth 100000 in
set_option maxHeartbeats 1000000 in
theorem eqStores_same {w : World} {v u : Value} {ss : List St} (h : SV w v ss) (g : SV w u ss) (hg : SG ss) (hl : SL ss 1048576) :
    Calls Try.prog 28 #[v, u] w fun e w' => e = .returned (.bool true) ∧ Ext w w' := by
  obtain ⟨sa, cap, rfl, hx⟩ := h
  obtain ⟨ta, dap, rfl, hy⟩ := g
  have HX := hide hx
  have HY := hide hy
  have hl1 := hl.1
  clear hx hy
  go_enter Try.func28, Try.ntmps28
  go_wp2
  go_loopw [5] (fun i wr => ∃ k : Nat, i = .int .i64 k ∧ k ≤ ss.length ∧ Ext w wr) (fun i _ => ss.length - (intOf i).toNat)
  case atStart => exact ⟨0, rfl, by omega, Ext.refl w⟩
  case round =>
    obtain ⟨k, rfl, hk, hw⟩ := hrel
    have HW := hide hw
    clear hw
    by_cases hlt : k < ss.length
    · rcases HX.out with h0 | ⟨b, off, rfl, hrow⟩
      · rw [h0] at hlt; simp at hlt
      rcases HY.out with h0 | ⟨b2, off2, rfl, hrow2⟩
      · rw [h0] at hlt; simp at hlt
      obtain ⟨q0, u1, q1, c1⟩ := (hrow.keep HW.out.bl) k hlt
      obtain ⟨r0, u2, r1, c2⟩ := (hrow2.keep HW.out.bl) k hlt
      have hgk := hg.at k hlt
      have hlk := hl.at k hlt
      have hk0 : (0 : Int) ≤ (k : Int) := Int.natCast_nonneg _
      have hk1 : (k : Int) < (ss.length : Int) := by omega
      have C1 := hide c1
      have C2 := hide c2
      have HG := hide hgk
      clear c1 c2 hgk
      generalize (ss.getD k s0).1 = A at q0 r0
      generalize (ss.getD k s0).2 = cs at C1 C2 HG hlk
      clear hrow hrow2
      obtain ⟨s1, d1, rfl, _⟩ := C1.out
      obtain ⟨s2, d2, rfl, _⟩ := C2.out
      have SA : Hid ((fun w' => w'.cell? ⟨b, off + k * 2, none⟩ = some (.int .i64 A) ∧ w'.cell? ⟨b, off + k * 2 + 1, none⟩ = some (.slice s1 cs.length d1) ∧ w'.cell? ⟨b2, off2 + k * 2, none⟩ = some (.int .i64 A) ∧ w'.cell? ⟨b2, off2 + k * 2 + 1, none⟩ = some (.slice s2 cs.length d2)) wr.drew) := ⟨q0, q1, r0, r1⟩
      have xd : Ext wr wr.drew := (Ext.refl wr).drew
      have CC := hide (eqStore_same A (C1.out.keep xd.bl) (C2.out.keep xd.bl) HG.out hlk)
      clear xd
      go_wp2_with fail
      go_region_held3 (fun w' => w'.cell? ⟨b, off + k * 2, none⟩ = some (.int .i64 A) ∧ w'.cell? ⟨b, off + k * 2 + 1, none⟩ = some (.slice s1 cs.length d1) ∧ w'.cell? ⟨b2, off2 + k * 2, none⟩ = some (.int .i64 A) ∧ w'.cell? ⟨b2, off2 + k * 2 + 1, none⟩ = some (.slice s2 cs.length d2)) (first | with_reducible exact SA.out | with_reducible exact SB'.out | exact SA.out | exact SB'.out | fail) (first | (go_at_call 48; refine CC.out.mono ?_; rintro e w2 ⟨rfl, x2⟩; have HW2 := hide (HW.out.drew.trans x2); have SB' : Hid ((fun w' => w'.cell? ⟨b, off + k * 2, none⟩ = some (.int .i64 A) ∧ w'.cell? ⟨b, off + k * 2 + 1, none⟩ = some (.slice s1 cs.length d1) ∧ w'.cell? ⟨b2, off2 + k * 2, none⟩ = some (.int .i64 A) ∧ w'.cell? ⟨b2, off2 + k * 2 + 1, none⟩ = some (.slice s2 cs.length d2)) w2) := ⟨x2.box q0, x2.box q1, x2.box r0, x2.box r1⟩; clear x2) | fail)
      go_wp2
      go_roundw
      · exact ⟨k + 1, by go_num, by omega, HW2.out⟩
      · simp [intOf]; omega
    · have hkk : k = ss.length := by omega
      subst hkk
      go_wp2
      go_ret
      exact ⟨rfl, HW.out⟩

set_option maxRecDepth 100000 in
set_option maxHeartbeats 1000000 in
theorem eqHeap_same {w : World} {v u : Value} {ss : List St} (h : SV w v ss) (g : SV w u ss) (hg : SG ss) (hl : SL ss 1048576) :
    Calls Try.prog 10 #[.agg #[v], .agg #[u]] w fun e w' => e = .returned (.bool true) ∧ Ext w w' := by
  obtain ⟨sa, cap, e1, hx⟩ := h
  obtain ⟨ta, dap, e2, hy⟩ := g
  have h : SV w v ss := ⟨sa, cap, e1, hx⟩
  have g : SV w u ss := ⟨ta, dap, e2, hy⟩
  have x0 : Ext w ((w.alloc (.cells #[v] 29)).alloc (.cells #[u] 29)) := ((Ext.refl w).alloc _ _).alloc _ _
  have HX := hide x0
  have C1 := hide (eqStores_same (h.keep x0.bl) (g.keep x0.bl) hg hl)
  clear hx hy h g x0
  subst e1 e2
  go_enter Try.func10, Try.ntmps10
  go_wp2_with fail
  refine C1.out.mono ?_
  rintro e w1 ⟨rfl, x1⟩
  have HX1 := hide (HX.out.trans x1)
  clear x1
  go_wp2
  go_ret
  exact ⟨rfl, HX1.out⟩
end Go.Proofs.Ytbkdfhlbjaiahaa
namespace Go.Proofs.Ytbkdfhlbjaiahaa
open Go.ChangeShapes Go.RowKit FL
set_option linter.unusedSimpArgs false
set_option linter.unusedVariables false
/-- The two boxes of the arguments. -/
structure AB (w W : World) (sa : Option Addr) (cap : Nat) (ss : List St) (st : Int) (s1 : Option Addr) (d1 : Nat) (s2 : Option Addr) (d2 : Nat) (xs sv : List Int) (off : Int) : Prop where
  c0 : W.cell? ⟨w.heap.size, 0, none⟩ = some (.slice sa ss.length cap)
  a0 : W.cell? ⟨w.heap.size + 1, 0, none⟩ = some (.int .i64 st)
  a1 : W.cell? ⟨w.heap.size + 1, 1, none⟩ = some (.slice s1 xs.length d1)
  a2 : W.cell? ⟨w.heap.size + 1, 2, none⟩ = some (.slice s2 sv.length d2)
  a3 : W.cell? ⟨w.heap.size + 1, 3, none⟩ = some (.int .i64 off)
  h : SV W (.slice sa ss.length cap) ss
  x : Ints W (.slice s1 xs.length d1) xs
  s : Ints W (.slice s2 sv.length d2) sv
  bl : Bel w W
theorem AB.keep {w W W' : World} {sa : Option Addr} {cap : Nat} {ss : List St} {st : Int} {s1 : Option Addr} {d1 : Nat} {s2 : Option Addr} {d2 : Nat} {xs sv : List Int} {off : Int} (q : AB w W sa cap ss st s1 d1 s2 d2 xs sv off) (y : Bel W W') : AB w W' sa cap ss st s1 d1 s2 d2 xs sv off :=
  ⟨Bel.box y q.c0, Bel.box y q.a0, Bel.box y q.a1, Bel.box y q.a2, Bel.box y q.a3, q.h.keep y, q.x.below y, q.s.below y, Bel.tr q.bl y⟩
theorem AB.start {w : World} {sa : Option Addr} {cap : Nat} {ss : List St} (st : Int) {s1 : Option Addr} {d1 : Nat} {s2 : Option Addr} {d2 : Nat} {xs sv : List Int} (off : Int) (h : SV w (.slice sa ss.length cap) ss) (hx : Ints w (.slice s1 xs.length d1) xs) (hs : Ints w (.slice s2 sv.length d2) sv) :
    AB w ((w.alloc (.cells #[.slice sa ss.length cap] 24)).alloc (.cells #[.int .i64 st, .slice s1 xs.length d1, .slice s2 sv.length d2, .int .i64 off] 37)) sa cap ss st s1 d1 s2 d2 xs sv off := by
  have x0 : Ext w ((w.alloc (.cells #[.slice sa ss.length cap] 24)).alloc (.cells #[.int .i64 st, .slice s1 xs.length d1, .slice s2 sv.length d2, .int .i64 off] 37)) := ((Ext.refl w).alloc _ _).alloc _ _
  have y0 : Ext (w.alloc (.cells #[.slice sa ss.length cap] 24)) ((w.alloc (.cells #[.slice sa ss.length cap] 24)).alloc (.cells #[.int .i64 st, .slice s1 xs.length d1, .slice s2 sv.length d2, .int .i64 off] 37)) := (Ext.refl _).alloc _ _
  have n1 := fun j => new_cell w #[.slice sa ss.length cap] 24 w.heap.size rfl j
  have n2 := fun j => new_cell (w.alloc (.cells #[.slice sa ss.length cap] 24)) #[.int .i64 st, .slice s1 xs.length d1, .slice s2 sv.length d2, .int .i64 off] 37 (w.heap.size + 1) (by simp) j
  exact ⟨y0.box (n1 0), n2 0, n2 1, n2 2, n2 3, h.keep x0.bl, hx.ext x0, hs.ext x0, x0.bl⟩

set_option maxRecDepth 100000 in
set_option maxHeartbeats 4000000 in
theorem lawVA (w : World) (v vS vT : Value) (ss : List St) (st : Int) (xs sv : List Int) (off : Int) (hX : SV w v ss) (hb : SB ss) (hg : SG ss) (hS : Ints w vS xs) (hT : Ints w vT sv) (lx0 : xs.length ≤ 9223372036854775807) (ls0 : sv.length ≤ 9223372036854775807) :
    Calls Try.prog 4 #[.agg #[v], .agg #[.int .i64 st, vS, vT, .int .i64 off]] w fun e w' => LawOk w e w' := by
  obtain ⟨sa, cap, rfl, hx⟩ := hX
  have hX : SV w (.slice sa ss.length cap) ss := ⟨sa, cap, rfl, hx⟩
  obtain ⟨s1, d1, rfl, hs1⟩ := hS
  obtain ⟨s2, d2, rfl, hs2⟩ := hT
  have A0 := hide (AB.start st off hX ⟨s1, d1, rfl, hs1⟩ ⟨s2, d2, rfl, hs2⟩)
  have HS := hide (szHeap_any A0.out.h hb 1048576 (by omega))
  clear hx hX hs1 hs2
  go_enter Try.func4, Try.ntmps4
  go_wp2_with fail
  refine HS.out.mono ?_
  rintro e w1 ⟨⟨r, rfl, hr⟩, x1⟩
  have A1 := hide (A0.out.keep x1.bl)
  clear x1 HS A0
  have c0 := A1.out.c0
  have a0 := A1.out.a0
  have a1 := A1.out.a1
  have a2 := A1.out.a2
  have a3 := A1.out.a3
  rcases hr with hr | ⟨h1, h2, hl⟩
  · go_wp2
    go_ret
    exact ⟨rfl, A1.out.bl⟩
  have hr : ¬ r < 0 := by omega
  have HL := hide hl
  have HG := hide hg
  clear hl hg hb
  go_wp2_with fail
  refine (szArray_any st s1 s2 xs.length d1 sv.length d2 off r ⟨h1, by omega⟩ lx0 ls0 _).mono ?_
  rintro e w2 ⟨⟨r2, rfl, hr2⟩, x2⟩
  have A2 := hide (A1.out.keep x2.bl)
  clear x2 A1 c0 a0 a1 a2 a3
  have c0 := A2.out.c0
  have a0 := A2.out.a0
  have a1 := A2.out.a1
  have a2 := A2.out.a2
  have a3 := A2.out.a3
  rcases hr2 with hr2 | ⟨h3, lx, ls⟩
  · go_wp2
    go_ret
    exact ⟨rfl, A2.out.bl⟩
  have hr2 : ¬ r2 < 0 := by omega
  clear lx0 ls0
  have SA : Hid ((fun w' => w'.cell? ⟨w.heap.size, 0, none⟩ = some (.slice sa ss.length cap) ∧ w'.cell? ⟨w.heap.size + 1, 0, none⟩ = some (.int .i64 st) ∧ w'.cell? ⟨w.heap.size + 1, 1, none⟩ = some (.slice s1 xs.length d1) ∧ w'.cell? ⟨w.heap.size + 1, 2, none⟩ = some (.slice s2 sv.length d2) ∧ w'.cell? ⟨w.heap.size + 1, 3, none⟩ = some (.int .i64 off)) w2.drew) := ⟨c0, a0, a1, a2, a3⟩
  have Ad := hide (A2.out.keep (Ext.refl w2).drew.bl)
  go_wp2_with fail
  go_region_held3 (fun w' => w'.cell? ⟨w.heap.size, 0, none⟩ = some (.slice sa ss.length cap) ∧ w'.cell? ⟨w.heap.size + 1, 0, none⟩ = some (.int .i64 st) ∧ w'.cell? ⟨w.heap.size + 1, 1, none⟩ = some (.slice s1 xs.length d1) ∧ w'.cell? ⟨w.heap.size + 1, 2, none⟩ = some (.slice s2 sv.length d2) ∧ w'.cell? ⟨w.heap.size + 1, 3, none⟩ = some (.int .i64 off)) (first | with_reducible exact SA.out | with_reducible exact SB'.out | with_reducible exact SC'.out | with_reducible exact SD'.out | exact SA.out | exact SB'.out | exact SC'.out | exact SD'.out | fail) (first | (go_at_call 12; refine (sVA_any H4.out HG.out HL.out st X4.out Y4.out off lx ls).mono ?_; rintro e w5 ⟨rfl, x5⟩; have A5 := hide (A4.out.keep x5); have SD' : Hid ((fun w' => w'.cell? ⟨w.heap.size, 0, none⟩ = some (.slice sa ss.length cap) ∧ w'.cell? ⟨w.heap.size + 1, 0, none⟩ = some (.int .i64 st) ∧ w'.cell? ⟨w.heap.size + 1, 1, none⟩ = some (.slice s1 xs.length d1) ∧ w'.cell? ⟨w.heap.size + 1, 2, none⟩ = some (.slice s2 sv.length d2) ∧ w'.cell? ⟨w.heap.size + 1, 3, none⟩ = some (.int .i64 off)) w5) := ⟨A5.out.c0, A5.out.a0, A5.out.a1, A5.out.a2, A5.out.a3⟩; clear x5) | (go_at_call 13; refine (toArray_any st A3.out.x A3.out.s off lx ls).mono ?_; rintro e w4 ⟨b4, c4, rfl, _, _, _, rx, rs, x4⟩; have A4 := hide (A3.out.keep x4.bl); have H4 := hide (H3.out.keep x4.bl); have X4 := hide (rx.ints (n := xs.length) (cap := xs.length) rfl); have Y4 := hide (rs.ints (n := sv.length) (cap := sv.length) rfl); have SC' : Hid ((fun w' => w'.cell? ⟨w.heap.size, 0, none⟩ = some (.slice sa ss.length cap) ∧ w'.cell? ⟨w.heap.size + 1, 0, none⟩ = some (.int .i64 st) ∧ w'.cell? ⟨w.heap.size + 1, 1, none⟩ = some (.slice s1 xs.length d1) ∧ w'.cell? ⟨w.heap.size + 1, 2, none⟩ = some (.slice s2 sv.length d2) ∧ w'.cell? ⟨w.heap.size + 1, 3, none⟩ = some (.int .i64 off)) w4) := ⟨A4.out.c0, A4.out.a0, A4.out.a1, A4.out.a2, A4.out.a3⟩; clear x4 rx rs) | (go_at_call 8; refine (toHeap_any Ad.out.h HL.out).mono ?_; rintro e w3 ⟨g3, rfl, _, rp, x3⟩; have A3 := hide (Ad.out.keep x3.bl); have H3 := hide (rp.sv (n := ss.length) (cap := ss.length) rfl); have SB' : Hid ((fun w' => w'.cell? ⟨w.heap.size, 0, none⟩ = some (.slice sa ss.length cap) ∧ w'.cell? ⟨w.heap.size + 1, 0, none⟩ = some (.int .i64 st) ∧ w'.cell? ⟨w.heap.size + 1, 1, none⟩ = some (.slice s1 xs.length d1) ∧ w'.cell? ⟨w.heap.size + 1, 2, none⟩ = some (.slice s2 sv.length d2) ∧ w'.cell? ⟨w.heap.size + 1, 3, none⟩ = some (.int .i64 off)) w3) := ⟨A3.out.c0, A3.out.a0, A3.out.a1, A3.out.a2, A3.out.a3⟩; clear rp x3) | fail)
  clear SA Ad A2 A3 A4 H3 H4 X4 Y4 c0 a0 a1 a2 a3
  have c0 := A5.out.c0
  have a0 := A5.out.a0
  have a1 := A5.out.a1
  have a2 := A5.out.a2
  have a3 := A5.out.a3
  go_wp2_with fail
  refine (toHeap_any A5.out.h HL.out).mono ?_
  rintro e w6 ⟨g6, rfl, _, rp, x6⟩
  have A6 := hide (A5.out.keep x6.bl)
  have H6 := hide (rp.sv (n := ss.length) (cap := ss.length) rfl)
  clear rp x6 A5 c0 a0 a1 a2 a3
  have xb : Ext w6 (w6.alloc (.cells #[.slice (some ⟨g6, 0, none⟩) ss.length ss.length] 29)) := (Ext.refl w6).alloc _ _
  have nb : (w6.alloc (.cells #[.slice (some ⟨g6, 0, none⟩) ss.length ss.length] 29)).cell? ⟨w6.heap.size, 0, none⟩ = some (.slice (some ⟨g6, 0, none⟩) ss.length ss.length) := new_cell w6 _ 29 _ rfl 0
  have A6b := hide (A6.out.keep xb.bl)
  have H6b := hide (H6.out.keep xb.bl)
  have N6 := hide nb
  clear xb nb A6 H6
  have c0 := A6b.out.c0
  have a0 := A6b.out.a0
  have a1 := A6b.out.a1
  have a2 := A6b.out.a2
  have a3 := A6b.out.a3
  go_wp2_with fail
  generalize w6.alloc (.cells #[.slice (some ⟨g6, 0, none⟩) ss.length ss.length] 29) = W6 at A6b H6b N6 c0 a0 a1 a2 a3 ⊢
  generalize w6.heap.size = B6 at N6 ⊢
  refine (toArray_any st A6b.out.x A6b.out.s off lx ls).mono ?_
  rintro e w7 ⟨b7, c7, rfl, _, _, _, rx, rs, x7⟩
  have A7 := hide (A6b.out.keep x7.bl)
  have H7 := hide (H6b.out.keep x7.bl)
  have N7 := hide (x7.box N6.out)
  have X7 := hide (rx.ints (n := xs.length) (cap := xs.length) rfl)
  have Y7 := hide (rs.ints (n := sv.length) (cap := sv.length) rfl)
  clear x7 rx rs A6b H6b N6 c0 a0 a1 a2 a3
  have xb : Ext w7 (w7.alloc (.cells #[.int .i64 st, .slice (some ⟨b7, 0, none⟩) xs.length xs.length, .slice (some ⟨c7, 0, none⟩) sv.length sv.length, .int .i64 off] 42)) := (Ext.refl w7).alloc _ _
  have nb := fun j => new_cell w7 #[.int .i64 st, .slice (some ⟨b7, 0, none⟩) xs.length xs.length, .slice (some ⟨c7, 0, none⟩) sv.length sv.length, .int .i64 off] 42 w7.heap.size rfl j
  have A7b := hide (A7.out.keep xb.bl)
  have H7b := hide (H7.out.keep xb.bl)
  have X7b := hide (X7.out.below xb.bl)
  have Y7b := hide (Y7.out.below xb.bl)
  have M0 : (w7.alloc (.cells #[.int .i64 st, .slice (some ⟨b7, 0, none⟩) xs.length xs.length, .slice (some ⟨c7, 0, none⟩) sv.length sv.length, .int .i64 off] 42)).cell? ⟨w7.heap.size, 0, none⟩ = some (.int .i64 st) := nb 0
  have M1 : (w7.alloc (.cells #[.int .i64 st, .slice (some ⟨b7, 0, none⟩) xs.length xs.length, .slice (some ⟨c7, 0, none⟩) sv.length sv.length, .int .i64 off] 42)).cell? ⟨w7.heap.size, 1, none⟩ = some (.slice (some ⟨b7, 0, none⟩) xs.length xs.length) := nb 1
  have M2 : (w7.alloc (.cells #[.int .i64 st, .slice (some ⟨b7, 0, none⟩) xs.length xs.length, .slice (some ⟨c7, 0, none⟩) sv.length sv.length, .int .i64 off] 42)).cell? ⟨w7.heap.size, 2, none⟩ = some (.slice (some ⟨c7, 0, none⟩) sv.length sv.length) := nb 2
  have M3 : (w7.alloc (.cells #[.int .i64 st, .slice (some ⟨b7, 0, none⟩) xs.length xs.length, .slice (some ⟨c7, 0, none⟩) sv.length sv.length, .int .i64 off] 42)).cell? ⟨w7.heap.size, 3, none⟩ = some (.int .i64 off) := nb 3
  have n7 := xb.box N7.out
  clear xb nb A7 H7 X7 Y7 N7
  go_wp2_with fail
  generalize w7.alloc (.cells #[.int .i64 st, .slice (some ⟨b7, 0, none⟩) xs.length xs.length, .slice (some ⟨c7, 0, none⟩) sv.length sv.length, .int .i64 off] 42) = W7 at A7b H7b X7b Y7b M0 M1 M2 M3 n7 ⊢
  generalize w7.heap.size = B7 at M0 M1 M2 M3 ⊢
  refine (iVA_any H7b.out HG.out HL.out st X7b.out Y7b.out off lx ls).mono ?_
  rintro e w8 ⟨rfl, x8⟩
  have A8 := hide (A7b.out.keep x8)
  have H8 := hide (H7b.out.keep x8)
  have X8 := hide (X7b.out.below x8)
  have Y8 := hide (Y7b.out.below x8)
  have m0 := Bel.box x8 M0
  have m1 := Bel.box x8 M1
  have m2 := Bel.box x8 M2
  have m3 := Bel.box x8 M3
  have n8 := Bel.box x8 n7
  clear x8 A7b H7b X7b Y7b M0 M1 M2 M3 n7
  generalize (vHeap ss && (dcGoodA ss st xs sv off)) = V
  have c0 := A8.out.c0
  have Ad := hide (A8.out.keep (Ext.refl w8).drew.bl)
  have Hd := hide (H8.out.keep (Ext.refl w8).drew.bl)
  have SA : Hid ((fun w' => w'.cell? ⟨B6, 0, none⟩ = some (.slice (some ⟨g6, 0, none⟩) ss.length ss.length) ∧ w'.cell? ⟨w.heap.size, 0, none⟩ = some (.slice sa ss.length cap)) w8.drew) := ⟨n8, c0⟩
  have XYM : Hid (Ints w8.drew (.slice (some ⟨b7, 0, none⟩) xs.length xs.length) xs ∧ Ints w8.drew (.slice (some ⟨c7, 0, none⟩) sv.length sv.length) sv) := ⟨X8.out.below (Ext.refl w8).drew.bl, Y8.out.below (Ext.refl w8).drew.bl⟩
  have MM : Hid (w8.drew.cell? ⟨B7, 0, none⟩ = some (.int .i64 st) ∧ w8.drew.cell? ⟨B7, 1, none⟩ = some (.slice (some ⟨b7, 0, none⟩) xs.length xs.length) ∧ w8.drew.cell? ⟨B7, 2, none⟩ = some (.slice (some ⟨c7, 0, none⟩) sv.length sv.length) ∧ w8.drew.cell? ⟨B7, 3, none⟩ = some (.int .i64 off)) := ⟨m0, m1, m2, m3⟩
  clear X8 Y8 m0 m1 m2 m3 H8
  go_wp2_with fail
  go_region_held3 (fun w' => w'.cell? ⟨B6, 0, none⟩ = some (.slice (some ⟨g6, 0, none⟩) ss.length ss.length) ∧ w'.cell? ⟨w.heap.size, 0, none⟩ = some (.slice sa ss.length cap)) (first | with_reducible exact SA.out | with_reducible exact SB'.out | with_reducible exact SC'.out | exact SA.out | exact SB'.out | exact SC'.out | fail) (first | (go_at_call 10; refine (eqHeap_same H9.out K9.out HG.out HL.out).mono ?_; rintro e w10 ⟨rfl, x10⟩; have A10 := hide (A9.out.keep x10.bl); have XY10 : Hid (Ints w10 (.slice (some ⟨b7, 0, none⟩) xs.length xs.length) xs ∧ Ints w10 (.slice (some ⟨c7, 0, none⟩) sv.length sv.length) sv) := ⟨XY9.out.1.below x10.bl, XY9.out.2.below x10.bl⟩; have MM10 : Hid (w10.cell? ⟨B7, 0, none⟩ = some (.int .i64 st) ∧ w10.cell? ⟨B7, 1, none⟩ = some (.slice (some ⟨b7, 0, none⟩) xs.length xs.length) ∧ w10.cell? ⟨B7, 2, none⟩ = some (.slice (some ⟨c7, 0, none⟩) sv.length sv.length) ∧ w10.cell? ⟨B7, 3, none⟩ = some (.int .i64 off)) := ⟨x10.box MM9.out.1, x10.box MM9.out.2.1, x10.box MM9.out.2.2.1, x10.box MM9.out.2.2.2⟩; have SC' : Hid ((fun w' => w'.cell? ⟨B6, 0, none⟩ = some (.slice (some ⟨g6, 0, none⟩) ss.length ss.length) ∧ w'.cell? ⟨w.heap.size, 0, none⟩ = some (.slice sa ss.length cap)) w10) := ⟨x10.box SB'.out.1, x10.box SB'.out.2⟩; clear x10) | (go_at_call 8; refine (toHeap_any Ad.out.h HL.out).mono ?_; rintro e w9 ⟨g9, rfl, _, rp, x9⟩; have A9 := hide (Ad.out.keep x9.bl); have H9 := hide (Hd.out.keep x9.bl); have K9 := hide (rp.sv (n := ss.length) (cap := ss.length) rfl); have XY9 : Hid (Ints w9 (.slice (some ⟨b7, 0, none⟩) xs.length xs.length) xs ∧ Ints w9 (.slice (some ⟨c7, 0, none⟩) sv.length sv.length) sv) := ⟨XYM.out.1.below x9.bl, XYM.out.2.below x9.bl⟩; have MM9 : Hid (w9.cell? ⟨B7, 0, none⟩ = some (.int .i64 st) ∧ w9.cell? ⟨B7, 1, none⟩ = some (.slice (some ⟨b7, 0, none⟩) xs.length xs.length) ∧ w9.cell? ⟨B7, 2, none⟩ = some (.slice (some ⟨c7, 0, none⟩) sv.length sv.length) ∧ w9.cell? ⟨B7, 3, none⟩ = some (.int .i64 off)) := ⟨x9.box MM.out.1, x9.box MM.out.2.1, x9.box MM.out.2.2.1, x9.box MM.out.2.2.2⟩; have SB' : Hid ((fun w' => w'.cell? ⟨B6, 0, none⟩ = some (.slice (some ⟨g6, 0, none⟩) ss.length ss.length) ∧ w'.cell? ⟨w.heap.size, 0, none⟩ = some (.slice sa ss.length cap)) w9) := ⟨x9.box SA.out.1, x9.box SA.out.2⟩; clear rp x9) | fail)
  clear SA Ad Hd XYM MM A9 H9 K9 XY9 MM9 SB' n8 c0
  have Ad := hide (A10.out.keep (Ext.refl w10).drew.bl)
  have XYd : Hid (Ints w10.drew (.slice (some ⟨b7, 0, none⟩) xs.length xs.length) xs ∧ Ints w10.drew (.slice (some ⟨c7, 0, none⟩) sv.length sv.length) sv) := ⟨XY10.out.1.below (Ext.refl w10).drew.bl, XY10.out.2.below (Ext.refl w10).drew.bl⟩
  have SA : Hid ((fun w' => w'.cell? ⟨B7, 0, none⟩ = some (.int .i64 st) ∧ w'.cell? ⟨B7, 1, none⟩ = some (.slice (some ⟨b7, 0, none⟩) xs.length xs.length) ∧ w'.cell? ⟨B7, 2, none⟩ = some (.slice (some ⟨c7, 0, none⟩) sv.length sv.length) ∧ w'.cell? ⟨B7, 3, none⟩ = some (.int .i64 off) ∧ w'.cell? ⟨w.heap.size + 1, 0, none⟩ = some (.int .i64 st) ∧ w'.cell? ⟨w.heap.size + 1, 1, none⟩ = some (.slice s1 xs.length d1) ∧ w'.cell? ⟨w.heap.size + 1, 2, none⟩ = some (.slice s2 sv.length d2) ∧ w'.cell? ⟨w.heap.size + 1, 3, none⟩ = some (.int .i64 off)) w10.drew) := ⟨MM10.out.1, MM10.out.2.1, MM10.out.2.2.1, MM10.out.2.2.2, A10.out.a0, A10.out.a1, A10.out.a2, A10.out.a3⟩
  clear SC'
  go_wp2_with fail
  go_region_held3 (fun w' => w'.cell? ⟨B7, 0, none⟩ = some (.int .i64 st) ∧ w'.cell? ⟨B7, 1, none⟩ = some (.slice (some ⟨b7, 0, none⟩) xs.length xs.length) ∧ w'.cell? ⟨B7, 2, none⟩ = some (.slice (some ⟨c7, 0, none⟩) sv.length sv.length) ∧ w'.cell? ⟨B7, 3, none⟩ = some (.int .i64 off) ∧ w'.cell? ⟨w.heap.size + 1, 0, none⟩ = some (.int .i64 st) ∧ w'.cell? ⟨w.heap.size + 1, 1, none⟩ = some (.slice s1 xs.length d1) ∧ w'.cell? ⟨w.heap.size + 1, 2, none⟩ = some (.slice s2 sv.length d2) ∧ w'.cell? ⟨w.heap.size + 1, 3, none⟩ = some (.int .i64 off)) (first | with_reducible exact SA.out | with_reducible exact SB'.out | with_reducible exact SC'.out | exact SA.out | exact SB'.out | exact SC'.out | fail) (first | (go_at_call 15; refine (eqArray_true st off XY11.out.1 XY11.out.2 P11.out Q11.out lx ls).mono ?_; rintro e w12 ⟨rfl, x12⟩; have A12 := hide (A11.out.keep x12.bl); have SC' : Hid ((fun w' => w'.cell? ⟨B7, 0, none⟩ = some (.int .i64 st) ∧ w'.cell? ⟨B7, 1, none⟩ = some (.slice (some ⟨b7, 0, none⟩) xs.length xs.length) ∧ w'.cell? ⟨B7, 2, none⟩ = some (.slice (some ⟨c7, 0, none⟩) sv.length sv.length) ∧ w'.cell? ⟨B7, 3, none⟩ = some (.int .i64 off) ∧ w'.cell? ⟨w.heap.size + 1, 0, none⟩ = some (.int .i64 st) ∧ w'.cell? ⟨w.heap.size + 1, 1, none⟩ = some (.slice s1 xs.length d1) ∧ w'.cell? ⟨w.heap.size + 1, 2, none⟩ = some (.slice s2 sv.length d2) ∧ w'.cell? ⟨w.heap.size + 1, 3, none⟩ = some (.int .i64 off)) w12) := ⟨x12.box SB'.out.1, x12.box SB'.out.2.1, x12.box SB'.out.2.2.1, x12.box SB'.out.2.2.2.1, A12.out.a0, A12.out.a1, A12.out.a2, A12.out.a3⟩; clear x12) | (go_at_call 13; refine (toArray_any st Ad.out.x Ad.out.s off lx ls).mono ?_; rintro e w11 ⟨b11, c11, rfl, _, _, _, rx, rs, x11⟩; have A11 := hide (Ad.out.keep x11.bl); have P11 := hide (rx.ints (n := xs.length) (cap := xs.length) rfl); have Q11 := hide (rs.ints (n := sv.length) (cap := sv.length) rfl); have XY11 : Hid (Ints w11 (.slice (some ⟨b7, 0, none⟩) xs.length xs.length) xs ∧ Ints w11 (.slice (some ⟨c7, 0, none⟩) sv.length sv.length) sv) := ⟨XYd.out.1.below x11.bl, XYd.out.2.below x11.bl⟩; have SB' : Hid ((fun w' => w'.cell? ⟨B7, 0, none⟩ = some (.int .i64 st) ∧ w'.cell? ⟨B7, 1, none⟩ = some (.slice (some ⟨b7, 0, none⟩) xs.length xs.length) ∧ w'.cell? ⟨B7, 2, none⟩ = some (.slice (some ⟨c7, 0, none⟩) sv.length sv.length) ∧ w'.cell? ⟨B7, 3, none⟩ = some (.int .i64 off) ∧ w'.cell? ⟨w.heap.size + 1, 0, none⟩ = some (.int .i64 st) ∧ w'.cell? ⟨w.heap.size + 1, 1, none⟩ = some (.slice s1 xs.length d1) ∧ w'.cell? ⟨w.heap.size + 1, 2, none⟩ = some (.slice s2 sv.length d2) ∧ w'.cell? ⟨w.heap.size + 1, 3, none⟩ = some (.int .i64 off)) w11) := ⟨x11.box SA.out.1, x11.box SA.out.2.1, x11.box SA.out.2.2.1, x11.box SA.out.2.2.2.1, A11.out.a0, A11.out.a1, A11.out.a2, A11.out.a3⟩; clear rx rs x11) | fail)
  go_wp2
  go_ret
  exact ⟨rfl, A12.out.bl⟩
end Go.Proofs.Ytbkdfhlbjaiahaa
namespace Go.Proofs.Ytbkdfhlbjaiahaa
open Go.ChangeShapes Go.RowKit FL Ieee
set_option linter.unusedSimpArgs false
set_option linter.unusedVariables false

theorem near_no (n : Int) : feq (floatOfInt FloatKind.f64 n) (floatOfInt FloatKind.f64 n) = true := by
  rw [feq_self]
  have h : nanD (floatOfInt FloatKind.f64 n) = false := by
    show nanW double (double.nearest (decide (n < 0)) n.natAbs 0) = false
    unfold nanW
    rw [decide_eq_false_iff_not]
    have e : ∃ r, r ≤ double.infRung ∧ double.nearest (decide (n < 0)) n.natAbs 0 = double.word (decide (n < 0)) r := by
      unfold Format.nearest
      split
      · exact ⟨0, Nat.zero_le _, rfl⟩
      · exact ⟨_, Nat.min_le_right _ _, rfl⟩
    obtain ⟨r, h1, h2⟩ := e
    rw [h2]
    unfold Format.word
    rw [dI] at *
    rw [dW]
    split <;> omega
  rw [h]; rfl
attribute [local go_sem] near_no
/-- What mark lays at place j. -/
def cmk (k : Int) (j : Nat) : C3 := (k + 3 * j, floatOfInt FloatKind.f64 (k + 3 * j + 1), floatOfInt FloatKind.f64 (k + 3 * j + 1 + 1))
def ccount (n : Nat) (k : Int) : List C3 := (List.range n).map (cmk k)
theorem ccount_len (n : Nat) (k : Int) : (ccount n k).length = n := by simp [ccount]
theorem ccount_getD (n : Nat) (k : Int) (j : Nat) (hj : j < n) : (ccount n k).getD j k0 = cmk k j := by simp [ccount, List.getD_eq_getElem?_getD, hj]
/-- There are cells. -/
def Ex (w : World) (g off n : Nat) : Prop := ∀ o, o < 3 * n → ∃ x, w.cell? ⟨g, off + o, none⟩ = some x
def KE (w w' : World) : Prop := ∀ b o x, w.cell? ⟨b, o, none⟩ = some x → ∃ y, w'.cell? ⟨b, o, none⟩ = some y
theorem KE.refl (w : World) : KE w w := fun b o x h => ⟨x, h⟩
theorem KE.trans {a b c : World} (h : KE a b) (g : KE b c) : KE a c := fun k o x hx => by
  obtain ⟨y, hy⟩ := h k o x hx
  exact g k o y hy
theorem KE.set {w w' : World} (h : KE w w') (p : Addr) (v : Value) : KE w (w'.setCell p v) := h.trans fun b o x hx => by
  by_cases e : p = ⟨b, o, none⟩
  · subst e; exact ⟨v, World.cell?_setCell_same _ _ _ hx⟩
  · exact ⟨x, by rw [World.cell?_setCell_other _ _ _ _ (by first | exact e | exact fun q => e q.symm)]; exact hx⟩
theorem Ex.ke {w w' : World} {g off n : Nat} (h : Ex w g off n) (x : KE w w') : Ex w' g off n := fun o ho => by
  obtain ⟨y, hy⟩ := h o ho
  exact x _ _ _ hy
theorem CRow.ex {w : World} {g off : Nat} {cs : List C3} (h : CRow w g off cs) : Ex w g off cs.length := fun o ho => by
  obtain ⟨a, b, c⟩ := h (o / 3) (by omega)
  have : o % 3 = 0 ∨ o % 3 = 1 ∨ o % 3 = 2 := by omega
  rcases this with e | e | e
  · rw [show off + o = off + o / 3 * 3 by omega]; exact ⟨_, a⟩
  · rw [show off + o = off + o / 3 * 3 + 1 by omega]; exact ⟨_, b⟩
  · rw [show off + o = off + o / 3 * 3 + 2 by omega]; exact ⟨_, c⟩
theorem crow_more {W : World} {g off j : Nat} {k : Int} {x0 x1 x2 : Value} (h : CRow W g off (ccount j k)) (q0 : W.cell? ⟨g, off + j * 3, none⟩ = some x0) (q1 : W.cell? ⟨g, off + j * 3 + 1, none⟩ = some x1) (q2 : W.cell? ⟨g, off + j * 3 + 2, none⟩ = some x2) :
    CRow (((W.setCell ⟨g, off + j * 3, none⟩ (.int .i64 (k + 3 * j))).setCell ⟨g, off + j * 3 + 1, none⟩ (.float .f64 (floatOfInt FloatKind.f64 (k + 3 * j + 1)))).setCell ⟨g, off + j * 3 + 2, none⟩ (.float .f64 (floatOfInt FloatKind.f64 (k + 3 * j + 1 + 1)))) g off (ccount (j + 1) k) := fun i hi => by
  rw [ccount_len] at hi
  rw [ccount_getD (j + 1) k i hi]
  by_cases e : i = j
  · subst e
    exact ⟨near (by omega) (near (by omega) (World.cell?_setCell_same _ _ _ q0)), near (by omega) (World.cell?_setCell_same _ _ _ (near (by omega) q1)), World.cell?_setCell_same _ _ _ (near (by omega) (near (by omega) q2))⟩
  · obtain ⟨a, b, c⟩ := h i (by rw [ccount_len]; omega)
    rw [ccount_getD j k i (by omega)] at a b c
    exact ⟨near (by omega) (near (by omega) (near (by omega) a)), near (by omega) (near (by omega) (near (by omega) b)), near (by omega) (near (by omega) (near (by omega) c))⟩

set_option maxRecDepth 100000 in
set_option maxHeartbeats 1000000 in
theorem markC_any {w : World} {g off n cap : Nat} (h : Ex w g off n) (hf : ∀ o, w.frozen? ⟨g, o, none⟩ = false) (k : Int) (hk : 0 ≤ k ∧ k ≤ 1000000000000000) (hl : n ≤ 1048576) :
    Calls Try.prog 21 #[.slice (some ⟨g, off, none⟩) n cap, .int .i64 k] w fun e w' => e = .returned (.int .i64 (k + 3 * n)) ∧ CRow w' g off (ccount n k) ∧ Mut g w w' ∧ KE w w' := by
  have H := hide h
  clear h
  go_enter Try.func21, Try.ntmps21
  go_wp2
  go_loopw [1, 5] (fun m i wr => ∃ j : Nat, i = .int .i64 j ∧ m = .int .i64 (k + 3 * j) ∧ j ≤ n ∧ CRow wr g off (ccount j k) ∧ Mut g w wr ∧ KE w wr) (fun m i _ => n - (intOf i).toNat)
  case atStart => exact ⟨0, rfl, by simp, by omega, fun j hj => by simp [ccount] at hj, Mut.refl _ _, KE.refl _⟩
  case round =>
    obtain ⟨j, rfl, rfl, hj, hr, hm, he⟩ := hrel
    have HR := hide hr
    have HM := hide hm
    have HE := hide he
    clear hr hm he
    by_cases hlt : j < n
    · obtain ⟨x0, q0⟩ := (H.out.ke HE.out) (j * 3) (by omega)
      obtain ⟨x1, q1⟩ := (H.out.ke HE.out) (j * 3 + 1) (by omega)
      obtain ⟨x2, q2⟩ := (H.out.ke HE.out) (j * 3 + 2) (by omega)
      rw [← Nat.add_assoc] at q1 q2
      have qf := fun o => (HM.out.fz ⟨g, o, none⟩).trans (hf o)
      have hj0 : (0 : Int) ≤ (j : Int) := Int.natCast_nonneg _
      have hj1 : (j : Int) < (n : Int) := by omega
      have HSt := hide (crow_more HR.out q0 q1 q2)
      have p1 : (wr.setCell ⟨g, off + j * 3, none⟩ (.int .i64 (k + 3 * j))).cell? ⟨g, off + j * 3 + 1, none⟩ = _ := near (by omega) q1
      have p2 : ((wr.setCell ⟨g, off + j * 3, none⟩ (.int .i64 (k + 3 * j))).setCell ⟨g, off + j * 3 + 1, none⟩ (.float .f64 (floatOfInt FloatKind.f64 (k + 3 * j + 1)))).cell? ⟨g, off + j * 3 + 2, none⟩ = _ := near (by omega) (near (by omega) q2)
      go_wp2
      go_roundw
      · exact ⟨j + 1, by go_num, by congr 1; push_cast; omega, by omega, HSt.out, ((HM.out.setCell _ _).setCell _ _).setCell _ _, ((HE.out.set _ _).set _ _).set _ _⟩
      · simp [intOf]; omega
    · have hjj : j = n := by omega
      subst hjj
      go_wp2
      go_ret
      exact ⟨rfl, HR.out, HM.out, HE.out⟩

set_option maxRecDepth 100000 in
set_option maxHeartbeats 1000000 in
theorem markC_nil {w : World} {sa : Option Addr} {cap : Nat} (k : Int) :
    Calls Try.prog 21 #[.slice sa 0 cap, .int .i64 k] w fun e w' => e = .returned (.int .i64 k) ∧ w' = w := by
  go_enter Try.func21, Try.ntmps21
  go_wp2
  go_loopw [1, 5] (fun m i wr => i = .int .i64 0 ∧ m = .int .i64 k ∧ wr = w) (fun m i _ => 0)
  case atStart => exact ⟨rfl, rfl, rfl⟩
  case round =>
    obtain ⟨rfl, rfl, rfl⟩ := hrel
    go_wp2
    go_ret
    exact ⟨rfl, rfl⟩

set_option maxRecDepth 100000 in
set_option maxHeartbeats 1000000 in
theorem heldC_any {w : World} {v : Value} {n : Nat} (k : Int) (h : CV w v (ccount n k)) (hk : 0 ≤ k ∧ k ≤ 1000000000000000) (hl : n ≤ 1048576) :
    Calls Try.prog 22 #[v, .int .i64 k] w fun e w' => e = .returned (.int .i64 (k + 3 * n)) ∧ Ext w w' := by
  obtain ⟨sa, cap, rfl, hx⟩ := h
  rw [ccount_len]
  have HX := hide hx
  clear hx
  go_enter Try.func22, Try.ntmps22
  go_wp2
  go_loopw [1, 5] (fun m i wr => ∃ j : Nat, i = .int .i64 j ∧ m = .int .i64 (k + 3 * j) ∧ j ≤ n ∧ Ext w wr) (fun m i _ => n - (intOf i).toNat)
  case atStart => exact ⟨0, rfl, by simp, by omega, Ext.refl w⟩
  case round =>
    obtain ⟨j, rfl, rfl, hj, hw⟩ := hrel
    have HW := hide hw
    clear hw
    by_cases hlt : j < n
    · rcases HX.out with h0 | ⟨b, off, rfl, hrow⟩
      · have := congrArg List.length h0
        rw [ccount_len] at this; simp at this; omega
      have hr := hrow j (by rw [ccount_len]; exact hlt)
      rw [ccount_getD n k j hlt] at hr
      have q0 : wr.cell? ⟨b, off + j * 3, none⟩ = some (.int .i64 (k + 3 * j)) := HW.out.box hr.1
      have q1 : wr.cell? ⟨b, off + j * 3 + 1, none⟩ = some (.float .f64 (floatOfInt FloatKind.f64 (k + 3 * j + 1))) := HW.out.box hr.2.1
      have q2 : wr.cell? ⟨b, off + j * 3 + 2, none⟩ = some (.float .f64 (floatOfInt FloatKind.f64 (k + 3 * j + 1 + 1))) := HW.out.box hr.2.2
      have n1 := near_no (k + 3 * j + 1)
      have n2 := near_no (k + 3 * j + 1 + 1)
      clear hrow hr
      have hj0 : (0 : Int) ≤ (j : Int) := Int.natCast_nonneg _
      have hj1 : (j : Int) < (n : Int) := by omega
      go_wp2
      go_roundw
      · exact ⟨j + 1, by go_num, by congr 1; push_cast; omega, by omega, HW.out⟩
      · simp [intOf]; omega
    · have hjj : j = n := by omega
      subst hjj
      go_wp2
      go_ret
      exact ⟨rfl, HW.out⟩
end Go.Proofs.Ytbkdfhlbjaiahaa
namespace Go.Proofs.Ytbkdfhlbjaiahaa
open Go.ChangeShapes Go.RowKit FL
set_option linter.unusedSimpArgs false
set_option linter.unusedVariables false
theorem MIn.refl (lo hi : Nat) (w : World) (hl : lo ≤ w.heap.size) : MIn lo hi w w := (Ext.refl w).mIn hl
theorem MIn.tr {lo hi : Nat} {a b c : World} (x : MIn lo hi a b) (y : MIn lo hi b c) : MIn lo hi a c :=
  ⟨x.bl.trans y.bl, fun k o v hk hc => y.box k o v hk (x.box k o v hk hc), fun p => (y.fz p).trans (x.fz p)⟩
theorem mIn_set {lo hi b o : Nat} {w : World} (v : Value) (h1 : lo ≤ b) (h2 : b < hi) (hl : lo ≤ w.heap.size) : MIn lo hi w (w.setCell ⟨b, o, none⟩ v) := ((Mut.refl b w).setCell o v).mIn h1 h2 hl
/-- The stores' rows, whatever they hold. -/
def WRow (w : World) (lo hi b off : Nat) (ss : List St) : Prop := ∀ j, j < ss.length → (∃ x, w.cell? ⟨b, off + j * 2, none⟩ = some x) ∧ ∃ sa cap, w.cell? ⟨b, off + j * 2 + 1, none⟩ = some (.slice sa (ss.getD j s0).2.length cap) ∧ ((ss.getD j s0).2 = [] ∨ ∃ c o, sa = some ⟨c, o, none⟩ ∧ lo ≤ c ∧ c < hi ∧ Ex w c o (ss.getD j s0).2.length)
theorem SRowL.wrow {w : World} {lo b off : Nat} {ss : List St} (h : SRowL w lo b off ss) : WRow w lo w.heap.size b off ss := fun j hj => by
  obtain ⟨h1, u, h2, sa, cap, rfl, h3⟩ := h j hj
  refine ⟨⟨_, h1⟩, sa, cap, h2, ?_⟩
  rcases h3 with h3 | ⟨c, o, h4, h5, h6⟩
  · exact Or.inl h3
  · by_cases e : (ss.getD j s0).2 = []
    · exact Or.inl e
    · exact Or.inr ⟨c, o, h4, h5, cell_lt (h6 0 (List.length_pos_iff.2 e)).1, h6.ex⟩
theorem WRow.step {w w' : World} {lo hi b off : Nat} {ss : List St} (h : WRow w lo hi b off ss) (x : KE w w') (y : ∀ o v, o % 2 ≠ off % 2 → w.cell? ⟨b, o, none⟩ = some v → w'.cell? ⟨b, o, none⟩ = some v) : WRow w' lo hi b off ss := fun j hj => by
  obtain ⟨⟨u, h1⟩, sa, cap, h2, h3⟩ := h j hj
  refine ⟨x _ _ _ h1, sa, cap, y _ _ (by omega) h2, h3.imp id fun ⟨c, o, h4, h5, h6, h7⟩ => ⟨c, o, h4, h5, h6, h7.ke x⟩⟩

set_option maxRecDepth 100000 in
set_option maxHeartbeats 1000000 in
theorem markS_any {w : World} {lo hi b off cap : Nat} {ss : List St} (h : WRow w lo hi b off ss) (hb : b < lo) (hh : hi ≤ w.heap.size) (hbh : b < hi) (hf : ∀ c o, b ≤ c → c < hi → w.frozen? ⟨c, o, none⟩ = false) (hl : SL ss 1048576) (k : Int) (hk : 0 ≤ k ∧ k ≤ 1000) :
    Calls Try.prog 37 #[.slice (some ⟨b, off, none⟩) ss.length cap, .int .i64 k] w fun e w' => (∃ r : Int, e = .returned (.int .i64 r) ∧ 0 ≤ r ∧ r ≤ 1000 + 4194304 * 1048576) ∧ MIn b hi w w' := by
  have H := hide h
  have HF := hide hf
  have HL := hide hl
  have hl1 := hl.1
  clear h hf hl
  go_enter Try.func37, Try.ntmps37
  go_wp2
  go_loopw [1, 5] (fun m i wr => ∃ (j : Nat) (z : Int), i = .int .i64 j ∧ m = .int .i64 z ∧ j ≤ ss.length ∧ (0 ≤ z ∧ z ≤ 1000 + 4194304 * (j : Int)) ∧ WRow wr lo hi b off ss ∧ MIn b hi w wr) (fun m i _ => ss.length - (intOf i).toNat)
  case atStart => exact ⟨0, k, rfl, rfl, by omega, ⟨by omega, by omega⟩, H.out, MIn.refl _ _ _ (by omega)⟩
  case round =>
    obtain ⟨j, z, rfl, rfl, hj, hz, hr, hm⟩ := hrel
    have HR := hide hr
    have HM := hide hm
    clear hr hm
    by_cases hlt : j < ss.length
    · obtain ⟨⟨x0, q0⟩, sc, cc, q1, q2⟩ := HR.out j hlt
      have qf := fun o => (HM.out.fz ⟨b, o, none⟩).trans (HF.out b o (Nat.le_refl _) hbh)
      have hj0 : (0 : Int) ≤ (j : Int) := Int.natCast_nonneg _
      have hj1 : (j : Int) < (ss.length : Int) := by omega
      have hcl := HL.out.at j hlt
      have p1 : (wr.setCell ⟨b, off + j * 2, none⟩ (.int .i64 z)).cell? ⟨b, off + j * 2 + 1, none⟩ = _ := near (by omega) q1
      have hws := Below.size HM.out.bl
      have HW1 : Hid (WRow (wr.setCell ⟨b, off + j * 2, none⟩ (.int .i64 z)) lo hi b off ss) := HR.out.step ((KE.refl wr).set _ _) (fun o v ho hc => near (by omega) hc)
      have HM1 := hide (HM.out.tr (mIn_set (w := wr) (o := off + j * 2) (.int .i64 z) (Nat.le_refl b) hbh (by omega)))
      have HF1 : Hid (∀ c o, b ≤ c → c < hi → (wr.setCell ⟨b, off + j * 2, none⟩ (.int .i64 z)).frozen? ⟨c, o, none⟩ = false) := fun c o hc hc2 => (HM1.out.fz _).trans (HF.out c o hc hc2)
      have HE1 : Hid ((ss.getD j s0).2 = [] ∨ ∃ c o, sc = some ⟨c, o, none⟩ ∧ lo ≤ c ∧ c < hi ∧ Ex (wr.setCell ⟨b, off + j * 2, none⟩ (.int .i64 z)) c o (ss.getD j s0).2.length) := q2.imp id fun ⟨c, o, h4, h5, h6, h7⟩ => ⟨c, o, h4, h5, h6, h7.ke ((KE.refl wr).set _ _)⟩
      have hsz1 : b ≤ (wr.setCell ⟨b, off + j * 2, none⟩ (.int .i64 z)).heap.size := by have := cell_lt q0; simp [World.setCell]; omega
      clear q2
      generalize (ss.getD j s0).2 = cs at *
      go_wp2_with fail
      generalize wr.setCell ⟨b, off + j * 2, none⟩ (.int .i64 z) = W1 at *
      rcases HE1.out with h0 | ⟨c, o, rfl, h5, h6, h7⟩
      · subst h0
        refine (markC_nil (z + 1)).mono ?_
        rintro e w2 ⟨rfl, rfl⟩
        go_wp2
        go_roundw
        · exact ⟨j + 1, z + 1, by go_num, rfl, by omega, ⟨by omega, by push_cast; omega⟩, HW1.out, HM1.out⟩
        · simp [intOf]; omega
      · refine (markC_any h7 (fun o => HF1.out c o (by omega) h6) (z + 1) ⟨by omega, by omega⟩ hcl).mono ?_
        rintro e w2 ⟨rfl, _, hmu, hke⟩
        have HW2 := hide (HW1.out.step hke (fun o v _ hc => hmu.box (by omega) hc))
        have HM2 := hide (HM1.out.tr (hmu.mIn (lo := b) (hi := hi) (by omega) h6 hsz1))
        clear hmu hke
        go_wp2
        go_roundw
        · exact ⟨j + 1, _, by go_num, rfl, by omega, ⟨by omega, by push_cast; omega⟩, HW2.out, HM2.out⟩
        · simp [intOf]; omega
    · have hjj : j = ss.length := by omega
      subst hjj
      go_wp2
      go_ret
      exact ⟨⟨z, rfl, hz.1, by omega⟩, HM.out⟩
end Go.Proofs.Ytbkdfhlbjaiahaa
namespace Go.Proofs.Ytbkdfhlbjaiahaa
open Go.ChangeShapes Go.RowKit FL
set_option linter.unusedSimpArgs false
set_option linter.unusedVariables false

set_option maxRecDepth 100000 in
set_option maxHeartbeats 1000000 in
theorem markI_any {w : World} {b off cap : Nat} {xs : List Int} (h : Row w b off xs) (hf : ∀ o, w.frozen? ⟨b, o, none⟩ = false) (k : Int) (hk : 0 ≤ k ∧ k ≤ 1000000000000000) (hl : xs.length ≤ 1000000000000) :
    Calls Try.prog 59 #[.slice (some ⟨b, off, none⟩) xs.length cap, .int .i64 k] w fun e w' => e = .returned (.int .i64 (k + xs.length)) ∧ Row w' b off (counted xs.length k) ∧ Mut b w w' := by
  have H := hide h
  clear h
  go_enter Try.func59, Try.ntmps59
  go_wp2
  go_loopw [1, 5] (fun m i wr => ∃ j : Nat, i = .int .i64 j ∧ m = .int .i64 (k + j) ∧ j ≤ xs.length ∧ Row wr b off (marked xs k j) ∧ Mut b w wr) (fun m i _ => xs.length - (intOf i).toNat)
  case atStart => exact ⟨0, rfl, by simp, by omega, by rw [marked_zero]; exact H.out, Mut.refl _ _⟩
  case round =>
    obtain ⟨j, rfl, rfl, hj, hr, hm⟩ := hrel
    have HR := hide hr
    have HM := hide hm
    clear hr hm
    by_cases hlt : j < xs.length
    · have hml : j < (marked xs k j).length := by rw [marked_len xs k j hj]; exact hlt
      have q0 := HR.out j hml
      have qf := (HM.out.fz ⟨b, off + j, none⟩).trans (hf _)
      have hj0 : (0 : Int) ≤ (j : Int) := Int.natCast_nonneg _
      have hj1 : (j : Int) < (xs.length : Int) := by omega
      have St := HR.out.set (k := j) hml (k + j)
      rw [marked_set xs k j hlt] at St
      have HSt := hide St
      clear St
      generalize (marked xs k j).getD j 0 = x at q0
      go_wp2
      go_roundw
      · exact ⟨j + 1, by go_num, by go_num, by omega, HSt.out, HM.out.setCell _ _⟩
      · simp [intOf]; omega
    · have hjj : j = xs.length := by omega
      subst hjj
      go_wp2
      go_ret
      refine ⟨rfl, ?_, HM.out⟩
      have := HR.out
      rw [marked_full] at this
      exact this

theorem Ext.ke {w w' : World} (x : Ext w w') : KE w w' := fun b o v h => ⟨v, x.box h⟩

set_option maxRecDepth 100000 in
set_option maxHeartbeats 1000000 in
theorem markHeap_any {w : World} {lo hi b cap : Nat} {ss : List St} (h : WRow w lo hi b 0 ss) (hb : b < lo) (hh : hi ≤ w.heap.size) (hbh : b < hi) (hf : ∀ c o, b ≤ c → c < hi → w.frozen? ⟨c, o, none⟩ = false) (hl : SL ss 1048576) :
    Calls Try.prog 19 #[.agg #[.slice (some ⟨b, 0, none⟩) ss.length cap], .int .i64 1] w fun e w' => (∃ r : Int, e = .returned (.int .i64 r) ∧ 0 ≤ r ∧ r ≤ 10000000000000) ∧ MIn b hi w w' := by
  have x0 : Ext w (w.alloc (.cells #[.slice (some ⟨b, 0, none⟩) ss.length cap] 29)) := (Ext.refl w).alloc _ _
  have hm := hide (markS_any (cap := cap) (h.step x0.ke (fun o v _ hc => x0.box hc)) hb (Nat.le_trans hh (Below.size x0.bl)) hbh (fun c o hc hc2 => (x0.fz _).trans (hf c o hc hc2)) hl 1 (by omega))
  have X0 := hide (x0.mIn (lo := b) (hi := hi) (by omega))
  clear x0 h hf hl
  go_enter Try.func19, Try.ntmps19
  go_wp2_with (go_at_call 37; refine hm.out.mono ?_; rintro e w2 ⟨⟨r, rfl, h0, h1⟩, hx⟩)
  go_ret
  exact ⟨⟨r, rfl, h0, by omega⟩, X0.out.tr hx⟩

set_option maxRecDepth 100000 in
set_option maxHeartbeats 1000000 in
theorem markView_any {w : World} {b c : Nat} {xs sv : List Int} (off : Int) (hx : Row w b 0 xs) (hs : Row w c 0 sv) (hbc : b < c) (hcs : c < w.heap.size) (hf : ∀ d o, b ≤ d → d ≤ c → w.frozen? ⟨d, o, none⟩ = false) (lx : xs.length ≤ 1048576) (ls : sv.length ≤ 1048576) (k : Int) (hk : 0 ≤ k ∧ k ≤ 10000000000000) :
    Calls Try.prog 38 #[.agg #[.slice (some ⟨b, 0, none⟩) xs.length xs.length, .slice (some ⟨c, 0, none⟩) sv.length sv.length, .int .i64 off], .int .i64 k] w fun e w' => (∃ r : Int, e = .returned (.int .i64 r) ∧ 0 ≤ r) ∧ MIn b (c + 1) w w' := by
  have x0 : Ext w (w.alloc (.cells #[.slice (some ⟨b, 0, none⟩) xs.length xs.length, .slice (some ⟨c, 0, none⟩) sv.length sv.length, .int .i64 off] 40)) := (Ext.refl w).alloc _ _
  have n1 := fun j => new_cell w #[.slice (some ⟨b, 0, none⟩) xs.length xs.length, .slice (some ⟨c, 0, none⟩) sv.length sv.length, .int .i64 off] 40 w.heap.size rfl j
  have C1 := hide (n1 1)
  have HX := hide (hx.ext x0)
  have HS := hide (hs.ext x0)
  have HF : Hid (∀ d o, b ≤ d → d ≤ c → (w.alloc (.cells #[.slice (some ⟨b, 0, none⟩) xs.length xs.length, .slice (some ⟨c, 0, none⟩) sv.length sv.length, .int .i64 off] 40)).frozen? ⟨d, o, none⟩ = false) := fun d o hd hd2 => (x0.fz _).trans (hf d o hd hd2)
  have X0 := hide (x0.mIn (lo := b) (hi := c + 1) (by omega))
  have hsz := Below.size x0.bl
  have hm := hide (markI_any (cap := xs.length) HX.out (fun o => HF.out b o (Nat.le_refl _) (by omega)) k ⟨hk.1, by omega⟩ (by omega))
  clear x0 n1 hx hs hf
  go_enter Try.func38, Try.ntmps38
  go_wp2_with fail
  generalize w.alloc (.cells #[.slice (some ⟨b, 0, none⟩) xs.length xs.length, .slice (some ⟨c, 0, none⟩) sv.length sv.length, .int .i64 off] 40) = W0 at *
  refine hm.out.mono ?_
  rintro e w1 ⟨rfl, _, hmu⟩
  have c1 := hmu.box (by omega) C1.out
  have HS1 := hide (HS.out.mut hmu (by omega))
  have X1 := hide (X0.out.tr (hmu.mIn (lo := b) (hi := c + 1) (Nat.le_refl _) (by omega) (by omega)))
  have F1 : Hid (∀ o, w1.frozen? ⟨c, o, none⟩ = false) := fun o => (hmu.fz _).trans (HF.out c o (by omega) (Nat.le_refl _))
  have hs1 := hmu.size
  clear hmu hm HX HS HF X0 C1
  go_wp2_with (go_at_call 59; refine (markI_any (cap := sv.length) HS1.out F1.out (k + xs.length) ⟨by omega, by omega⟩ (by omega)).mono ?_; rintro e w2 ⟨rfl, _, hmu2⟩)
  go_ret
  exact ⟨⟨_, rfl, by omega⟩, X1.out.tr (hmu2.mIn (lo := b) (hi := c + 1) (by omega) (by omega) (by omega))⟩

set_option maxRecDepth 100000 in
set_option maxHeartbeats 1000000 in
theorem markArray_any {w : World} {b c : Nat} {xs sv : List Int} (st off : Int) (hx : Row w b 0 xs) (hs : Row w c 0 sv) (hbc : b < c) (hcs : c < w.heap.size) (hf : ∀ d o, b ≤ d → d ≤ c → w.frozen? ⟨d, o, none⟩ = false) (lx : xs.length ≤ 1048576) (ls : sv.length ≤ 1048576) (k : Int) (hk : 0 ≤ k ∧ k ≤ 10000000000000) :
    Calls Try.prog 20 #[.agg #[.int .i64 st, .slice (some ⟨b, 0, none⟩) xs.length xs.length, .slice (some ⟨c, 0, none⟩) sv.length sv.length, .int .i64 off], .int .i64 k] w fun e w' => (∃ r : Int, e = .returned (.int .i64 r) ∧ 0 ≤ r) ∧ MIn b (c + 1) w w' := by
  have x0 : Ext w (w.alloc (.cells #[.int .i64 st, .slice (some ⟨b, 0, none⟩) xs.length xs.length, .slice (some ⟨c, 0, none⟩) sv.length sv.length, .int .i64 off] 42)) := (Ext.refl w).alloc _ _
  have hm := hide (markView_any off (hx.ext x0) (hs.ext x0) hbc (Nat.lt_of_lt_of_le hcs (Below.size x0.bl)) (fun d o hd hd2 => (x0.fz _).trans (hf d o hd hd2)) lx ls k hk)
  have X0 := hide (x0.mIn (lo := b) (hi := c + 1) (by omega))
  clear x0 hx hs hf
  go_enter Try.func20, Try.ntmps20
  go_wp2_with (go_at_call 38; refine hm.out.mono ?_; rintro e w2 ⟨⟨r, rfl, h0⟩, hx⟩)
  go_ret
  exact ⟨⟨r, rfl, h0⟩, X0.out.tr hx⟩
end Go.Proofs.Ytbkdfhlbjaiahaa
namespace Go.Proofs.Ytbkdfhlbjaiahaa
set_option linter.unusedSimpArgs false
set_option linter.unusedVariables false

/-- One axis more ahead of merged ones (all lists: the slowest axis first). -/
def mrg1 (n s : Int) : List Int → List Int → List Int × List Int
  | m :: ns, t :: ts => if n = 1 then (m :: ns, t :: ts) else if s = t * m then (m * n :: ns, t :: ts) else (n :: m :: ns, s :: t :: ts)
  | ns, ts => if n = 1 then (ns, ts) else (n :: ns, s :: ts)
def mrg : List Int → List Int → List Int × List Int
  | n :: ns, s :: ss => mrg1 n s (mrg ns ss).1 (mrg ns ss).2
  | _, _ => ([], [])

theorem mrg1_nil (n s : Int) : mrg1 n s [] [] = if n = 1 then ([], []) else ([n], [s]) := rfl
theorem mrg1_cons (n s m t : Int) (ns ts : List Int) : mrg1 n s (m :: ns) (t :: ts) = if n = 1 then (m :: ns, t :: ts) else if s = t * m then (m * n :: ns, t :: ts) else (n :: m :: ns, s :: t :: ts) := rfl
theorem mrg1_half (n s m : Int) (ns : List Int) : mrg1 n s (m :: ns) [] = if n = 1 then (m :: ns, []) else (n :: m :: ns, [s]) := rfl
theorem mrg1_none (n s : Int) (ts : List Int) : mrg1 n s [] ts = if n = 1 then ([], ts) else ([n], s :: ts) := by cases ts <;> rfl
theorem mrg1_len (n s : Int) : ∀ (ns ts : List Int), ns.length = ts.length → (mrg1 n s ns ts).1.length = (mrg1 n s ns ts).2.length
  | [], [], _ => by rw [mrg1_nil]; split <;> rfl
  | m :: ns, t :: ts, h => by
    have h' : ns.length = ts.length := by simpa using h
    rw [mrg1_cons]
    split
    · simp [h']
    · split <;> simp [h']
  | [], _ :: _, h => by simp at h
  | _ :: _, [], h => by simp at h
theorem mrg_len : ∀ (xs ss : List Int), xs.length = ss.length → (mrg xs ss).1.length = (mrg xs ss).2.length
  | [], [], _ => rfl
  | n :: ns, s :: ss, h => mrg1_len n s _ _ (mrg_len ns ss (by simpa using h))
  | [], _ :: _, h => by simp at h
  | _ :: _, [], h => by simp at h
theorem mrg1_le (n s : Int) : ∀ (ns ts : List Int), ns.length = ts.length → (mrg1 n s ns ts).1.length ≤ ns.length + 1
  | [], [], _ => by rw [mrg1_nil]; split <;> simp
  | m :: ns, t :: ts, h => by
    rw [mrg1_cons]
    split
    · simp
    · split <;> simp
  | [], _ :: _, h => by simp at h
  | _ :: _, [], h => by simp at h

/-- A count in a row of rows. -/
theorem flat_range {α : Type} (n m : Nat) (f : Nat → List α) : ((List.range n).flatMap fun i => (List.range m).flatMap fun j => f (i * m + j)) = (List.range (n * m)).flatMap f := by
  induction n with
  | zero => simp
  | succ n ih =>
    rw [List.range_succ, List.flatMap_append, ih, Nat.succ_mul, List.range_add, List.flatMap_append]
    simp [List.flatMap_map]

theorem places_one (s at_ : Int) (ns ss : List Int) : places (1 :: ns) (s :: ss) at_ = places ns ss at_ := by
  simp [places]

theorem places_mrg1 (n s : Int) (hn : 0 ≤ n) : ∀ (ns ts : List Int) (at_ : Int), ns.length = ts.length → (∀ m ∈ ns, 0 ≤ m) → places (mrg1 n s ns ts).1 (mrg1 n s ns ts).2 at_ = places (n :: ns) (s :: ts) at_
  | [], [], at_, _, _ => by
    rw [mrg1_nil]
    split
    · next h => subst h; rw [places_one]
    · rfl
  | m :: ns, t :: ts, at_, h, hp => by
    rw [mrg1_cons]
    split
    · next h1 => subst h1; rw [places_one]
    · split
      · next h1 h2 =>
        subst h2
        have hm : 0 ≤ m := hp m (List.mem_cons_self ..)
        have e : (m * n).toNat = n.toNat * m.toNat := by
          have h3 : m = (m.toNat : Int) := by omega
          have h4 : n = (n.toNat : Int) := by omega
          rw [h3, h4, ← Int.natCast_mul, Int.toNat_natCast, Int.toNat_natCast, Int.toNat_natCast, Nat.mul_comm]
        show ((List.range (m * n).toNat).flatMap fun (i : Nat) => places ns ts (at_ + (i : Int) * t)) = (List.range n.toNat).flatMap fun (i : Nat) => (List.range m.toNat).flatMap fun (j : Nat) => places ns ts (at_ + (i : Int) * (t * m) + (j : Int) * t)
        rw [e, ← flat_range]
        congr 1
        funext i
        congr 1
        funext j
        congr 1
        have h3 : m = (m.toNat : Int) := by omega
        rw [Int.natCast_add, Int.natCast_mul, ← h3, Int.add_mul, Int.mul_comm t m, ← Int.mul_assoc]
        omega
      · rfl
  | [], _ :: _, _, h, _ => by simp at h
  | _ :: _, [], _, h, _ => by simp at h

theorem mrg1_pos (n s : Int) (hn : 0 ≤ n) : ∀ (ns ts : List Int), (∀ m ∈ ns, 0 ≤ m) → ∀ m ∈ (mrg1 n s ns ts).1, 0 ≤ m
  | m :: ns, t :: ts, h => by
    have hm : 0 ≤ m := h m (List.mem_cons_self ..)
    have hr : ∀ k ∈ ns, 0 ≤ k := fun k hk => h k (List.mem_cons_of_mem _ hk)
    rw [mrg1_cons]
    split
    · exact h
    · split
      · intro k hk
        rcases List.mem_cons.1 hk with rfl | hk
        · exact Int.mul_nonneg hm hn
        · exact hr k hk
      · intro k hk
        rcases List.mem_cons.1 hk with rfl | hk
        · exact hn
        · exact h k hk
  | [], ts, h => by
    rw [mrg1_none]
    split
    · simp
    · intro k hk
      have : k = n := by simpa using hk
      omega
  | m :: ns, [], h => by
    rw [mrg1_half]
    split
    · exact h
    · intro k hk
      rcases List.mem_cons.1 hk with rfl | hk
      · exact hn
      · exact h k hk
theorem mrg_pos : ∀ (xs ss : List Int), (∀ n ∈ xs, 0 ≤ n) → ∀ m ∈ (mrg xs ss).1, 0 ≤ m
  | [], _, _ => by simp [mrg]
  | _ :: _, [], _ => by simp [mrg]
  | n :: ns, s :: ss, h => mrg1_pos n s (h n (List.mem_cons_self ..)) _ _ (mrg_pos ns ss (fun k hk => h k (List.mem_cons_of_mem _ hk)))

/-- Merged axes give the same places in the same order. -/
theorem places_mrg : ∀ (xs ss : List Int) (at_ : Int), xs.length = ss.length → (∀ n ∈ xs, 0 ≤ n) → places (mrg xs ss).1 (mrg xs ss).2 at_ = places xs ss at_
  | [], [], _, _, _ => rfl
  | n :: ns, s :: ss, at_, h, hp => by
    have hl : ns.length = ss.length := by simpa using h
    have hr : ∀ k ∈ ns, 0 ≤ k := fun k hk => hp k (List.mem_cons_of_mem _ hk)
    show places (mrg1 n s _ _).1 (mrg1 n s _ _).2 at_ = _
    rw [places_mrg1 n s (hp n (List.mem_cons_self ..)) _ _ at_ (mrg_len ns ss hl) (mrg_pos ns ss hr)]
    simp only [places]
    congr 1
    funext i
    exact places_mrg ns ss _ hl hr
  | [], _ :: _, _, h, _ => by simp at h
  | _ :: _, [], _, h, _ => by simp at h
end Go.Proofs.Ytbkdfhlbjaiahaa
namespace Go.Proofs.Ytbkdfhlbjaiahaa
open Go.ChangeShapes Go.RowKit
set_option linter.unusedSimpArgs false
set_option linter.unusedVariables false

theorem set_getD (xs : List Int) (a : Nat) (c : Int) (ha : a < xs.length) (j : Nat) : (xs.set a c).getD j 0 = if a = j then c else xs.getD j 0 := by
  by_cases h : a = j
  · subst h; rw [if_pos rfl]; simp [List.getD_eq_getElem?_getD, ha]
  · rw [if_neg h]; simp [List.getD_eq_getElem?_getD, List.getElem?_set, h]

/-- The world of 'sliced': f at w.heap.size, the answer behind it. -/
structure FW (w W : World) (n : Int) (xs ss : List Int) (off : Int) : Prop where
  c0 : W.cell? ⟨w.heap.size, 0, none⟩ = some (.int .i64 n)
  l : ∀ j, j < 4 → W.cell? ⟨w.heap.size, 1 + j, none⟩ = some (.int .i64 (xs.getD j 0))
  s : ∀ j, j < 4 → W.cell? ⟨w.heap.size, 5 + j, none⟩ = some (.int .i64 (ss.getD j 0))
  c9 : W.cell? ⟨w.heap.size, 9, none⟩ = some (.int .i64 off)
  r : ∀ j, j < 10 → W.cell? ⟨w.heap.size + 1, j, none⟩ = some (.int .i64 0)
  ex : Ext w W
theorem FW.keep {w W W' : World} {n : Int} {xs ss : List Int} {off : Int} (h : FW w W n xs ss off) (x : Ext W W') : FW w W' n xs ss off :=
  ⟨x.box h.c0, fun j hj => x.box (h.l j hj), fun j hj => x.box (h.s j hj), x.box h.c9, fun j hj => x.box (h.r j hj), h.ex.trans x⟩
theorem FW.setL {w W : World} {n : Int} {xs ss : List Int} {off : Int} (h : FW w W n xs ss off) (a : Nat) (ha : a < xs.length) (h4 : a < 4) (c : Int) : FW w (W.setCell ⟨w.heap.size, 1 + a, none⟩ (.int .i64 c)) n (xs.set a c) ss off := by
  refine ⟨near (by omega) h.c0, fun j hj => ?_, fun j hj => near (by omega) (h.s j hj), near (by omega) h.c9, fun j hj => far1 (by omega) (h.r j hj), h.ex.setCell (Nat.le_refl _) _⟩
  rw [set_getD xs a c ha j]
  by_cases e : a = j
  · subst e; rw [if_pos rfl]; exact World.cell?_setCell_same _ _ _ (h.l a hj)
  · rw [if_neg e]; exact near (by omega) (h.l j hj)
theorem FW.setS {w W : World} {n : Int} {xs ss : List Int} {off : Int} (h : FW w W n xs ss off) (a : Nat) (ha : a < ss.length) (h4 : a < 4) (c : Int) : FW w (W.setCell ⟨w.heap.size, 5 + a, none⟩ (.int .i64 c)) n xs (ss.set a c) off := by
  refine ⟨near (by omega) h.c0, fun j hj => near (by omega) (h.l j hj), fun j hj => ?_, near (by omega) h.c9, fun j hj => far1 (by omega) (h.r j hj), h.ex.setCell (Nat.le_refl _) _⟩
  rw [set_getD ss a c ha j]
  by_cases e : a = j
  · subst e; rw [if_pos rfl]; exact World.cell?_setCell_same _ _ _ (h.s a hj)
  · rw [if_neg e]; exact near (by omega) (h.s j hj)
theorem FW.setO {w W : World} {n : Int} {xs ss : List Int} {off : Int} (h : FW w W n xs ss off) (o : Int) : FW w (W.setCell ⟨w.heap.size, 9, none⟩ (.int .i64 o)) n xs ss o :=
  ⟨near (by omega) h.c0, fun j hj => near (by omega) (h.l j hj), fun j hj => near (by omega) (h.s j hj), World.cell?_setCell_same _ _ _ h.c9, fun j hj => far1 (by omega) (h.r j hj), h.ex.setCell (Nat.le_refl _) _⟩

/-- The ten cells of the answer. -/
theorem chain10 {W : World} {R : Nat} (h : ∀ j, j < 10 → W.cell? ⟨R, j, none⟩ = some (.int .i64 0)) (v0 v1 v2 v3 v4 v5 v6 v7 v8 v9 : Value) :
    let C := (((((((((W.setCell ⟨R, 0, none⟩ v0).setCell ⟨R, 1, none⟩ v1).setCell ⟨R, 2, none⟩ v2).setCell ⟨R, 3, none⟩ v3).setCell ⟨R, 4, none⟩ v4).setCell ⟨R, 5, none⟩ v5).setCell ⟨R, 6, none⟩ v6).setCell ⟨R, 7, none⟩ v7).setCell ⟨R, 8, none⟩ v8).setCell ⟨R, 9, none⟩ v9
    C.cell? ⟨R, 0, none⟩ = some v0 ∧ C.cell? ⟨R, 1, none⟩ = some v1 ∧ C.cell? ⟨R, 2, none⟩ = some v2 ∧ C.cell? ⟨R, 3, none⟩ = some v3 ∧ C.cell? ⟨R, 4, none⟩ = some v4 ∧ C.cell? ⟨R, 5, none⟩ = some v5 ∧ C.cell? ⟨R, 6, none⟩ = some v6 ∧ C.cell? ⟨R, 7, none⟩ = some v7 ∧ C.cell? ⟨R, 8, none⟩ = some v8 ∧ C.cell? ⟨R, 9, none⟩ = some v9 := by
  intro C
  have Z := zt (zt (zt (zt (zt (zt (zt (zt (zt (zt (f := fun _ => (.int .i64 0 : Value)) h 0 v0) 1 v1) 2 v2) 3 v3) 4 v4) 5 v5) 6 v6) 7 v7) 8 v8) 9 v9
  exact ⟨(Z 0 (by omega)).trans rfl, (Z 1 (by omega)).trans rfl, (Z 2 (by omega)).trans rfl, (Z 3 (by omega)).trans rfl, (Z 4 (by omega)).trans rfl, (Z 5 (by omega)).trans rfl, (Z 6 (by omega)).trans rfl, (Z 7 (by omega)).trans rfl, (Z 8 (by omega)).trans rfl, (Z 9 (by omega)).trans rfl⟩

end Go.Proofs.Ytbkdfhlbjaiahaa
namespace Go.Proofs.Ytbkdfhlbjaiahaa
open Go.ChangeShapes Go.RowKit
set_option linter.unusedSimpArgs false
set_option linter.unusedVariables false

/-- The world of the loop: f at w.heap.size, the answer behind it, out at B; the merged axes lie the fastest first. -/
structure MW (w W : World) (B : Nat) (xs ss : List Int) (off : Int) (M S : List Int) : Prop where
  fl : ∀ j, j < 4 → W.cell? ⟨w.heap.size, 1 + j, none⟩ = some (.int .i64 (xs.getD j 0))
  fs : ∀ j, j < 4 → W.cell? ⟨w.heap.size, 5 + j, none⟩ = some (.int .i64 (ss.getD j 0))
  r : ∀ j, j < 10 → W.cell? ⟨w.heap.size + 1, j, none⟩ = some (.int .i64 0)
  o0 : W.cell? ⟨B, 0, none⟩ = some (.int .i64 M.length)
  ol : ∀ j, j < 4 → W.cell? ⟨B, 1 + j, none⟩ = some (.int .i64 (M.getD j 0))
  os : ∀ j, j < 4 → W.cell? ⟨B, 5 + j, none⟩ = some (.int .i64 (S.getD j 0))
  o9 : W.cell? ⟨B, 9, none⟩ = some (.int .i64 off)
  ex : Ext w W
  hB : w.heap.size + 1 < B
theorem MW.drew {w W : World} {B : Nat} {xs ss : List Int} {off : Int} {M S : List Int} (h : MW w W B xs ss off M S) : MW w W.drew B xs ss off M S :=
  ⟨h.fl, h.fs, h.r, h.o0, h.ol, h.os, h.o9, h.ex.drew, h.hB⟩
theorem snoc_getD (M : List Int) (x : Int) (j : Nat) : (M ++ [x]).getD j 0 = if j = M.length then x else M.getD j 0 := by
  by_cases h : j = M.length
  · subst h; rw [if_pos rfl]; simp [List.getD_eq_getElem?_getD]
  · rw [if_neg h]
    by_cases h2 : j < M.length
    · simp [List.getD_eq_getElem?_getD, List.getElem?_append, h2]
    · have h3 : M.length < j := by omega
      rw [List.getD_eq_getElem?_getD, List.getD_eq_getElem?_getD, List.getElem?_eq_none (by simp; omega), List.getElem?_eq_none (by omega)]
/-- The last merged axis grows. -/
theorem MW.grow {w W : World} {B : Nat} {xs ss : List Int} {off : Int} {M S : List Int} (h : MW w W B xs ss off M S) (a : Nat) (ha : a < M.length) (h4 : a < 4) (c : Int) : MW w (W.setCell ⟨B, 1 + a, none⟩ (.int .i64 c)) B xs ss off (M.set a c) S := by
  have hB := h.hB
  have m : Mut B W (W.setCell ⟨B, 1 + a, none⟩ (.int .i64 c)) := (Mut.refl _ _).setCell _ _
  refine ⟨fun j hj => m.box (by omega) (h.fl j hj), fun j hj => m.box (by omega) (h.fs j hj), fun j hj => m.box (by omega) (h.r j hj), ?_, fun j hj => ?_, fun j hj => near (by omega) (h.os j hj), near (by omega) h.o9, h.ex.setCell (by show w.heap.size ≤ B; omega) _, hB⟩
  · rw [List.length_set]; exact near (by omega) h.o0
  · rw [set_getD M a c ha j]
    by_cases e : a = j
    · subst e; rw [if_pos rfl]; exact World.cell?_setCell_same _ _ _ (h.ol a hj)
    · rw [if_neg e]; exact near (by omega) (h.ol j hj)
/-- One merged axis more. -/
theorem MW.more {w W : World} {B : Nat} {xs ss : List Int} {off : Int} {M S : List Int} (h : MW w W B xs ss off M S) (hl : S.length = M.length) (h4 : M.length < 4) (x y : Int) :
    MW w (((W.setCell ⟨B, 1 + M.length, none⟩ (.int .i64 x)).setCell ⟨B, 5 + M.length, none⟩ (.int .i64 y)).setCell ⟨B, 0, none⟩ (.int .i64 ((M.length : Int) + 1))) B xs ss off (M ++ [x]) (S ++ [y]) := by
  have hB := h.hB
  have m : Mut B W (((W.setCell ⟨B, 1 + M.length, none⟩ (.int .i64 x)).setCell ⟨B, 5 + M.length, none⟩ (.int .i64 y)).setCell ⟨B, 0, none⟩ (.int .i64 ((M.length : Int) + 1))) := (((Mut.refl _ _).setCell _ _).setCell _ _).setCell _ _
  refine ⟨fun j hj => m.box (by omega) (h.fl j hj), fun j hj => m.box (by omega) (h.fs j hj), fun j hj => m.box (by omega) (h.r j hj), ?_, fun j hj => ?_, fun j hj => ?_, near (by omega) (near (by omega) (near (by omega) h.o9)), ((h.ex.setCell (by show w.heap.size ≤ B; omega) _).setCell (by show w.heap.size ≤ B; omega) _).setCell (by show w.heap.size ≤ B; omega) _, hB⟩
  · rw [List.length_append]
    exact World.cell?_setCell_same _ _ _ (near (by omega) (near (by omega) h.o0))
  · rw [snoc_getD]
    refine near (by omega) (near (by omega) ?_)
    by_cases e : j = M.length
    · subst e; rw [if_pos rfl]; exact World.cell?_setCell_same _ _ _ (h.ol _ hj)
    · rw [if_neg e]; exact near (by omega) (h.ol j hj)
  · rw [snoc_getD, hl]
    refine near (by omega) ?_
    by_cases e : j = M.length
    · subst e; rw [if_pos rfl]; exact World.cell?_setCell_same _ _ _ (near (by omega) (h.os _ hj))
    · rw [if_neg e]; exact near (by omega) (near (by omega) (h.os j hj))

/-- What is merged when k axes are gone through. -/
def mgL (xs ss : List Int) (k : Nat) : List Int := (mrg (xs.drop (xs.length - k)) (ss.drop (xs.length - k))).1
def mgS (xs ss : List Int) (k : Nat) : List Int := (mrg (xs.drop (xs.length - k)) (ss.drop (xs.length - k))).2
theorem mg_step (xs ss : List Int) (k : Nat) (hl : ss.length = xs.length) (hk : k < xs.length) : (mgL xs ss (k + 1), mgS xs ss (k + 1)) = mrg1 (xs.getD (xs.length - 1 - k) 0) (ss.getD (xs.length - 1 - k) 0) (mgL xs ss k) (mgS xs ss k) := by
  unfold mgL mgS
  have e : xs.length - (k + 1) = xs.length - 1 - k := by omega
  have e2 : xs.length - k = xs.length - 1 - k + 1 := by omega
  have d1 : xs.drop (xs.length - 1 - k) = xs.getD (xs.length - 1 - k) 0 :: xs.drop (xs.length - 1 - k + 1) := by
    rw [List.drop_eq_getElem_cons (by omega), List.getD_eq_getElem?_getD, List.getElem?_eq_getElem (by omega)]; rfl
  have d2 : ss.drop (xs.length - 1 - k) = ss.getD (xs.length - 1 - k) 0 :: ss.drop (xs.length - 1 - k + 1) := by
    rw [List.drop_eq_getElem_cons (by omega), List.getD_eq_getElem?_getD, List.getElem?_eq_getElem (by omega)]; rfl
  rw [e, e2, d1, d2]
  rfl
theorem mg_len (xs ss : List Int) (k : Nat) (hl : ss.length = xs.length) : (mgS xs ss k).length = (mgL xs ss k).length := (mrg_len _ _ (by simp; omega)).symm
theorem mg_zero (xs ss : List Int) (hl : ss.length = xs.length) : mgL xs ss 0 = [] ∧ mgS xs ss 0 = [] := by
  unfold mgL mgS
  rw [Nat.sub_zero, List.drop_length, List.drop_of_length_le (by omega)]
  exact ⟨rfl, rfl⟩
theorem mg_le (xs ss : List Int) (hl : ss.length = xs.length) : ∀ k, k ≤ xs.length → (mgL xs ss k).length ≤ k
  | 0, _ => by rw [(mg_zero xs ss hl).1]; simp
  | k + 1, hk => by
    have := mg_le xs ss hl k (by omega)
    have e := congrArg Prod.fst (mg_step xs ss k hl (by omega))
    rw [show mgL xs ss (k + 1) = _ from e]
    have := mrg1_le (xs.getD (xs.length - 1 - k) 0) (ss.getD (xs.length - 1 - k) 0) (mgL xs ss k) (mgS xs ss k) (mg_len xs ss k hl).symm
    omega
def MRel (w : World) (B : Nat) (xs ss : List Int) (off : Int) (i : Value) (W : World) : Prop := ∃ k : Nat, i = .int .i64 ((xs.length : Int) - 1 - k) ∧ k ≤ xs.length ∧ MW w W B xs ss off (mgL xs ss k).reverse (mgS xs ss k).reverse

theorem bd_mul {k : Nat} {m n : Int} (hk : k < 4) (hm : 0 ≤ m ∧ m ≤ bd k) (hn : 0 ≤ n ∧ n ≤ 4096) : 0 ≤ m * n ∧ m * n ≤ bd (k + 1) := by
  refine ⟨Int.mul_nonneg hm.1 hn.1, ?_⟩
  have h1 : m * n ≤ bd k * 4096 := Int.mul_le_mul hm.2 hn.2 hn.1 (Int.le_trans hm.1 hm.2)
  have h2 : bd k * 4096 = bd (k + 1) := by
    obtain rfl | rfl | rfl | rfl : k = 0 ∨ k = 1 ∨ k = 2 ∨ k = 3 := by omega
    all_goals decide
  omega
theorem bd_up (k : Nat) (hk : k < 4) : bd k ≤ bd (k + 1) ∧ 4096 ≤ bd (k + 1) := by
  obtain rfl | rfl | rfl | rfl : k = 0 ∨ k = 1 ∨ k = 2 ∨ k = 3 := by omega
  all_goals decide
theorem mrg1_bd {k : Nat} {n s : Int} (hk : k < 4) (hn : 0 ≤ n ∧ n ≤ 4096) (hs : -4096 ≤ s ∧ s ≤ 4096) : ∀ (ns ts : List Int), ns.length = ts.length → (∀ m ∈ ns, 0 ≤ m ∧ m ≤ bd k) → (∀ t ∈ ts, -4096 ≤ t ∧ t ≤ 4096) →
    (∀ m ∈ (mrg1 n s ns ts).1, 0 ≤ m ∧ m ≤ bd (k + 1)) ∧ (∀ t ∈ (mrg1 n s ns ts).2, -4096 ≤ t ∧ t ≤ 4096)
  | [], [], _, _, _ => by
    have := bd_up k hk
    rw [mrg1_nil]
    split
    · simp
    · simp; omega
  | m :: ns, t :: ts, _, h1, h2 => by
    have hb := bd_up k hk
    have up : ∀ x, 0 ≤ x ∧ x ≤ bd k → 0 ≤ x ∧ x ≤ bd (k + 1) := fun x hx => by omega
    have hm := h1 m (List.mem_cons_self ..)
    have hr : ∀ x ∈ ns, 0 ≤ x ∧ x ≤ bd (k + 1) := fun x hx => up x (h1 x (List.mem_cons_of_mem _ hx))
    rw [mrg1_cons]
    split
    · exact ⟨fun x hx => up x (h1 x hx), h2⟩
    · split
      · refine ⟨fun x hx => ?_, h2⟩
        rcases List.mem_cons.1 hx with rfl | hx
        · exact bd_mul hk hm hn
        · exact hr x hx
      · refine ⟨fun x hx => ?_, fun x hx => ?_⟩
        · rcases List.mem_cons.1 hx with rfl | hx
          · omega
          · exact up x (h1 x hx)
        · rcases List.mem_cons.1 hx with rfl | hx
          · exact hs
          · exact h2 x hx
  | [], _ :: _, h, _, _ => by simp at h
  | _ :: _, [], h, _, _ => by simp at h
theorem mg_bd (xs ss : List Int) (h4 : xs.length ≤ 4) (hl : ss.length = xs.length) (hr : InR xs xs.length) (hss : InS ss ss.length) : ∀ k, k ≤ xs.length → (∀ m ∈ mgL xs ss k, 0 ≤ m ∧ m ≤ bd k) ∧ (∀ t ∈ mgS xs ss k, -4096 ≤ t ∧ t ≤ 4096)
  | 0, _ => by rw [(mg_zero xs ss hl).1, (mg_zero xs ss hl).2]; simp
  | k + 1, hk => by
    have ih := mg_bd xs ss h4 hl hr hss k (by omega)
    have e := mg_step xs ss k hl (by omega)
    have e1 := congrArg Prod.fst e
    have e2 := congrArg Prod.snd e
    rw [show mgL xs ss (k + 1) = _ from e1, show mgS xs ss (k + 1) = _ from e2]
    exact mrg1_bd (by omega) (hr _ (by omega)) (hss _ (by omega)) _ _ (mg_len xs ss k hl).symm ih.1 ih.2
theorem rev_last (m : Int) (ns : List Int) : (m :: ns).reverse.getD ns.length 0 = m := by
  rw [List.reverse_cons, snoc_getD, if_pos (by simp)]
theorem rev_set (m c : Int) (ns : List Int) : (m :: ns).reverse.set ns.length c = (c :: ns).reverse := by
  rw [List.reverse_cons, List.reverse_cons, List.set_append_right _ _ (by simp)]
  simp
theorem mrel_step {w W : World} {B : Nat} {xs ss : List Int} {off : Int} {k : Nat} (hk : k < xs.length) {L S : List Int} (e : (mgL xs ss (k + 1), mgS xs ss (k + 1)) = (L, S)) (h : MW w W B xs ss off L.reverse S.reverse) {i : Int} (hi : i = (xs.length : Int) - 1 - ((k + 1 : Nat) : Int)) : MRel w B xs ss off (.int .i64 i) W := by
  have e1 : mgL xs ss (k + 1) = L := congrArg Prod.fst e
  have e2 : mgS xs ss (k + 1) = S := congrArg Prod.snd e
  exact ⟨k + 1, by rw [hi], by omega, by rw [e1, e2]; exact h⟩

theorem mrg1_one (s : Int) : ∀ (ns ts : List Int), mrg1 1 s ns ts = (ns, ts)
  | [], [] => rfl
  | [], _ :: _ => rfl
  | _ :: _, [] => rfl
  | _ :: _, _ :: _ => rfl

set_option maxRecDepth 100000 in
set_option maxHeartbeats 4000000 in
theorem merged_any (w : World) (xs ss : List Int) (off : Int) (h4 : xs.length ≤ 4) (hl : ss.length = xs.length) (hr : InR xs xs.length) (hss : InS ss ss.length) :
    Calls Try.prog 73 #[.agg (vw xs ss off)] w fun e w' => e = .returned (.agg (vw (mrg xs ss).1.reverse (mrg xs ss).2.reverse off)) ∧ Ext w w' := by
  have x0 : Ext w ((w.alloc (.cells (vw xs ss off) 75)).alloc (.cells #[.int .i64 0, .int .i64 0, .int .i64 0, .int .i64 0, .int .i64 0, .int .i64 0, .int .i64 0, .int .i64 0, .int .i64 0, .int .i64 0] 75)) := ((Ext.refl w).alloc _ _).alloc _ _
  have y1 : Ext (w.alloc (.cells (vw xs ss off) 75)) ((w.alloc (.cells (vw xs ss off) 75)).alloc (.cells #[.int .i64 0, .int .i64 0, .int .i64 0, .int .i64 0, .int .i64 0, .int .i64 0, .int .i64 0, .int .i64 0, .int .i64 0, .int .i64 0] 75)) := (Ext.refl _).alloc _ _
  have n1 := fun j => new_cell w (vw xs ss off) 75 w.heap.size rfl j
  have n2 := fun j => new_cell (w.alloc (.cells (vw xs ss off) 75)) #[.int .i64 0, .int .i64 0, .int .i64 0, .int .i64 0, .int .i64 0, .int .i64 0, .int .i64 0, .int .i64 0, .int .i64 0, .int .i64 0] 75 (w.heap.size + 1) (by simp) j
  have S0 : Hid (FW w ((w.alloc (.cells (vw xs ss off) 75)).alloc (.cells #[.int .i64 0, .int .i64 0, .int .i64 0, .int .i64 0, .int .i64 0, .int .i64 0, .int .i64 0, .int .i64 0, .int .i64 0, .int .i64 0] 75)) xs.length xs ss off) := by
    refine ⟨y1.box (n1 0), fun j hj => ?_, fun j hj => ?_, y1.box (n1 9), fun j hj => ?_, x0⟩
    · obtain rfl | rfl | rfl | rfl : j = 0 ∨ j = 1 ∨ j = 2 ∨ j = 3 := by omega
      · exact y1.box (n1 1)
      · exact y1.box (n1 2)
      · exact y1.box (n1 3)
      · exact y1.box (n1 4)
    · obtain rfl | rfl | rfl | rfl : j = 0 ∨ j = 1 ∨ j = 2 ∨ j = 3 := by omega
      · exact y1.box (n1 5)
      · exact y1.box (n1 6)
      · exact y1.box (n1 7)
      · exact y1.box (n1 8)
    · obtain rfl | rfl | rfl | rfl | rfl | rfl | rfl | rfl | rfl | rfl : j = 0 ∨ j = 1 ∨ j = 2 ∨ j = 3 ∨ j = 4 ∨ j = 5 ∨ j = 6 ∨ j = 7 ∨ j = 8 ∨ j = 9 := by omega
      all_goals exact n2 _
  have sz0 : Hid (((w.alloc (.cells (vw xs ss off) 75)).alloc (.cells #[.int .i64 0, .int .i64 0, .int .i64 0, .int .i64 0, .int .i64 0, .int .i64 0, .int .i64 0, .int .i64 0, .int .i64 0, .int .i64 0] 75)).heap.size = w.heap.size + 1 + 1) := by show ((w.alloc (.cells (vw xs ss off) 75)).alloc (.cells #[.int .i64 0, .int .i64 0, .int .i64 0, .int .i64 0, .int .i64 0, .int .i64 0, .int .i64 0, .int .i64 0, .int .i64 0, .int .i64 0] 75)).heap.size = _; simp
  clear x0 y1 n1 n2
  generalize hans : (fun (e : Ending) (w' : World) => e = .returned (.agg (vw (mrg xs ss).1.reverse (mrg xs ss).2.reverse off)) ∧ Ext w w') = ANS
  have Hans := hide hans
  clear hans
  have f0 := S0.out.c0
  have f9 := S0.out.c9
  unfold vw at S0 f0 f9 sz0 ⊢
  generalize xs.getD 0 0 = e0 at S0 f0 f9 sz0 ⊢
  generalize xs.getD 1 0 = e1 at S0 f0 f9 sz0 ⊢
  generalize xs.getD 2 0 = e2 at S0 f0 f9 sz0 ⊢
  generalize xs.getD 3 0 = e3 at S0 f0 f9 sz0 ⊢
  generalize ss.getD 0 0 = e4 at S0 f0 f9 sz0 ⊢
  generalize ss.getD 1 0 = e5 at S0 f0 f9 sz0 ⊢
  generalize ss.getD 2 0 = e6 at S0 f0 f9 sz0 ⊢
  generalize ss.getD 3 0 = e7 at S0 f0 f9 sz0 ⊢
  go_enter Try.func73, Try.ntmps73
  go_wp2_with fail
  generalize hV0 : ((w.alloc (.cells #[.int .i64 xs.length, .int .i64 e0, .int .i64 e1, .int .i64 e2, .int .i64 e3, .int .i64 e4, .int .i64 e5, .int .i64 e6, .int .i64 e7, .int .i64 off] 75)).alloc (.cells #[.int .i64 0, .int .i64 0, .int .i64 0, .int .i64 0, .int .i64 0, .int .i64 0, .int .i64 0, .int .i64 0, .int .i64 0, .int .i64 0] 75)) = V0 at S0 f0 f9 sz0 ⊢
  clear hV0
  have y3 : Ext V0 (V0.alloc (.cells #[.int .i64 0, .int .i64 0, .int .i64 0, .int .i64 0, .int .i64 0, .int .i64 0, .int .i64 0, .int .i64 0, .int .i64 0, .int .i64 off] 75)) := (Ext.refl V0).alloc _ _
  have n3 := fun j => new_cell V0 #[.int .i64 0, .int .i64 0, .int .i64 0, .int .i64 0, .int .i64 0, .int .i64 0, .int .i64 0, .int .i64 0, .int .i64 0, .int .i64 off] 75 (w.heap.size + 1 + 1) (by rw [sz0.out]) j
  have M0 : Hid (MW w (V0.alloc (.cells #[.int .i64 0, .int .i64 0, .int .i64 0, .int .i64 0, .int .i64 0, .int .i64 0, .int .i64 0, .int .i64 0, .int .i64 0, .int .i64 off] 75)) (w.heap.size + 1 + 1) xs ss off (mgL xs ss 0).reverse (mgS xs ss 0).reverse) := by
    rw [(mg_zero xs ss hl).1, (mg_zero xs ss hl).2]
    refine ⟨fun j hj => y3.box (S0.out.l j hj), fun j hj => y3.box (S0.out.s j hj), fun j hj => y3.box (S0.out.r j hj), n3 0, fun j hj => ?_, fun j hj => ?_, n3 9, S0.out.ex.trans y3, by omega⟩
    · obtain rfl | rfl | rfl | rfl : j = 0 ∨ j = 1 ∨ j = 2 ∨ j = 3 := by omega
      all_goals exact n3 _
    · obtain rfl | rfl | rfl | rfl : j = 0 ∨ j = 1 ∨ j = 2 ∨ j = 3 := by omega
      all_goals exact n3 _
  clear y3 n3 S0 f0 f9 sz0
  have Hl := hide hl
  have HR := hide hr
  have HSS := hide hss
  clear hl hr hss
  generalize hBB : w.heap.size + 1 + 1 = B at M0 ⊢
  have HBB : Hid (w.heap.size + 1 < B) := by show w.heap.size + 1 < B; omega
  clear hBB
  go_loopw [4] (fun i W => MRel w B xs ss off i W) (fun i _ => (intOf i + 1).toNat)
  case atStart => exact ⟨0, by simp, by omega, M0.out⟩
  case round =>
    obtain ⟨k, rfl, hk, hM⟩ := hrel
    have HM := hide hM
    clear hM
    by_cases hlt : k < xs.length
    · have hge : (0 : Int) ≤ (xs.length : Int) - 1 - k := by omega
      obtain ⟨ix, hix⟩ : ∃ ix : Nat, xs.length - 1 - k = ix := ⟨_, rfl⟩
      have hixi : (xs.length : Int) - 1 - k = (ix : Int) := by omega
      have hix4 : ix < 4 := by omega
      have hixx : ix < xs.length := by omega
      have hi0 : (0 : Int) ≤ (ix : Int) := Int.natCast_nonneg _
      have hi44 : (ix : Int) < 4 := by omega
      have qx := HM.out.fl ix hix4
      have qs := HM.out.fs ix hix4
      have hX := HR.out ix hixx
      have hY := HSS.out ix (by have := Hl.out; omega)
      have hbd := mg_bd xs ss h4 Hl.out HR.out HSS.out k (by omega)
      have hml := mg_le xs ss Hl.out k (by omega)
      have hsl := mg_len xs ss k Hl.out
      have hstep := hide (mg_step xs ss k Hl.out hlt)
      rw [hix] at hstep
      generalize mgL xs ss k = ML at HM hbd hml hsl hstep
      generalize mgS xs ss k = MS at HM hbd hsl hstep
      generalize xs.getD ix 0 = X at qx hX hstep
      generalize ss.getD ix 0 = Y at qs hY hstep
      have Hix := hide hix
      have Hixi := hide hixi
      clear hix
      rw [hixi]
      clear hixi hge
      have HMd := hide HM.out.drew
      generalize hMr : ML.reverse = M at HM HMd
      generalize hSr : MS.reverse = S at HM HMd
      have HMr := hide hMr
      have HSr := hide hSr
      have hMl : M.length = ML.length := by rw [← hMr]; simp
      have hSl : S.length = MS.length := by rw [← hSr]; simp
      have hM4 : M.length < 4 := by omega
      have hSM : S.length = M.length := by omega
      clear hMr hSr
      have o0 := HMd.out.o0
      by_cases hX1 : X = 1
      · subst hX1
        have hst2 := hide (hstep.out.trans (mrg1_one _ _ _))
        have HMl := hide hMl
        have HSl := hide hSl
        have Hs := hide hsl
        clear hMl hSl hsl hSM
        go_wp2_with fail
        go_region
        go_wp2
        go_roundw
        · exact mrel_step hlt hst2.out (by rw [HMr.out, HSr.out]; exact HMd.out) (by have := Hixi.out; omega)
        · first | (simp [intOf]; done) | (simp [intOf]; omega)
      have hXn : (X == 1) = false := by simp [hX1]
      cases ML with
      | nil =>
        obtain rfl : MS = [] := List.eq_nil_of_length_eq_zero hsl
        have e1 : M = [] := HMr.out.symm
        have e2 : S = [] := HSr.out.symm
        subst e1
        subst e2
        have hst2 := hide (hstep.out.trans ((mrg1_nil _ _).trans (if_neg hX1)))
        clear hsl hMl hSl hSM hM4 hml
        go_wp2_with fail
        go_region
        generalize hWW : wr.drew = WW at HMd o0 ⊢
        clear hWW HM qx qs
        go_wp2_with fail
        go_region
        have HMM := hide HMd.out.drew
        generalize hW2 : WW.drew = W2 at HMM ⊢
        clear hW2 HMd o0
        have o0 : W2.cell? ⟨B, 0, none⟩ = some (.int .i64 0) := HMM.out.o0
        have g1 : W2.cell? ⟨B, 1, none⟩ = some (.int .i64 0) := HMM.out.ol 0 (by omega)
        have g5 : W2.cell? ⟨B, 5, none⟩ = some (.int .i64 0) := HMM.out.os 0 (by omega)
        have g5b : (W2.setCell ⟨B, 1, none⟩ (.int .i64 X)).cell? ⟨B, 5, none⟩ = some (.int .i64 0) := near (by omega) g5
        have o0c : ((W2.setCell ⟨B, 1, none⟩ (.int .i64 X)).setCell ⟨B, 5, none⟩ (.int .i64 Y)).cell? ⟨B, 0, none⟩ = some (.int .i64 0) := near (by omega) (near (by omega) o0)
        have hbf := fun o => HMM.out.ex.unfrozen (b := B) (by have := HMM.out.hB; omega) o
        have HMore : Hid (MW w (((W2.setCell ⟨B, 1, none⟩ (.int .i64 X)).setCell ⟨B, 5, none⟩ (.int .i64 Y)).setCell ⟨B, 0, none⟩ (.int .i64 1)) B xs ss off [X] [Y]) := HMM.out.more rfl (by simp) X Y
        go_wp2
        go_roundw
        · exact mrel_step hlt hst2.out HMore.out (by have := Hixi.out; omega)
        · first | (simp [intOf]; done) | (simp [intOf]; omega)
      | cons m ns =>
        obtain ⟨t, ts, rfl⟩ : ∃ t ts, MS = t :: ts := by
          cases MS with
          | nil => simp at hsl
          | cons t ts => exact ⟨t, ts, rfl⟩
        have hqs : ts.length = ns.length := by simpa using hsl
        obtain ⟨q, hq⟩ : ∃ q : Nat, ns.length = q := ⟨_, rfl⟩
        have hMq : M.length = q + 1 := by rw [hMl]; simp [hq]
        have hSq : S.length = q + 1 := by omega
        have hm := hbd.1 m (List.mem_cons_self ..)
        have ht := hbd.2 t (List.mem_cons_self ..)
        have hb4 := bd_le k
        have mm : M.getD q 0 = m := by rw [← HMr.out, ← hq]; exact rev_last m ns
        have tt : S.getD q 0 = t := by rw [← HSr.out, ← hq, ← hqs]; exact rev_last t ts
        have hq4 : q < 4 := by omega
        have hq3 : q + 1 < 4 := by omega
        have hq0 : (0 : Int) ≤ (q : Int) := Int.natCast_nonneg _
        have hq44 : (q : Int) < 4 := by omega
        have c1 := HMd.out.ol q hq4
        have c5 := HMd.out.os q hq4
        rw [mm] at c1
        rw [tt] at c5
        have o0q : wr.drew.cell? ⟨B, 0, none⟩ = some (.int .i64 ((q : Int) + 1)) := by rw [o0, hMq]; simp
        have htm : -4096 * 281474976710656 ≤ t * m ∧ t * m ≤ 4096 * 281474976710656 := by
          have h1 := mul_between m (281474976710656 + 1) t (by omega) (by omega)
          have h2 : m * t = t * m := Int.mul_comm _ _
          omega
        have hwm : IntKind.i64.wrap (t * m) = t * m := by rw [IntKind.wrap_i64]; omega
        have hmX := bd_mul (k := k) (by omega) hm hX
        have hb5 := bd_le (k + 1)
        have hwp : IntKind.i64.wrap (m * X) = m * X := by rw [IntKind.wrap_i64]; omega
        have HMl := hide hMl
        have HMq := hide hMq
        have HSq := hide hSq
        have Hq := hide hq
        have Hqs := hide hqs
        have Hsl := hide hsl
        have HSM := hide hSM
        have HM4 := hide hM4
        clear hMl hMq hSq hq hqs hsl hSM hM4 hSl hml o0 mm tt hmX htm hb4 hb5 hm ht hbd
        go_wp2_with fail
        go_region
        generalize hWW : wr.drew = WW at HMd o0q c1 c5 ⊢
        clear hWW HM qx qs
        have SA : Hid ((fun w' => w'.cell? ⟨B, 5 + q, none⟩ = some (.int .i64 t) ∧ w'.cell? ⟨B, 1 + q, none⟩ = some (.int .i64 m)) WW.drew) := ⟨c5, c1⟩
        go_wp2_with fail
        go_region_held3 (fun w' => w'.cell? ⟨B, 5 + q, none⟩ = some (.int .i64 t) ∧ w'.cell? ⟨B, 1 + q, none⟩ = some (.int .i64 m)) (first | with_reducible exact SA.out | exact SA.out | fail) (fail)
        have HMM := hide HMd.out.drew
        generalize hW2 : WW.drew = W2 at HMM ⊢
        clear hW2 HMd o0q c1 c5 SA
        have c1 : W2.cell? ⟨B, 1 + q, none⟩ = some (.int .i64 m) := by
          have := HMM.out.ol q hq4
          rw [← HMr.out, ← Hq.out, rev_last] at this
          rw [← Hq.out]; exact this
        have hbf := fun o => HMM.out.ex.unfrozen (b := B) (by have := HMM.out.hB; omega) o
        by_cases hYt : Y = t * m
        · subst hYt
          have hst2 := hide (hstep.out.trans ((mrg1_cons _ _ _ _ _ _).trans ((if_neg hX1).trans (if_pos rfl))))
          have HG := hide (HMM.out.grow q (by have := HMq.out; omega) hq4 (m * X))
          go_wp2
          go_roundw
          · refine mrel_step hlt hst2.out ?_ (by have := Hixi.out; omega)
            have g := HG.out
            rw [← HMr.out, ← Hq.out, rev_set] at g
            rw [Hq.out] at g
            rw [HSr.out]
            exact g
          · first | (simp [intOf]; done) | (simp [intOf]; omega)
        · have hYn : (Y == t * m) = false := by simp [hYt]
          have hst2 := hide (hstep.out.trans ((mrg1_cons _ _ _ _ _ _).trans ((if_neg hX1).trans (if_neg hYt))))
          have g1 := HMM.out.ol (q + 1) hq3
          have g5 := HMM.out.os (q + 1) hq3
          have o0 : W2.cell? ⟨B, 0, none⟩ = some (.int .i64 ((q : Int) + 1)) := by rw [HMM.out.o0, HMq.out]; simp
          have HMore := HMM.out.more HSM.out HM4.out X Y
          rw [HMq.out, show (((q + 1 : Nat) : Int) + 1) = (q : Int) + 1 + 1 by omega] at HMore
          have g5b : (W2.setCell ⟨B, 1 + (q + 1), none⟩ (.int .i64 X)).cell? ⟨B, 5 + (q + 1), none⟩ = _ := near (by omega) g5
          have o0c : ((W2.setCell ⟨B, 1 + (q + 1), none⟩ (.int .i64 X)).setCell ⟨B, 5 + (q + 1), none⟩ (.int .i64 Y)).cell? ⟨B, 0, none⟩ = some (.int .i64 ((q : Int) + 1)) := near (by omega) (near (by omega) o0)
          have HMore2 := hide HMore
          clear HMore
          have hqi : (q : Int) + 1 < 4 := by omega
          have hqi0 : (0 : Int) ≤ (q : Int) + 1 := by omega
          have e1 : (X :: m :: ns).reverse = M ++ [X] := by rw [List.reverse_cons, HMr.out]
          have e2 : (Y :: t :: ts).reverse = S ++ [Y] := by rw [List.reverse_cons, HSr.out]
          have E1 := hide e1
          have E2 := hide e2
          clear e1 e2
          go_wp2
          go_roundw
          · refine mrel_step hlt hst2.out ?_ (by have := Hixi.out; omega)
            rw [E1.out, E2.out]
            exact HMore2.out
          · first | (simp [intOf]; done) | (simp [intOf]; omega)
    · have hkk : k = xs.length := by omega
      subst hkk
      have hA : mgL xs ss xs.length = (mrg xs ss).1 := by unfold mgL; rw [Nat.sub_self]; rfl
      have hB : mgS xs ss xs.length = (mrg xs ss).2 := by unfold mgS; rw [Nat.sub_self]; rfl
      rw [hA, hB] at HM
      have Hans2 := Hans.out
      subst Hans2
      clear hA hB Hans
      have hneg : ((xs.length : Int) - 1 - xs.length) = -1 := by omega
      rw [hneg]
      generalize hM1 : (mrg xs ss).1.reverse = M at HM
      generalize hS1 : (mrg xs ss).2.reverse = S at HM
      have HM1 := hide hM1
      have HS1 := hide hS1
      clear hM1 hS1
      have z0 := HM.out.o0
      have z1 : wr.cell? ⟨B, 1, none⟩ = _ := HM.out.ol 0 (by omega)
      have z2 : wr.cell? ⟨B, 2, none⟩ = _ := HM.out.ol 1 (by omega)
      have z3 : wr.cell? ⟨B, 3, none⟩ = _ := HM.out.ol 2 (by omega)
      have z4 : wr.cell? ⟨B, 4, none⟩ = _ := HM.out.ol 3 (by omega)
      have z5 : wr.cell? ⟨B, 5, none⟩ = _ := HM.out.os 0 (by omega)
      have z6 : wr.cell? ⟨B, 6, none⟩ = _ := HM.out.os 1 (by omega)
      have z7 : wr.cell? ⟨B, 7, none⟩ = _ := HM.out.os 2 (by omega)
      have z8 : wr.cell? ⟨B, 8, none⟩ = _ := HM.out.os 3 (by omega)
      have z9 := HM.out.o9
      have rr := HM.out.r
      have rr0 := rr 0 (by omega)
      have rr1 := rr 1 (by omega)
      have rr2 := rr 2 (by omega)
      have rr3 := rr 3 (by omega)
      have rr4 := rr 4 (by omega)
      have rr5 := rr 5 (by omega)
      have rr6 := rr 6 (by omega)
      have rr7 := rr 7 (by omega)
      have rr8 := rr 8 (by omega)
      have rr9 := rr 9 (by omega)
      have rf := fun o => HM.out.ex.unfrozen (b := w.heap.size + 1) (by omega) o
      have HE := hide HM.out.ex
      have HRR := hide rr
      clear rr
      generalize hT0 : M.getD 0 0 = t0 at z1
      have HT0 := hide hT0
      clear hT0
      generalize hT1 : M.getD 1 0 = t1 at z2
      have HT1 := hide hT1
      clear hT1
      generalize hT2 : M.getD 2 0 = t2 at z3
      have HT2 := hide hT2
      clear hT2
      generalize hT3 : M.getD 3 0 = t3 at z4
      have HT3 := hide hT3
      clear hT3
      generalize hU0 : S.getD 0 0 = u0 at z5
      have HU0 := hide hU0
      clear hU0
      generalize hU1 : S.getD 1 0 = u1 at z6
      have HU1 := hide hU1
      clear hU1
      generalize hU2 : S.getD 2 0 = u2 at z7
      have HU2 := hide hU2
      clear hU2
      generalize hU3 : S.getD 3 0 = u3 at z8
      have HU3 := hide hU3
      clear hU3
      go_wp2
      obtain ⟨q0, q1, q2, q3, q4, q5, q6, q7, q8, q9⟩ := chain10 HRR.out (.int .i64 (M.length : Int)) (.int .i64 t0) (.int .i64 t1) (.int .i64 t2) (.int .i64 t3) (.int .i64 u0) (.int .i64 u1) (.int .i64 u2) (.int .i64 u3) (.int .i64 off)
      exact bodyPost_ret (v := .agg #[.int .i64 (M.length : Int), .int .i64 t0, .int .i64 t1, .int .i64 t2, .int .i64 t3, .int .i64 u0, .int .i64 u1, .int .i64 u2, .int .i64 u3, .int .i64 off]) (by simp [results, Try.results73, go_sem, q0, q1, q2, q3, q4, q5, q6, q7, q8, q9]) rfl ⟨by unfold vw; rw [HM1.out, HS1.out, HT0.out, HT1.out, HT2.out, HT3.out, HU0.out, HU1.out, HU2.out, HU3.out], by repeat (first | with_reducible exact HE.out | with_reducible refine Ext.setCell ?_ (by show w.heap.size ≤ w.heap.size + 1; omega) _)⟩
end Go.Proofs.Ytbkdfhlbjaiahaa
namespace Go.Proofs.Ytbkdfhlbjaiahaa
open Go.ChangeShapes Go.RowKit Go.Shelf
set_option linter.unusedSimpArgs false
set_option linter.unusedVariables false

attribute [local go_sem] Oper.semAt_some

/-- Cells that were laid from block b on are kept. -/
structure KC (b : Nat) (A B : World) : Prop where
  size : A.heap.size ≤ B.heap.size
  keep : ∀ k o, b ≤ k → A.heap[k]? = some o → o.isCells = true → B.heap[k]? = some o
theorem KC.refl (b : Nat) (A : World) : KC b A A := ⟨Nat.le_refl _, fun _ _ _ h _ => h⟩
theorem KC.trans {b : Nat} {A B C : World} (x : KC b A B) (y : KC b B C) : KC b A C := ⟨Nat.le_trans x.size y.size, fun k o hb h hc => y.keep k o hb (x.keep k o hb h hc) hc⟩
theorem KC.alloc (b : Nat) (A : World) (o : Obj) : KC b A (A.alloc o) := by
  refine ⟨by simp, fun k o2 hb h hc => ?_⟩
  have hk : k < A.heap.size := by
    rcases Nat.lt_or_ge k A.heap.size with q | q
    · exact q
    · rw [Array.getElem?_eq_none q] at h; cases h
  rw [Below.heap_alloc A o k hk]; exact h
theorem KC.cell {b : Nat} {A B : World} (x : KC b A B) {k o : Nat} {v : Value} (hb : b ≤ k) (h : A.cell? ⟨k, o, none⟩ = some v) : B.cell? ⟨k, o, none⟩ = some v := by
  have hk : k < A.heap.size := cell_lt h
  have hc : ∃ ob, A.heap[k]? = some ob ∧ ob.isCells = true := by
    cases hh : A.heap[k]? with
    | none => simp [World.cell?, hh] at h
    | some ob =>
      refine ⟨ob, rfl, ?_⟩
      cases ob with
      | cells cs t f => rfl
      | _ => simp [World.cell?, hh] at h
  obtain ⟨ob, h1, h2⟩ := hc
  exact (World.cell?_of_block ((x.keep k ob hb h1 h2).trans h1.symm)).trans h

theorem room_of_none {F : Fence} (hd : F.depth = none) (k : Nat) : F.room k := fun d h => by rw [hd] at h; cases h

/-- The places of the d fastest merged axes. -/
def plD (M S : List Int) (d : Nat) (at_ : Int) : List Int := places (M.take d).reverse (S.take d).reverse at_
theorem plD_zero (M S : List Int) (at_ : Int) : plD M S 0 at_ = [at_] := by simp [plD, places]
theorem plD_succ (M S : List Int) (d : Nat) (at_ : Int) (h1 : d < M.length) (h2 : d < S.length) : plD M S (d + 1) at_ = (List.range (M.getD d 0).toNat).flatMap fun (i : Nat) => plD M S d (at_ + (i : Int) * S.getD d 0) := by
  unfold plD
  rw [take_snoc M d h1, take_snoc S d h2, List.reverse_append, List.reverse_append]
  rfl
/-- What has come when k rounds of the axis are over. -/
def plK (M S : List Int) (d : Nat) (at_ : Int) (k : Nat) : List Int := (List.range k).flatMap fun (i : Nat) => plD M S d (at_ + (i : Int) * S.getD d 0)
theorem plK_succ (M S : List Int) (d : Nat) (at_ : Int) (k : Nat) : plK M S d at_ (k + 1) = plK M S d at_ k ++ plD M S d (at_ + (k : Int) * S.getD d 0) := by
  simp [plK, List.range_succ]

theorem plK_prefix (M S : List Int) (d : Nat) (at_ : Int) {k m : Nat} (h : k ≤ m) : plK M S d at_ k <+: plK M S d at_ m := by
  obtain ⟨j, rfl⟩ := Nat.exists_eq_add_of_le h
  unfold plK
  rw [List.range_add, List.flatMap_append]
  exact List.prefix_append _ _
theorem plK_le (M S : List Int) (d : Nat) (at_ : Int) {k m : Nat} (h : k ≤ m) : (plK M S d at_ k).length ≤ (plK M S d at_ m).length := (plK_prefix M S d at_ h).length_le
/-- The rounds of the loop over one axis. -/
def WRel (J : List Int → World → Prop) (b : Nat) (W1 : World) (pre M S : List Int) (d : Nat) (place t : Int) (p i : Value) (cnt : Int) (wr : World) : Prop :=
  ∃ k : Nat, i = .int .i64 k ∧ p = .int .i64 (place + (k : Int) * t) ∧ (k : Int) ≤ cnt ∧ J (pre ++ plK M S d place k) wr ∧ KC b W1 wr

set_option maxRecDepth 100000 in
set_option maxHeartbeats 2000000 in
theorem walk_in (F : Fence) (hd : F.depth = none) (h84 : F.fn 74) (hro : F.round = none) (l b N : Nat) (Pr : Int → Prop) (J Jx : List Int → World → Prop) (hJ : AbidesFrom b J)
    (hY : ∀ m pre x W, Pr x → J pre W → pre.length < N → YieldAt F m Try.prog l #[.int .i64 x] W fun e W' =>
      (e = .returned (.bool true) ∧ J (pre ++ [x]) W' ∧ KC b W W') ∨ (e = .returned (.bool false) ∧ Jx (pre ++ [x]) W'))
    (M S : List Int) (off : Int) (h4 : M.length ≤ 4) (hl : S.length = M.length) (hM : ∀ m ∈ M, 0 ≤ m ∧ m ≤ 4096) (hS : ∀ t ∈ S, -4096 ≤ t ∧ t ≤ 4096) :
    ∀ (d : Nat), d ≤ M.length → ∀ (n : Nat) (place : Int) (pre : List Int) (W : World), b ≤ W.heap.size → (-(20000000 * (5 - (d : Int))) ≤ place ∧ place ≤ 20000000 * (5 - (d : Int))) → J pre W → pre.length + (plD M S d place).length ≤ N → (∀ x ∈ plD M S d place, Pr x) →
      CallsIn F n Try.prog 74 #[.agg (vw M S off), .int .i64 ((d : Int) - 1), .int .i64 place, .func (.yield l) #[] #[]] W fun e W' =>
        (e = .returned (.bool true) ∧ J (pre ++ plD M S d place) W' ∧ KC b W W') ∨ (e = .returned (.bool false) ∧ ∃ q, q <+: plD M S d place ∧ Jx (pre ++ q) W') := by
  intro d
  have hdd : ∀ k : Nat, (F.depth.isSome = true → 1 ≤ k) := fun k h => by rw [hd] at h; cases h
  induction d with
  | zero =>
    intro _ n place pre W hb hp hJ0 hN hPr
    rw [plD_zero] at hN hPr ⊢
    have hPp : Pr place := hPr place (List.mem_singleton.2 rfl)
    clear hPr
    unfold vw
    generalize M.getD 0 0 = e0
    generalize M.getD 1 0 = e1
    generalize M.getD 2 0 = e2
    generalize M.getD 3 0 = e3
    generalize S.getD 0 0 = e4
    generalize S.getD 1 0 = e5
    generalize S.getD 2 0 = e6
    generalize S.getD 3 0 = e7
    have hJ1 : J pre (W.alloc (.cells #[.int .i64 M.length, .int .i64 e0, .int .i64 e1, .int .i64 e2, .int .i64 e3, .int .i64 e4, .int .i64 e5, .int .i64 e6, .int .i64 e7, .int .i64 off] 75)) := hJ pre W _ none hJ0 (World.grownBy_alloc W _ none) (fun r e => by cases e)
    have hK1 := KC.alloc b W (.cells #[.int .i64 M.length, .int .i64 e0, .int .i64 e1, .int .i64 e2, .int .i64 e3, .int .i64 e4, .int .i64 e5, .int .i64 e6, .int .i64 e7, .int .i64 off] 75)
    obtain ⟨fn, tmps, assign, body, hy, hR⟩ := hY (n - 1) pre place _ hPp hJ1 (by simp at hN; omega)
    refine callsIn_of_wp Try.func74 rfl h84 ?_ hro
    simp only [Try.ntmps74, List.size_toArray, List.length_cons, List.length_nil, Nat.reduceAdd, Nat.reduceSub, Array.replicate_succ, Array.replicate_zero, List.push_toArray, List.append_toArray, List.nil_append, List.cons_append]
    gi_wp2
    refine hR.mono ?_
    rintro e W2 (⟨rfl, hJ2, hk2⟩ | ⟨rfl, hx2⟩)
    · gi_wp2
      go_ret
      exact .inl ⟨rfl, hJ2, hK1.trans hk2⟩
    · gi_wp2
      go_ret
      exact .inr ⟨rfl, [place], List.prefix_refl _, hx2⟩
  | succ d ih =>
    intro hdl n place pre W hb hp hJ0 hN hPr
    have hdS : d < S.length := by omega
    have hcnt : 0 ≤ M.getD d 0 ∧ M.getD d 0 ≤ 4096 := by
      rw [List.getD_eq_getElem?_getD, List.getElem?_eq_getElem (by omega)]; exact hM _ (List.getElem_mem _)
    have hst : -4096 ≤ S.getD d 0 ∧ S.getD d 0 ≤ 4096 := by
      rw [List.getD_eq_getElem?_getD, List.getElem?_eq_getElem hdS]; exact hS _ (List.getElem_mem _)
    have n1 := fun j => new_cell W (vw M S off) 75 W.heap.size rfl j
    have c0 := n1 0
    have c9 := n1 9
    have hd4 : d < 4 := by omega
    have hcl : ∀ j, j < 4 → (W.alloc (.cells (vw M S off) 75)).cell? ⟨W.heap.size, 1 + j, none⟩ = some (.int .i64 (M.getD j 0)) := fun j hj => by
      obtain rfl | rfl | rfl | rfl : j = 0 ∨ j = 1 ∨ j = 2 ∨ j = 3 := by omega
      · exact n1 1
      · exact n1 2
      · exact n1 3
      · exact n1 4
    have hcs : ∀ j, j < 4 → (W.alloc (.cells (vw M S off) 75)).cell? ⟨W.heap.size, 5 + j, none⟩ = some (.int .i64 (S.getD j 0)) := fun j hj => by
      obtain rfl | rfl | rfl | rfl : j = 0 ∨ j = 1 ∨ j = 2 ∨ j = 3 := by omega
      · exact n1 5
      · exact n1 6
      · exact n1 7
      · exact n1 8
    have l1 : (W.alloc (.cells (vw M S off) 75)).cell? ⟨W.heap.size, 1, none⟩ = _ := n1 1
    have l2 : (W.alloc (.cells (vw M S off) 75)).cell? ⟨W.heap.size, 2, none⟩ = _ := n1 2
    have l3 : (W.alloc (.cells (vw M S off) 75)).cell? ⟨W.heap.size, 3, none⟩ = _ := n1 3
    have l4 : (W.alloc (.cells (vw M S off) 75)).cell? ⟨W.heap.size, 4, none⟩ = _ := n1 4
    have l5 : (W.alloc (.cells (vw M S off) 75)).cell? ⟨W.heap.size, 5, none⟩ = _ := n1 5
    have l6 : (W.alloc (.cells (vw M S off) 75)).cell? ⟨W.heap.size, 6, none⟩ = _ := n1 6
    have l7 : (W.alloc (.cells (vw M S off) 75)).cell? ⟨W.heap.size, 7, none⟩ = _ := n1 7
    have l8 : (W.alloc (.cells (vw M S off) 75)).cell? ⟨W.heap.size, 8, none⟩ = _ := n1 8
    have qn := hcl d hd4
    have qt := hcs d hd4
    have hJ1 : J pre (W.alloc (.cells (vw M S off) 75)) := hJ pre W _ none hJ0 (World.grownBy_alloc W _ none) (fun r e => by cases e)
    have hK1 := KC.alloc b W (.cells (vw M S off) 75)
    rw [plD_succ M S d place (by omega) hdS] at hN hPr ⊢
    have hPk : Hid (∀ k : Nat, k < (M.getD d 0).toNat → ∀ x ∈ plD M S d (place + (k : Int) * S.getD d 0), Pr x) := fun k hk x hx => hPr x (List.mem_flatMap.2 ⟨k, List.mem_range.2 hk, hx⟩)
    clear hPr
    have hIH := hide (fun n place pre W => ih (by omega) n place pre W)
    clear ih n1 hcl hcs
    have Hk : Hid (plK M S d place (M.getD d 0).toNat = (List.range (M.getD d 0).toNat).flatMap fun (i : Nat) => plD M S d (place + (i : Int) * S.getD d 0)) := rfl
    rw [← Hk.out] at hN ⊢
    clear Hk
    have hks : Hid (∀ k, plK M S d place (k + 1) = plK M S d place k ++ plD M S d (place + (k : Int) * S.getD d 0)) := fun k => plK_succ M S d place k
    unfold vw at hJ1 hK1 qn qt c0 c9 l1 l2 l3 l4 l5 l6 l7 l8 hIH ⊢
    refine callsIn_of_wp Try.func74 rfl h84 ?_ hro
    simp only [Try.ntmps74, List.size_toArray, List.length_cons, List.length_nil, Nat.reduceAdd, Nat.reduceSub, Array.replicate_succ, Array.replicate_zero, List.push_toArray, List.append_toArray, List.nil_append, List.cons_append]
    generalize hcn : M.getD d 0 = cnt at *
    generalize hct : S.getD d 0 = t at *
    generalize M.getD 0 0 = e0 at *
    generalize M.getD 1 0 = e1 at *
    generalize M.getD 2 0 = e2 at *
    generalize M.getD 3 0 = e3 at *
    generalize S.getD 0 0 = e4 at *
    generalize S.getD 1 0 = e5 at *
    generalize S.getD 2 0 = e6 at *
    generalize S.getD 3 0 = e7 at *
    have hax : ((d + 1 : Nat) : Int) - 1 = (d : Int) := by omega
    rw [hax]
    clear hax
    have hd0 : (0 : Int) ≤ (d : Int) := Int.natCast_nonneg _
    have hdi : (d : Int) < 4 := by omega
    generalize hW1 : W.alloc (.cells #[.int .i64 M.length, .int .i64 e0, .int .i64 e1, .int .i64 e2, .int .i64 e3, .int .i64 e4, .int .i64 e5, .int .i64 e6, .int .i64 e7, .int .i64 off] 75) = W1 at *
    have hdn : ¬ (d : Int) < 0 := by omega
    gi_wp2
    try simp only [decide_eq_false hdn]
    have hNN := hide hN
    clear hdn hN
    have S0 : WRel J b W1 pre M S d place t (.int .i64 place) (.int .i64 0) cnt W1 := ⟨0, rfl, by simp, hcnt.1, by simpa [plK] using hJ1, KC.refl _ _⟩
    have HS0 := hide S0
    clear S0 hJ1
    gi_loopw [2, 19] (fun p i wr => WRel J b W1 pre M S d place t p i cnt wr) (fun p i _ => (cnt - intOf i).toNat)
    case atStart => exact HS0.out
    case round =>
      obtain ⟨k, rfl, rfl, hk, hJk, hKk⟩ := hrel
      have c0' := hKk.cell hb c0
      have c9' := hKk.cell hb c9
      have l1' := hKk.cell hb l1
      have l2' := hKk.cell hb l2
      have l3' := hKk.cell hb l3
      have l4' := hKk.cell hb l4
      have l5' := hKk.cell hb l5
      have l6' := hKk.cell hb l6
      have l7' := hKk.cell hb l7
      have l8' := hKk.cell hb l8
      by_cases hlt : (k : Int) < cnt
      · have hkt : -16777216 ≤ (k : Int) * t ∧ (k : Int) * t ≤ 16777216 := by
          have := mul_between (k : Int) 4097 t (by omega) (by omega)
          omega
        have hle : (plK M S d place k).length + (plD M S d (place + (k : Int) * t)).length ≤ (plK M S d place cnt.toNat).length := by
          rw [← List.length_append, ← hks.out]
          exact plK_le M S d place (by omega)
        have hcall := (hIH.out (n - 1) (place + (k : Int) * t) (pre ++ plK M S d place k) wr (Nat.le_trans hb (by have := hKk.size; rw [← hW1] at this; simp at this; omega)) (by omega) hJk (by have := hNN.out; rw [List.length_append]; omega) (hPk.out k (by omega)))
        have hpf : ∀ q, q <+: plD M S d (place + (k : Int) * t) → plK M S d place k ++ q <+: plK M S d place cnt.toNat := fun q hq => by
          refine List.IsPrefix.trans ?_ (plK_prefix M S d place (show k + 1 ≤ cnt.toNat by omega))
          rw [hks.out]
          exact (List.prefix_append_right_inj _).2 hq
        have hks1 := hide (hks.out k)
        have Hpf := hide hpf
        generalize hQ : plD M S d (place + (k : Int) * t) = PD at hcall Hpf hks1
        clear hQ hpf hle
        generalize hI : place + (k : Int) * t = I at hcall ⊢
        have HI := hide hI
        have hIb : -100000000 ≤ I ∧ I ≤ 100000000 := by omega
        clear hI
        have qtk := hKk.cell hb qt
        have HC := hide (hcall.mono (R' := fun e W3 => (e = .returned (.bool true) ∧ J (pre ++ plK M S d place k ++ PD) W3 ∧ KC b wr W3 ∧ W3.cell? ⟨W.heap.size, 5 + d, none⟩ = some (.int .i64 t)) ∨ (e = .returned (.bool false) ∧ ∃ q, q <+: PD ∧ Jx (pre ++ plK M S d place k ++ q) W3)) (fun e W3 h => h.elim (fun ⟨he, hj, hk⟩ => .inl ⟨he, hj, hk, hk.cell hb qtk⟩) .inr))
        clear hcall
        gi_wp2_with ((try refine ⟨hdd _, ?_⟩); gi_at_call 74; refine HC.out.mono ?_; clear HC; rintro e W3 (⟨rfl, hJ3, hk3, qt3⟩ | ⟨rfl, q, hq, hx3⟩))
        · go_roundw
          · refine ⟨k + 1, by go_num, ?_, by omega, ?_, hKk.trans hk3⟩
            · rw [← HI.out]
              congr 1
              rw [Int.natCast_add, Int.add_mul]
              omega
            · rw [hks1.out, ← List.append_assoc]; exact hJ3
          · simp [intOf]; omega
        · go_ret
          exact .inr ⟨rfl, plK M S d place k ++ q, Hpf.out q hq, by rw [← List.append_assoc]; exact hx3⟩
      · have hkk : (k : Int) = cnt := by omega
        have hkn : cnt.toNat = k := by omega
        have Hkn := hide hkn
        have hK2 := hide (hK1.trans hKk)
        have HJk := hide hJk
        clear hkn hJk hKk
        gi_wp2
        go_ret
        exact .inl ⟨rfl, by rw [Hkn.out]; exact HJk.out, hK2.out⟩
end Go.Proofs.Ytbkdfhlbjaiahaa
namespace Go.Proofs.Ytbkdfhlbjaiahaa
open Go.ChangeShapes Go.RowKit Go.Shelf
set_option linter.unusedSimpArgs false
set_option linter.unusedVariables false

attribute [local go_sem] Oper.semAt_some

theorem foldl_mul (xs : List Int) : ∀ a : Int, xs.foldl (· * ·) a = a * xs.foldl (· * ·) 1 := by
  induction xs with
  | nil => intro a; simp
  | cons x xs ih =>
    intro a
    simp only [List.foldl_cons]
    rw [ih (a * x), ih (1 * x), Int.one_mul, Int.mul_assoc]
theorem prod_cons (n : Int) (xs : List Int) : prod (n :: xs) = n * prod xs := by
  unfold prod
  simp only [List.foldl_cons]
  rw [foldl_mul, Int.one_mul]
theorem mrg1_prod (n s : Int) : ∀ (ns ts : List Int), ns.length = ts.length → prod (mrg1 n s ns ts).1 = n * prod ns
  | [], [], _ => by
    rw [mrg1_nil]
    split
    · next h => subst h; simp [prod]
    · rw [prod_cons]
  | m :: ns, t :: ts, _ => by
    rw [mrg1_cons]
    split
    · next h => subst h; simp
    · split
      · rw [prod_cons, prod_cons, Int.mul_comm m n, Int.mul_assoc]
      · rw [prod_cons n (m :: ns)]
  | [], _ :: _, h => by simp at h
  | _ :: _, [], h => by simp at h
theorem mrg1_ge (n s : Int) (hn : 1 ≤ n) : ∀ (ns ts : List Int), (∀ m ∈ ns, 1 ≤ m) → ∀ m ∈ (mrg1 n s ns ts).1, 1 ≤ m
  | [], ts, h => by
    rw [mrg1_none]
    split
    · simp
    · intro k hk
      have : k = n := by simpa using hk
      omega
  | m :: ns, [], h => by
    rw [mrg1_half]
    split
    · exact h
    · intro k hk
      rcases List.mem_cons.1 hk with rfl | hk
      · exact hn
      · exact h k hk
  | m :: ns, t :: ts, h => by
    have hm : 1 ≤ m := h m (List.mem_cons_self ..)
    rw [mrg1_cons]
    split
    · exact h
    · split
      · intro k hk
        rcases List.mem_cons.1 hk with rfl | hk
        · have : 1 * 1 ≤ m * n := Int.mul_le_mul hm hn (by omega) (by omega)
          omega
        · exact h k (List.mem_cons_of_mem _ hk)
      · intro k hk
        rcases List.mem_cons.1 hk with rfl | hk
        · exact hn
        · exact h k hk
theorem mrg_prod : ∀ (xs ss : List Int), xs.length = ss.length → (∀ n ∈ xs, 1 ≤ n) → prod (mrg xs ss).1 = prod xs ∧ ∀ m ∈ (mrg xs ss).1, 1 ≤ m
  | [], [], _, _ => by simp [mrg]
  | n :: ns, s :: ss, h, hp => by
    have hl : ns.length = ss.length := by simpa using h
    have ih := mrg_prod ns ss hl (fun k hk => hp k (List.mem_cons_of_mem _ hk))
    refine ⟨?_, mrg1_ge n s (hp n (List.mem_cons_self ..)) _ _ ih.2⟩
    show prod (mrg1 n s _ _).1 = _
    rw [mrg1_prod n s _ _ (mrg_len ns ss hl), ih.1, prod_cons]
  | [], _ :: _, h, _ => by simp at h
  | _ :: _, [], h, _ => by simp at h
theorem le_prod : ∀ (ns : List Int), (∀ m ∈ ns, 1 ≤ m) → 1 ≤ prod ns ∧ ∀ m ∈ ns, m ≤ prod ns
  | [], _ => by simp [prod]
  | n :: ns, h => by
    have ih := le_prod ns (fun k hk => h k (List.mem_cons_of_mem _ hk))
    have hn := h n (List.mem_cons_self ..)
    rw [prod_cons]
    have h1 : n * 1 ≤ n * prod ns := Int.mul_le_mul_of_nonneg_left ih.1 (by omega)
    have h2 : 1 * prod ns ≤ n * prod ns := Int.mul_le_mul_of_nonneg_right hn (by omega)
    refine ⟨by omega, fun m hm => ?_⟩
    rcases List.mem_cons.1 hm with rfl | hm
    · omega
    · have := ih.2 m hm
      omega

theorem grown_ext {A B : World} (x : Ext A B) : A.grownBy B none := ⟨x.bl.os, x.bl.tape, x.bl.output, x.bl.size, fun k hk _ => x.bl.block k hk⟩

theorem prod_pos_of {xs : List Int} (hr : InR xs xs.length) (h0 : prod xs ≠ 0) : ∀ n ∈ xs, 1 ≤ n := fun n hn => by
  obtain ⟨j, hj, e⟩ := getD_mem hn
  have h1 := (hr j hj).1
  rcases Int.lt_or_le n 1 with q | q
  · exfalso
    have hz : xs.getD j 0 = 0 := by omega
    have := prod_zero_aux' xs j hz xs.length hj (Nat.le_refl _)
    rw [List.take_length] at this
    exact h0 this
  · exact q
 where
  prod_zero_aux' (ys : List Int) (a : Nat) (h0 : ys.getD a 0 = 0) : ∀ k, a < k → k ≤ ys.length → prod (ys.take k) = 0
    | 0, h, _ => absurd h (Nat.not_lt_zero _)
    | k + 1, h, hk => by
      rw [prod_take ys k (by omega)]
      by_cases e : a = k
      · subst e; rw [h0]; simp
      · rw [prod_zero_aux' ys a h0 k (by omega) (by omega)]; simp

theorem mrg_len2 : ∀ (xs ss : List Int), xs.length = ss.length → (mrg xs ss).1.length ≤ xs.length
  | [], [], _ => by simp [mrg]
  | n :: ns, s :: ss, h => by
    have hl : ns.length = ss.length := by simpa using h
    have ih := mrg_len2 ns ss hl
    have hm : ∀ (a b : List Int), (mrg1 n s a b).1.length ≤ a.length + 1 := fun a b => by
      cases a with
      | nil => rw [mrg1_none]; split <;> simp
      | cons m a =>
        cases b with
        | nil => rw [mrg1_half]; split <;> simp
        | cons t b => rw [mrg1_cons]; split <;> (try split) <;> simp
    have h2 : (mrg (n :: ns) (s :: ss)).1.length ≤ (mrg ns ss).1.length + 1 := hm _ _
    simp only [List.length_cons]
    omega
  | [], _ :: _, h => by simp at h
  | _ :: _, [], h => by simp at h
/-- Every merged stride is one of the view's. -/
theorem mrg_strides : ∀ (xs ss : List Int), ∀ t ∈ (mrg xs ss).2, t ∈ ss
  | [], ss, t, h => by simp [mrg] at h
  | n :: ns, [], t, h => by simp [mrg] at h
  | n :: ns, s :: ss, t, h => by
    have ih := mrg_strides ns ss
    have hm : ∀ (a b : List Int), ∀ t ∈ (mrg1 n s a b).2, t ∈ s :: b := fun a b t ht => by
      cases a with
      | nil =>
        rw [mrg1_none] at ht
        split at ht
        · exact List.mem_cons_of_mem _ ht
        · exact ht
      | cons m a =>
        cases b with
        | nil =>
          rw [mrg1_half] at ht
          split at ht
          · exact List.mem_cons_of_mem _ ht
          · exact ht
        | cons u b =>
          rw [mrg1_cons] at ht
          split at ht
          · exact List.mem_cons_of_mem _ ht
          · split at ht
            · exact List.mem_cons_of_mem _ ht
            · exact ht
    rcases List.mem_cons.1 (hm _ _ t h) with rfl | h
    · exact List.mem_cons_self ..
    · exact List.mem_cons_of_mem _ (ih t h)

set_option maxRecDepth 100000 in
set_option maxHeartbeats 2000000 in
/-- The walk of the merged view goes by the view's own places. -/
theorem walk_merged (l b : Nat) (xs ss : List Int) (off : Int) (h4 : xs.length ≤ 4) (hl : ss.length = xs.length) (hr : InR xs xs.length) (hz : prod xs ≠ 0) (hp : prod xs ≤ 4096) (hss : InS ss ss.length) (ho : 0 ≤ off ∧ off ≤ 4096) (Pr : Int → Prop) (hPr : ∀ x ∈ offsL xs ss off, Pr x) (J Jx : List Int → World → Prop) (hJ : AbidesFrom b J)
    (hY : ∀ m pre x W, Pr x → J pre W → pre.length < (offsL xs ss off).length → YieldAt Fence.wide m Try.prog l #[.int .i64 x] W fun e W' =>
      (e = .returned (.bool true) ∧ J (pre ++ [x]) W' ∧ KC b W W') ∨ (e = .returned (.bool false) ∧ Jx (pre ++ [x]) W'))
    (n : Nat) (W : World) (hb : b ≤ W.heap.size) (h0 : J [] W) :
    CallsIn Fence.wide n Try.prog 74 #[.agg (vw (mrg xs ss).1.reverse (mrg xs ss).2.reverse off), .int .i64 (((mrg xs ss).1.reverse.length : Int) - 1), .int .i64 off, .func (.yield l) #[] #[]] W fun e W' =>
        (e = .returned (.bool true) ∧ J (offsL xs ss off) W') ∨ (e = .returned (.bool false) ∧ ∃ q, q <+: offsL xs ss off ∧ Jx q W') := by
  have hpos := prod_pos_of hr hz
  have hM := mrg_prod xs ss hl.symm hpos
  have hle := le_prod _ hM.2
  have hlen := mrg_len xs ss hl.symm
  have hlen4 := mrg_len2 xs ss hl.symm
  have hl4 : (mrg xs ss).1.reverse.length ≤ 4 := by rw [List.length_reverse]; omega
  have hpl : plD (mrg xs ss).1.reverse (mrg xs ss).2.reverse (mrg xs ss).1.reverse.length off = offsL xs ss off := by
    unfold plD offsL
    rw [if_neg hz, List.take_length, List.length_reverse, hlen, ← List.length_reverse, List.take_length, List.reverse_reverse, List.reverse_reverse]
    exact places_mrg xs ss off hl.symm (fun k hk => by have := hpos k hk; omega)
  have key := walk_in Fence.wide rfl trivial rfl l b (offsL xs ss off).length Pr J Jx hJ hY (mrg xs ss).1.reverse (mrg xs ss).2.reverse off (by simp; omega) (by simp [hlen])
    (fun m hm => by
      have h1 := hM.2 m (List.mem_reverse.1 hm)
      have h2 := hle.2 m (List.mem_reverse.1 hm)
      rw [hM.1] at h2
      omega)
    (fun t ht => by
      obtain ⟨j, hj, e⟩ := getD_mem (mrg_strides xs ss t (List.mem_reverse.1 ht))
      have := hss j hj
      omega)
    (mrg xs ss).1.reverse.length (Nat.le_refl _) n off [] W hb (by omega) h0 (by rw [hpl]; simp) (by rw [hpl]; exact hPr)
  rw [hpl] at key
  refine key.mono ?_
  rintro e W' (⟨rfl, h, _⟩ | ⟨rfl, q, hq, h⟩)
  · exact .inl ⟨rfl, by simpa using h⟩
  · exact .inr ⟨rfl, q, hq, by simpa using h⟩
end Go.Proofs.Ytbkdfhlbjaiahaa
namespace Go.Proofs.Ytbkdfhlbjaiahaa
open Go.ChangeShapes Go.RowKit Go.Shelf
set_option linter.unusedSimpArgs false
set_option linter.unusedVariables false

attribute [local go_sem] Oper.semAt_some

set_option maxRecDepth 100000 in
set_option maxHeartbeats 2000000 in
/-- The closure that 'places' answers. -/
theorem places1_in (n l Bf b : Nat) (xs ss : List Int) (off : Int) (h4 : xs.length ≤ 4) (hl : ss.length = xs.length) (hr : InR xs xs.length) (hp : prod xs ≤ 4096) (hss : InS ss ss.length) (ho : 0 ≤ off ∧ off ≤ 4096) (Pr : Int → Prop) (hPr : ∀ x ∈ offsL xs ss off, Pr x) (J Jx : List Int → World → Prop) (hJ : AbidesFrom b J)
    (hY : ∀ m pre x W, Pr x → J pre W → pre.length < (offsL xs ss off).length → YieldAt Fence.wide m Try.prog l #[.int .i64 x] W fun e W' =>
      (e = .returned (.bool true) ∧ J (pre ++ [x]) W' ∧ KC b W W') ∨ (e = .returned (.bool false) ∧ Jx (pre ++ [x]) W'))
    (W : World) (hb : b ≤ W.heap.size) (hc : ∀ j, j < 10 → W.cell? ⟨Bf, j, none⟩ = (vw xs ss off)[j]?) (h0 : J [] W) :
    CallsIn Fence.wide n Try.prog 72 #[.func (.yield l) #[] #[], .pointer (some ⟨Bf, 0, none⟩)] W fun e W' => (∃ v, e = .returned v) ∧
      ((∃ ys, ys = offsL xs ss off ∧ J ys W') ∨ (∃ pre, pre <+: offsL xs ss off ∧ Jx pre W')) := by
  have c0 : W.cell? ⟨Bf, 0, none⟩ = some (.int .i64 xs.length) := hc 0 (by omega)
  have c1 : W.cell? ⟨Bf, 1, none⟩ = some (.int .i64 (xs.getD 0 0)) := hc 1 (by omega)
  have c2 : W.cell? ⟨Bf, 2, none⟩ = some (.int .i64 (xs.getD 1 0)) := hc 2 (by omega)
  have c3 : W.cell? ⟨Bf, 3, none⟩ = some (.int .i64 (xs.getD 2 0)) := hc 3 (by omega)
  have c4 : W.cell? ⟨Bf, 4, none⟩ = some (.int .i64 (xs.getD 3 0)) := hc 4 (by omega)
  have c5 : W.cell? ⟨Bf, 5, none⟩ = some (.int .i64 (ss.getD 0 0)) := hc 5 (by omega)
  have c6 : W.cell? ⟨Bf, 6, none⟩ = some (.int .i64 (ss.getD 1 0)) := hc 6 (by omega)
  have c7 : W.cell? ⟨Bf, 7, none⟩ = some (.int .i64 (ss.getD 2 0)) := hc 7 (by omega)
  have c8 : W.cell? ⟨Bf, 8, none⟩ = some (.int .i64 (ss.getD 3 0)) := hc 8 (by omega)
  have c9 : W.cell? ⟨Bf, 9, none⟩ = some (.int .i64 off) := hc 9 (by omega)
  have hcnt : Hid (Calls Try.prog 56 #[.agg (shp xs)] W fun e W1 => e = .returned (.int .i64 (prod xs)) ∧ Ext W W1) := (count_any W xs h4 hr).mono (fun e W1 h => ⟨h.1, by rw [h.2]; exact (Ext.refl W).alloc _ _⟩)
  have hmgd := hide (fun W => merged_any W xs ss off h4 hl hr hss)
  have hwk := hide (fun hz n W hb h0 => walk_merged l b xs ss off h4 hl hr hz hp hss ho Pr hPr J Jx hJ hY n W hb h0)
  have hl4 : (mrg xs ss).1.reverse.length ≤ 4 := by rw [List.length_reverse]; have := mrg_len2 xs ss hl.symm; omega
  clear hY hc
  have hOz : prod xs = 0 → offsL xs ss off = [] := fun h => by unfold offsL; rw [if_pos h]
  generalize offsL xs ss off = OL at *
  unfold shp at hcnt
  unfold vw at hmgd hwk
  generalize (mrg xs ss).1.reverse = M at *
  generalize (mrg xs ss).2.reverse = S at *
  generalize xs.getD 0 0 = a0 at *
  generalize xs.getD 1 0 = a1 at *
  generalize xs.getD 2 0 = a2 at *
  generalize xs.getD 3 0 = a3 at *
  generalize ss.getD 0 0 = s0 at *
  generalize ss.getD 1 0 = s1 at *
  generalize ss.getD 2 0 = s2 at *
  generalize ss.getD 3 0 = s3 at *
  generalize M.getD 0 0 = m0 at *
  generalize M.getD 1 0 = m1 at *
  generalize M.getD 2 0 = m2 at *
  generalize M.getD 3 0 = m3 at *
  generalize S.getD 0 0 = t0 at *
  generalize S.getD 1 0 = t1 at *
  generalize S.getD 2 0 = t2 at *
  generalize S.getD 3 0 = t3 at *
  generalize hML : M.length = ml at *
  clear hML
  generalize hp0 : prod xs = p at *
  clear hp0
  have Hr := hide hr
  clear hr hss
  refine callsIn_of_wp Try.func72 rfl trivial ?_ rfl
  simp only [Try.ntmps72, List.size_toArray, List.length_cons, List.length_nil, Nat.reduceAdd, Nat.reduceSub, Array.replicate_succ, Array.replicate_zero, List.push_toArray, List.append_toArray, List.nil_append, List.cons_append]
  have hdd : ∀ k : Nat, (Fence.wide.depth.isSome = true → 1 ≤ k) := fun k h => by cases h
  by_cases hz : p = 0
  · have HO := hide (hOz hz)
    clear hOz hwk hmgd
    gi_wp2_with (refine ⟨trivial, hdd _, ?_⟩; gi_at_call 56; refine (callsIn_wide.2 hcnt.out).mono ?_; clear hcnt; rintro e W1 ⟨rfl, x1⟩)
    refine bodyPost_ret (results_none rfl _ _ _) rfl ?_
    exact ⟨⟨_, rfl⟩, .inl ⟨[], HO.out.symm, hJ [] _ _ none h0 (grown_ext x1) (fun r e => by cases e)⟩⟩
  · have hw := hide (hwk.out hz)
    clear hOz hwk
    gi_wp2_with (refine ⟨trivial, hdd _, ?_⟩; gi_at_call 56; refine (callsIn_wide.2 hcnt.out).mono ?_; clear hcnt; rintro e W1 ⟨rfl, x1⟩; have d0 := x1.box c0; have d1 := x1.box c1; have d2 := x1.box c2; have d3 := x1.box c3; have d4 := x1.box c4; have d5 := x1.box c5; have d6 := x1.box c6; have d7 := x1.box c7; have d8 := x1.box c8; have d9 := x1.box c9)
    refine ⟨trivial, hdd _, ?_⟩
    refine (callsIn_wide.2 (hmgd.out _)).mono ?_
    rintro e W2 ⟨rfl, x2⟩
    have hJ2 := hide (hJ [] _ _ none (hJ [] _ _ none h0 (grown_ext x1) (fun r e => by cases e)) (grown_ext x2) (fun r e => by cases e))
    have hs1 := x1.bl.size
    have hs2 := x2.bl.size
    clear hmgd d0 d1 d2 d3 d4 d5 d6 d7 d8 d9 c0 c1 c2 c3 c4 c5 c6 c7 c8 c9
    gi_wp2
    refine ⟨trivial, hdd _, ?_⟩
    refine (hw.out _ _ (by simp; omega) (hJ [] _ _ none hJ2.out (World.grownBy_alloc W2 _ none) (fun r e => by cases e))).mono ?_
    rintro e W3 (⟨rfl, hJ3⟩ | ⟨rfl, q, hq, hx⟩)
    · gi_wp2
      go_end0
      exact ⟨⟨_, rfl⟩, .inl ⟨_, rfl, hJ3⟩⟩
    · gi_wp2
      go_end0
      exact ⟨⟨_, rfl⟩, .inr ⟨q, hq, hx⟩⟩

set_option maxRecDepth 100000 in
set_option maxHeartbeats 1000000 in
/-- places: the view is boxed; the function value captures the box. -/
theorem placesF_in (n : Nat) (xs ss : List Int) (off : Int) (w : World) :
    CallsIn Fence.wide n Try.prog 57 #[.agg (vw xs ss off)] w fun e w' => e = .returned (.func (.func 72) #[] #[.pointer (some ⟨w.heap.size, 0, none⟩)]) ∧ w' = w.alloc (.cells (vw xs ss off) 75) := by
  unfold vw
  refine callsIn_of_wp Try.func57 rfl trivial ?_ rfl
  simp only [Try.ntmps57, List.size_toArray, List.length_cons, List.length_nil, Nat.reduceAdd, Nat.reduceSub, Array.replicate_succ, Array.replicate_zero, List.push_toArray, List.append_toArray, List.nil_append, List.cons_append]
  gi_wp2
  go_ret
  exact ⟨rfl, rfl⟩

theorem yield_any {m : Nat} (m' : Nat) {P : Program} {l : Nat} {args : Array Value} {W : World} {R : Ending → World → Prop} (h : YieldAt Fence.wide m P l args W R) : YieldAt Fence.wide m' P l args W R := by
  obtain ⟨fn, tmps, assign, body, hy, hR⟩ := h
  exact ⟨fn, tmps, assign, body, hy, hR.1, fun c cs _ => hR.2 c cs (room_of_none rfl _)⟩
theorem kc_put {n : Nat} {w : World} (W : World) (l : Nat) (o o' : Obj) (_ : w.heap.size ≤ l) (h : W.heap[l]? = some o) (hc : o.isCells = false) (_ : o.isWalk = false) : KC n W (W.putObj l o') := by
  have g := grownBy_putObj' W l o'
  refine ⟨g.size, fun k o2 hb h2 hc2 => ?_⟩
  have hk : k < W.heap.size := (Array.getElem?_eq_some_iff.1 h2).1
  have hne : k ≠ l := fun e => by
    subst e
    rw [h] at h2
    cases h2
    rw [hc] at hc2
    cases hc2
  exact (g.block k hk (fun e => hne (by cases e; rfl))).trans h2

/-- A place of a store. -/
abbrev Pl := { x : Int // 0 ≤ x ∧ x < 4096 }
def plv (ps : List Pl) : List Int := ps.map (·.1)
theorem plv_append (p q : List Pl) : plv (p ++ q) = plv p ++ plv q := List.map_append ..
theorem plv_len (p : List Pl) : (plv p).length = p.length := List.length_map ..

/-- What 'places' answers is a function that goes by the places of the view in order. -/
theorem places_stops (n Bf n₀ : Nat) (xs ss : List Int) (off : Int) (h4 : xs.length ≤ 4) (hl : ss.length = xs.length) (hr : InR xs xs.length) (hp : prod xs ≤ 4096) (hss : InS ss ss.length) (ho : 0 ≤ off ∧ off ≤ 4096) (hPr : ∀ x ∈ offsL xs ss off, 0 ≤ x ∧ x < 4096) (w : World) (hn : n₀ ≤ w.heap.size)
    (hc : ∀ j, j < 10 → w.cell? ⟨Bf, j, none⟩ = (vw xs ss off)[j]?) (hBf : Bf < w.heap.size) :
    SeqStopsK Fence.wide n Try.prog 72 #[.pointer (some ⟨Bf, 0, none⟩)] (fun x : Pl => #[Value.int .i64 x.1]) (KC n₀) (fun ys => plv ys = offsL xs ss off) (fun pre => plv pre <+: offsL xs ss off) (offsL xs ss off).length w := fun l J Jx W hW hJ hJx hY h0 => by
  have hbW : w.heap.size ≤ W.heap.size := hW.size
  have hc2 : ∀ j, j < 10 → W.cell? ⟨Bf, j, none⟩ = (vw xs ss off)[j]? := fun j hj => (hW.cell (p := ⟨Bf, j, none⟩) hBf).trans (hc j hj)
  have key := places1_in n l Bf W.heap.size xs ss off h4 hl hr hp hss ho (fun x => 0 ≤ x ∧ x < 4096) hPr (fun pre W => ∃ ps, plv ps = pre ∧ J ps W) (fun pre W => ∃ ps, plv ps = pre ∧ Jx ps W)
    (fun pre A B row ⟨ps, e, h⟩ hg hrow => ⟨ps, e, hJ ps A B row h hg hrow⟩)
    (fun m pre x A hx ⟨ps, e, h⟩ hlen => by
      subst e
      have hy := yield_any m (hY ps ⟨x, hx⟩ A h (by rw [← plv_len]; exact hlen))
      refine hy.mono ?_
      rintro e W' (⟨rfl, h1, h2⟩ | ⟨rfl, h1⟩)
      · exact .inl ⟨rfl, ⟨_, plv_append _ _, h1⟩, ⟨h2.size, fun k o hb h hc => h2.keep k o (by omega) h hc⟩⟩
      · exact .inr ⟨rfl, ⟨_, plv_append _ _, h1⟩⟩)
    W (Nat.le_refl _) hc2 ⟨[], rfl, h0⟩
  refine key.mono ?_
  rintro e W' ⟨hv, ⟨ys, rfl, ps, e1, h⟩ | ⟨pre, hpre, ps, e1, h⟩⟩
  · exact ⟨hv, .inl ⟨ps, e1, h⟩⟩
  · exact ⟨hv, .inr ⟨ps, by show plv ps <+: _; rw [e1]; exact hpre, h⟩⟩
end Go.Proofs.Ytbkdfhlbjaiahaa
namespace Go.Proofs.Ytbkdfhlbjaiahaa
open Go.ChangeShapes Go.RowKit Go.Shelf
set_option linter.unusedSimpArgs false
set_option linter.unusedVariables false

attribute [local go_sem] Oper.semAt_some

theorem KC.setCell {b : Nat} (A : World) {p : Addr} (hp : p.block < b) (v : Value) : KC b A (A.setCell p v) :=
  ⟨(KeepsWalks.setCell A _ v).size, fun k o hk h _ => (Below.heap_setCell _ _ _ k (fun e => by omega)).trans h⟩

/-- The same over a view that has just been boxed. -/
theorem placesK (n Bf : Nat) (xs ss : List Int) (off : Int) (h4 : xs.length ≤ 4) (hl : ss.length = xs.length) (hr : InR xs xs.length) (hp : prod xs ≤ 4096) (hss : InS ss ss.length) (ho : 0 ≤ off ∧ off ≤ 4096) (hPr : ∀ x ∈ offsL xs ss off, 0 ≤ x ∧ x < 4096) (W : World) (hB : Bf = W.heap.size) :
    SeqStopsK Fence.wide n Try.prog 72 #[.pointer (some ⟨Bf, 0, none⟩)] (fun x : Pl => #[Value.int .i64 x.1]) (KC (W.alloc (.cells (vw xs ss off) 75)).heap.size) (fun ys => plv ys = offsL xs ss off) (fun pre => plv pre <+: offsL xs ss off) (offsL xs ss off).length (W.alloc (.cells (vw xs ss off) 75)) := by
  subst hB
  exact places_stops n _ _ xs ss off h4 hl hr hp hss ho hPr _ (Nat.le_refl _) (fun j _ => new_cell W _ 75 W.heap.size rfl j) (by simp)

theorem cell_al {W : World} {a : Addr} {v : Value} (o : Obj) (h : W.cell? a = some v) : (W.alloc o).cell? a = some v := cell_kept h (World.grownBy_alloc W o none) (fun r e => by cases e)
theorem frozen_al {W : World} {a : Addr} {v : Value} (o : Obj) (h : W.cell? a = some v) (hf : W.frozen? a = false) : (W.alloc o).frozen? a = false := (frozen_kept h (World.grownBy_alloc W o none) (fun r e => by cases e)).trans hf
theorem frozen_nw (W : World) (cs : Array Value) (t b j : Nat) (hb : b = W.heap.size) : (W.alloc (.cells cs t)).frozen? ⟨b, j, none⟩ = false := by
  subst hb
  have h := World.alloc_heap_new W (.cells cs t)
  unfold World.frozen?
  simp only [h]
  simp

end Go.Proofs.Ytbkdfhlbjaiahaa
namespace Go.Proofs.Ytbkdfhlbjaiahaa
open Go.ChangeShapes Go.RowKit
set_option linter.unusedSimpArgs false
set_option linter.unusedVariables false


theorem offs_in {xs ss : List Int} {off : Int} (hv : ValidV xs ss off) : ∀ x ∈ offsL xs ss off, 0 ≤ x ∧ x < 4096 := fun x hx => by
  unfold offsL at hx
  split at hx
  · cases hx
  · next hz =>
    obtain ⟨hg, hl, _, _, h | h⟩ := hv
    · exact absurd h hz
    · exact (all_in xs ss off hl.symm (fun n hn => (good_pos hg hz n hn).1)).2 h x hx
end Go.Proofs.Ytbkdfhlbjaiahaa
namespace Go.Proofs.Ytbkdfhlbjaiahaa
open Go.ChangeShapes Go.RowKit Go.Shelf
set_option linter.unusedSimpArgs false
set_option linter.unusedVariables false

attribute [local go_sem] Oper.semAt_some

theorem KC.grown {b g : Nat} {A B : World} (hg : A.grownBy B (some g)) (h : g < b) : KC b A B :=
  ⟨hg.size, fun k o hk ho _ => (hg.block k (Array.getElem?_eq_some_iff.1 ho).1 (fun e => by cases e; omega)).trans ho⟩
theorem offs_cap {xs ss : List Int} {off : Int} (hv : ValidV xs ss off) : (offsL xs ss off).length ≤ (prod xs).toNat := by
  unfold offsL
  split
  · simp
  · rw [places_len xs ss off hv.2.1.symm]
    have h1 := prod_plen (fun m hm => (good_nonneg hv.1 m hm).1)
    omega

end Go.Proofs.Ytbkdfhlbjaiahaa
namespace Go.Proofs.Ytbkdfhlbjaiahaa
open Go.ChangeShapes Go.RowKit FL
set_option linter.unusedSimpArgs false
set_option linter.unusedVariables false

def c3v (c : C3) : List Value := [.int .i64 c.1, .float .f64 c.2.1, .float .f64 c.2.2]
def flat : List C3 → List Value
  | [] => []
  | c :: cs => c3v c ++ flat cs
theorem flatC_len (cs : List C3) : (flat cs).length = cs.length * 3 := by
  induction cs with
  | nil => rfl
  | cons c cs ih => rw [flat, List.length_append, ih, List.length_cons]; simp [c3v]; omega
theorem flat_app (cs ds : List C3) : flat (cs ++ ds) = flat cs ++ flat ds := by
  induction cs with
  | nil => rfl
  | cons c cs ih => rw [List.cons_append, flat, flat, ih, List.append_assoc]
theorem flat_get (cs : List C3) : ∀ j, j < cs.length → (flat cs)[j * 3]? = some (.int .i64 (cs.getD j k0).1) ∧ (flat cs)[j * 3 + 1]? = some (.float .f64 (cs.getD j k0).2.1) ∧ (flat cs)[j * 3 + 2]? = some (.float .f64 (cs.getD j k0).2.2) := by
  induction cs with
  | nil => intro j hj; simp at hj
  | cons c cs ih =>
    intro j hj
    match j with
    | 0 => exact ⟨rfl, rfl, rfl⟩
    | j + 1 =>
      have h := ih j (by simpa using hj)
      have e : ∀ i, (flat (c :: cs))[(j + 1) * 3 + i]? = (flat cs)[j * 3 + i]? := fun i => by
        rw [flat, List.getElem?_append_right (by simp [c3v]; omega)]
        congr 1
        simp [c3v]; omega
      have e0 := e 0
      rw [Nat.add_zero, Nat.add_zero] at e0
      rw [e0, e 1, e 2, List.getD_cons_succ]
      exact h
/-- The rows that a call made for its answer. -/
def OwnC (w' : World) (lo : Nat) (sa : Option Addr) (cs : List C3) : Prop := cs = [] ∨ ∃ g, sa = some ⟨g, 0, none⟩ ∧ lo ≤ g ∧ CRow w' g 0 cs ∧ ∀ o, w'.frozen? ⟨g, o, none⟩ = false
def CellsOk (w : World) (cs : List C3) (e : Ending) (w' : World) : Prop := ∃ (sa : Option Addr) (cap : Nat), e = .returned (.slice sa cs.length cap) ∧ OwnC w' w.heap.size sa cs ∧ Below w.heap.size w w'
theorem crow_of_own {w : World} {base g n cap : Nat} {cs : List C3} (h : w.ownsRow base 59 3 (.slice (some ⟨g, 0, none⟩) n cap) n (flat cs)) (hn : n = cs.length) : CRow w g 0 cs := fun j hj => by
  obtain ⟨a, b, c⟩ := flat_get cs j hj
  rw [Nat.zero_add]
  exact ⟨(h.cellAt _ (by omega)).trans a, (h.cellAt _ (by omega)).trans b, (h.cellAt _ (by omega)).trans c⟩
theorem own_cells {w3 : World} {lo base n : Nat} {v : Value} {cs : List C3} (hb : lo ≤ base) (h : w3.ownsRow base 59 3 v n (flat cs)) : ∃ sa cap, v = .slice sa cs.length cap ∧ OwnC w3 lo sa cs := by
  have hl : n = cs.length := by have := h.1; rw [flatC_len] at this; omega
  by_cases h0 : cs = []
  · subst h0
    rcases h.2 with ⟨h1, h2⟩ | ⟨g, cap, cur, h1, h2, _⟩
    · exact ⟨none, 0, by first | exact h1 | (rw [h1]; rfl), Or.inl rfl⟩
    · exact ⟨_, _, by rw [h1, hl], Or.inl rfl⟩
  · have hp : 0 < n := by rw [hl]; exact List.length_pos_iff.2 h0
    rcases h.2 with ⟨h1, h2⟩ | ⟨g, cap, cur, h1, h2, _⟩
    · omega
    · subst h1
      exact ⟨_, _, by rw [hl], Or.inr ⟨g, rfl, by omega, crow_of_own h hl, fun o => h.frozenAt o⟩⟩
theorem cells_nil {w w' : World} {cs : List C3} (h : cs = []) (sa : Option Addr) (cap : Nat) (hB : Below w.heap.size w w') : CellsOk w cs (.returned (.slice sa 0 cap)) w' := by
  subst h
  exact ⟨sa, cap, rfl, Or.inl rfl, hB⟩
theorem CellsOk.from {w w1 w' : World} {cs : List C3} {e : Ending} (hB : Below w.heap.size w w1) (h : CellsOk w1 cs e w') : CellsOk w cs e w' := by
  obtain ⟨sa, cap, h1, h2, h3⟩ := h
  refine ⟨sa, cap, h1, ?_, Bel.tr hB h3⟩
  rcases h2 with h2 | ⟨g, h4, h5, h6⟩
  · exact Or.inl h2
  · exact Or.inr ⟨g, h4, Nat.le_trans hB.size h5, h6⟩
/-- What Read answers. -/
def readL (ss : List St) (st : Int) (xs sv : List Int) (off : Int) : List C3 := (offsL xs sv off).map fun p => (ss.getD st.toNat s0).2.getD p.toNat k0
def readA (ss : List St) (st : Int) (xs sv : List Int) (off : Int) : List C3 := if vHeap ss = true ∧ GoodA ss st xs sv off then readL ss st xs sv off else []
theorem grown_more {w w1 w2 : World} {g : Nat} {row : Option Nat} (h : w.grownBy w1 (some g)) (k : w1.grownBy w2 row) (hr : row = some g ∨ ∃ j, row = some j ∧ w.heap.size ≤ j) : w.grownBy w2 (some g) :=
  ⟨k.os.trans h.os, k.tape.trans h.tape, k.output.trans h.output, Nat.le_trans h.size k.size, fun j hj hn => (k.block j (Nat.lt_of_lt_of_le hj h.size) (by
    rcases hr with rfl | ⟨i, rfl, hi⟩
    · exact hn
    · intro e; cases e; omega)).trans (h.block j hj hn)⟩
theorem grown_box {w w1 : World} {g : Nat} (h : w.grownBy w1 (some g)) {b o : Nat} {v : Value} (hb : b ≠ g) (hc : w.cell? ⟨b, o, none⟩ = some v) : w1.cell? ⟨b, o, none⟩ = some v := by
  rw [← hc]
  exact World.cell?_of_block (w := w) (a := ⟨b, o, none⟩) (h.block b (cell_lt hc) (fun e => by cases e; exact hb rfl))
theorem grown_alloc {w w1 : World} {g : Nat} (h : w.grownBy w1 (some g)) (o : Obj) : w.grownBy (w1.alloc o) (some g) :=
  ⟨h.os, h.tape, h.output, by have := h.size; simp; omega, fun j hj hn => by
    have hs := h.size
    rw [← h.block j hj hn]
    exact ((Below.refl w1.heap.size w1).alloc (Nat.le_refl _) o).block j (by omega)⟩
theorem grown_drew {w w1 : World} {r : Option Nat} (h : w.grownBy w1 r) : w.grownBy w1.drew r := ⟨h.os, h.tape, h.output, h.size, h.block⟩
theorem c3v_one (c : C3) : ∀ u ∈ c3v c, u.oneCell' = true := fun u hu => by
  simp only [c3v, List.mem_cons, List.not_mem_nil, or_false] at hu
  rcases hu with rfl | rfl | rfl <;> rfl
theorem flat_one (cs : List C3) (c : C3) : flat (cs ++ [c]) = flat cs ++ c3v c := by rw [flat_app]; simp [flat]
end Go.Proofs.Ytbkdfhlbjaiahaa
namespace Go.Proofs.Ytbkdfhlbjaiahaa
open Go.ChangeShapes Go.RowKit Go.Shelf
set_option linter.unusedSimpArgs false
set_option linter.unusedVariables false

/-- A place of a store of N cells. -/
abbrev PlN (N : Int) := { x : Int // 0 ≤ x ∧ x < N }
def pnv {N : Int} (ps : List (PlN N)) : List Int := ps.map (·.1)
theorem pnv_append {N : Int} (p q : List (PlN N)) : pnv (p ++ q) = pnv p ++ pnv q := List.map_append ..
theorem pnv_len {N : Int} (p : List (PlN N)) : (pnv p).length = p.length := List.length_map ..
theorem places_stopsN (N : Int) (n Bf n₀ : Nat) (xs ss : List Int) (off : Int) (h4 : xs.length ≤ 4) (hl : ss.length = xs.length) (hr : InR xs xs.length) (hp : prod xs ≤ 4096) (hss : InS ss ss.length) (ho : 0 ≤ off ∧ off ≤ 4096) (hPr : ∀ x ∈ offsL xs ss off, 0 ≤ x ∧ x < N) (w : World) (hn : n₀ ≤ w.heap.size)
    (hc : ∀ j, j < 10 → w.cell? ⟨Bf, j, none⟩ = (vw xs ss off)[j]?) (hBf : Bf < w.heap.size) :
    SeqStopsK Fence.wide n Try.prog 72 #[.pointer (some ⟨Bf, 0, none⟩)] (fun x : PlN N => #[Value.int .i64 x.1]) (KC n₀) (fun ys => pnv ys = offsL xs ss off) (fun pre => pnv pre <+: offsL xs ss off) (offsL xs ss off).length w := fun l J Jx W hW hJ hJx hY h0 => by
  have hbW : w.heap.size ≤ W.heap.size := hW.size
  have hc2 : ∀ j, j < 10 → W.cell? ⟨Bf, j, none⟩ = (vw xs ss off)[j]? := fun j hj => (hW.cell (p := ⟨Bf, j, none⟩) hBf).trans (hc j hj)
  have key := places1_in n l Bf W.heap.size xs ss off h4 hl hr hp hss ho (fun x => 0 ≤ x ∧ x < N) hPr (fun pre W => ∃ ps, pnv ps = pre ∧ J ps W) (fun pre W => ∃ ps, pnv ps = pre ∧ Jx ps W)
    (fun pre A B row ⟨ps, e, h⟩ hg hrow => ⟨ps, e, hJ ps A B row h hg hrow⟩)
    (fun m pre x A hx ⟨ps, e, h⟩ hlen => by
      subst e
      have hy := yield_any m (hY ps ⟨x, hx⟩ A h (by rw [← pnv_len]; exact hlen))
      refine hy.mono ?_
      rintro e W' (⟨rfl, h1, h2⟩ | ⟨rfl, h1⟩)
      · exact .inl ⟨rfl, ⟨_, pnv_append _ _, h1⟩, ⟨h2.size, fun k o hb h hc => h2.keep k o (by omega) h hc⟩⟩
      · exact .inr ⟨rfl, ⟨_, pnv_append _ _, h1⟩⟩)
    W (Nat.le_refl _) hc2 ⟨[], rfl, h0⟩
  refine key.mono ?_
  rintro e W' ⟨hv, ⟨ys, rfl, ps, e1, h⟩ | ⟨pre, hpre, ps, e1, h⟩⟩
  · exact ⟨hv, .inl ⟨ps, e1, h⟩⟩
  · exact ⟨hv, .inr ⟨ps, by show pnv ps <+: _; rw [e1]; exact hpre, h⟩⟩
theorem placesKN (N : Int) (n Bf : Nat) (xs ss : List Int) (off : Int) (h4 : xs.length ≤ 4) (hl : ss.length = xs.length) (hr : InR xs xs.length) (hp : prod xs ≤ 4096) (hss : InS ss ss.length) (ho : 0 ≤ off ∧ off ≤ 4096) (hPr : ∀ x ∈ offsL xs ss off, 0 ≤ x ∧ x < N) (W : World) (hB : Bf = W.heap.size) :
    SeqStopsK Fence.wide n Try.prog 72 #[.pointer (some ⟨Bf, 0, none⟩)] (fun x : PlN N => #[Value.int .i64 x.1]) (KC (W.alloc (.cells (vw xs ss off) 75)).heap.size) (fun ys => pnv ys = offsL xs ss off) (fun pre => pnv pre <+: offsL xs ss off) (offsL xs ss off).length (W.alloc (.cells (vw xs ss off) 75)) := by
  subst hB
  exact places_stopsN N n _ _ xs ss off h4 hl hr hp hss ho hPr _ (Nat.le_refl _) (fun j _ => new_cell W _ 75 W.heap.size rfl j) (by simp)
end Go.Proofs.Ytbkdfhlbjaiahaa
namespace Go.Proofs.Ytbkdfhlbjaiahaa
open Go.ChangeShapes Go.RowKit Go.Shelf
set_option linter.unusedSimpArgs false
set_option linter.unusedVariables false

/-- A region that draws, in a round's frame: from the same in a plain frame. -/
theorem op_in {P : Program} {l n : Nat} {o : Oper} {a : Act} {w : World} {K : Act → World → Prop} {Q : Exit → Act → World → Prop} (hd : ∀ c, o.op ≠ .defer c) (h : o.wp P a w K Q) : o.wpIn (Fence.wide.inRound l) n P a w K Q := by
  refine ⟨fun _ _ => trivial, ?_⟩
  rw [Oper.semAt_eq _ _ _ hd]
  unfold Oper.wp at h
  generalize (execOp a.eval o).run P w = r at h
  cases r with
  | ok x w' =>
    cases x <;> simp only [Oper.upon, Oper.uponIn] at h ⊢ <;>
      first
        | exact h
        | exact ⟨fun e => by simp [Fence.wide] at e, CallsIn.inRound l (callsIn_wide.2 h)⟩
        | exact ⟨fun e => by simp [Fence.wide] at e, fun c cs _ => (by obtain ⟨v, w', r, s⟩ := h c cs; exact ⟨v, w', r, stepsIn_wide.2 s⟩)⟩
        | exact h.elim
  | halt x w' => cases x <;> simp only [Oper.upon, Oper.uponIn] at h ⊢ <;> first | exact h | exact h.elim
def noDefer (o : Oper) : Bool := match o.op with | .defer _ => false | _ => true
theorem any_in {P : Program} {md : Region.Mode} {l n : Nat} {ops : Array Oper} {Q : Exit → Act → World → Prop} (hn : ¬ LetsOut Q) (hd : ops.toList.all noDefer = true) : ∀ (fuel : Nat) (listed : Array Bool) (a : Act) (w : World), wpAny P md ops Q fuel listed a w → wpAnyIn (Fence.wide.inRound l) n P md ops Q fuel listed a w
  | 0, _, _, _, h => h
  | fuel + 1, listed, a, w, h => ⟨h.1, fun i hi => by
    have h2 := h.2 i hi
    unfold wpOp at h2
    unfold wpOpIn
    cases ho : ops[i]? with
    | none => rw [ho] at h2; exact any_in hn hd fuel _ _ _ h2
    | some o =>
      rw [ho] at h2
      have hdo : ∀ c, o.op ≠ .defer c := fun c e => by
        have hm : o ∈ ops.toList := by
          rw [Array.mem_toList_iff]
          exact Array.mem_of_getElem? ho
        have := List.all_eq_true.1 hd o hm
        unfold noDefer at this
        rw [e] at this
        cases this
      dsimp only at h2 ⊢
      by_cases hw : Region.wanted o (yielded ops a.tmps) = true
      · rw [if_pos hw] at h2 ⊢
        rcases h2 with h2 | ⟨_, h2⟩
        · exact Oper.wpIn_mono (fun a' w' h' => any_in hn hd fuel _ _ _ h') (op_in hdo h2)
        · exact absurd h2 hn
      · rw [if_neg hw] at h2 ⊢
        exact ⟨fun _ _ => trivial, any_in hn hd fuel _ _ _ h2⟩⟩
def NQ (Q : Exit → Act → World → Prop) : Exit → Act → World → Prop := fun e a w => e = .normal ∧ Q .normal a w
theorem nq_out (Q : Exit → Act → World → Prop) : ¬ LetsOut (NQ Q) := by
  rintro ⟨a, w, e, _⟩
  cases e
theorem region_in {P : Program} {id n l : Nat} {ops : Array Oper} {Q : Exit → Act → World → Prop} {S : World → Prop} {a : Act} {w : World} (hm : P.follows .mixedOrders = true) (hd : ops.toList.all noDefer = true)
    (h : wpAnyH P .any ops (NQ Q) S ops.size (Array.replicate ops.size false) a w.drew) : (Code.region id ops true).wpIn (Fence.wide.inRound l) n P Q a w :=
  wpIn_mono (wpIn_region_any hm (any_in (nq_out Q) hd _ _ _ _ (wpAny_of_held _ _ _ _ h))) (fun e a w h => by obtain ⟨rfl, h⟩ := h; exact h)
theorem step_append_fits {P : Program} {w : World} {ops : Array Oper} {o : Oper} {a : Act} {K : Act → World → Prop} {Q : Exit → Act → World → Prop} {E : Prop}
    (hg : o.guard = none) (s x : Operand) (t : TypeId) (hop : o.op = Op.call { callee := Callee.builtin Builtin.append, args := #[s, x], argTypes := #[t, t] })
    (base : Nat) (e : TypeId) (i : TypeInfo) (size : Nat) (h1 : P.underlying t = some (.slice e)) (h2 : P.info? e = some i) (h4 : i.size = size)
    (g k cap : Nat) (xs : List Value) (hs : a.eval s = .slice (some ⟨g, 0, none⟩) k cap) (hown : w.ownsRow base e size (.slice (some ⟨g, 0, none⟩) k cap) k xs) (ad : Addr) (m c : Nat) (news : List Value) (hx : a.eval x = .slice (some ad) m c) (hn : news.length = m * size)
    (hc : ∀ j u, news[j]? = some u → w.cell? (ad.add j) = some u) (h1c : ∀ u ∈ news, u.oneCell' = true) (b1 : k + m ≤ cap)
    (hK : ∀ w', w'.ownsRow base e size (.slice (some ⟨g, 0, none⟩) (k + m) cap) (k + m) (xs ++ news) → w.grownBy w' (some g) → K (a.put o.dst (.slice (some ⟨g, 0, none⟩) (k + m) cap)) w') :
    if Region.wanted o (yielded ops a.tmps) = true then Oper.wp P o a w K Q else E := by
  have hw : Region.wanted o (yielded ops a.tmps) = true := by simp [Region.wanted, hg]
  rw [if_pos hw]
  obtain ⟨w', hrun, r1, r2⟩ := run_append_fits (P := P) w base t o.type e i size h1 h2 h4 g k cap xs hown ad m c news hn hc h1c b1
  unfold Oper.wp
  simp [execOp, hop, resolve, invoke, builtin, hs, hx, hrun, Result.andThen]
  exact hK _ r1 r2
end Go.Proofs.Ytbkdfhlbjaiahaa
