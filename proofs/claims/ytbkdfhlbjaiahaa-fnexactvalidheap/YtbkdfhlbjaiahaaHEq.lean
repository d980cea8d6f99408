import Derived.Test.YtbkdfhlbjaiahaaHBase
import Derived.Test.YtbkdfhlbjaiahaaCells3
namespace Go.Proofs.Ytbkdfhlbjaiahaa
open Go.ChangeShapes Go.RowKit FL
set_option linter.unusedSimpArgs false
set_option linter.unusedVariables false

set_option maxRecDepth 100000 in
set_option maxHeartbeats 1000000 in
theorem eqCell_same (w : World) (a : Int) (f g : Nat) (hf : B64 f) (hg : B64 g) :
    Calls Try.prog 36 #[.agg #[.int .i64 a, .float .f64 f, .float .f64 g], .agg #[.int .i64 a, .float .f64 f, .float .f64 g]] w fun e w' => e = .returned (.bool true) ∧ Ext w w' := by
  have x0 : Hid (Ext w ((w.alloc (.cells #[.int .i64 a, .float .f64 f, .float .f64 g] 59)).alloc (.cells #[.int .i64 a, .float .f64 f, .float .f64 g] 59))) := ((Ext.refl w).alloc _ _).alloc _ _
  have c1 := hide (fun W => sameFloat_any f f hf hf W)
  have c2 := hide (fun W => sameFloat_any g g hg hg W)
  rw [same_self] at c1 c2
  go_enter Try.func36, Try.ntmps36
  go_wp2_with fail
  refine (c1.out _).mono ?_
  rintro e w1 ⟨rfl, rfl⟩
  go_wp2_with fail
  refine (c2.out _).mono ?_
  rintro e w2 ⟨rfl, rfl⟩
  go_wp2
  go_ret
  exact ⟨rfl, x0.out⟩

set_option maxRecDepth 100000 in
set_option maxHeartbeats 1000000 in
theorem eqCells_same {w : World} {v u : Value} {cs : List C3} (h : CV w v cs) (g : CV w u cs) (hg : CG cs) (hl : cs.length ≤ 1048576) :
    Calls Try.prog 18 #[v, u] w fun e w' => e = .returned (.bool true) ∧ Ext w w' := by
  obtain ⟨sa, cap, rfl, hx⟩ := h
  obtain ⟨ta, dap, rfl, hy⟩ := g
  have HX := hide hx
  have HY := hide hy
  clear hx hy
  go_enter Try.func18, Try.ntmps18
  go_wp2
  go_loopw [5] (fun i wr => ∃ k : Nat, i = .int .i64 k ∧ k ≤ cs.length ∧ Ext w wr) (fun i _ => cs.length - (intOf i).toNat)
  case atStart => exact ⟨0, rfl, by omega, Ext.refl w⟩
  case round =>
    obtain ⟨k, rfl, hk, hw⟩ := hrel
    have HW := hide hw
    clear hw
    by_cases hlt : k < cs.length
    · rcases HX.out with h0 | ⟨b, off, rfl, hrow⟩
      · rw [h0] at hlt; simp at hlt
      rcases HY.out with h0 | ⟨b2, off2, rfl, hrow2⟩
      · rw [h0] at hlt; simp at hlt
      have q0 := HW.out.box (hrow k hlt).1
      have q1 := HW.out.box (hrow k hlt).2.1
      have q2 := HW.out.box (hrow k hlt).2.2
      have r0 := HW.out.box (hrow2 k hlt).1
      have r1 := HW.out.box (hrow2 k hlt).2.1
      have r2 := HW.out.box (hrow2 k hlt).2.2
      have hgk := hg.at k hlt
      have hk0 : (0 : Int) ≤ (k : Int) := Int.natCast_nonneg _
      have hk1 : (k : Int) < (cs.length : Int) := by omega
      generalize (cs.getD k k0).1 = A at q0 r0 hgk
      generalize (cs.getD k k0).2.1 = B at q1 r1 hgk
      generalize (cs.getD k k0).2.2 = C at q2 r2 hgk
      have HG := hide hgk.2
      clear hrow hrow2 hgk
      have SA : Hid ((fun w' => w'.cell? ⟨b, off + k * 3, none⟩ = some (.int .i64 A) ∧ w'.cell? ⟨b, off + k * 3 + 1, none⟩ = some (.float .f64 B) ∧ w'.cell? ⟨b, off + k * 3 + 2, none⟩ = some (.float .f64 C) ∧ w'.cell? ⟨b2, off2 + k * 3, none⟩ = some (.int .i64 A) ∧ w'.cell? ⟨b2, off2 + k * 3 + 1, none⟩ = some (.float .f64 B) ∧ w'.cell? ⟨b2, off2 + k * 3 + 2, none⟩ = some (.float .f64 C)) wr.drew) := ⟨q0, q1, q2, r0, r1, r2⟩
      go_wp2_with fail
      go_region_held3 (fun w' => w'.cell? ⟨b, off + k * 3, none⟩ = some (.int .i64 A) ∧ w'.cell? ⟨b, off + k * 3 + 1, none⟩ = some (.float .f64 B) ∧ w'.cell? ⟨b, off + k * 3 + 2, none⟩ = some (.float .f64 C) ∧ w'.cell? ⟨b2, off2 + k * 3, none⟩ = some (.int .i64 A) ∧ w'.cell? ⟨b2, off2 + k * 3 + 1, none⟩ = some (.float .f64 B) ∧ w'.cell? ⟨b2, off2 + k * 3 + 2, none⟩ = some (.float .f64 C)) (first | with_reducible exact SA.out | with_reducible exact SB'.out | exact SA.out | exact SB'.out | fail) (first | (go_at_call 36; refine (eqCell_same _ A B C HG.out.1 HG.out.2).mono ?_; rintro e w2 ⟨rfl, x2⟩; have HW2 := hide (HW.out.drew.trans x2); have SB' : Hid ((fun w' => w'.cell? ⟨b, off + k * 3, none⟩ = some (.int .i64 A) ∧ w'.cell? ⟨b, off + k * 3 + 1, none⟩ = some (.float .f64 B) ∧ w'.cell? ⟨b, off + k * 3 + 2, none⟩ = some (.float .f64 C) ∧ w'.cell? ⟨b2, off2 + k * 3, none⟩ = some (.int .i64 A) ∧ w'.cell? ⟨b2, off2 + k * 3 + 1, none⟩ = some (.float .f64 B) ∧ w'.cell? ⟨b2, off2 + k * 3 + 2, none⟩ = some (.float .f64 C)) w2) := ⟨x2.box q0, x2.box q1, x2.box q2, x2.box r0, x2.box r1, x2.box r2⟩; clear x2) | fail)
      go_wp2
      go_roundw
      · exact ⟨k + 1, by go_num, by omega, HW2.out⟩
      · simp [intOf]; omega
    · have hkk : k = cs.length := by omega
      subst hkk
      go_wp2
      go_ret
      exact ⟨rfl, HW.out⟩

set_option maxRecDepth 100000 in
set_option maxHeartbeats 1000000 in
theorem eqStore_same {w : World} {v u : Value} {cs : List C3} (dt : Int) (h : CV w v cs) (g : CV w u cs) (hg : CG cs) (hl : cs.length ≤ 1048576) :
    Calls Try.prog 48 #[.agg #[.int .i64 dt, v], .agg #[.int .i64 dt, u]] w fun e w' => e = .returned (.bool true) ∧ Ext w w' := by
  obtain ⟨sa, cap, e1, hx⟩ := h
  obtain ⟨ta, dap, e2, hy⟩ := g
  have h : CV w v cs := ⟨sa, cap, e1, hx⟩
  have g : CV w u cs := ⟨ta, dap, e2, hy⟩
  have x0 : Ext w ((w.alloc (.cells #[.int .i64 dt, v] 54)).alloc (.cells #[.int .i64 dt, u] 54)) := ((Ext.refl w).alloc _ _).alloc _ _
  have HX := hide x0
  have C1 := hide (eqCells_same (h.keep x0.bl) (g.keep x0.bl) hg hl)
  clear hx hy h g x0
  subst e1 e2
  go_enter Try.func48, Try.ntmps48
  go_wp2_with fail
  refine C1.out.mono ?_
  rintro e w1 ⟨rfl, x1⟩
  have HX1 := hide (HX.out.trans x1)
  clear x1
  go_wp2
  go_ret
  exact ⟨rfl, HX1.out⟩

set_option maxRecDepth 100000 in
set_option maxHeartbeats 1000000 in
theorem eqStores_same {w : World} {v u : Value} {ss : List St} (h : SV w v ss) (g : SV w u ss) (hg : SG ss) (hl : SL ss 1048576) :
    Calls Try.prog 28 #[v, u] w fun e w' => e = .returned (.bool true) ∧ Ext w w' := by
  obtain ⟨sa, cap, rfl, hx⟩ := h
  obtain ⟨ta, dap, rfl, hy⟩ := g
  have HX := hide hx
  have HY := hide hy
  have hl1 := hl.1
  clear hx hy
  go_enter Try.func28, Try.ntmps28
  go_wp2
  go_loopw [5] (fun i wr => ∃ k : Nat, i = .int .i64 k ∧ k ≤ ss.length ∧ Ext w wr) (fun i _ => ss.length - (intOf i).toNat)
  case atStart => exact ⟨0, rfl, by omega, Ext.refl w⟩
  case round =>
    obtain ⟨k, rfl, hk, hw⟩ := hrel
    have HW := hide hw
    clear hw
    by_cases hlt : k < ss.length
    · rcases HX.out with h0 | ⟨b, off, rfl, hrow⟩
      · rw [h0] at hlt; simp at hlt
      rcases HY.out with h0 | ⟨b2, off2, rfl, hrow2⟩
      · rw [h0] at hlt; simp at hlt
      obtain ⟨q0, u1, q1, c1⟩ := (hrow.keep HW.out.bl) k hlt
      obtain ⟨r0, u2, r1, c2⟩ := (hrow2.keep HW.out.bl) k hlt
      have hgk := hg.at k hlt
      have hlk := hl.at k hlt
      have hk0 : (0 : Int) ≤ (k : Int) := Int.natCast_nonneg _
      have hk1 : (k : Int) < (ss.length : Int) := by omega
      have C1 := hide c1
      have C2 := hide c2
      have HG := hide hgk
      clear c1 c2 hgk
      generalize (ss.getD k s0).1 = A at q0 r0
      generalize (ss.getD k s0).2 = cs at C1 C2 HG hlk
      clear hrow hrow2
      obtain ⟨s1, d1, rfl, _⟩ := C1.out
      obtain ⟨s2, d2, rfl, _⟩ := C2.out
      have SA : Hid ((fun w' => w'.cell? ⟨b, off + k * 2, none⟩ = some (.int .i64 A) ∧ w'.cell? ⟨b, off + k * 2 + 1, none⟩ = some (.slice s1 cs.length d1) ∧ w'.cell? ⟨b2, off2 + k * 2, none⟩ = some (.int .i64 A) ∧ w'.cell? ⟨b2, off2 + k * 2 + 1, none⟩ = some (.slice s2 cs.length d2)) wr.drew) := ⟨q0, q1, r0, r1⟩
      have xd : Ext wr wr.drew := (Ext.refl wr).drew
      have CC := hide (eqStore_same A (C1.out.keep xd.bl) (C2.out.keep xd.bl) HG.out hlk)
      clear xd
      go_wp2_with fail
      go_region_held3 (fun w' => w'.cell? ⟨b, off + k * 2, none⟩ = some (.int .i64 A) ∧ w'.cell? ⟨b, off + k * 2 + 1, none⟩ = some (.slice s1 cs.length d1) ∧ w'.cell? ⟨b2, off2 + k * 2, none⟩ = some (.int .i64 A) ∧ w'.cell? ⟨b2, off2 + k * 2 + 1, none⟩ = some (.slice s2 cs.length d2)) (first | with_reducible exact SA.out | with_reducible exact SB'.out | exact SA.out | exact SB'.out | fail) (first | (go_at_call 48; refine CC.out.mono ?_; rintro e w2 ⟨rfl, x2⟩; have HW2 := hide (HW.out.drew.trans x2); have SB' : Hid ((fun w' => w'.cell? ⟨b, off + k * 2, none⟩ = some (.int .i64 A) ∧ w'.cell? ⟨b, off + k * 2 + 1, none⟩ = some (.slice s1 cs.length d1) ∧ w'.cell? ⟨b2, off2 + k * 2, none⟩ = some (.int .i64 A) ∧ w'.cell? ⟨b2, off2 + k * 2 + 1, none⟩ = some (.slice s2 cs.length d2)) w2) := ⟨x2.box q0, x2.box q1, x2.box r0, x2.box r1⟩; clear x2) | fail)
      go_wp2
      go_roundw
      · exact ⟨k + 1, by go_num, by omega, HW2.out⟩
      · simp [intOf]; omega
    · have hkk : k = ss.length := by omega
      subst hkk
      go_wp2
      go_ret
      exact ⟨rfl, HW.out⟩

set_option maxRecDepth 100000 in
set_option maxHeartbeats 1000000 in
theorem eqHeap_same {w : World} {v u : Value} {ss : List St} (h : SV w v ss) (g : SV w u ss) (hg : SG ss) (hl : SL ss 1048576) :
    Calls Try.prog 10 #[.agg #[v], .agg #[u]] w fun e w' => e = .returned (.bool true) ∧ Ext w w' := by
  obtain ⟨sa, cap, e1, hx⟩ := h
  obtain ⟨ta, dap, e2, hy⟩ := g
  have h : SV w v ss := ⟨sa, cap, e1, hx⟩
  have g : SV w u ss := ⟨ta, dap, e2, hy⟩
  have x0 : Ext w ((w.alloc (.cells #[v] 29)).alloc (.cells #[u] 29)) := ((Ext.refl w).alloc _ _).alloc _ _
  have HX := hide x0
  have C1 := hide (eqStores_same (h.keep x0.bl) (g.keep x0.bl) hg hl)
  clear hx hy h g x0
  subst e1 e2
  go_enter Try.func10, Try.ntmps10
  go_wp2_with fail
  refine C1.out.mono ?_
  rintro e w1 ⟨rfl, x1⟩
  have HX1 := hide (HX.out.trans x1)
  clear x1
  go_wp2
  go_ret
  exact ⟨rfl, HX1.out⟩
end Go.Proofs.Ytbkdfhlbjaiahaa
