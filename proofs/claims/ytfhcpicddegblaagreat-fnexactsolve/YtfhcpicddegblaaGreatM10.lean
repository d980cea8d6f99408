import Derived.Test.YtfhcpicddegblaaGreatM1
import Derived.Test.YtfhcpicddegblaaGreatCells3
import Derived.Test.YtfhcpicddegblaaGreatM2
namespace Go.Proofs.YtfhcpicddegblaaGreat
open Go.ChangeShapes Go.RowKit FL
set_option linter.unusedSimpArgs false
set_option linter.unusedVariables false

set_option maxRecDepth 100000 in
set_option maxHeartbeats 1000000 in
theorem eqCell_same (w : World) (a : Int) (f g : Nat) (hf : B64 f) (hg : B64 g) :
    Calls Tryz.prog 147 #[.agg #[.int .i64 a, .float .f64 f, .float .f64 g], .agg #[.int .i64 a, .float .f64 f, .float .f64 g]] w fun e w' => e = .returned (.bool true) ∧ Ext w w' := by
  have x0 : Hid (Ext w ((w.alloc (.cells #[.int .i64 a, .float .f64 f, .float .f64 g] 66)).alloc (.cells #[.int .i64 a, .float .f64 f, .float .f64 g] 66))) := ((Ext.refl w).alloc _ _).alloc _ _
  have c1 := hide (fun W => sameFloat_any f f hf hf W)
  have c2 := hide (fun W => sameFloat_any g g hg hg W)
  rw [same_self] at c1 c2
  go_enter Tryz.func147, Tryz.ntmps147
  go_wp2_with fail
  refine (c1.out _).mono ?_
  rintro e w1 ⟨rfl, rfl⟩
  go_wp2_with fail
  refine (c2.out _).mono ?_
  rintro e w2 ⟨rfl, rfl⟩
  go_wp2
  go_ret
  exact ⟨rfl, x0.out⟩

set_option maxRecDepth 100000 in
set_option maxHeartbeats 1000000 in
theorem eqCells_same {w : World} {v u : Value} {cs : List C3} (h : CV w v cs) (g : CV w u cs) (hg : CG cs) (hl : cs.length ≤ 1048576) :
    Calls Tryz.prog 126 #[v, u] w fun e w' => e = .returned (.bool true) ∧ Ext w w' := by
  obtain ⟨sa, cap, rfl, hx⟩ := h
  obtain ⟨ta, dap, rfl, hy⟩ := g
  have HX := hide hx
  have HY := hide hy
  clear hx hy
  go_enter Tryz.func126, Tryz.ntmps126
  go_wp2
  go_loopw [5] (fun i wr => ∃ k : Nat, i = .int .i64 k ∧ k ≤ cs.length ∧ Ext w wr) (fun i _ => cs.length - (intOf i).toNat)
  case atStart => exact ⟨0, rfl, by omega, Ext.refl w⟩
  case round =>
    obtain ⟨k, rfl, hk, hw⟩ := hrel
    have HW := hide hw
    clear hw
    by_cases hlt : k < cs.length
    · rcases HX.out with h0 | ⟨b, off, rfl, hrow⟩
      · rw [h0] at hlt; simp at hlt
      rcases HY.out with h0 | ⟨b2, off2, rfl, hrow2⟩
      · rw [h0] at hlt; simp at hlt
      have q0 := HW.out.box (hrow k hlt).1
      have q1 := HW.out.box (hrow k hlt).2.1
      have q2 := HW.out.box (hrow k hlt).2.2
      have r0 := HW.out.box (hrow2 k hlt).1
      have r1 := HW.out.box (hrow2 k hlt).2.1
      have r2 := HW.out.box (hrow2 k hlt).2.2
      have hgk := hg.at k hlt
      have hk0 : (0 : Int) ≤ (k : Int) := Int.natCast_nonneg _
      have hk1 : (k : Int) < (cs.length : Int) := by omega
      generalize (cs.getD k k0).1 = A at q0 r0 hgk
      generalize (cs.getD k k0).2.1 = B at q1 r1 hgk
      generalize (cs.getD k k0).2.2 = C at q2 r2 hgk
      have HG := hide hgk.2
      clear hrow hrow2 hgk
      have SA : Hid ((fun w' => w'.cell? ⟨b, off + k * 3, none⟩ = some (.int .i64 A) ∧ w'.cell? ⟨b, off + k * 3 + 1, none⟩ = some (.float .f64 B) ∧ w'.cell? ⟨b, off + k * 3 + 2, none⟩ = some (.float .f64 C) ∧ w'.cell? ⟨b2, off2 + k * 3, none⟩ = some (.int .i64 A) ∧ w'.cell? ⟨b2, off2 + k * 3 + 1, none⟩ = some (.float .f64 B) ∧ w'.cell? ⟨b2, off2 + k * 3 + 2, none⟩ = some (.float .f64 C)) wr.drew) := ⟨q0, q1, q2, r0, r1, r2⟩
      go_wp2_with fail
      go_region_held3 (fun w' => w'.cell? ⟨b, off + k * 3, none⟩ = some (.int .i64 A) ∧ w'.cell? ⟨b, off + k * 3 + 1, none⟩ = some (.float .f64 B) ∧ w'.cell? ⟨b, off + k * 3 + 2, none⟩ = some (.float .f64 C) ∧ w'.cell? ⟨b2, off2 + k * 3, none⟩ = some (.int .i64 A) ∧ w'.cell? ⟨b2, off2 + k * 3 + 1, none⟩ = some (.float .f64 B) ∧ w'.cell? ⟨b2, off2 + k * 3 + 2, none⟩ = some (.float .f64 C)) (first | with_reducible exact SA.out | with_reducible exact SB'.out | exact SA.out | exact SB'.out | fail) (first | (go_at_call 147; refine (eqCell_same _ A B C HG.out.1 HG.out.2).mono ?_; rintro e w2 ⟨rfl, x2⟩; have HW2 := hide (HW.out.drew.trans x2); have SB' : Hid ((fun w' => w'.cell? ⟨b, off + k * 3, none⟩ = some (.int .i64 A) ∧ w'.cell? ⟨b, off + k * 3 + 1, none⟩ = some (.float .f64 B) ∧ w'.cell? ⟨b, off + k * 3 + 2, none⟩ = some (.float .f64 C) ∧ w'.cell? ⟨b2, off2 + k * 3, none⟩ = some (.int .i64 A) ∧ w'.cell? ⟨b2, off2 + k * 3 + 1, none⟩ = some (.float .f64 B) ∧ w'.cell? ⟨b2, off2 + k * 3 + 2, none⟩ = some (.float .f64 C)) w2) := ⟨x2.box q0, x2.box q1, x2.box q2, x2.box r0, x2.box r1, x2.box r2⟩; clear x2) | fail)
      go_wp2
      go_roundw
      · exact ⟨k + 1, by go_num, by omega, HW2.out⟩
      · simp [intOf]; omega
    · have hkk : k = cs.length := by omega
      subst hkk
      go_wp2
      go_ret
      exact ⟨rfl, HW.out⟩

set_option maxRecDepth 100000 in
set_option maxHeartbeats 1000000 in
theorem eqStore_same {w : World} {v u : Value} {cs : List C3} (dt : Int) (h : CV w v cs) (g : CV w u cs) (hg : CG cs) (hl : cs.length ≤ 1048576) :
    Calls Tryz.prog 90 #[.agg #[.int .i64 dt, v], .agg #[.int .i64 dt, u]] w fun e w' => e = .returned (.bool true) ∧ Ext w w' := by
  obtain ⟨sa, cap, e1, hx⟩ := h
  obtain ⟨ta, dap, e2, hy⟩ := g
  have h : CV w v cs := ⟨sa, cap, e1, hx⟩
  have g : CV w u cs := ⟨ta, dap, e2, hy⟩
  have x0 : Ext w ((w.alloc (.cells #[.int .i64 dt, v] 123)).alloc (.cells #[.int .i64 dt, u] 123)) := ((Ext.refl w).alloc _ _).alloc _ _
  have HX := hide x0
  have C1 := hide (eqCells_same (h.keep x0.bl) (g.keep x0.bl) hg hl)
  clear hx hy h g x0
  subst e1 e2
  go_enter Tryz.func90, Tryz.ntmps90
  go_wp2_with fail
  refine C1.out.mono ?_
  rintro e w1 ⟨rfl, x1⟩
  have HX1 := hide (HX.out.trans x1)
  clear x1
  go_wp2
  go_ret
  exact ⟨rfl, HX1.out⟩

set_option maxRecDepth 100000 in
set_option maxHeartbeats 1000000 in
theorem eqStores_same {w : World} {v u : Value} {ss : List St} (h : SV w v ss) (g : SV w u ss) (hg : SG ss) (hl : SL ss 1048576) :
    Calls Tryz.prog 47 #[v, u] w fun e w' => e = .returned (.bool true) ∧ Ext w w' := by
  obtain ⟨sa, cap, rfl, hx⟩ := h
  obtain ⟨ta, dap, rfl, hy⟩ := g
  have HX := hide hx
  have HY := hide hy
  have hl1 := hl.1
  clear hx hy
  go_enter Tryz.func47, Tryz.ntmps47
  go_wp2
  go_loopw [5] (fun i wr => ∃ k : Nat, i = .int .i64 k ∧ k ≤ ss.length ∧ Ext w wr) (fun i _ => ss.length - (intOf i).toNat)
  case atStart => exact ⟨0, rfl, by omega, Ext.refl w⟩
  case round =>
    obtain ⟨k, rfl, hk, hw⟩ := hrel
    have HW := hide hw
    clear hw
    by_cases hlt : k < ss.length
    · rcases HX.out with h0 | ⟨b, off, rfl, hrow⟩
      · rw [h0] at hlt; simp at hlt
      rcases HY.out with h0 | ⟨b2, off2, rfl, hrow2⟩
      · rw [h0] at hlt; simp at hlt
      obtain ⟨q0, u1, q1, c1⟩ := (hrow.keep HW.out.bl) k hlt
      obtain ⟨r0, u2, r1, c2⟩ := (hrow2.keep HW.out.bl) k hlt
      have hgk := hg.at k hlt
      have hlk := hl.at k hlt
      have hk0 : (0 : Int) ≤ (k : Int) := Int.natCast_nonneg _
      have hk1 : (k : Int) < (ss.length : Int) := by omega
      have C1 := hide c1
      have C2 := hide c2
      have HG := hide hgk
      clear c1 c2 hgk
      generalize (ss.getD k s0).1 = A at q0 r0
      generalize (ss.getD k s0).2 = cs at C1 C2 HG hlk
      clear hrow hrow2
      obtain ⟨s1, d1, rfl, _⟩ := C1.out
      obtain ⟨s2, d2, rfl, _⟩ := C2.out
      have SA : Hid ((fun w' => w'.cell? ⟨b, off + k * 2, none⟩ = some (.int .i64 A) ∧ w'.cell? ⟨b, off + k * 2 + 1, none⟩ = some (.slice s1 cs.length d1) ∧ w'.cell? ⟨b2, off2 + k * 2, none⟩ = some (.int .i64 A) ∧ w'.cell? ⟨b2, off2 + k * 2 + 1, none⟩ = some (.slice s2 cs.length d2)) wr.drew) := ⟨q0, q1, r0, r1⟩
      have xd : Ext wr wr.drew := (Ext.refl wr).drew
      have CC := hide (eqStore_same A (C1.out.keep xd.bl) (C2.out.keep xd.bl) HG.out hlk)
      clear xd
      go_wp2_with fail
      go_region_held3 (fun w' => w'.cell? ⟨b, off + k * 2, none⟩ = some (.int .i64 A) ∧ w'.cell? ⟨b, off + k * 2 + 1, none⟩ = some (.slice s1 cs.length d1) ∧ w'.cell? ⟨b2, off2 + k * 2, none⟩ = some (.int .i64 A) ∧ w'.cell? ⟨b2, off2 + k * 2 + 1, none⟩ = some (.slice s2 cs.length d2)) (first | with_reducible exact SA.out | with_reducible exact SB'.out | exact SA.out | exact SB'.out | fail) (first | (go_at_call 90; refine CC.out.mono ?_; rintro e w2 ⟨rfl, x2⟩; have HW2 := hide (HW.out.drew.trans x2); have SB' : Hid ((fun w' => w'.cell? ⟨b, off + k * 2, none⟩ = some (.int .i64 A) ∧ w'.cell? ⟨b, off + k * 2 + 1, none⟩ = some (.slice s1 cs.length d1) ∧ w'.cell? ⟨b2, off2 + k * 2, none⟩ = some (.int .i64 A) ∧ w'.cell? ⟨b2, off2 + k * 2 + 1, none⟩ = some (.slice s2 cs.length d2)) w2) := ⟨x2.box q0, x2.box q1, x2.box r0, x2.box r1⟩; clear x2) | fail)
      go_wp2
      go_roundw
      · exact ⟨k + 1, by go_num, by omega, HW2.out⟩
      · simp [intOf]; omega
    · have hkk : k = ss.length := by omega
      subst hkk
      go_wp2
      go_ret
      exact ⟨rfl, HW.out⟩

set_option maxRecDepth 100000 in
set_option maxHeartbeats 1000000 in
theorem eqHeap_same {w : World} {v u : Value} {ss : List St} (h : SV w v ss) (g : SV w u ss) (hg : SG ss) (hl : SL ss 1048576) :
    Calls Tryz.prog 13 #[.agg #[v], .agg #[u]] w fun e w' => e = .returned (.bool true) ∧ Ext w w' := by
  obtain ⟨sa, cap, e1, hx⟩ := h
  obtain ⟨ta, dap, e2, hy⟩ := g
  have h : SV w v ss := ⟨sa, cap, e1, hx⟩
  have g : SV w u ss := ⟨ta, dap, e2, hy⟩
  have x0 : Ext w ((w.alloc (.cells #[v] 34)).alloc (.cells #[u] 34)) := ((Ext.refl w).alloc _ _).alloc _ _
  have HX := hide x0
  have C1 := hide (eqStores_same (h.keep x0.bl) (g.keep x0.bl) hg hl)
  clear hx hy h g x0
  subst e1 e2
  go_enter Tryz.func13, Tryz.ntmps13
  go_wp2_with fail
  refine C1.out.mono ?_
  rintro e w1 ⟨rfl, x1⟩
  have HX1 := hide (HX.out.trans x1)
  clear x1
  go_wp2
  go_ret
  exact ⟨rfl, HX1.out⟩
/-- Cells that are the same but for the NaNs' bits. -/
def C3.Sm (c d : C3) : Prop := c.1 = d.1 ∧ sameB c.2.1 d.2.1 = true ∧ sameB c.2.2 d.2.2 = true
theorem C3.Sm.refl (c : C3) : C3.Sm c c := ⟨rfl, same_self _, same_self _⟩
def CSm (cs ds : List C3) : Prop := cs.length = ds.length ∧ ∀ j, j < cs.length → C3.Sm (cs.getD j k0) (ds.getD j k0)
theorem CSm.refl (cs : List C3) : CSm cs cs := ⟨rfl, fun j _ => C3.Sm.refl _⟩
/-- Stores that are the same but for the NaNs' bits. -/
def SSm (ss ts : List St) : Prop := ss.length = ts.length ∧ ∀ j, j < ss.length → (ss.getD j s0).1 = (ts.getD j s0).1 ∧ CSm (ss.getD j s0).2 (ts.getD j s0).2
theorem SSm.refl (ss : List St) : SSm ss ss := ⟨rfl, fun j _ => ⟨rfl, CSm.refl _⟩⟩

set_option maxRecDepth 100000 in
set_option maxHeartbeats 1000000 in
theorem eqCell_sm (w : World) (a : Int) (f g f2 g2 : Nat) (hf : B64 f) (hg : B64 g) (hf2 : B64 f2) (hg2 : B64 g2) (s1 : sameB f f2 = true) (s2 : sameB g g2 = true) :
    Calls Tryz.prog 147 #[.agg #[.int .i64 a, .float .f64 f, .float .f64 g], .agg #[.int .i64 a, .float .f64 f2, .float .f64 g2]] w fun e w' => e = .returned (.bool true) ∧ Ext w w' := by
  have x0 : Hid (Ext w ((w.alloc (.cells #[.int .i64 a, .float .f64 f, .float .f64 g] 66)).alloc (.cells #[.int .i64 a, .float .f64 f2, .float .f64 g2] 66))) := ((Ext.refl w).alloc _ _).alloc _ _
  have c1 := hide (fun W => sameFloat_any f f2 hf hf2 W)
  have c2 := hide (fun W => sameFloat_any g g2 hg hg2 W)
  rw [s1] at c1
  rw [s2] at c2
  go_enter Tryz.func147, Tryz.ntmps147
  go_wp2_with fail
  refine (c1.out _).mono ?_
  rintro e w1 ⟨rfl, rfl⟩
  go_wp2_with fail
  refine (c2.out _).mono ?_
  rintro e w2 ⟨rfl, rfl⟩
  go_wp2
  go_ret
  exact ⟨rfl, x0.out⟩

set_option maxRecDepth 100000 in
set_option maxHeartbeats 1000000 in
theorem eqCells_sm {w : World} {v u : Value} {cs ds : List C3} (h : CV w v cs) (g : CV w u ds) (hsm : CSm cs ds) (hg : CG cs) (hg2 : CG ds) (hl : cs.length ≤ 1048576) :
    Calls Tryz.prog 126 #[v, u] w fun e w' => e = .returned (.bool true) ∧ Ext w w' := by
  obtain ⟨sa, cap, rfl, hx⟩ := h
  obtain ⟨ta, dap, rfl, hy⟩ := g
  have HX := hide hx
  have HY := hide hy
  have HSM := hide hsm
  have hdl := hsm.1
  have Hdl := hide hdl
  clear hx hy hsm
  rw [← hdl]
  clear hdl
  go_enter Tryz.func126, Tryz.ntmps126
  go_wp2
  go_loopw [5] (fun i wr => ∃ k : Nat, i = .int .i64 k ∧ k ≤ cs.length ∧ Ext w wr) (fun i _ => cs.length - (intOf i).toNat)
  case atStart => exact ⟨0, rfl, by omega, Ext.refl w⟩
  case round =>
    obtain ⟨k, rfl, hk, hw⟩ := hrel
    have HW := hide hw
    clear hw
    by_cases hlt : k < cs.length
    · rcases HX.out with h0 | ⟨b, off, rfl, hrow⟩
      · rw [h0] at hlt; simp at hlt
      rcases HY.out with h0 | ⟨b2, off2, rfl, hrow2⟩
      · rw [Hdl.out, h0] at hlt; simp at hlt
      have q0 := HW.out.box (hrow k hlt).1
      have q1 := HW.out.box (hrow k hlt).2.1
      have q2 := HW.out.box (hrow k hlt).2.2
      have hlt2 : k < ds.length := by rw [← Hdl.out]; exact hlt
      have r0 := HW.out.box (hrow2 k hlt2).1
      have r1 := HW.out.box (hrow2 k hlt2).2.1
      have r2 := HW.out.box (hrow2 k hlt2).2.2
      have hgk := hg.at k hlt
      have hgk2 := hg2.at k hlt2
      obtain ⟨m1, m2, m3⟩ := HSM.out.2 k hlt
      rw [← m1] at r0
      have hk0 : (0 : Int) ≤ (k : Int) := Int.natCast_nonneg _
      have hk1 : (k : Int) < (cs.length : Int) := by omega
      have HG := hide hgk.2
      have HG2 := hide hgk2.2
      have HM2 := hide m2
      have HM3 := hide m3
      clear hrow hrow2 hgk hgk2 m1 m2 m3
      generalize (cs.getD k k0).1 = A at q0 r0
      generalize (cs.getD k k0).2.1 = B at q1 HG HM2
      generalize (cs.getD k k0).2.2 = C at q2 HG HM3
      generalize (ds.getD k k0).2.1 = B2 at r1 HG2 HM2
      generalize (ds.getD k k0).2.2 = C2 at r2 HG2 HM3
      have SA : Hid ((fun w' => w'.cell? ⟨b, off + k * 3, none⟩ = some (.int .i64 A) ∧ w'.cell? ⟨b, off + k * 3 + 1, none⟩ = some (.float .f64 B) ∧ w'.cell? ⟨b, off + k * 3 + 2, none⟩ = some (.float .f64 C) ∧ w'.cell? ⟨b2, off2 + k * 3, none⟩ = some (.int .i64 A) ∧ w'.cell? ⟨b2, off2 + k * 3 + 1, none⟩ = some (.float .f64 B2) ∧ w'.cell? ⟨b2, off2 + k * 3 + 2, none⟩ = some (.float .f64 C2)) wr.drew) := ⟨q0, q1, q2, r0, r1, r2⟩
      go_wp2_with fail
      go_region_held3 (fun w' => w'.cell? ⟨b, off + k * 3, none⟩ = some (.int .i64 A) ∧ w'.cell? ⟨b, off + k * 3 + 1, none⟩ = some (.float .f64 B) ∧ w'.cell? ⟨b, off + k * 3 + 2, none⟩ = some (.float .f64 C) ∧ w'.cell? ⟨b2, off2 + k * 3, none⟩ = some (.int .i64 A) ∧ w'.cell? ⟨b2, off2 + k * 3 + 1, none⟩ = some (.float .f64 B2) ∧ w'.cell? ⟨b2, off2 + k * 3 + 2, none⟩ = some (.float .f64 C2)) (first | with_reducible exact SA.out | with_reducible exact SB'.out | exact SA.out | exact SB'.out | fail) (first | (go_at_call 147; refine (eqCell_sm _ A B C B2 C2 HG.out.1 HG.out.2 HG2.out.1 HG2.out.2 HM2.out HM3.out).mono ?_; rintro e w2 ⟨rfl, x2⟩; have HW2 := hide (HW.out.drew.trans x2); have SB' : Hid ((fun w' => w'.cell? ⟨b, off + k * 3, none⟩ = some (.int .i64 A) ∧ w'.cell? ⟨b, off + k * 3 + 1, none⟩ = some (.float .f64 B) ∧ w'.cell? ⟨b, off + k * 3 + 2, none⟩ = some (.float .f64 C) ∧ w'.cell? ⟨b2, off2 + k * 3, none⟩ = some (.int .i64 A) ∧ w'.cell? ⟨b2, off2 + k * 3 + 1, none⟩ = some (.float .f64 B2) ∧ w'.cell? ⟨b2, off2 + k * 3 + 2, none⟩ = some (.float .f64 C2)) w2) := ⟨x2.box q0, x2.box q1, x2.box q2, x2.box r0, x2.box r1, x2.box r2⟩; clear x2) | fail)
      go_wp2
      go_roundw
      · exact ⟨k + 1, by go_num, by omega, HW2.out⟩
      · simp [intOf]; omega
    · have hkk : k = cs.length := by omega
      subst hkk
      go_wp2
      go_ret
      exact ⟨rfl, HW.out⟩

set_option maxRecDepth 100000 in
set_option maxHeartbeats 1000000 in
theorem eqStore_sm {w : World} {v u : Value} {cs ds : List C3} (dt : Int) (h : CV w v cs) (g : CV w u ds) (hsm : CSm cs ds) (hg : CG cs) (hg2 : CG ds) (hl : cs.length ≤ 1048576) :
    Calls Tryz.prog 90 #[.agg #[.int .i64 dt, v], .agg #[.int .i64 dt, u]] w fun e w' => e = .returned (.bool true) ∧ Ext w w' := by
  obtain ⟨sa, cap, e1, hx⟩ := h
  obtain ⟨ta, dap, e2, hy⟩ := g
  have h : CV w v cs := ⟨sa, cap, e1, hx⟩
  have g : CV w u ds := ⟨ta, dap, e2, hy⟩
  have x0 : Ext w ((w.alloc (.cells #[.int .i64 dt, v] 123)).alloc (.cells #[.int .i64 dt, u] 123)) := ((Ext.refl w).alloc _ _).alloc _ _
  have HX := hide x0
  have C1 := hide (eqCells_sm (h.keep x0.bl) (g.keep x0.bl) hsm hg hg2 hl)
  clear hx hy h g x0
  subst e1 e2
  go_enter Tryz.func90, Tryz.ntmps90
  go_wp2_with fail
  refine C1.out.mono ?_
  rintro e w1 ⟨rfl, x1⟩
  have HX1 := hide (HX.out.trans x1)
  clear x1
  go_wp2
  go_ret
  exact ⟨rfl, HX1.out⟩

set_option maxRecDepth 100000 in
set_option maxHeartbeats 1000000 in
theorem eqStores_sm {w : World} {v u : Value} {ss ts : List St} (h : SV w v ss) (g : SV w u ts) (hsm : SSm ss ts) (hg : SG ss) (hg2 : SG ts) (hl : SL ss 1048576) :
    Calls Tryz.prog 47 #[v, u] w fun e w' => e = .returned (.bool true) ∧ Ext w w' := by
  obtain ⟨sa, cap, rfl, hx⟩ := h
  obtain ⟨ta, dap, rfl, hy⟩ := g
  have HX := hide hx
  have HY := hide hy
  have hl1 := hl.1
  have HSM := hide hsm
  have hdl := hsm.1
  have Hdl := hide hdl
  clear hx hy hsm
  rw [← hdl]
  clear hdl
  go_enter Tryz.func47, Tryz.ntmps47
  go_wp2
  go_loopw [5] (fun i wr => ∃ k : Nat, i = .int .i64 k ∧ k ≤ ss.length ∧ Ext w wr) (fun i _ => ss.length - (intOf i).toNat)
  case atStart => exact ⟨0, rfl, by omega, Ext.refl w⟩
  case round =>
    obtain ⟨k, rfl, hk, hw⟩ := hrel
    have HW := hide hw
    clear hw
    by_cases hlt : k < ss.length
    · rcases HX.out with h0 | ⟨b, off, rfl, hrow⟩
      · rw [h0] at hlt; simp at hlt
      rcases HY.out with h0 | ⟨b2, off2, rfl, hrow2⟩
      · rw [Hdl.out, h0] at hlt; simp at hlt
      have hlt2 : k < ts.length := by rw [← Hdl.out]; exact hlt
      obtain ⟨q0, u1, q1, c1⟩ := (hrow.keep HW.out.bl) k hlt
      obtain ⟨r0, u2, r1, c2⟩ := (hrow2.keep HW.out.bl) k hlt2
      have hgk := hg.at k hlt
      have HG2 := hide (hg2.at k hlt2)
      obtain ⟨m1, m2⟩ := HSM.out.2 k hlt
      rw [← m1] at r0
      have m3 := m2.1
      have HM2 := hide m2
      have hlk := hl.at k hlt
      have hk0 : (0 : Int) ≤ (k : Int) := Int.natCast_nonneg _
      have hk1 : (k : Int) < (ss.length : Int) := by omega
      have C1 := hide c1
      have C2 := hide c2
      have HG := hide hgk
      clear c1 c2 hgk m1 m2
      generalize (ss.getD k s0).1 = A at q0 r0
      generalize (ss.getD k s0).2 = cs at C1 HG hlk HM2 m3
      generalize (ts.getD k s0).2 = ds at C2 HG2 HM2 m3
      clear hrow hrow2
      obtain ⟨s1, d1, rfl, _⟩ := C1.out
      obtain ⟨s2, d2, rfl, _⟩ := C2.out
      rw [← m3] at r1
      have SA : Hid ((fun w' => w'.cell? ⟨b, off + k * 2, none⟩ = some (.int .i64 A) ∧ w'.cell? ⟨b, off + k * 2 + 1, none⟩ = some (.slice s1 cs.length d1) ∧ w'.cell? ⟨b2, off2 + k * 2, none⟩ = some (.int .i64 A) ∧ w'.cell? ⟨b2, off2 + k * 2 + 1, none⟩ = some (.slice s2 cs.length d2)) wr.drew) := ⟨q0, q1, r0, r1⟩
      have xd : Ext wr wr.drew := (Ext.refl wr).drew
      have CC := hide (eqStore_sm A (C1.out.keep xd.bl) (C2.out.keep xd.bl) HM2.out HG.out HG2.out hlk)
      rw [← m3] at CC
      clear m3
      clear xd
      go_wp2_with fail
      go_region_held3 (fun w' => w'.cell? ⟨b, off + k * 2, none⟩ = some (.int .i64 A) ∧ w'.cell? ⟨b, off + k * 2 + 1, none⟩ = some (.slice s1 cs.length d1) ∧ w'.cell? ⟨b2, off2 + k * 2, none⟩ = some (.int .i64 A) ∧ w'.cell? ⟨b2, off2 + k * 2 + 1, none⟩ = some (.slice s2 cs.length d2)) (first | with_reducible exact SA.out | with_reducible exact SB'.out | exact SA.out | exact SB'.out | fail) (first | (go_at_call 90; refine CC.out.mono ?_; rintro e w2 ⟨rfl, x2⟩; have HW2 := hide (HW.out.drew.trans x2); have SB' : Hid ((fun w' => w'.cell? ⟨b, off + k * 2, none⟩ = some (.int .i64 A) ∧ w'.cell? ⟨b, off + k * 2 + 1, none⟩ = some (.slice s1 cs.length d1) ∧ w'.cell? ⟨b2, off2 + k * 2, none⟩ = some (.int .i64 A) ∧ w'.cell? ⟨b2, off2 + k * 2 + 1, none⟩ = some (.slice s2 cs.length d2)) w2) := ⟨x2.box q0, x2.box q1, x2.box r0, x2.box r1⟩; clear x2) | fail)
      go_wp2
      go_roundw
      · exact ⟨k + 1, by go_num, by omega, HW2.out⟩
      · simp [intOf]; omega
    · have hkk : k = ss.length := by omega
      subst hkk
      go_wp2
      go_ret
      exact ⟨rfl, HW.out⟩

set_option maxRecDepth 100000 in
set_option maxHeartbeats 1000000 in
theorem eqHeap_sm {w : World} {v u : Value} {ss ts : List St} (h : SV w v ss) (g : SV w u ts) (hsm : SSm ss ts) (hg : SG ss) (hg2 : SG ts) (hl : SL ss 1048576) :
    Calls Tryz.prog 13 #[.agg #[v], .agg #[u]] w fun e w' => e = .returned (.bool true) ∧ Ext w w' := by
  obtain ⟨sa, cap, e1, hx⟩ := h
  obtain ⟨ta, dap, e2, hy⟩ := g
  have h : SV w v ss := ⟨sa, cap, e1, hx⟩
  have g : SV w u ts := ⟨ta, dap, e2, hy⟩
  have x0 : Ext w ((w.alloc (.cells #[v] 34)).alloc (.cells #[u] 34)) := ((Ext.refl w).alloc _ _).alloc _ _
  have HX := hide x0
  have C1 := hide (eqStores_sm (h.keep x0.bl) (g.keep x0.bl) hsm hg hg2 hl)
  clear hx hy h g x0
  subst e1 e2
  go_enter Tryz.func13, Tryz.ntmps13
  go_wp2_with fail
  refine C1.out.mono ?_
  rintro e w1 ⟨rfl, x1⟩
  have HX1 := hide (HX.out.trans x1)
  clear x1
  go_wp2
  go_ret
  exact ⟨rfl, HX1.out⟩
end Go.Proofs.YtfhcpicddegblaaGreat
