import Derived.Test.YthaajmkfeniofaaOrder
namespace Go.Proofs.Ythaajmkfeniofaa
open Go.RowKit FL
set_option linter.unusedSimpArgs false
set_option linter.unusedVariables false

theorem run_f38 (w : World) (c d i : Int) (f g : Nat) : (Instr.field 38 (.agg #[.int .i64 c, .int .i64 d, .int .i64 i, .float .f64 f, .float .f64 g]) 0).run Try.prog w = .ok (.int .i64 c) w := by
  simp [Instr.field, run_underlying Try.underlying38, run_underlying Try.underlying2, go_sem, part, isAgg, asAgg]
attribute [local go_sem] run_f38

theorem below_ext {w a b : World} (h : Below w.heap.size w a) (x : Ext a b) : Below w.heap.size w b := h.trans (x.bl.mono h.size)

def LawOk (w : World) (e : Ending) (w' : World) : Prop := e = .returned (.bool true) ∧ Below w.heap.size w w'

set_option maxRecDepth 100000 in
set_option maxHeartbeats 4000000 in
theorem order_bad (w : World) (sa : Option Addr) (len cap : Nat) (hcode : Code w (.slice sa len cap) len) (hlen : ¬ (1048576 : Int) < (len : Int)) :
    Calls Try.prog 9 #[.slice sa len cap] w fun e w' => LawOk w e w' := by
  have Hc := hide hcode
  clear hcode
  go_enter Try.func9, Try.ntmps9
  go_wp2_with fail
  refine (drawBefore_any Hc.out).mono ?_
  rintro e w1 ⟨dt, ia, fa, ga, ib, fb, gb, rfl, ⟨hia, hfa, hga⟩, ⟨hib, hfb, hgb⟩, hB⟩
  have HB := hide hB
  clear hB
  cases va : validB dt ia fa ga
  · have b1 : befB dt ia fa ga ib fb gb = false := by unfold befB; rw [va]; rfl
    have b2 : befB dt ib fb gb ia fa ga = false := by unfold befB; rw [va]; simp
    have hap : ∀ w, Calls Try.prog 28 #[.int .i64 1, .int .i64 dt, .agg #[.int .i64 ia, .float .f64 fa, .float .f64 ga], .agg #[.int .i64 ib, .float .f64 fb, .float .f64 gb]] w fun e w' => ∃ c : Int, e = .returned (.agg #[.int .i64 c, .int .i64 0, .int .i64 0, .float .f64 0, .float .f64 0]) ∧ (c != 0) = true ∧ Ext w w' := fun w => by
      cases hf : fitO 1 dt
      · exact (ap_e4 1 dt ia ib fa ga fb gb (by omega) hf w).mono fun e w' h => ⟨4, h.1, by decide, h.2⟩
      · exact (ap_e14 1 dt ia ib fa ga fb gb hia hfa hga hib hfb hgb (by omega) hf (by rw [va]; rfl) w).mono fun e w' h => ⟨14, h.1, by decide, h.2⟩
    have Hap := hide hap
    clear hap
    go_wp2_with fail
    refine (iBefore_any _ _ _ _ _ _ _ hia hfa hga hib hfb hgb _).mono ?_
    rintro e w2 ⟨rfl, x2⟩
    have p2a0 := x2.box (b := w1.heap.size) (o := 0) (v := .int .i64 ia) (by first | assumption | (simp; done) | (simp [go_sem]; done))
    have p2a1 := x2.box (b := w1.heap.size) (o := 1) (v := .float .f64 fa) (by first | assumption | (simp; done) | (simp [go_sem]; done))
    have p2a2 := x2.box (b := w1.heap.size) (o := 2) (v := .float .f64 ga) (by first | assumption | (simp; done) | (simp [go_sem]; done))
    have p2b0 := x2.box (b := w1.heap.size + 1) (o := 0) (v := .int .i64 ib) (by first | assumption | (simp; done) | (simp [go_sem]; done))
    have p2b1 := x2.box (b := w1.heap.size + 1) (o := 1) (v := .float .f64 fb) (by first | assumption | (simp; done) | (simp [go_sem]; done))
    have p2b2 := x2.box (b := w1.heap.size + 1) (o := 2) (v := .float .f64 gb) (by first | assumption | (simp; done) | (simp [go_sem]; done))
    go_wp2_with fail
    refine (iBefore_any _ _ _ _ _ _ _ hib hfb hgb hia hfa hga _).mono ?_
    rintro e w3 ⟨rfl, x3⟩
    have p3a0 := x3.box (b := w1.heap.size) (o := 0) (v := .int .i64 ia) (by first | assumption | (simp; done) | (simp [go_sem]; done))
    have p3a1 := x3.box (b := w1.heap.size) (o := 1) (v := .float .f64 fa) (by first | assumption | (simp; done) | (simp [go_sem]; done))
    have p3a2 := x3.box (b := w1.heap.size) (o := 2) (v := .float .f64 ga) (by first | assumption | (simp; done) | (simp [go_sem]; done))
    have p3b0 := x3.box (b := w1.heap.size + 1) (o := 0) (v := .int .i64 ib) (by first | assumption | (simp; done) | (simp [go_sem]; done))
    have p3b1 := x3.box (b := w1.heap.size + 1) (o := 1) (v := .float .f64 fb) (by first | assumption | (simp; done) | (simp [go_sem]; done))
    have p3b2 := x3.box (b := w1.heap.size + 1) (o := 2) (v := .float .f64 gb) (by first | assumption | (simp; done) | (simp [go_sem]; done))
    go_wp2_with fail
    refine (sValid_any _ _ _ _ hfa hga _).mono ?_
    rintro e w4 ⟨rfl, x4⟩
    have p4a0 := x4.box (b := w1.heap.size) (o := 0) (v := .int .i64 ia) (by first | assumption | (simp; done) | (simp [go_sem]; done))
    have p4a1 := x4.box (b := w1.heap.size) (o := 1) (v := .float .f64 fa) (by first | assumption | (simp; done) | (simp [go_sem]; done))
    have p4a2 := x4.box (b := w1.heap.size) (o := 2) (v := .float .f64 ga) (by first | assumption | (simp; done) | (simp [go_sem]; done))
    have p4b0 := x4.box (b := w1.heap.size + 1) (o := 0) (v := .int .i64 ib) (by first | assumption | (simp; done) | (simp [go_sem]; done))
    have p4b1 := x4.box (b := w1.heap.size + 1) (o := 1) (v := .float .f64 fb) (by first | assumption | (simp; done) | (simp [go_sem]; done))
    have p4b2 := x4.box (b := w1.heap.size + 1) (o := 2) (v := .float .f64 gb) (by first | assumption | (simp; done) | (simp [go_sem]; done))
    go_wp2_with fail
    refine (Hap.out _).mono ?_
    rintro e w5 ⟨c, rfl, hc, x5⟩
    go_wp2
    go_ret
    exact ⟨rfl, below_ext HB.out (by repeat (first | with_reducible exact Ext.refl _ | with_reducible refine Ext.setCell ?_ (by simp; try omega) _ | with_reducible apply Ext.drewN | with_reducible apply Ext.drew | with_reducible apply Ext.alloc | refine Ext.trans ?_ (by assumption)))⟩
  · cases vb : validB dt ib fb gb
    · have b1 : befB dt ia fa ga ib fb gb = false := by unfold befB; rw [vb]; simp
      have b2 : befB dt ib fb gb ia fa ga = false := by unfold befB; rw [vb]; rfl
      have hap : ∀ w, Calls Try.prog 28 #[.int .i64 1, .int .i64 dt, .agg #[.int .i64 ia, .float .f64 fa, .float .f64 ga], .agg #[.int .i64 ib, .float .f64 fb, .float .f64 gb]] w fun e w' => ∃ c : Int, e = .returned (.agg #[.int .i64 c, .int .i64 0, .int .i64 0, .float .f64 0, .float .f64 0]) ∧ (c != 0) = true ∧ Ext w w' := fun w => by
        cases hf : fitO 1 dt
        · exact (ap_e4 1 dt ia ib fa ga fb gb (by omega) hf w).mono fun e w' h => ⟨4, h.1, by decide, h.2⟩
        · exact (ap_e14 1 dt ia ib fa ga fb gb hia hfa hga hib hfb hgb (by omega) hf (by rw [vb]; simp) w).mono fun e w' h => ⟨14, h.1, by decide, h.2⟩
      have Hap := hide hap
      clear hap
      go_wp2_with fail
      refine (iBefore_any _ _ _ _ _ _ _ hia hfa hga hib hfb hgb _).mono ?_
      rintro e w2 ⟨rfl, x2⟩
      have p2a0 := x2.box (b := w1.heap.size) (o := 0) (v := .int .i64 ia) (by first | assumption | (simp; done) | (simp [go_sem]; done))
      have p2a1 := x2.box (b := w1.heap.size) (o := 1) (v := .float .f64 fa) (by first | assumption | (simp; done) | (simp [go_sem]; done))
      have p2a2 := x2.box (b := w1.heap.size) (o := 2) (v := .float .f64 ga) (by first | assumption | (simp; done) | (simp [go_sem]; done))
      have p2b0 := x2.box (b := w1.heap.size + 1) (o := 0) (v := .int .i64 ib) (by first | assumption | (simp; done) | (simp [go_sem]; done))
      have p2b1 := x2.box (b := w1.heap.size + 1) (o := 1) (v := .float .f64 fb) (by first | assumption | (simp; done) | (simp [go_sem]; done))
      have p2b2 := x2.box (b := w1.heap.size + 1) (o := 2) (v := .float .f64 gb) (by first | assumption | (simp; done) | (simp [go_sem]; done))
      go_wp2_with fail
      refine (iBefore_any _ _ _ _ _ _ _ hib hfb hgb hia hfa hga _).mono ?_
      rintro e w3 ⟨rfl, x3⟩
      have p3a0 := x3.box (b := w1.heap.size) (o := 0) (v := .int .i64 ia) (by first | assumption | (simp; done) | (simp [go_sem]; done))
      have p3a1 := x3.box (b := w1.heap.size) (o := 1) (v := .float .f64 fa) (by first | assumption | (simp; done) | (simp [go_sem]; done))
      have p3a2 := x3.box (b := w1.heap.size) (o := 2) (v := .float .f64 ga) (by first | assumption | (simp; done) | (simp [go_sem]; done))
      have p3b0 := x3.box (b := w1.heap.size + 1) (o := 0) (v := .int .i64 ib) (by first | assumption | (simp; done) | (simp [go_sem]; done))
      have p3b1 := x3.box (b := w1.heap.size + 1) (o := 1) (v := .float .f64 fb) (by first | assumption | (simp; done) | (simp [go_sem]; done))
      have p3b2 := x3.box (b := w1.heap.size + 1) (o := 2) (v := .float .f64 gb) (by first | assumption | (simp; done) | (simp [go_sem]; done))
      go_wp2_with fail
      refine (sValid_any _ _ _ _ hfa hga _).mono ?_
      rintro e w4 ⟨rfl, x4⟩
      have p4a0 := x4.box (b := w1.heap.size) (o := 0) (v := .int .i64 ia) (by first | assumption | (simp; done) | (simp [go_sem]; done))
      have p4a1 := x4.box (b := w1.heap.size) (o := 1) (v := .float .f64 fa) (by first | assumption | (simp; done) | (simp [go_sem]; done))
      have p4a2 := x4.box (b := w1.heap.size) (o := 2) (v := .float .f64 ga) (by first | assumption | (simp; done) | (simp [go_sem]; done))
      have p4b0 := x4.box (b := w1.heap.size + 1) (o := 0) (v := .int .i64 ib) (by first | assumption | (simp; done) | (simp [go_sem]; done))
      have p4b1 := x4.box (b := w1.heap.size + 1) (o := 1) (v := .float .f64 fb) (by first | assumption | (simp; done) | (simp [go_sem]; done))
      have p4b2 := x4.box (b := w1.heap.size + 1) (o := 2) (v := .float .f64 gb) (by first | assumption | (simp; done) | (simp [go_sem]; done))
      go_wp2_with fail
      refine (sValid_any _ _ _ _ hfb hgb _).mono ?_
      rintro e w5 ⟨rfl, x5⟩
      have p5a0 := x5.box (b := w1.heap.size) (o := 0) (v := .int .i64 ia) (by first | assumption | (simp; done) | (simp [go_sem]; done))
      have p5a1 := x5.box (b := w1.heap.size) (o := 1) (v := .float .f64 fa) (by first | assumption | (simp; done) | (simp [go_sem]; done))
      have p5a2 := x5.box (b := w1.heap.size) (o := 2) (v := .float .f64 ga) (by first | assumption | (simp; done) | (simp [go_sem]; done))
      have p5b0 := x5.box (b := w1.heap.size + 1) (o := 0) (v := .int .i64 ib) (by first | assumption | (simp; done) | (simp [go_sem]; done))
      have p5b1 := x5.box (b := w1.heap.size + 1) (o := 1) (v := .float .f64 fb) (by first | assumption | (simp; done) | (simp [go_sem]; done))
      have p5b2 := x5.box (b := w1.heap.size + 1) (o := 2) (v := .float .f64 gb) (by first | assumption | (simp; done) | (simp [go_sem]; done))
      go_wp2_with fail
      refine (Hap.out _).mono ?_
      rintro e w6 ⟨c, rfl, hc, x6⟩
      go_wp2
      go_ret
      exact ⟨rfl, below_ext HB.out (by repeat (first | with_reducible exact Ext.refl _ | with_reducible refine Ext.setCell ?_ (by simp; try omega) _ | with_reducible apply Ext.drewN | with_reducible apply Ext.drew | with_reducible apply Ext.alloc | refine Ext.trans ?_ (by assumption)))⟩
    · by_cases h8 : dt ≤ 8
      · cases hn : (nanD fa || nanD fb)
        · have nn : nanD fa = false ∧ nanD fb = false := by simpa using hn
          have q1 : feq fa fa = true := by rw [feq_self, nn.1]; rfl
          have q2 : feq fb fb = true := by rw [feq_self, nn.2]; rfl
          have ms := mm_same dt ia ib fa ga fb gb hfa hfb h8 va vb hn
          rcases bef_tri dt ia ib fa ga fb gb hfa hga hfb hgb va vb with ⟨b1, b2, b3⟩ | ⟨b1, b2, b3⟩ | ⟨b1, b2, b3⟩
          · obtain ⟨s1, s2⟩ := ms.2 b2
            clear ms nn hn
            have h9 : dt ≠ 9 := by omega
            go_wp2_with fail
            refine (iBefore_any _ _ _ _ _ _ _ hia hfa hga hib hfb hgb _).mono ?_
            rintro e w2 ⟨rfl, x2⟩
            have p2a0 := x2.box (b := w1.heap.size) (o := 0) (v := .int .i64 ia) (by first | assumption | (simp; done) | (simp [go_sem]; done))
            have p2a1 := x2.box (b := w1.heap.size) (o := 1) (v := .float .f64 fa) (by first | assumption | (simp; done) | (simp [go_sem]; done))
            have p2a2 := x2.box (b := w1.heap.size) (o := 2) (v := .float .f64 ga) (by first | assumption | (simp; done) | (simp [go_sem]; done))
            have p2b0 := x2.box (b := w1.heap.size + 1) (o := 0) (v := .int .i64 ib) (by first | assumption | (simp; done) | (simp [go_sem]; done))
            have p2b1 := x2.box (b := w1.heap.size + 1) (o := 1) (v := .float .f64 fb) (by first | assumption | (simp; done) | (simp [go_sem]; done))
            have p2b2 := x2.box (b := w1.heap.size + 1) (o := 2) (v := .float .f64 gb) (by first | assumption | (simp; done) | (simp [go_sem]; done))
            go_wp2_with fail
            refine (iBefore_any _ _ _ _ _ _ _ hib hfb hgb hia hfa hga _).mono ?_
            rintro e w3 ⟨rfl, x3⟩
            have p3a0 := x3.box (b := w1.heap.size) (o := 0) (v := .int .i64 ia) (by first | assumption | (simp; done) | (simp [go_sem]; done))
            have p3a1 := x3.box (b := w1.heap.size) (o := 1) (v := .float .f64 fa) (by first | assumption | (simp; done) | (simp [go_sem]; done))
            have p3a2 := x3.box (b := w1.heap.size) (o := 2) (v := .float .f64 ga) (by first | assumption | (simp; done) | (simp [go_sem]; done))
            have p3b0 := x3.box (b := w1.heap.size + 1) (o := 0) (v := .int .i64 ib) (by first | assumption | (simp; done) | (simp [go_sem]; done))
            have p3b1 := x3.box (b := w1.heap.size + 1) (o := 1) (v := .float .f64 fb) (by first | assumption | (simp; done) | (simp [go_sem]; done))
            have p3b2 := x3.box (b := w1.heap.size + 1) (o := 2) (v := .float .f64 gb) (by first | assumption | (simp; done) | (simp [go_sem]; done))
            go_wp2_with fail
            refine (sValid_any _ _ _ _ hfa hga _).mono ?_
            rintro e w4 ⟨rfl, x4⟩
            have p4a0 := x4.box (b := w1.heap.size) (o := 0) (v := .int .i64 ia) (by first | assumption | (simp; done) | (simp [go_sem]; done))
            have p4a1 := x4.box (b := w1.heap.size) (o := 1) (v := .float .f64 fa) (by first | assumption | (simp; done) | (simp [go_sem]; done))
            have p4a2 := x4.box (b := w1.heap.size) (o := 2) (v := .float .f64 ga) (by first | assumption | (simp; done) | (simp [go_sem]; done))
            have p4b0 := x4.box (b := w1.heap.size + 1) (o := 0) (v := .int .i64 ib) (by first | assumption | (simp; done) | (simp [go_sem]; done))
            have p4b1 := x4.box (b := w1.heap.size + 1) (o := 1) (v := .float .f64 fb) (by first | assumption | (simp; done) | (simp [go_sem]; done))
            have p4b2 := x4.box (b := w1.heap.size + 1) (o := 2) (v := .float .f64 gb) (by first | assumption | (simp; done) | (simp [go_sem]; done))
            go_wp2_with fail
            refine (sValid_any _ _ _ _ hfb hgb _).mono ?_
            rintro e w5 ⟨rfl, x5⟩
            have p5a0 := x5.box (b := w1.heap.size) (o := 0) (v := .int .i64 ia) (by first | assumption | (simp; done) | (simp [go_sem]; done))
            have p5a1 := x5.box (b := w1.heap.size) (o := 1) (v := .float .f64 fa) (by first | assumption | (simp; done) | (simp [go_sem]; done))
            have p5a2 := x5.box (b := w1.heap.size) (o := 2) (v := .float .f64 ga) (by first | assumption | (simp; done) | (simp [go_sem]; done))
            have p5b0 := x5.box (b := w1.heap.size + 1) (o := 0) (v := .int .i64 ib) (by first | assumption | (simp; done) | (simp [go_sem]; done))
            have p5b1 := x5.box (b := w1.heap.size + 1) (o := 1) (v := .float .f64 fb) (by first | assumption | (simp; done) | (simp [go_sem]; done))
            have p5b2 := x5.box (b := w1.heap.size + 1) (o := 2) (v := .float .f64 gb) (by first | assumption | (simp; done) | (simp [go_sem]; done))
            go_wp2_with fail
            refine (lwSame_any _ _ _ _ _ _ hfa hga hfb hgb _).mono ?_
            rintro e w6 ⟨rfl, x6⟩
            have p6a0 := x6.box (b := w1.heap.size) (o := 0) (v := .int .i64 ia) (by first | assumption | (simp; done) | (simp [go_sem]; done))
            have p6a1 := x6.box (b := w1.heap.size) (o := 1) (v := .float .f64 fa) (by first | assumption | (simp; done) | (simp [go_sem]; done))
            have p6a2 := x6.box (b := w1.heap.size) (o := 2) (v := .float .f64 ga) (by first | assumption | (simp; done) | (simp [go_sem]; done))
            have p6b0 := x6.box (b := w1.heap.size + 1) (o := 0) (v := .int .i64 ib) (by first | assumption | (simp; done) | (simp [go_sem]; done))
            have p6b1 := x6.box (b := w1.heap.size + 1) (o := 1) (v := .float .f64 fb) (by first | assumption | (simp; done) | (simp [go_sem]; done))
            have p6b2 := x6.box (b := w1.heap.size + 1) (o := 2) (v := .float .f64 gb) (by first | assumption | (simp; done) | (simp [go_sem]; done))
            go_wp2_with fail
            refine (ap_mm5 _ _ _ _ _ _ _ hia hfa hga hib hfb hgb h8 va vb _).mono ?_
            rintro e w7 ⟨rfl, x7⟩
            have p7a0 := x7.box (b := w1.heap.size) (o := 0) (v := .int .i64 ia) (by first | assumption | (simp; done) | (simp [go_sem]; done))
            have p7a1 := x7.box (b := w1.heap.size) (o := 1) (v := .float .f64 fa) (by first | assumption | (simp; done) | (simp [go_sem]; done))
            have p7a2 := x7.box (b := w1.heap.size) (o := 2) (v := .float .f64 ga) (by first | assumption | (simp; done) | (simp [go_sem]; done))
            have p7b0 := x7.box (b := w1.heap.size + 1) (o := 0) (v := .int .i64 ib) (by first | assumption | (simp; done) | (simp [go_sem]; done))
            have p7b1 := x7.box (b := w1.heap.size + 1) (o := 1) (v := .float .f64 fb) (by first | assumption | (simp; done) | (simp [go_sem]; done))
            have p7b2 := x7.box (b := w1.heap.size + 1) (o := 2) (v := .float .f64 gb) (by first | assumption | (simp; done) | (simp [go_sem]; done))
            have y7 := (Ext.refl w7).alloc #[.int .i64 0, .int .i64 dt, .int .i64 (mI 5 dt ia ib), .float .f64 (mF 5 dt fa fb), .float .f64 0] 38
            have r7a0 := y7.box p7a0
            have r7a1 := y7.box p7a1
            have r7a2 := y7.box p7a2
            have r7b0 := y7.box p7b0
            have r7b1 := y7.box p7b1
            have r7b2 := y7.box p7b2
            go_wp2_with fail
            refine (ap_mm6 _ _ _ _ _ _ _ hia hfa hga hib hfb hgb h8 va vb _).mono ?_
            rintro e w8 ⟨rfl, x8⟩
            have p8a0 := x8.box (b := w1.heap.size) (o := 0) (v := .int .i64 ia) (by first | assumption | (simp; done) | (simp [go_sem]; done))
            have p8a1 := x8.box (b := w1.heap.size) (o := 1) (v := .float .f64 fa) (by first | assumption | (simp; done) | (simp [go_sem]; done))
            have p8a2 := x8.box (b := w1.heap.size) (o := 2) (v := .float .f64 ga) (by first | assumption | (simp; done) | (simp [go_sem]; done))
            have p8b0 := x8.box (b := w1.heap.size + 1) (o := 0) (v := .int .i64 ib) (by first | assumption | (simp; done) | (simp [go_sem]; done))
            have p8b1 := x8.box (b := w1.heap.size + 1) (o := 1) (v := .float .f64 fb) (by first | assumption | (simp; done) | (simp [go_sem]; done))
            have p8b2 := x8.box (b := w1.heap.size + 1) (o := 2) (v := .float .f64 gb) (by first | assumption | (simp; done) | (simp [go_sem]; done))
            have p8l0 := x8.box (b := w7.heap.size) (o := 0) (v := .int .i64 0) (by first | assumption | (simp; done) | (simp [go_sem]; done))
            have p8l1 := x8.box (b := w7.heap.size) (o := 1) (v := .int .i64 dt) (by first | assumption | (simp; done) | (simp [go_sem]; done))
            have p8l2 := x8.box (b := w7.heap.size) (o := 2) (v := .int .i64 (mI 5 dt ia ib)) (by first | assumption | (simp; done) | (simp [go_sem]; done))
            have p8l3 := x8.box (b := w7.heap.size) (o := 3) (v := .float .f64 (mF 5 dt fa fb)) (by first | assumption | (simp; done) | (simp [go_sem]; done))
            have p8l4 := x8.box (b := w7.heap.size) (o := 4) (v := .float .f64 0) (by first | assumption | (simp; done) | (simp [go_sem]; done))
            have y8 := (Ext.refl w8).alloc #[.int .i64 0, .int .i64 dt, .int .i64 (mI 6 dt ia ib), .float .f64 (mF 6 dt fa fb), .float .f64 0] 38
            have r8a0 := y8.box p8a0
            have r8a1 := y8.box p8a1
            have r8a2 := y8.box p8a2
            have r8b0 := y8.box p8b0
            have r8b1 := y8.box p8b1
            have r8b2 := y8.box p8b2
            have r8l0 := y8.box p8l0
            have r8l1 := y8.box p8l1
            have r8l2 := y8.box p8l2
            have r8l3 := y8.box p8l3
            have r8l4 := y8.box p8l4
            go_wp2_with fail
            refine (lwSame_any _ _ _ _ _ _ (mF_lt 5 dt _ _ hfa hfb) (by unfold B64; omega) hfa hga _).mono ?_
            rintro e w9 ⟨rfl, x9⟩
            have p9a0 := x9.box (b := w1.heap.size) (o := 0) (v := .int .i64 ia) (by first | assumption | (simp; done) | (simp [go_sem]; done))
            have p9a1 := x9.box (b := w1.heap.size) (o := 1) (v := .float .f64 fa) (by first | assumption | (simp; done) | (simp [go_sem]; done))
            have p9a2 := x9.box (b := w1.heap.size) (o := 2) (v := .float .f64 ga) (by first | assumption | (simp; done) | (simp [go_sem]; done))
            have p9b0 := x9.box (b := w1.heap.size + 1) (o := 0) (v := .int .i64 ib) (by first | assumption | (simp; done) | (simp [go_sem]; done))
            have p9b1 := x9.box (b := w1.heap.size + 1) (o := 1) (v := .float .f64 fb) (by first | assumption | (simp; done) | (simp [go_sem]; done))
            have p9b2 := x9.box (b := w1.heap.size + 1) (o := 2) (v := .float .f64 gb) (by first | assumption | (simp; done) | (simp [go_sem]; done))
            have p9l0 := x9.box (b := w7.heap.size) (o := 0) (v := .int .i64 0) (by first | assumption | (simp; done) | (simp [go_sem]; done))
            have p9l1 := x9.box (b := w7.heap.size) (o := 1) (v := .int .i64 dt) (by first | assumption | (simp; done) | (simp [go_sem]; done))
            have p9l2 := x9.box (b := w7.heap.size) (o := 2) (v := .int .i64 (mI 5 dt ia ib)) (by first | assumption | (simp; done) | (simp [go_sem]; done))
            have p9l3 := x9.box (b := w7.heap.size) (o := 3) (v := .float .f64 (mF 5 dt fa fb)) (by first | assumption | (simp; done) | (simp [go_sem]; done))
            have p9l4 := x9.box (b := w7.heap.size) (o := 4) (v := .float .f64 0) (by first | assumption | (simp; done) | (simp [go_sem]; done))
            have p9h0 := x9.box (b := w8.heap.size) (o := 0) (v := .int .i64 0) (by first | assumption | (simp; done) | (simp [go_sem]; done))
            have p9h1 := x9.box (b := w8.heap.size) (o := 1) (v := .int .i64 dt) (by first | assumption | (simp; done) | (simp [go_sem]; done))
            have p9h2 := x9.box (b := w8.heap.size) (o := 2) (v := .int .i64 (mI 6 dt ia ib)) (by first | assumption | (simp; done) | (simp [go_sem]; done))
            have p9h3 := x9.box (b := w8.heap.size) (o := 3) (v := .float .f64 (mF 6 dt fa fb)) (by first | assumption | (simp; done) | (simp [go_sem]; done))
            have p9h4 := x9.box (b := w8.heap.size) (o := 4) (v := .float .f64 0) (by first | assumption | (simp; done) | (simp [go_sem]; done))
            go_wp2_with fail
            refine (lwSame_any _ _ _ _ _ _ (mF_lt 6 dt _ _ hfa hfb) (by unfold B64; omega) hfb hgb _).mono ?_
            rintro e w10 ⟨rfl, x10⟩
            go_wp2
            go_ret
            exact ⟨rfl, below_ext HB.out (by repeat (first | with_reducible exact Ext.refl _ | with_reducible refine Ext.setCell ?_ (by simp; try omega) _ | with_reducible apply Ext.drewN | with_reducible apply Ext.drew | with_reducible apply Ext.alloc | refine Ext.trans ?_ (by assumption)))⟩
          · obtain ⟨s1, s2⟩ := ms.1 b2
            clear ms nn hn
            have h9 : dt ≠ 9 := by omega
            go_wp2_with fail
            refine (iBefore_any _ _ _ _ _ _ _ hia hfa hga hib hfb hgb _).mono ?_
            rintro e w2 ⟨rfl, x2⟩
            have p2a0 := x2.box (b := w1.heap.size) (o := 0) (v := .int .i64 ia) (by first | assumption | (simp; done) | (simp [go_sem]; done))
            have p2a1 := x2.box (b := w1.heap.size) (o := 1) (v := .float .f64 fa) (by first | assumption | (simp; done) | (simp [go_sem]; done))
            have p2a2 := x2.box (b := w1.heap.size) (o := 2) (v := .float .f64 ga) (by first | assumption | (simp; done) | (simp [go_sem]; done))
            have p2b0 := x2.box (b := w1.heap.size + 1) (o := 0) (v := .int .i64 ib) (by first | assumption | (simp; done) | (simp [go_sem]; done))
            have p2b1 := x2.box (b := w1.heap.size + 1) (o := 1) (v := .float .f64 fb) (by first | assumption | (simp; done) | (simp [go_sem]; done))
            have p2b2 := x2.box (b := w1.heap.size + 1) (o := 2) (v := .float .f64 gb) (by first | assumption | (simp; done) | (simp [go_sem]; done))
            go_wp2_with fail
            refine (iBefore_any _ _ _ _ _ _ _ hib hfb hgb hia hfa hga _).mono ?_
            rintro e w3 ⟨rfl, x3⟩
            have p3a0 := x3.box (b := w1.heap.size) (o := 0) (v := .int .i64 ia) (by first | assumption | (simp; done) | (simp [go_sem]; done))
            have p3a1 := x3.box (b := w1.heap.size) (o := 1) (v := .float .f64 fa) (by first | assumption | (simp; done) | (simp [go_sem]; done))
            have p3a2 := x3.box (b := w1.heap.size) (o := 2) (v := .float .f64 ga) (by first | assumption | (simp; done) | (simp [go_sem]; done))
            have p3b0 := x3.box (b := w1.heap.size + 1) (o := 0) (v := .int .i64 ib) (by first | assumption | (simp; done) | (simp [go_sem]; done))
            have p3b1 := x3.box (b := w1.heap.size + 1) (o := 1) (v := .float .f64 fb) (by first | assumption | (simp; done) | (simp [go_sem]; done))
            have p3b2 := x3.box (b := w1.heap.size + 1) (o := 2) (v := .float .f64 gb) (by first | assumption | (simp; done) | (simp [go_sem]; done))
            go_wp2_with fail
            refine (sValid_any _ _ _ _ hfa hga _).mono ?_
            rintro e w4 ⟨rfl, x4⟩
            have p4a0 := x4.box (b := w1.heap.size) (o := 0) (v := .int .i64 ia) (by first | assumption | (simp; done) | (simp [go_sem]; done))
            have p4a1 := x4.box (b := w1.heap.size) (o := 1) (v := .float .f64 fa) (by first | assumption | (simp; done) | (simp [go_sem]; done))
            have p4a2 := x4.box (b := w1.heap.size) (o := 2) (v := .float .f64 ga) (by first | assumption | (simp; done) | (simp [go_sem]; done))
            have p4b0 := x4.box (b := w1.heap.size + 1) (o := 0) (v := .int .i64 ib) (by first | assumption | (simp; done) | (simp [go_sem]; done))
            have p4b1 := x4.box (b := w1.heap.size + 1) (o := 1) (v := .float .f64 fb) (by first | assumption | (simp; done) | (simp [go_sem]; done))
            have p4b2 := x4.box (b := w1.heap.size + 1) (o := 2) (v := .float .f64 gb) (by first | assumption | (simp; done) | (simp [go_sem]; done))
            go_wp2_with fail
            refine (sValid_any _ _ _ _ hfb hgb _).mono ?_
            rintro e w5 ⟨rfl, x5⟩
            have p5a0 := x5.box (b := w1.heap.size) (o := 0) (v := .int .i64 ia) (by first | assumption | (simp; done) | (simp [go_sem]; done))
            have p5a1 := x5.box (b := w1.heap.size) (o := 1) (v := .float .f64 fa) (by first | assumption | (simp; done) | (simp [go_sem]; done))
            have p5a2 := x5.box (b := w1.heap.size) (o := 2) (v := .float .f64 ga) (by first | assumption | (simp; done) | (simp [go_sem]; done))
            have p5b0 := x5.box (b := w1.heap.size + 1) (o := 0) (v := .int .i64 ib) (by first | assumption | (simp; done) | (simp [go_sem]; done))
            have p5b1 := x5.box (b := w1.heap.size + 1) (o := 1) (v := .float .f64 fb) (by first | assumption | (simp; done) | (simp [go_sem]; done))
            have p5b2 := x5.box (b := w1.heap.size + 1) (o := 2) (v := .float .f64 gb) (by first | assumption | (simp; done) | (simp [go_sem]; done))
            go_wp2_with fail
            refine (lwSame_any _ _ _ _ _ _ hfa hga hfb hgb _).mono ?_
            rintro e w6 ⟨rfl, x6⟩
            have p6a0 := x6.box (b := w1.heap.size) (o := 0) (v := .int .i64 ia) (by first | assumption | (simp; done) | (simp [go_sem]; done))
            have p6a1 := x6.box (b := w1.heap.size) (o := 1) (v := .float .f64 fa) (by first | assumption | (simp; done) | (simp [go_sem]; done))
            have p6a2 := x6.box (b := w1.heap.size) (o := 2) (v := .float .f64 ga) (by first | assumption | (simp; done) | (simp [go_sem]; done))
            have p6b0 := x6.box (b := w1.heap.size + 1) (o := 0) (v := .int .i64 ib) (by first | assumption | (simp; done) | (simp [go_sem]; done))
            have p6b1 := x6.box (b := w1.heap.size + 1) (o := 1) (v := .float .f64 fb) (by first | assumption | (simp; done) | (simp [go_sem]; done))
            have p6b2 := x6.box (b := w1.heap.size + 1) (o := 2) (v := .float .f64 gb) (by first | assumption | (simp; done) | (simp [go_sem]; done))
            go_wp2_with fail
            refine (ap_mm5 _ _ _ _ _ _ _ hia hfa hga hib hfb hgb h8 va vb _).mono ?_
            rintro e w7 ⟨rfl, x7⟩
            have p7a0 := x7.box (b := w1.heap.size) (o := 0) (v := .int .i64 ia) (by first | assumption | (simp; done) | (simp [go_sem]; done))
            have p7a1 := x7.box (b := w1.heap.size) (o := 1) (v := .float .f64 fa) (by first | assumption | (simp; done) | (simp [go_sem]; done))
            have p7a2 := x7.box (b := w1.heap.size) (o := 2) (v := .float .f64 ga) (by first | assumption | (simp; done) | (simp [go_sem]; done))
            have p7b0 := x7.box (b := w1.heap.size + 1) (o := 0) (v := .int .i64 ib) (by first | assumption | (simp; done) | (simp [go_sem]; done))
            have p7b1 := x7.box (b := w1.heap.size + 1) (o := 1) (v := .float .f64 fb) (by first | assumption | (simp; done) | (simp [go_sem]; done))
            have p7b2 := x7.box (b := w1.heap.size + 1) (o := 2) (v := .float .f64 gb) (by first | assumption | (simp; done) | (simp [go_sem]; done))
            have y7 := (Ext.refl w7).alloc #[.int .i64 0, .int .i64 dt, .int .i64 (mI 5 dt ia ib), .float .f64 (mF 5 dt fa fb), .float .f64 0] 38
            have r7a0 := y7.box p7a0
            have r7a1 := y7.box p7a1
            have r7a2 := y7.box p7a2
            have r7b0 := y7.box p7b0
            have r7b1 := y7.box p7b1
            have r7b2 := y7.box p7b2
            go_wp2_with fail
            refine (ap_mm6 _ _ _ _ _ _ _ hia hfa hga hib hfb hgb h8 va vb _).mono ?_
            rintro e w8 ⟨rfl, x8⟩
            have p8a0 := x8.box (b := w1.heap.size) (o := 0) (v := .int .i64 ia) (by first | assumption | (simp; done) | (simp [go_sem]; done))
            have p8a1 := x8.box (b := w1.heap.size) (o := 1) (v := .float .f64 fa) (by first | assumption | (simp; done) | (simp [go_sem]; done))
            have p8a2 := x8.box (b := w1.heap.size) (o := 2) (v := .float .f64 ga) (by first | assumption | (simp; done) | (simp [go_sem]; done))
            have p8b0 := x8.box (b := w1.heap.size + 1) (o := 0) (v := .int .i64 ib) (by first | assumption | (simp; done) | (simp [go_sem]; done))
            have p8b1 := x8.box (b := w1.heap.size + 1) (o := 1) (v := .float .f64 fb) (by first | assumption | (simp; done) | (simp [go_sem]; done))
            have p8b2 := x8.box (b := w1.heap.size + 1) (o := 2) (v := .float .f64 gb) (by first | assumption | (simp; done) | (simp [go_sem]; done))
            have p8l0 := x8.box (b := w7.heap.size) (o := 0) (v := .int .i64 0) (by first | assumption | (simp; done) | (simp [go_sem]; done))
            have p8l1 := x8.box (b := w7.heap.size) (o := 1) (v := .int .i64 dt) (by first | assumption | (simp; done) | (simp [go_sem]; done))
            have p8l2 := x8.box (b := w7.heap.size) (o := 2) (v := .int .i64 (mI 5 dt ia ib)) (by first | assumption | (simp; done) | (simp [go_sem]; done))
            have p8l3 := x8.box (b := w7.heap.size) (o := 3) (v := .float .f64 (mF 5 dt fa fb)) (by first | assumption | (simp; done) | (simp [go_sem]; done))
            have p8l4 := x8.box (b := w7.heap.size) (o := 4) (v := .float .f64 0) (by first | assumption | (simp; done) | (simp [go_sem]; done))
            have y8 := (Ext.refl w8).alloc #[.int .i64 0, .int .i64 dt, .int .i64 (mI 6 dt ia ib), .float .f64 (mF 6 dt fa fb), .float .f64 0] 38
            have r8a0 := y8.box p8a0
            have r8a1 := y8.box p8a1
            have r8a2 := y8.box p8a2
            have r8b0 := y8.box p8b0
            have r8b1 := y8.box p8b1
            have r8b2 := y8.box p8b2
            have r8l0 := y8.box p8l0
            have r8l1 := y8.box p8l1
            have r8l2 := y8.box p8l2
            have r8l3 := y8.box p8l3
            have r8l4 := y8.box p8l4
            go_wp2_with fail
            refine (lwSame_any _ _ _ _ _ _ (mF_lt 5 dt _ _ hfa hfb) (by unfold B64; omega) hfb hgb _).mono ?_
            rintro e w9 ⟨rfl, x9⟩
            have p9a0 := x9.box (b := w1.heap.size) (o := 0) (v := .int .i64 ia) (by first | assumption | (simp; done) | (simp [go_sem]; done))
            have p9a1 := x9.box (b := w1.heap.size) (o := 1) (v := .float .f64 fa) (by first | assumption | (simp; done) | (simp [go_sem]; done))
            have p9a2 := x9.box (b := w1.heap.size) (o := 2) (v := .float .f64 ga) (by first | assumption | (simp; done) | (simp [go_sem]; done))
            have p9b0 := x9.box (b := w1.heap.size + 1) (o := 0) (v := .int .i64 ib) (by first | assumption | (simp; done) | (simp [go_sem]; done))
            have p9b1 := x9.box (b := w1.heap.size + 1) (o := 1) (v := .float .f64 fb) (by first | assumption | (simp; done) | (simp [go_sem]; done))
            have p9b2 := x9.box (b := w1.heap.size + 1) (o := 2) (v := .float .f64 gb) (by first | assumption | (simp; done) | (simp [go_sem]; done))
            have p9l0 := x9.box (b := w7.heap.size) (o := 0) (v := .int .i64 0) (by first | assumption | (simp; done) | (simp [go_sem]; done))
            have p9l1 := x9.box (b := w7.heap.size) (o := 1) (v := .int .i64 dt) (by first | assumption | (simp; done) | (simp [go_sem]; done))
            have p9l2 := x9.box (b := w7.heap.size) (o := 2) (v := .int .i64 (mI 5 dt ia ib)) (by first | assumption | (simp; done) | (simp [go_sem]; done))
            have p9l3 := x9.box (b := w7.heap.size) (o := 3) (v := .float .f64 (mF 5 dt fa fb)) (by first | assumption | (simp; done) | (simp [go_sem]; done))
            have p9l4 := x9.box (b := w7.heap.size) (o := 4) (v := .float .f64 0) (by first | assumption | (simp; done) | (simp [go_sem]; done))
            have p9h0 := x9.box (b := w8.heap.size) (o := 0) (v := .int .i64 0) (by first | assumption | (simp; done) | (simp [go_sem]; done))
            have p9h1 := x9.box (b := w8.heap.size) (o := 1) (v := .int .i64 dt) (by first | assumption | (simp; done) | (simp [go_sem]; done))
            have p9h2 := x9.box (b := w8.heap.size) (o := 2) (v := .int .i64 (mI 6 dt ia ib)) (by first | assumption | (simp; done) | (simp [go_sem]; done))
            have p9h3 := x9.box (b := w8.heap.size) (o := 3) (v := .float .f64 (mF 6 dt fa fb)) (by first | assumption | (simp; done) | (simp [go_sem]; done))
            have p9h4 := x9.box (b := w8.heap.size) (o := 4) (v := .float .f64 0) (by first | assumption | (simp; done) | (simp [go_sem]; done))
            go_wp2_with fail
            refine (lwSame_any _ _ _ _ _ _ (mF_lt 6 dt _ _ hfa hfb) (by unfold B64; omega) hfa hga _).mono ?_
            rintro e w10 ⟨rfl, x10⟩
            go_wp2
            go_ret
            exact ⟨rfl, below_ext HB.out (by repeat (first | with_reducible exact Ext.refl _ | with_reducible refine Ext.setCell ?_ (by simp; try omega) _ | with_reducible apply Ext.drewN | with_reducible apply Ext.drew | with_reducible apply Ext.alloc | refine Ext.trans ?_ (by assumption)))⟩
          · obtain ⟨s1, s2⟩ := ms.2 b2
            clear ms nn hn
            have h9 : dt ≠ 9 := by omega
            go_wp2_with fail
            refine (iBefore_any _ _ _ _ _ _ _ hia hfa hga hib hfb hgb _).mono ?_
            rintro e w2 ⟨rfl, x2⟩
            have p2a0 := x2.box (b := w1.heap.size) (o := 0) (v := .int .i64 ia) (by first | assumption | (simp; done) | (simp [go_sem]; done))
            have p2a1 := x2.box (b := w1.heap.size) (o := 1) (v := .float .f64 fa) (by first | assumption | (simp; done) | (simp [go_sem]; done))
            have p2a2 := x2.box (b := w1.heap.size) (o := 2) (v := .float .f64 ga) (by first | assumption | (simp; done) | (simp [go_sem]; done))
            have p2b0 := x2.box (b := w1.heap.size + 1) (o := 0) (v := .int .i64 ib) (by first | assumption | (simp; done) | (simp [go_sem]; done))
            have p2b1 := x2.box (b := w1.heap.size + 1) (o := 1) (v := .float .f64 fb) (by first | assumption | (simp; done) | (simp [go_sem]; done))
            have p2b2 := x2.box (b := w1.heap.size + 1) (o := 2) (v := .float .f64 gb) (by first | assumption | (simp; done) | (simp [go_sem]; done))
            go_wp2_with fail
            refine (iBefore_any _ _ _ _ _ _ _ hib hfb hgb hia hfa hga _).mono ?_
            rintro e w3 ⟨rfl, x3⟩
            have p3a0 := x3.box (b := w1.heap.size) (o := 0) (v := .int .i64 ia) (by first | assumption | (simp; done) | (simp [go_sem]; done))
            have p3a1 := x3.box (b := w1.heap.size) (o := 1) (v := .float .f64 fa) (by first | assumption | (simp; done) | (simp [go_sem]; done))
            have p3a2 := x3.box (b := w1.heap.size) (o := 2) (v := .float .f64 ga) (by first | assumption | (simp; done) | (simp [go_sem]; done))
            have p3b0 := x3.box (b := w1.heap.size + 1) (o := 0) (v := .int .i64 ib) (by first | assumption | (simp; done) | (simp [go_sem]; done))
            have p3b1 := x3.box (b := w1.heap.size + 1) (o := 1) (v := .float .f64 fb) (by first | assumption | (simp; done) | (simp [go_sem]; done))
            have p3b2 := x3.box (b := w1.heap.size + 1) (o := 2) (v := .float .f64 gb) (by first | assumption | (simp; done) | (simp [go_sem]; done))
            go_wp2_with fail
            refine (sValid_any _ _ _ _ hfa hga _).mono ?_
            rintro e w4 ⟨rfl, x4⟩
            have p4a0 := x4.box (b := w1.heap.size) (o := 0) (v := .int .i64 ia) (by first | assumption | (simp; done) | (simp [go_sem]; done))
            have p4a1 := x4.box (b := w1.heap.size) (o := 1) (v := .float .f64 fa) (by first | assumption | (simp; done) | (simp [go_sem]; done))
            have p4a2 := x4.box (b := w1.heap.size) (o := 2) (v := .float .f64 ga) (by first | assumption | (simp; done) | (simp [go_sem]; done))
            have p4b0 := x4.box (b := w1.heap.size + 1) (o := 0) (v := .int .i64 ib) (by first | assumption | (simp; done) | (simp [go_sem]; done))
            have p4b1 := x4.box (b := w1.heap.size + 1) (o := 1) (v := .float .f64 fb) (by first | assumption | (simp; done) | (simp [go_sem]; done))
            have p4b2 := x4.box (b := w1.heap.size + 1) (o := 2) (v := .float .f64 gb) (by first | assumption | (simp; done) | (simp [go_sem]; done))
            go_wp2_with fail
            refine (sValid_any _ _ _ _ hfb hgb _).mono ?_
            rintro e w5 ⟨rfl, x5⟩
            have p5a0 := x5.box (b := w1.heap.size) (o := 0) (v := .int .i64 ia) (by first | assumption | (simp; done) | (simp [go_sem]; done))
            have p5a1 := x5.box (b := w1.heap.size) (o := 1) (v := .float .f64 fa) (by first | assumption | (simp; done) | (simp [go_sem]; done))
            have p5a2 := x5.box (b := w1.heap.size) (o := 2) (v := .float .f64 ga) (by first | assumption | (simp; done) | (simp [go_sem]; done))
            have p5b0 := x5.box (b := w1.heap.size + 1) (o := 0) (v := .int .i64 ib) (by first | assumption | (simp; done) | (simp [go_sem]; done))
            have p5b1 := x5.box (b := w1.heap.size + 1) (o := 1) (v := .float .f64 fb) (by first | assumption | (simp; done) | (simp [go_sem]; done))
            have p5b2 := x5.box (b := w1.heap.size + 1) (o := 2) (v := .float .f64 gb) (by first | assumption | (simp; done) | (simp [go_sem]; done))
            go_wp2_with fail
            refine (lwSame_any _ _ _ _ _ _ hfa hga hfb hgb _).mono ?_
            rintro e w6 ⟨rfl, x6⟩
            have p6a0 := x6.box (b := w1.heap.size) (o := 0) (v := .int .i64 ia) (by first | assumption | (simp; done) | (simp [go_sem]; done))
            have p6a1 := x6.box (b := w1.heap.size) (o := 1) (v := .float .f64 fa) (by first | assumption | (simp; done) | (simp [go_sem]; done))
            have p6a2 := x6.box (b := w1.heap.size) (o := 2) (v := .float .f64 ga) (by first | assumption | (simp; done) | (simp [go_sem]; done))
            have p6b0 := x6.box (b := w1.heap.size + 1) (o := 0) (v := .int .i64 ib) (by first | assumption | (simp; done) | (simp [go_sem]; done))
            have p6b1 := x6.box (b := w1.heap.size + 1) (o := 1) (v := .float .f64 fb) (by first | assumption | (simp; done) | (simp [go_sem]; done))
            have p6b2 := x6.box (b := w1.heap.size + 1) (o := 2) (v := .float .f64 gb) (by first | assumption | (simp; done) | (simp [go_sem]; done))
            go_wp2_with fail
            refine (ap_mm5 _ _ _ _ _ _ _ hia hfa hga hib hfb hgb h8 va vb _).mono ?_
            rintro e w7 ⟨rfl, x7⟩
            have p7a0 := x7.box (b := w1.heap.size) (o := 0) (v := .int .i64 ia) (by first | assumption | (simp; done) | (simp [go_sem]; done))
            have p7a1 := x7.box (b := w1.heap.size) (o := 1) (v := .float .f64 fa) (by first | assumption | (simp; done) | (simp [go_sem]; done))
            have p7a2 := x7.box (b := w1.heap.size) (o := 2) (v := .float .f64 ga) (by first | assumption | (simp; done) | (simp [go_sem]; done))
            have p7b0 := x7.box (b := w1.heap.size + 1) (o := 0) (v := .int .i64 ib) (by first | assumption | (simp; done) | (simp [go_sem]; done))
            have p7b1 := x7.box (b := w1.heap.size + 1) (o := 1) (v := .float .f64 fb) (by first | assumption | (simp; done) | (simp [go_sem]; done))
            have p7b2 := x7.box (b := w1.heap.size + 1) (o := 2) (v := .float .f64 gb) (by first | assumption | (simp; done) | (simp [go_sem]; done))
            have y7 := (Ext.refl w7).alloc #[.int .i64 0, .int .i64 dt, .int .i64 (mI 5 dt ia ib), .float .f64 (mF 5 dt fa fb), .float .f64 0] 38
            have r7a0 := y7.box p7a0
            have r7a1 := y7.box p7a1
            have r7a2 := y7.box p7a2
            have r7b0 := y7.box p7b0
            have r7b1 := y7.box p7b1
            have r7b2 := y7.box p7b2
            go_wp2_with fail
            refine (ap_mm6 _ _ _ _ _ _ _ hia hfa hga hib hfb hgb h8 va vb _).mono ?_
            rintro e w8 ⟨rfl, x8⟩
            have p8a0 := x8.box (b := w1.heap.size) (o := 0) (v := .int .i64 ia) (by first | assumption | (simp; done) | (simp [go_sem]; done))
            have p8a1 := x8.box (b := w1.heap.size) (o := 1) (v := .float .f64 fa) (by first | assumption | (simp; done) | (simp [go_sem]; done))
            have p8a2 := x8.box (b := w1.heap.size) (o := 2) (v := .float .f64 ga) (by first | assumption | (simp; done) | (simp [go_sem]; done))
            have p8b0 := x8.box (b := w1.heap.size + 1) (o := 0) (v := .int .i64 ib) (by first | assumption | (simp; done) | (simp [go_sem]; done))
            have p8b1 := x8.box (b := w1.heap.size + 1) (o := 1) (v := .float .f64 fb) (by first | assumption | (simp; done) | (simp [go_sem]; done))
            have p8b2 := x8.box (b := w1.heap.size + 1) (o := 2) (v := .float .f64 gb) (by first | assumption | (simp; done) | (simp [go_sem]; done))
            have p8l0 := x8.box (b := w7.heap.size) (o := 0) (v := .int .i64 0) (by first | assumption | (simp; done) | (simp [go_sem]; done))
            have p8l1 := x8.box (b := w7.heap.size) (o := 1) (v := .int .i64 dt) (by first | assumption | (simp; done) | (simp [go_sem]; done))
            have p8l2 := x8.box (b := w7.heap.size) (o := 2) (v := .int .i64 (mI 5 dt ia ib)) (by first | assumption | (simp; done) | (simp [go_sem]; done))
            have p8l3 := x8.box (b := w7.heap.size) (o := 3) (v := .float .f64 (mF 5 dt fa fb)) (by first | assumption | (simp; done) | (simp [go_sem]; done))
            have p8l4 := x8.box (b := w7.heap.size) (o := 4) (v := .float .f64 0) (by first | assumption | (simp; done) | (simp [go_sem]; done))
            have y8 := (Ext.refl w8).alloc #[.int .i64 0, .int .i64 dt, .int .i64 (mI 6 dt ia ib), .float .f64 (mF 6 dt fa fb), .float .f64 0] 38
            have r8a0 := y8.box p8a0
            have r8a1 := y8.box p8a1
            have r8a2 := y8.box p8a2
            have r8b0 := y8.box p8b0
            have r8b1 := y8.box p8b1
            have r8b2 := y8.box p8b2
            have r8l0 := y8.box p8l0
            have r8l1 := y8.box p8l1
            have r8l2 := y8.box p8l2
            have r8l3 := y8.box p8l3
            have r8l4 := y8.box p8l4
            go_wp2_with fail
            refine (lwSame_any _ _ _ _ _ _ (mF_lt 5 dt _ _ hfa hfb) (by unfold B64; omega) hfa hga _).mono ?_
            rintro e w9 ⟨rfl, x9⟩
            have p9a0 := x9.box (b := w1.heap.size) (o := 0) (v := .int .i64 ia) (by first | assumption | (simp; done) | (simp [go_sem]; done))
            have p9a1 := x9.box (b := w1.heap.size) (o := 1) (v := .float .f64 fa) (by first | assumption | (simp; done) | (simp [go_sem]; done))
            have p9a2 := x9.box (b := w1.heap.size) (o := 2) (v := .float .f64 ga) (by first | assumption | (simp; done) | (simp [go_sem]; done))
            have p9b0 := x9.box (b := w1.heap.size + 1) (o := 0) (v := .int .i64 ib) (by first | assumption | (simp; done) | (simp [go_sem]; done))
            have p9b1 := x9.box (b := w1.heap.size + 1) (o := 1) (v := .float .f64 fb) (by first | assumption | (simp; done) | (simp [go_sem]; done))
            have p9b2 := x9.box (b := w1.heap.size + 1) (o := 2) (v := .float .f64 gb) (by first | assumption | (simp; done) | (simp [go_sem]; done))
            have p9l0 := x9.box (b := w7.heap.size) (o := 0) (v := .int .i64 0) (by first | assumption | (simp; done) | (simp [go_sem]; done))
            have p9l1 := x9.box (b := w7.heap.size) (o := 1) (v := .int .i64 dt) (by first | assumption | (simp; done) | (simp [go_sem]; done))
            have p9l2 := x9.box (b := w7.heap.size) (o := 2) (v := .int .i64 (mI 5 dt ia ib)) (by first | assumption | (simp; done) | (simp [go_sem]; done))
            have p9l3 := x9.box (b := w7.heap.size) (o := 3) (v := .float .f64 (mF 5 dt fa fb)) (by first | assumption | (simp; done) | (simp [go_sem]; done))
            have p9l4 := x9.box (b := w7.heap.size) (o := 4) (v := .float .f64 0) (by first | assumption | (simp; done) | (simp [go_sem]; done))
            have p9h0 := x9.box (b := w8.heap.size) (o := 0) (v := .int .i64 0) (by first | assumption | (simp; done) | (simp [go_sem]; done))
            have p9h1 := x9.box (b := w8.heap.size) (o := 1) (v := .int .i64 dt) (by first | assumption | (simp; done) | (simp [go_sem]; done))
            have p9h2 := x9.box (b := w8.heap.size) (o := 2) (v := .int .i64 (mI 6 dt ia ib)) (by first | assumption | (simp; done) | (simp [go_sem]; done))
            have p9h3 := x9.box (b := w8.heap.size) (o := 3) (v := .float .f64 (mF 6 dt fa fb)) (by first | assumption | (simp; done) | (simp [go_sem]; done))
            have p9h4 := x9.box (b := w8.heap.size) (o := 4) (v := .float .f64 0) (by first | assumption | (simp; done) | (simp [go_sem]; done))
            go_wp2_with fail
            refine (lwSame_any _ _ _ _ _ _ (mF_lt 6 dt _ _ hfa hfb) (by unfold B64; omega) hfb hgb _).mono ?_
            rintro e w10 ⟨rfl, x10⟩
            go_wp2
            go_ret
            exact ⟨rfl, below_ext HB.out (by repeat (first | with_reducible exact Ext.refl _ | with_reducible refine Ext.setCell ?_ (by simp; try omega) _ | with_reducible apply Ext.drewN | with_reducible apply Ext.drew | with_reducible apply Ext.alloc | refine Ext.trans ?_ (by assumption)))⟩
        · have h6 : ¬ dt ≤ 6 := fun h6 => by
            obtain ⟨_, _, rfl, rfl⟩ := valid_int _ _ _ _ va h6
            obtain ⟨_, _, rfl, rfl⟩ := valid_int _ _ _ _ vb h6
            revert hn; decide
          obtain ⟨m5, m6⟩ := mm_nan dt fa fb h6 hn
          have h9 : dt ≠ 9 := by omega
          have q : (!feq fa fa || !feq fb fb) = true := by rw [feq_self, feq_self]; simpa using hn
          rcases bef_tri dt ia ib fa ga fb gb hfa hga hfb hgb va vb with ⟨b1, b2, b3⟩ | ⟨b1, b2, b3⟩ | ⟨b1, b2, b3⟩
          all_goals
            cases q1 : feq fa fa <;> cases q2 : feq fb fb <;> first | (exfalso; rw [q1, q2] at q; exact absurd q (by decide)) | skip
          all_goals
            clear hn q
            go_wp2_with fail
            refine (iBefore_any _ _ _ _ _ _ _ hia hfa hga hib hfb hgb _).mono ?_
            rintro e w2 ⟨rfl, x2⟩
            have p2a0 := x2.box (b := w1.heap.size) (o := 0) (v := .int .i64 ia) (by first | assumption | (simp; done) | (simp [go_sem]; done))
            have p2a1 := x2.box (b := w1.heap.size) (o := 1) (v := .float .f64 fa) (by first | assumption | (simp; done) | (simp [go_sem]; done))
            have p2a2 := x2.box (b := w1.heap.size) (o := 2) (v := .float .f64 ga) (by first | assumption | (simp; done) | (simp [go_sem]; done))
            have p2b0 := x2.box (b := w1.heap.size + 1) (o := 0) (v := .int .i64 ib) (by first | assumption | (simp; done) | (simp [go_sem]; done))
            have p2b1 := x2.box (b := w1.heap.size + 1) (o := 1) (v := .float .f64 fb) (by first | assumption | (simp; done) | (simp [go_sem]; done))
            have p2b2 := x2.box (b := w1.heap.size + 1) (o := 2) (v := .float .f64 gb) (by first | assumption | (simp; done) | (simp [go_sem]; done))
            go_wp2_with fail
            refine (iBefore_any _ _ _ _ _ _ _ hib hfb hgb hia hfa hga _).mono ?_
            rintro e w3 ⟨rfl, x3⟩
            have p3a0 := x3.box (b := w1.heap.size) (o := 0) (v := .int .i64 ia) (by first | assumption | (simp; done) | (simp [go_sem]; done))
            have p3a1 := x3.box (b := w1.heap.size) (o := 1) (v := .float .f64 fa) (by first | assumption | (simp; done) | (simp [go_sem]; done))
            have p3a2 := x3.box (b := w1.heap.size) (o := 2) (v := .float .f64 ga) (by first | assumption | (simp; done) | (simp [go_sem]; done))
            have p3b0 := x3.box (b := w1.heap.size + 1) (o := 0) (v := .int .i64 ib) (by first | assumption | (simp; done) | (simp [go_sem]; done))
            have p3b1 := x3.box (b := w1.heap.size + 1) (o := 1) (v := .float .f64 fb) (by first | assumption | (simp; done) | (simp [go_sem]; done))
            have p3b2 := x3.box (b := w1.heap.size + 1) (o := 2) (v := .float .f64 gb) (by first | assumption | (simp; done) | (simp [go_sem]; done))
            go_wp2_with fail
            refine (sValid_any _ _ _ _ hfa hga _).mono ?_
            rintro e w4 ⟨rfl, x4⟩
            have p4a0 := x4.box (b := w1.heap.size) (o := 0) (v := .int .i64 ia) (by first | assumption | (simp; done) | (simp [go_sem]; done))
            have p4a1 := x4.box (b := w1.heap.size) (o := 1) (v := .float .f64 fa) (by first | assumption | (simp; done) | (simp [go_sem]; done))
            have p4a2 := x4.box (b := w1.heap.size) (o := 2) (v := .float .f64 ga) (by first | assumption | (simp; done) | (simp [go_sem]; done))
            have p4b0 := x4.box (b := w1.heap.size + 1) (o := 0) (v := .int .i64 ib) (by first | assumption | (simp; done) | (simp [go_sem]; done))
            have p4b1 := x4.box (b := w1.heap.size + 1) (o := 1) (v := .float .f64 fb) (by first | assumption | (simp; done) | (simp [go_sem]; done))
            have p4b2 := x4.box (b := w1.heap.size + 1) (o := 2) (v := .float .f64 gb) (by first | assumption | (simp; done) | (simp [go_sem]; done))
            go_wp2_with fail
            refine (sValid_any _ _ _ _ hfb hgb _).mono ?_
            rintro e w5 ⟨rfl, x5⟩
            have p5a0 := x5.box (b := w1.heap.size) (o := 0) (v := .int .i64 ia) (by first | assumption | (simp; done) | (simp [go_sem]; done))
            have p5a1 := x5.box (b := w1.heap.size) (o := 1) (v := .float .f64 fa) (by first | assumption | (simp; done) | (simp [go_sem]; done))
            have p5a2 := x5.box (b := w1.heap.size) (o := 2) (v := .float .f64 ga) (by first | assumption | (simp; done) | (simp [go_sem]; done))
            have p5b0 := x5.box (b := w1.heap.size + 1) (o := 0) (v := .int .i64 ib) (by first | assumption | (simp; done) | (simp [go_sem]; done))
            have p5b1 := x5.box (b := w1.heap.size + 1) (o := 1) (v := .float .f64 fb) (by first | assumption | (simp; done) | (simp [go_sem]; done))
            have p5b2 := x5.box (b := w1.heap.size + 1) (o := 2) (v := .float .f64 gb) (by first | assumption | (simp; done) | (simp [go_sem]; done))
            go_wp2_with fail
            refine (lwSame_any _ _ _ _ _ _ hfa hga hfb hgb _).mono ?_
            rintro e w6 ⟨rfl, x6⟩
            have p6a0 := x6.box (b := w1.heap.size) (o := 0) (v := .int .i64 ia) (by first | assumption | (simp; done) | (simp [go_sem]; done))
            have p6a1 := x6.box (b := w1.heap.size) (o := 1) (v := .float .f64 fa) (by first | assumption | (simp; done) | (simp [go_sem]; done))
            have p6a2 := x6.box (b := w1.heap.size) (o := 2) (v := .float .f64 ga) (by first | assumption | (simp; done) | (simp [go_sem]; done))
            have p6b0 := x6.box (b := w1.heap.size + 1) (o := 0) (v := .int .i64 ib) (by first | assumption | (simp; done) | (simp [go_sem]; done))
            have p6b1 := x6.box (b := w1.heap.size + 1) (o := 1) (v := .float .f64 fb) (by first | assumption | (simp; done) | (simp [go_sem]; done))
            have p6b2 := x6.box (b := w1.heap.size + 1) (o := 2) (v := .float .f64 gb) (by first | assumption | (simp; done) | (simp [go_sem]; done))
            go_wp2_with fail
            refine (ap_mm5 _ _ _ _ _ _ _ hia hfa hga hib hfb hgb h8 va vb _).mono ?_
            rintro e w7 ⟨rfl, x7⟩
            have p7a0 := x7.box (b := w1.heap.size) (o := 0) (v := .int .i64 ia) (by first | assumption | (simp; done) | (simp [go_sem]; done))
            have p7a1 := x7.box (b := w1.heap.size) (o := 1) (v := .float .f64 fa) (by first | assumption | (simp; done) | (simp [go_sem]; done))
            have p7a2 := x7.box (b := w1.heap.size) (o := 2) (v := .float .f64 ga) (by first | assumption | (simp; done) | (simp [go_sem]; done))
            have p7b0 := x7.box (b := w1.heap.size + 1) (o := 0) (v := .int .i64 ib) (by first | assumption | (simp; done) | (simp [go_sem]; done))
            have p7b1 := x7.box (b := w1.heap.size + 1) (o := 1) (v := .float .f64 fb) (by first | assumption | (simp; done) | (simp [go_sem]; done))
            have p7b2 := x7.box (b := w1.heap.size + 1) (o := 2) (v := .float .f64 gb) (by first | assumption | (simp; done) | (simp [go_sem]; done))
            have y7 := (Ext.refl w7).alloc #[.int .i64 0, .int .i64 dt, .int .i64 (mI 5 dt ia ib), .float .f64 (mF 5 dt fa fb), .float .f64 0] 38
            have r7a0 := y7.box p7a0
            have r7a1 := y7.box p7a1
            have r7a2 := y7.box p7a2
            have r7b0 := y7.box p7b0
            have r7b1 := y7.box p7b1
            have r7b2 := y7.box p7b2
            go_wp2_with fail
            refine (ap_mm6 _ _ _ _ _ _ _ hia hfa hga hib hfb hgb h8 va vb _).mono ?_
            rintro e w8 ⟨rfl, x8⟩
            have p8a0 := x8.box (b := w1.heap.size) (o := 0) (v := .int .i64 ia) (by first | assumption | (simp; done) | (simp [go_sem]; done))
            have p8a1 := x8.box (b := w1.heap.size) (o := 1) (v := .float .f64 fa) (by first | assumption | (simp; done) | (simp [go_sem]; done))
            have p8a2 := x8.box (b := w1.heap.size) (o := 2) (v := .float .f64 ga) (by first | assumption | (simp; done) | (simp [go_sem]; done))
            have p8b0 := x8.box (b := w1.heap.size + 1) (o := 0) (v := .int .i64 ib) (by first | assumption | (simp; done) | (simp [go_sem]; done))
            have p8b1 := x8.box (b := w1.heap.size + 1) (o := 1) (v := .float .f64 fb) (by first | assumption | (simp; done) | (simp [go_sem]; done))
            have p8b2 := x8.box (b := w1.heap.size + 1) (o := 2) (v := .float .f64 gb) (by first | assumption | (simp; done) | (simp [go_sem]; done))
            have p8l0 := x8.box (b := w7.heap.size) (o := 0) (v := .int .i64 0) (by first | assumption | (simp; done) | (simp [go_sem]; done))
            have p8l1 := x8.box (b := w7.heap.size) (o := 1) (v := .int .i64 dt) (by first | assumption | (simp; done) | (simp [go_sem]; done))
            have p8l2 := x8.box (b := w7.heap.size) (o := 2) (v := .int .i64 (mI 5 dt ia ib)) (by first | assumption | (simp; done) | (simp [go_sem]; done))
            have p8l3 := x8.box (b := w7.heap.size) (o := 3) (v := .float .f64 (mF 5 dt fa fb)) (by first | assumption | (simp; done) | (simp [go_sem]; done))
            have p8l4 := x8.box (b := w7.heap.size) (o := 4) (v := .float .f64 0) (by first | assumption | (simp; done) | (simp [go_sem]; done))
            have y8 := (Ext.refl w8).alloc #[.int .i64 0, .int .i64 dt, .int .i64 (mI 6 dt ia ib), .float .f64 (mF 6 dt fa fb), .float .f64 0] 38
            have r8a0 := y8.box p8a0
            have r8a1 := y8.box p8a1
            have r8a2 := y8.box p8a2
            have r8b0 := y8.box p8b0
            have r8b1 := y8.box p8b1
            have r8b2 := y8.box p8b2
            have r8l0 := y8.box p8l0
            have r8l1 := y8.box p8l1
            have r8l2 := y8.box p8l2
            have r8l3 := y8.box p8l3
            have r8l4 := y8.box p8l4
            go_wp2
            go_ret
            exact ⟨rfl, below_ext HB.out (by repeat (first | with_reducible exact Ext.refl _ | with_reducible refine Ext.setCell ?_ (by simp; try omega) _ | with_reducible apply Ext.drewN | with_reducible apply Ext.drew | with_reducible apply Ext.alloc | refine Ext.trans ?_ (by assumption)))⟩
      · obtain rfl : dt = 9 := by have := valid_dt _ _ _ _ va; omega
        rcases bef_tri 9 ia ib fa ga fb gb hfa hga hfb hgb va vb with ⟨b1, b2, b3⟩ | ⟨b1, b2, b3⟩ | ⟨b1, b2, b3⟩
        all_goals
          go_wp2_with fail
          refine (iBefore_any _ _ _ _ _ _ _ hia hfa hga hib hfb hgb _).mono ?_
          rintro e w2 ⟨rfl, x2⟩
          have p2a0 := x2.box (b := w1.heap.size) (o := 0) (v := .int .i64 ia) (by first | assumption | (simp; done) | (simp [go_sem]; done))
          have p2a1 := x2.box (b := w1.heap.size) (o := 1) (v := .float .f64 fa) (by first | assumption | (simp; done) | (simp [go_sem]; done))
          have p2a2 := x2.box (b := w1.heap.size) (o := 2) (v := .float .f64 ga) (by first | assumption | (simp; done) | (simp [go_sem]; done))
          have p2b0 := x2.box (b := w1.heap.size + 1) (o := 0) (v := .int .i64 ib) (by first | assumption | (simp; done) | (simp [go_sem]; done))
          have p2b1 := x2.box (b := w1.heap.size + 1) (o := 1) (v := .float .f64 fb) (by first | assumption | (simp; done) | (simp [go_sem]; done))
          have p2b2 := x2.box (b := w1.heap.size + 1) (o := 2) (v := .float .f64 gb) (by first | assumption | (simp; done) | (simp [go_sem]; done))
          go_wp2_with fail
          refine (iBefore_any _ _ _ _ _ _ _ hib hfb hgb hia hfa hga _).mono ?_
          rintro e w3 ⟨rfl, x3⟩
          have p3a0 := x3.box (b := w1.heap.size) (o := 0) (v := .int .i64 ia) (by first | assumption | (simp; done) | (simp [go_sem]; done))
          have p3a1 := x3.box (b := w1.heap.size) (o := 1) (v := .float .f64 fa) (by first | assumption | (simp; done) | (simp [go_sem]; done))
          have p3a2 := x3.box (b := w1.heap.size) (o := 2) (v := .float .f64 ga) (by first | assumption | (simp; done) | (simp [go_sem]; done))
          have p3b0 := x3.box (b := w1.heap.size + 1) (o := 0) (v := .int .i64 ib) (by first | assumption | (simp; done) | (simp [go_sem]; done))
          have p3b1 := x3.box (b := w1.heap.size + 1) (o := 1) (v := .float .f64 fb) (by first | assumption | (simp; done) | (simp [go_sem]; done))
          have p3b2 := x3.box (b := w1.heap.size + 1) (o := 2) (v := .float .f64 gb) (by first | assumption | (simp; done) | (simp [go_sem]; done))
          go_wp2_with fail
          refine (sValid_any _ _ _ _ hfa hga _).mono ?_
          rintro e w4 ⟨rfl, x4⟩
          have p4a0 := x4.box (b := w1.heap.size) (o := 0) (v := .int .i64 ia) (by first | assumption | (simp; done) | (simp [go_sem]; done))
          have p4a1 := x4.box (b := w1.heap.size) (o := 1) (v := .float .f64 fa) (by first | assumption | (simp; done) | (simp [go_sem]; done))
          have p4a2 := x4.box (b := w1.heap.size) (o := 2) (v := .float .f64 ga) (by first | assumption | (simp; done) | (simp [go_sem]; done))
          have p4b0 := x4.box (b := w1.heap.size + 1) (o := 0) (v := .int .i64 ib) (by first | assumption | (simp; done) | (simp [go_sem]; done))
          have p4b1 := x4.box (b := w1.heap.size + 1) (o := 1) (v := .float .f64 fb) (by first | assumption | (simp; done) | (simp [go_sem]; done))
          have p4b2 := x4.box (b := w1.heap.size + 1) (o := 2) (v := .float .f64 gb) (by first | assumption | (simp; done) | (simp [go_sem]; done))
          go_wp2_with fail
          refine (sValid_any _ _ _ _ hfb hgb _).mono ?_
          rintro e w5 ⟨rfl, x5⟩
          have p5a0 := x5.box (b := w1.heap.size) (o := 0) (v := .int .i64 ia) (by first | assumption | (simp; done) | (simp [go_sem]; done))
          have p5a1 := x5.box (b := w1.heap.size) (o := 1) (v := .float .f64 fa) (by first | assumption | (simp; done) | (simp [go_sem]; done))
          have p5a2 := x5.box (b := w1.heap.size) (o := 2) (v := .float .f64 ga) (by first | assumption | (simp; done) | (simp [go_sem]; done))
          have p5b0 := x5.box (b := w1.heap.size + 1) (o := 0) (v := .int .i64 ib) (by first | assumption | (simp; done) | (simp [go_sem]; done))
          have p5b1 := x5.box (b := w1.heap.size + 1) (o := 1) (v := .float .f64 fb) (by first | assumption | (simp; done) | (simp [go_sem]; done))
          have p5b2 := x5.box (b := w1.heap.size + 1) (o := 2) (v := .float .f64 gb) (by first | assumption | (simp; done) | (simp [go_sem]; done))
          go_wp2_with fail
          refine (lwSame_any _ _ _ _ _ _ hfa hga hfb hgb _).mono ?_
          rintro e w6 ⟨rfl, x6⟩
          have p6a0 := x6.box (b := w1.heap.size) (o := 0) (v := .int .i64 ia) (by first | assumption | (simp; done) | (simp [go_sem]; done))
          have p6a1 := x6.box (b := w1.heap.size) (o := 1) (v := .float .f64 fa) (by first | assumption | (simp; done) | (simp [go_sem]; done))
          have p6a2 := x6.box (b := w1.heap.size) (o := 2) (v := .float .f64 ga) (by first | assumption | (simp; done) | (simp [go_sem]; done))
          have p6b0 := x6.box (b := w1.heap.size + 1) (o := 0) (v := .int .i64 ib) (by first | assumption | (simp; done) | (simp [go_sem]; done))
          have p6b1 := x6.box (b := w1.heap.size + 1) (o := 1) (v := .float .f64 fb) (by first | assumption | (simp; done) | (simp [go_sem]; done))
          have p6b2 := x6.box (b := w1.heap.size + 1) (o := 2) (v := .float .f64 gb) (by first | assumption | (simp; done) | (simp [go_sem]; done))
          go_wp2_with fail
          refine (ap_e4 5 9 _ _ _ _ _ _ (by omega) (by decide) _).mono ?_
          rintro e w7 ⟨rfl, x7⟩
          have p7a0 := x7.box (b := w1.heap.size) (o := 0) (v := .int .i64 ia) (by first | assumption | (simp; done) | (simp [go_sem]; done))
          have p7a1 := x7.box (b := w1.heap.size) (o := 1) (v := .float .f64 fa) (by first | assumption | (simp; done) | (simp [go_sem]; done))
          have p7a2 := x7.box (b := w1.heap.size) (o := 2) (v := .float .f64 ga) (by first | assumption | (simp; done) | (simp [go_sem]; done))
          have p7b0 := x7.box (b := w1.heap.size + 1) (o := 0) (v := .int .i64 ib) (by first | assumption | (simp; done) | (simp [go_sem]; done))
          have p7b1 := x7.box (b := w1.heap.size + 1) (o := 1) (v := .float .f64 fb) (by first | assumption | (simp; done) | (simp [go_sem]; done))
          have p7b2 := x7.box (b := w1.heap.size + 1) (o := 2) (v := .float .f64 gb) (by first | assumption | (simp; done) | (simp [go_sem]; done))
          have y7 := (Ext.refl w7).alloc #[.int .i64 4, .int .i64 0, .int .i64 0, .float .f64 0, .float .f64 0] 38
          have r7a0 := y7.box p7a0
          have r7a1 := y7.box p7a1
          have r7a2 := y7.box p7a2
          have r7b0 := y7.box p7b0
          have r7b1 := y7.box p7b1
          have r7b2 := y7.box p7b2
          go_wp2_with fail
          refine (ap_e4 6 9 _ _ _ _ _ _ (by omega) (by decide) _).mono ?_
          rintro e w8 ⟨rfl, x8⟩
          have p8a0 := x8.box (b := w1.heap.size) (o := 0) (v := .int .i64 ia) (by first | assumption | (simp; done) | (simp [go_sem]; done))
          have p8a1 := x8.box (b := w1.heap.size) (o := 1) (v := .float .f64 fa) (by first | assumption | (simp; done) | (simp [go_sem]; done))
          have p8a2 := x8.box (b := w1.heap.size) (o := 2) (v := .float .f64 ga) (by first | assumption | (simp; done) | (simp [go_sem]; done))
          have p8b0 := x8.box (b := w1.heap.size + 1) (o := 0) (v := .int .i64 ib) (by first | assumption | (simp; done) | (simp [go_sem]; done))
          have p8b1 := x8.box (b := w1.heap.size + 1) (o := 1) (v := .float .f64 fb) (by first | assumption | (simp; done) | (simp [go_sem]; done))
          have p8b2 := x8.box (b := w1.heap.size + 1) (o := 2) (v := .float .f64 gb) (by first | assumption | (simp; done) | (simp [go_sem]; done))
          have p8l0 := x8.box (b := w7.heap.size) (o := 0) (v := .int .i64 4) (by first | assumption | (simp; done) | (simp [go_sem]; done))
          have p8l1 := x8.box (b := w7.heap.size) (o := 1) (v := .int .i64 0) (by first | assumption | (simp; done) | (simp [go_sem]; done))
          have p8l2 := x8.box (b := w7.heap.size) (o := 2) (v := .int .i64 0) (by first | assumption | (simp; done) | (simp [go_sem]; done))
          have p8l3 := x8.box (b := w7.heap.size) (o := 3) (v := .float .f64 0) (by first | assumption | (simp; done) | (simp [go_sem]; done))
          have p8l4 := x8.box (b := w7.heap.size) (o := 4) (v := .float .f64 0) (by first | assumption | (simp; done) | (simp [go_sem]; done))
          have y8 := (Ext.refl w8).alloc #[.int .i64 4, .int .i64 0, .int .i64 0, .float .f64 0, .float .f64 0] 38
          have r8a0 := y8.box p8a0
          have r8a1 := y8.box p8a1
          have r8a2 := y8.box p8a2
          have r8b0 := y8.box p8b0
          have r8b1 := y8.box p8b1
          have r8b2 := y8.box p8b2
          have r8l0 := y8.box p8l0
          have r8l1 := y8.box p8l1
          have r8l2 := y8.box p8l2
          have r8l3 := y8.box p8l3
          have r8l4 := y8.box p8l4
          go_wp2
          go_ret
          exact ⟨rfl, below_ext HB.out (by repeat (first | with_reducible exact Ext.refl _ | with_reducible refine Ext.setCell ?_ (by simp; try omega) _ | with_reducible apply Ext.drewN | with_reducible apply Ext.drew | with_reducible apply Ext.alloc | refine Ext.trans ?_ (by assumption)))⟩

end Go.Proofs.Ythaajmkfeniofaa
