import Derived.Test.YtiekkninnjffpaaM11
namespace Go.Proofs.Ytiekkninnjffpaa
open Go.ChangeShapes Go.RowKit
set_option linter.unusedSimpArgs false
set_option linter.unusedVariables false
attribute [local go_sem] run_f43 run_f43c

set_option maxRecDepth 100000 in
set_option maxHeartbeats 16000000 in
theorem turn_any {w : World} {H b : Nat} {vA vB : Value} {xs ss : List Int} (off : Int) (hV : DV w H vA vB xs ss) (hI : VI xs ss) (hs : ST w w H b) :
    Calls Try.prog 90 #[.agg #[vA, vB, .int .i64 off], .pointer (some ⟨b, 0, none⟩)] w fun e w' => DrawV w H b e w' := by
  obtain ⟨i0, hi0, hz0, hz1, hz2⟩ := info_parts info2
  have T0 := hide (TB.start off hs hV)
  have NE0 : Hid ((∀ g, vA.ownBlock = some g → g < w.heap.size) ∧ (∀ g, vB.ownBlock = some g → g < w.heap.size)) := ⟨fun g hg => (hV.a.lt g hg).2, fun g hg => (hV.c.lt g hg).2⟩
  have NE : Hid ((∀ R, w.heap.size ≤ R → vA.ownBlock ≠ some R) ∧ (∀ R, w.heap.size ≤ R → vB.ownBlock ≠ some R)) := ⟨fun R hR e => by have := (hV.a.lt R e).2; omega, fun R hR e => by have := (hV.c.lt R e).2; omega⟩
  have HI := hide hI
  have hl4 := hI.1.1
  have hl5 : Hid (ss.length = xs.length) := hI.2.1
  obtain ⟨sa, ca, rfl⟩ := own_form2 hV.a
  obtain ⟨sb, cb, rfl⟩ := own_form2 hV.c
  clear hV hs hI
  go_enter Try.func90, Try.ntmps90
  go_wp2_with fail
  generalize ((w.alloc (.cells #[.slice sa xs.length ca, .slice sb ss.length cb, .int .i64 off] 27)).alloc (.cells #[.slice none 0 0, .slice none 0 0, .int .i64 0] 27)).alloc (.cells #[.int .i64 1, .slice none 0 0, .slice none 0 0, .int .i64 0] 43) = V0 at T0 ⊢
  refine (T0.out.next 5).mono ?_
  rintro e W1 ⟨sw, rfl, b1, t1⟩
  have T1 := hide t1
  clear t1 T0
  rcases (show sw = 0 ∨ sw = 1 ∨ sw = 2 ∨ sw = 3 ∨ sw = 4 by omega) with rfl | rfl | rfl | rfl | rfl
  · rcases (show xs.length = 0 ∨ 0 < xs.length by omega) with hd0 | hd0
    · have hd1 : ¬ (0 : Int) < (xs.length : Int) := by omega
      have dd1 : decide ((0 : Int) < (xs.length : Int)) = false := decide_eq_false hd1
      clear hd0
      have e0 := T1.out.e0
      have c0 := T1.out.c0
      have c1 := T1.out.c1
      have c2 := T1.out.c2
      have r0 := T1.out.rb.r0
      have r1 := T1.out.rb.r1
      have r2 := T1.out.rb.r2
      have rf := T1.out.rb.rf
      go_wp2
      exact bodyPost_ret (v := .agg #[(.slice sa xs.length ca), (.slice sb ss.length cb), .int .i64 off]) (by simp [results, Try.results90, go_sem, set3_0 r0, set3_1 r1, set3_2 r2]) rfl (DrawV.done T1.out.st (by omega) T1.out.dv (NE.out.1 _ (by omega)) (NE.out.2 _ (by omega)) HI.out)
    · have hd1 : (0 : Int) < (xs.length : Int) := by omega
      have dd1 : decide ((0 : Int) < (xs.length : Int)) = true := decide_eq_true hd1
      go_wp2_with fail
      refine (T1.out.next (xs.length : Int)).mono ?_
      rintro e W2 ⟨v2, rfl, b2, t2⟩
      have T2 := hide t2
      clear t2 T1
      obtain ⟨a, ha⟩ : ∃ a : Nat, v2 = (a : Int) := ⟨v2.toNat, by omega⟩
      subst ha
      have hax : a < xs.length := by omega
      have c0 := T2.out.c0
      have c1 := T2.out.c1
      have c2 := T2.out.c2
      go_wp2_with fail
      refine (drawSl_any off a T2.out.dv HI.out hax (ST.start T2.out.st.src (Nat.le_trans T2.out.st.hH T2.out.st.sz))).mono ?_
      rintro e W3 ⟨c, sp, sq, cp, cq, L, S, o, rfl, hD, hvi, hst⟩
      have T8 := hide (T2.out.gb (T2.out.st.trans hst) hst.gb)
      have T9 := hide (T8.out.setR NE0.out.1 NE0.out.2 (c' := c) (ro' := o) (hD.low T2.out.sz))
      have HVI := hide hvi
      have f0 := T8.out.e0
      have f1 := T8.out.e1
      have f2 := T8.out.e2
      have f3 := T8.out.e3
      have ff := T8.out.ef
      clear hD hvi hst c0 c1 c2 T2
      rcases Classical.em (c = 0) with hc0 | hc0
      · subst hc0
        have e0 := T9.out.e0
        have e1 := T9.out.e1
        have e2 := T9.out.e2
        have e3 := T9.out.e3
        have r0 := T9.out.rb.r0
        have r1 := T9.out.rb.r1
        have r2 := T9.out.rb.r2
        have rf := T9.out.rb.rf
        go_wp2
        have hne := dv_ne T9.out.rv (R := w.heap.size + 1) (by omega)
        exact bodyPost_ret (v := .agg #[.slice sp L.length cp, .slice sq S.length cq, .int .i64 o]) (by simp [results, Try.results90, go_sem, set3_0 r0, set3_1 r1, set3_2 r2]) rfl (DrawV.done T9.out.st (by omega) (T9.out.rv.low (by have := T9.out.st.hH; omega)) hne.1 hne.2 HVI.out)
      · have dc0 : (c == 0) = false := by simp [hc0]
        have e0 := T9.out.e0
        have c0 := T9.out.c0
        have c1 := T9.out.c1
        have c2 := T9.out.c2
        have r0 := T9.out.rb.r0
        have r1 := T9.out.rb.r1
        have r2 := T9.out.rb.r2
        have rf := T9.out.rb.rf
        go_wp2
        exact bodyPost_ret (v := .agg #[(.slice sa xs.length ca), (.slice sb ss.length cb), .int .i64 off]) (by simp [results, Try.results90, go_sem, set3_0 r0, set3_1 r1, set3_2 r2]) rfl (DrawV.done T9.out.st (by omega) T9.out.dv (NE.out.1 _ (by omega)) (NE.out.2 _ (by omega)) HI.out)
  · rcases (show xs.length = 0 ∨ 0 < xs.length by omega) with hd0 | hd0
    · have hd1 : ¬ (0 : Int) < (xs.length : Int) := by omega
      have dd1 : decide ((0 : Int) < (xs.length : Int)) = false := decide_eq_false hd1
      clear hd0
      have e0 := T1.out.e0
      have c0 := T1.out.c0
      have c1 := T1.out.c1
      have c2 := T1.out.c2
      have r0 := T1.out.rb.r0
      have r1 := T1.out.rb.r1
      have r2 := T1.out.rb.r2
      have rf := T1.out.rb.rf
      go_wp2
      exact bodyPost_ret (v := .agg #[(.slice sa xs.length ca), (.slice sb ss.length cb), .int .i64 off]) (by simp [results, Try.results90, go_sem, set3_0 r0, set3_1 r1, set3_2 r2]) rfl (DrawV.done T1.out.st (by omega) T1.out.dv (NE.out.1 _ (by omega)) (NE.out.2 _ (by omega)) HI.out)
    · have hd1 : (0 : Int) < (xs.length : Int) := by omega
      have dd1 : decide ((0 : Int) < (xs.length : Int)) = true := decide_eq_true hd1
      go_wp2_with fail
      refine (T1.out.next (xs.length : Int)).mono ?_
      rintro e W2 ⟨v2, rfl, b2, t2⟩
      have T2 := hide t2
      clear t2 T1
      obtain ⟨a, ha⟩ : ∃ a : Nat, v2 = (a : Int) := ⟨v2.toNat, by omega⟩
      subst ha
      have hax : a < xs.length := by omega
      have c0 := T2.out.c0
      have c1 := T2.out.c1
      have c2 := T2.out.c2
      go_wp2_with fail
      refine (drawSl_any off a T2.out.dv HI.out hax (ST.start T2.out.st.src (Nat.le_trans T2.out.st.hH T2.out.st.sz))).mono ?_
      rintro e W3 ⟨c, sp, sq, cp, cq, L, S, o, rfl, hD, hvi, hst⟩
      have T8 := hide (T2.out.gb (T2.out.st.trans hst) hst.gb)
      have T9 := hide (T8.out.setR NE0.out.1 NE0.out.2 (c' := c) (ro' := o) (hD.low T2.out.sz))
      have HVI := hide hvi
      have f0 := T8.out.e0
      have f1 := T8.out.e1
      have f2 := T8.out.e2
      have f3 := T8.out.e3
      have ff := T8.out.ef
      clear hD hvi hst c0 c1 c2 T2
      rcases Classical.em (c = 0) with hc0 | hc0
      · subst hc0
        have e0 := T9.out.e0
        have e1 := T9.out.e1
        have e2 := T9.out.e2
        have e3 := T9.out.e3
        have r0 := T9.out.rb.r0
        have r1 := T9.out.rb.r1
        have r2 := T9.out.rb.r2
        have rf := T9.out.rb.rf
        go_wp2
        have hne := dv_ne T9.out.rv (R := w.heap.size + 1) (by omega)
        exact bodyPost_ret (v := .agg #[.slice sp L.length cp, .slice sq S.length cq, .int .i64 o]) (by simp [results, Try.results90, go_sem, set3_0 r0, set3_1 r1, set3_2 r2]) rfl (DrawV.done T9.out.st (by omega) (T9.out.rv.low (by have := T9.out.st.hH; omega)) hne.1 hne.2 HVI.out)
      · have dc0 : (c == 0) = false := by simp [hc0]
        have e0 := T9.out.e0
        have c0 := T9.out.c0
        have c1 := T9.out.c1
        have c2 := T9.out.c2
        have r0 := T9.out.rb.r0
        have r1 := T9.out.rb.r1
        have r2 := T9.out.rb.r2
        have rf := T9.out.rb.rf
        go_wp2
        exact bodyPost_ret (v := .agg #[(.slice sa xs.length ca), (.slice sb ss.length cb), .int .i64 off]) (by simp [results, Try.results90, go_sem, set3_0 r0, set3_1 r1, set3_2 r2]) rfl (DrawV.done T9.out.st (by omega) T9.out.dv (NE.out.1 _ (by omega)) (NE.out.2 _ (by omega)) HI.out)
  · go_wp2_with fail
    have P0 := hide (PB.start T1.out NE0.out.1 NE0.out.2)
    clear T1
    generalize hPv : (Value.slice (some ⟨W1.heap.size, 0, none⟩) 0 0) = vP0 at P0 ⊢
    generalize W1.alloc (.cells #[] 2) = V1 at P0 ⊢
    refine (P0.out.next 4).mono ?_
    rintro e W2 ⟨tn, rfl, b2, p2⟩
    have P2 := hide p2
    clear p2 P0
    go_wp2_with fail
    go_loopw [8, 10] (fun o i wr => ∃ (P : List Int), i = .int .i64 P.length ∧ P.length ≤ xs.length ∧ (∃ s c, o = .slice s P.length c) ∧ PB w wr H b (.slice sa xs.length ca) (.slice sb ss.length cb) xs ss off o P) (fun o i _ => xs.length - (intOf i).toNat)
    case atStart => exact ⟨[], rfl, by simp, ⟨_, _, hPv.symm⟩, P2.out⟩
    case round =>
      obtain ⟨P, rfl, hP, ⟨s, c, rfl⟩, hPB⟩ := hrel
      have HP := hide hPB
      clear hPB P2 hPv
      by_cases hlt : P.length < xs.length
      · have hlt1 : (P.length : Int) < (xs.length : Int) := by omega
        have hnz : ¬ (xs.length : Int) = 0 := by omega
        go_wp2_with (at_builtin; (refine wpList_append_own _ rfl _ _ 22 rfl (w.heap.size + 3) 2 i0 (.int .i64 0) 1 8 Try.underlying22 hi0 hz0 hz1 hz2 rfl (by decide) _ _ _ rfl (HP.out.own.alloc _) ⟨wr.heap.size, 0, none⟩ 1 1 [.int .i64 (((P.length : Int) + tn) % (xs.length : Int))] rfl rfl (cell_one_new _ _ _) (one_val _) (by unfold maxLen; omega) (by omega) (HP.out.szP (((P.length : Int) + tn) % (xs.length : Int))) ?_); intro v3 w3 hown3 hgrow3 hnil3)
        have HSt := hide (HP.out.step (((P.length : Int) + tn) % (xs.length : Int)) hown3 hgrow3)
        obtain ⟨s3, c3, rfl⟩ := own_form2 hown3
        clear hown3 hgrow3 hnil3
        go_wp2
        go_roundw
        · exact ⟨P ++ [((P.length : Int) + tn) % (xs.length : Int)], by simp, by simp; omega, ⟨s3, c3, by simp⟩, HSt.out⟩
        · simp [intOf]; omega
      · have hlt1 : ¬ (P.length : Int) < (xs.length : Int) := by omega
        have hPl : Hid (P.length = xs.length) := by show P.length = xs.length; omega
        rcases Classical.em (tn = 3 ∧ 1 < xs.length) with hsw | hsw
        · obtain ⟨rfl, hsw⟩ := hsw
          have h1 : (1 : Int) < (xs.length : Int) := by omega
          have hp0 : (0 : Int) < (P.length : Int) := by omega
          have hp1 : (1 : Int) < (P.length : Int) := by omega
          obtain ⟨g, cap, hv, hg, hrow, hfz, hset⟩ := HP.out.at (by omega)
          have hs0 : s = some ⟨g, 0, none⟩ := by injection hv
          subst hs0
          have q0 := hrow 0 (by omega)
          have q1 := hrow 1 (by omega)
          rw [Nat.zero_add] at q0 q1
          generalize P.getD 0 0 = x0 at q0
          generalize P.getD 1 0 = x1 at q1
          have HQ := hide (hset 0 x1)
          have HQ2 : Hid (PB w ((wr.setCell ⟨g, 0, none⟩ (.int .i64 x1)).setCell ⟨g, 1, none⟩ (.int .i64 x0)) H b (.slice sa xs.length ca) (.slice sb ss.length cb) xs ss off (.slice (some ⟨g, 0, none⟩) P.length c) ((P.set 0 x1).set 1 x0)) := by
            show PB _ _ _ _ _ _ _ _ _ _ _
            obtain ⟨g', cap', hv', _, _, _, hset'⟩ := HQ.out.at (by simp; omega)
            have hgg : g' = g := by injection hv' with h1 h2 h3; injection h1 with h1; injection h1 with h1; exact h1.symm
            subst hgg
            exact hset' 1 x0
          have c0 := HQ2.out.tb.c0
          have c1 := HQ2.out.tb.c1
          have c2 := HQ2.out.tb.c2
          have d3 : decide ((1 : Int) < (xs.length : Int)) = true := decide_eq_true h1
          clear HP hset HQ hv hrow c0 c1 c2
          have c0 := HQ2.out.tb.c0
          have c1 := HQ2.out.tb.c1
          have c2 := HQ2.out.tb.c2
          go_wp2_with fail
          rcases hq : trL xs ss off ((P.set 0 x1).set 1 x0) with ⟨c, L, S, o⟩
          refine (sTR_own (own_ints HQ2.out.tb.dv.a) (own_ints HQ2.out.tb.dv.c) (own_ints HQ2.out.own) off (by omega) (by rw [hl5.out]; omega) (by simp; omega) hq).mono ?_
          rintro e W8 h8
          have TX := hide HQ2.out.tb
          obtain ⟨sp, sq, cp, cq, rfl, hD, hB⟩ := h8.dv3 (w := w) (TX.out.sz)
          have T8 := hide (TX.out.bel hB)
          have T9 := hide (T8.out.setR NE0.out.1 NE0.out.2 (c' := c) (ro' := o) hD)
          have hvi := hide (trL_vi hq)
          have f0 := T8.out.e0
          have f1 := T8.out.e1
          have f2 := T8.out.e2
          have f3 := T8.out.e3
          have ff := T8.out.ef
          clear hq h8 hD hB
          clear c0 c1 c2
          rcases Classical.em (c = 0) with hc0 | hc0
          · subst hc0
            have e0 := T9.out.e0
            have e1 := T9.out.e1
            have e2 := T9.out.e2
            have e3 := T9.out.e3
            have r0 := T9.out.rb.r0
            have r1 := T9.out.rb.r1
            have r2 := T9.out.rb.r2
            have rf := T9.out.rb.rf
            go_wp2
            have hne := dv_ne T9.out.rv (R := w.heap.size + 1) (by omega)
            exact bodyPost_ret (v := .agg #[.slice sp L.length cp, .slice sq S.length cq, .int .i64 o]) (by simp [results, Try.results90, go_sem, set3_0 r0, set3_1 r1, set3_2 r2]) rfl (DrawV.done T9.out.st (by omega) (T9.out.rv.low (by have := T9.out.st.hH; omega)) hne.1 hne.2 hvi.out)
          · have dc0 : (c == 0) = false := by simp [hc0]
            have e0 := T9.out.e0
            have c0 := T9.out.c0
            have c1 := T9.out.c1
            have c2 := T9.out.c2
            have r0 := T9.out.rb.r0
            have r1 := T9.out.rb.r1
            have r2 := T9.out.rb.r2
            have rf := T9.out.rb.rf
            go_wp2
            exact bodyPost_ret (v := .agg #[(.slice sa xs.length ca), (.slice sb ss.length cb), .int .i64 off]) (by simp [results, Try.results90, go_sem, set3_0 r0, set3_1 r1, set3_2 r2]) rfl (DrawV.done T9.out.st (by omega) T9.out.dv (NE.out.1 _ (by omega)) (NE.out.2 _ (by omega)) HI.out)
        · have hdd : (tn = 3 ∧ (tn == 3) = true ∧ decide ((1 : Int) < (xs.length : Int)) = false) ∨ ((tn == 3) = false) := by
            by_cases q : tn = 3
            · exact Or.inl ⟨q, by simp [q], decide_eq_false (by omega)⟩
            · exact Or.inr (by simp [q])
          clear hsw
          rcases hdd with ⟨rfl, d1, d2⟩ | d1
          · have c0 := HP.out.tb.c0
            have c1 := HP.out.tb.c1
            have c2 := HP.out.tb.c2
            go_wp2_with fail
            rcases hq : trL xs ss off P with ⟨c, L, S, o⟩
            refine (sTR_own (own_ints HP.out.tb.dv.a) (own_ints HP.out.tb.dv.c) (own_ints HP.out.own) off (by omega) (by rw [hl5.out]; omega) (by omega) hq).mono ?_
            rintro e W8 h8
            have TX := hide HP.out.tb
            obtain ⟨sp, sq, cp, cq, rfl, hD, hB⟩ := h8.dv3 (w := w) (TX.out.sz)
            have T8 := hide (TX.out.bel hB)
            have T9 := hide (T8.out.setR NE0.out.1 NE0.out.2 (c' := c) (ro' := o) hD)
            have hvi := hide (trL_vi hq)
            have f0 := T8.out.e0
            have f1 := T8.out.e1
            have f2 := T8.out.e2
            have f3 := T8.out.e3
            have ff := T8.out.ef
            clear hq h8 hD hB
            clear c0 c1 c2
            rcases Classical.em (c = 0) with hc0 | hc0
            · subst hc0
              have e0 := T9.out.e0
              have e1 := T9.out.e1
              have e2 := T9.out.e2
              have e3 := T9.out.e3
              have r0 := T9.out.rb.r0
              have r1 := T9.out.rb.r1
              have r2 := T9.out.rb.r2
              have rf := T9.out.rb.rf
              go_wp2
              have hne := dv_ne T9.out.rv (R := w.heap.size + 1) (by omega)
              exact bodyPost_ret (v := .agg #[.slice sp L.length cp, .slice sq S.length cq, .int .i64 o]) (by simp [results, Try.results90, go_sem, set3_0 r0, set3_1 r1, set3_2 r2]) rfl (DrawV.done T9.out.st (by omega) (T9.out.rv.low (by have := T9.out.st.hH; omega)) hne.1 hne.2 hvi.out)
            · have dc0 : (c == 0) = false := by simp [hc0]
              have e0 := T9.out.e0
              have c0 := T9.out.c0
              have c1 := T9.out.c1
              have c2 := T9.out.c2
              have r0 := T9.out.rb.r0
              have r1 := T9.out.rb.r1
              have r2 := T9.out.rb.r2
              have rf := T9.out.rb.rf
              go_wp2
              exact bodyPost_ret (v := .agg #[(.slice sa xs.length ca), (.slice sb ss.length cb), .int .i64 off]) (by simp [results, Try.results90, go_sem, set3_0 r0, set3_1 r1, set3_2 r2]) rfl (DrawV.done T9.out.st (by omega) T9.out.dv (NE.out.1 _ (by omega)) (NE.out.2 _ (by omega)) HI.out)
          · have c0 := HP.out.tb.c0
            have c1 := HP.out.tb.c1
            have c2 := HP.out.tb.c2
            go_wp2_with fail
            rcases hq : trL xs ss off P with ⟨c, L, S, o⟩
            refine (sTR_own (own_ints HP.out.tb.dv.a) (own_ints HP.out.tb.dv.c) (own_ints HP.out.own) off (by omega) (by rw [hl5.out]; omega) (by omega) hq).mono ?_
            rintro e W8 h8
            have TX := hide HP.out.tb
            obtain ⟨sp, sq, cp, cq, rfl, hD, hB⟩ := h8.dv3 (w := w) (TX.out.sz)
            have T8 := hide (TX.out.bel hB)
            have T9 := hide (T8.out.setR NE0.out.1 NE0.out.2 (c' := c) (ro' := o) hD)
            have hvi := hide (trL_vi hq)
            have f0 := T8.out.e0
            have f1 := T8.out.e1
            have f2 := T8.out.e2
            have f3 := T8.out.e3
            have ff := T8.out.ef
            clear hq h8 hD hB
            clear c0 c1 c2
            rcases Classical.em (c = 0) with hc0 | hc0
            · subst hc0
              have e0 := T9.out.e0
              have e1 := T9.out.e1
              have e2 := T9.out.e2
              have e3 := T9.out.e3
              have r0 := T9.out.rb.r0
              have r1 := T9.out.rb.r1
              have r2 := T9.out.rb.r2
              have rf := T9.out.rb.rf
              go_wp2
              have hne := dv_ne T9.out.rv (R := w.heap.size + 1) (by omega)
              exact bodyPost_ret (v := .agg #[.slice sp L.length cp, .slice sq S.length cq, .int .i64 o]) (by simp [results, Try.results90, go_sem, set3_0 r0, set3_1 r1, set3_2 r2]) rfl (DrawV.done T9.out.st (by omega) (T9.out.rv.low (by have := T9.out.st.hH; omega)) hne.1 hne.2 hvi.out)
            · have dc0 : (c == 0) = false := by simp [hc0]
              have e0 := T9.out.e0
              have c0 := T9.out.c0
              have c1 := T9.out.c1
              have c2 := T9.out.c2
              have r0 := T9.out.rb.r0
              have r1 := T9.out.rb.r1
              have r2 := T9.out.rb.r2
              have rf := T9.out.rb.rf
              go_wp2
              exact bodyPost_ret (v := .agg #[(.slice sa xs.length ca), (.slice sb ss.length cb), .int .i64 off]) (by simp [results, Try.results90, go_sem, set3_0 r0, set3_1 r1, set3_2 r2]) rfl (DrawV.done T9.out.st (by omega) T9.out.dv (NE.out.1 _ (by omega)) (NE.out.2 _ (by omega)) HI.out)
  · have c0 := T1.out.c0
    go_wp2_with fail
    refine (copyList_some (own_ints T1.out.dv.a) (by omega)).mono ?_
    rintro e W2 ⟨gs, cs, rfl, hO, x2⟩
    have P2 : Hid (PB w W2 H b (.slice sa xs.length ca) (.slice sb ss.length cb) xs ss off (.slice (some ⟨gs, 0, none⟩) xs.length cs) xs) := ⟨T1.out.bel x2, own_low hO T1.out.sz, NE0.out.1, NE0.out.2⟩
    clear hO x2 c0 T1
    rcases (show xs.length < 4 ∨ ¬ xs.length < 4 by omega) with h4 | h4
    · have h4i : (xs.length : Int) < 4 := by omega
      go_wp2_with fail
      refine (P2.out.next 3).mono ?_
      rintro e W3 ⟨x3, rfl, b3, p3⟩
      have P3 := hide p3
      clear p3 P2
      have L3 := hide (own_lit (W := W3) (base := w.heap.size + 3) (1 + x3) P3.out.tb.sz)
      go_wp2_with (at_builtin; (refine wpList_append_own _ rfl _ _ 22 rfl (w.heap.size + 3) 2 i0 (.int .i64 0) 1 8 Try.underlying22 hi0 hz0 hz1 hz2 rfl (by decide) _ 1 [.int .i64 (1 + x3)] rfl L3.out ⟨gs, 0, none⟩ xs.length cs (xs.map (Value.int .i64)) rfl (by simp) (P3.out.news _) map_one (by unfold maxLen; omega) (by omega) (P3.out.szP _) ?_); intro v3 w3 hown3 hgrow3 hnil3)
      have P4 := hide (P3.out.join hown3 hgrow3)
      have hnn : ¬ v3 = .slice none 0 0 := fun e => by have := (hnil3.1 e).1; cases this
      obtain ⟨g3, c3, rfl⟩ := own_blk hown3 hnn
      clear hown3 hgrow3 hnil3 hnn L3 P3
      obtain ⟨n3, hn3⟩ : ∃ n3, n3 = 1 + xs.length := ⟨_, rfl⟩
      have hn34 : n3 ≤ 4 := by omega
      rw [← hn3] at P4 ⊢
      clear hn3
      go_wp2_with fail
      go_loopw [13] (fun i wr => ∃ (k : Nat) (Q : List Int), i = .int .i64 k ∧ k ≤ n3 ∧ PB w wr H b (.slice sa xs.length ca) (.slice sb ss.length cb) xs ss off (.slice (some ⟨g3, 0, none⟩) n3 c3) Q) (fun i _ => n3 - (intOf i).toNat)
      case atStart => exact ⟨0, (1 + x3) :: xs, rfl, by omega, P4.out⟩
      case round =>
        obtain ⟨k, Q, rfl, hk, hPB⟩ := hrel
        have HP := hide hPB
        clear hPB P4
        obtain ⟨hQl, hg, hrow, hfz, hset⟩ := HP.out.row
        have HQl := hide hQl
        clear hQl
        by_cases hlt : k < n3
        · have hk0 : (0 : Int) ≤ (k : Int) := Int.natCast_nonneg _
          have hk1 : (k : Int) < ((n3 : Nat) : Int) := by omega
          have q0 := hrow k (by rw [HQl.out]; exact hlt)
          rw [Nat.zero_add] at q0
          have HS3 := hide (hset k 3)
          generalize Q.getD k 0 = x at q0
          clear hrow hset
          rcases Classical.em (x = 1) with hx | hx
          · subst hx
            go_wp2_with fail
            refine (HP.out.next 2).mono ?_
            rintro e W5 ⟨z, rfl, bz, p5⟩
            have HP5 := hide p5
            clear p5 HS3 q0 hfz
            obtain ⟨_, _, hrow5, hfz5, hset5⟩ := HP5.out.row
            have q5 := hrow5 k (by rw [HQl.out]; exact hlt)
            rw [Nat.zero_add] at q5
            have HS5 := hide (hset5 k 3)
            generalize Q.getD k 0 = x5 at q5
            clear hrow5 hset5
            rcases Classical.em (z = 0) with hz | hz
            · subst hz
              go_wp2
              go_roundw
              · exact ⟨k + 1, Q.set k 3, by go_num, by omega, HS5.out⟩
              · simp [intOf]; omega
            · have dz : (z == 0) = false := by simp [hz]
              go_wp2
              go_roundw
              · exact ⟨k + 1, Q, by go_num, by omega, HP5.out⟩
              · simp [intOf]; omega
          · have dx : (x == 1) = false := by simp [hx]
            go_wp2
            go_roundw
            · exact ⟨k + 1, Q, by go_num, by omega, HP.out⟩
            · simp [intOf]; omega
        · have hk1 : ¬ (k : Int) < ((n3 : Nat) : Int) := by omega
          clear hrow hset hfz
          have c0 := HP.out.tb.c0
          have c1 := HP.out.tb.c1
          have c2 := HP.out.tb.c2
          go_wp2_with fail
          rcases hq : brL xs ss off Q with ⟨c, L, S, o⟩
          refine (sBR_own (own_ints HP.out.tb.dv.a) (own_ints HP.out.tb.dv.c) (own_ints HP.out.own) off (by omega) (by rw [hl5.out]; omega) (by rw [HQl.out]; omega) hq).mono ?_
          rintro e W8 h8
          have TX := hide HP.out.tb
          obtain ⟨sp, sq, cp, cq, rfl, hD, hB⟩ := h8.dv3 (w := w) (TX.out.sz)
          have T8 := hide (TX.out.bel hB)
          have T9 := hide (T8.out.setR NE0.out.1 NE0.out.2 (c' := c) (ro' := o) hD)
          have hvi := hide (brL_vi hq)
          have f0 := T8.out.e0
          have f1 := T8.out.e1
          have f2 := T8.out.e2
          have f3 := T8.out.e3
          have ff := T8.out.ef
          clear hq h8 hD hB
          clear c0 c1 c2
          rcases Classical.em (c = 0) with hc0 | hc0
          · subst hc0
            have e0 := T9.out.e0
            have e1 := T9.out.e1
            have e2 := T9.out.e2
            have e3 := T9.out.e3
            have r0 := T9.out.rb.r0
            have r1 := T9.out.rb.r1
            have r2 := T9.out.rb.r2
            have rf := T9.out.rb.rf
            go_wp2
            have hne := dv_ne T9.out.rv (R := w.heap.size + 1) (by omega)
            exact bodyPost_ret (v := .agg #[.slice sp L.length cp, .slice sq S.length cq, .int .i64 o]) (by simp [results, Try.results90, go_sem, set3_0 r0, set3_1 r1, set3_2 r2]) rfl (DrawV.done T9.out.st (by omega) (T9.out.rv.low (by have := T9.out.st.hH; omega)) hne.1 hne.2 hvi.out)
          · have dc0 : (c == 0) = false := by simp [hc0]
            have e0 := T9.out.e0
            have c0 := T9.out.c0
            have c1 := T9.out.c1
            have c2 := T9.out.c2
            have r0 := T9.out.rb.r0
            have r1 := T9.out.rb.r1
            have r2 := T9.out.rb.r2
            have rf := T9.out.rb.rf
            go_wp2
            exact bodyPost_ret (v := .agg #[(.slice sa xs.length ca), (.slice sb ss.length cb), .int .i64 off]) (by simp [results, Try.results90, go_sem, set3_0 r0, set3_1 r1, set3_2 r2]) rfl (DrawV.done T9.out.st (by omega) T9.out.dv (NE.out.1 _ (by omega)) (NE.out.2 _ (by omega)) HI.out)
    · have h4i : ¬ (xs.length : Int) < 4 := by omega
      obtain ⟨n3, hn3⟩ : ∃ n3, n3 = xs.length := ⟨_, rfl⟩
      have hn34 : n3 ≤ 4 := by omega
      go_wp2_with fail
      go_loopw [13] (fun i wr => ∃ (k : Nat) (Q : List Int), i = .int .i64 k ∧ k ≤ xs.length ∧ PB w wr H b (.slice sa xs.length ca) (.slice sb ss.length cb) xs ss off (.slice (some ⟨gs, 0, none⟩) xs.length cs) Q) (fun i _ => xs.length - (intOf i).toNat)
      case atStart => exact ⟨0, xs, rfl, by omega, P2.out⟩
      case round =>
        obtain ⟨k, Q, rfl, hk, hPB⟩ := hrel
        have HP := hide hPB
        clear hPB P2
        obtain ⟨hQl, hg, hrow, hfz, hset⟩ := HP.out.row
        have HQl := hide hQl
        clear hQl
        by_cases hlt : k < xs.length
        · have hk0 : (0 : Int) ≤ (k : Int) := Int.natCast_nonneg _
          have hk1 : (k : Int) < ((xs.length : Nat) : Int) := by omega
          have q0 := hrow k (by rw [HQl.out]; exact hlt)
          rw [Nat.zero_add] at q0
          have HS3 := hide (hset k 3)
          generalize Q.getD k 0 = x at q0
          clear hrow hset
          rcases Classical.em (x = 1) with hx | hx
          · subst hx
            go_wp2_with fail
            refine (HP.out.next 2).mono ?_
            rintro e W5 ⟨z, rfl, bz, p5⟩
            have HP5 := hide p5
            clear p5 HS3 q0 hfz
            obtain ⟨_, _, hrow5, hfz5, hset5⟩ := HP5.out.row
            have q5 := hrow5 k (by rw [HQl.out]; exact hlt)
            rw [Nat.zero_add] at q5
            have HS5 := hide (hset5 k 3)
            generalize Q.getD k 0 = x5 at q5
            clear hrow5 hset5
            rcases Classical.em (z = 0) with hz | hz
            · subst hz
              go_wp2
              go_roundw
              · exact ⟨k + 1, Q.set k 3, by go_num, by omega, HS5.out⟩
              · simp [intOf]; omega
            · have dz : (z == 0) = false := by simp [hz]
              go_wp2
              go_roundw
              · exact ⟨k + 1, Q, by go_num, by omega, HP5.out⟩
              · simp [intOf]; omega
          · have dx : (x == 1) = false := by simp [hx]
            go_wp2
            go_roundw
            · exact ⟨k + 1, Q, by go_num, by omega, HP.out⟩
            · simp [intOf]; omega
        · have hk1 : ¬ (k : Int) < ((xs.length : Nat) : Int) := by omega
          clear hrow hset hfz
          have c0 := HP.out.tb.c0
          have c1 := HP.out.tb.c1
          have c2 := HP.out.tb.c2
          go_wp2_with fail
          rcases hq : brL xs ss off Q with ⟨c, L, S, o⟩
          refine (sBR_own (own_ints HP.out.tb.dv.a) (own_ints HP.out.tb.dv.c) (own_ints HP.out.own) off (by omega) (by rw [hl5.out]; omega) (by rw [HQl.out]; omega) hq).mono ?_
          rintro e W8 h8
          have TX := hide HP.out.tb
          obtain ⟨sp, sq, cp, cq, rfl, hD, hB⟩ := h8.dv3 (w := w) (TX.out.sz)
          have T8 := hide (TX.out.bel hB)
          have T9 := hide (T8.out.setR NE0.out.1 NE0.out.2 (c' := c) (ro' := o) hD)
          have hvi := hide (brL_vi hq)
          have f0 := T8.out.e0
          have f1 := T8.out.e1
          have f2 := T8.out.e2
          have f3 := T8.out.e3
          have ff := T8.out.ef
          clear hq h8 hD hB
          clear c0 c1 c2
          rcases Classical.em (c = 0) with hc0 | hc0
          · subst hc0
            have e0 := T9.out.e0
            have e1 := T9.out.e1
            have e2 := T9.out.e2
            have e3 := T9.out.e3
            have r0 := T9.out.rb.r0
            have r1 := T9.out.rb.r1
            have r2 := T9.out.rb.r2
            have rf := T9.out.rb.rf
            go_wp2
            have hne := dv_ne T9.out.rv (R := w.heap.size + 1) (by omega)
            exact bodyPost_ret (v := .agg #[.slice sp L.length cp, .slice sq S.length cq, .int .i64 o]) (by simp [results, Try.results90, go_sem, set3_0 r0, set3_1 r1, set3_2 r2]) rfl (DrawV.done T9.out.st (by omega) (T9.out.rv.low (by have := T9.out.st.hH; omega)) hne.1 hne.2 hvi.out)
          · have dc0 : (c == 0) = false := by simp [hc0]
            have e0 := T9.out.e0
            have c0 := T9.out.c0
            have c1 := T9.out.c1
            have c2 := T9.out.c2
            have r0 := T9.out.rb.r0
            have r1 := T9.out.rb.r1
            have r2 := T9.out.rb.r2
            have rf := T9.out.rb.rf
            go_wp2
            exact bodyPost_ret (v := .agg #[(.slice sa xs.length ca), (.slice sb ss.length cb), .int .i64 off]) (by simp [results, Try.results90, go_sem, set3_0 r0, set3_1 r1, set3_2 r2]) rfl (DrawV.done T9.out.st (by omega) T9.out.dv (NE.out.1 _ (by omega)) (NE.out.2 _ (by omega)) HI.out)
  · have c0 := T1.out.c0
    have hcn : 0 ≤ cntL xs ∧ cntL xs ≤ 4096 := by
      have hg := HI.out.1
      have e : cntL xs = prod xs := if_pos hg
      have h1 := prod_plen (fun n hn => (good_nonneg hg n hn).1)
      have h2 := hg.2.2
      omega
    go_wp2_with fail
    refine (l2Count_any (own_ints T1.out.dv.a) (by omega)).mono ?_
    rintro e W2 ⟨rfl, rfl⟩
    generalize cntL xs = cn at hcn ⊢
    have P2 := hide (PB.lit T1.out NE0.out.1 NE0.out.2 cn)
    clear c0 T1
    go_wp2_with fail
    go_loopw [15, 16] (fun o i wr => ∃ (k : Nat) (Q : List Int), i = .int .i64 k ∧ (2 ≤ k ∧ k ≤ 5) ∧ Q.length ≤ 2 ∧ (∃ g c, o = .slice (some ⟨g, 0, none⟩) Q.length c) ∧ PB w wr H b (.slice sa xs.length ca) (.slice sb ss.length cb) xs ss off o Q) (fun o i _ => 5 - (intOf i).toNat)
    case atStart => exact ⟨2, [cn], rfl, by omega, by simp, ⟨_, _, rfl⟩, P2.out⟩
    case round =>
      obtain ⟨k, Q, rfl, hk, hQ2, ⟨g, c, rfl⟩, hPB⟩ := hrel
      have HP := hide hPB
      clear hPB P2
      by_cases hlt : k < 5
      · have hk1 : (k : Int) < 5 := by omega
        have hk2 : ¬ (k : Int) = 0 := by omega
        have hk3 : (0 : Int) < (k : Int) := by omega
        rcases Classical.em (cn % (k : Int) = 0) with hm | hm
        · have dm : (cn % (k : Int) == 0) = true := by simp [hm]
          clear hm
          go_wp2_with fail
          refine (HP.out.next 2).mono ?_
          rintro e W5 ⟨z, rfl, bz, p5⟩
          have HP5 := hide p5
          clear p5 HP
          rcases Classical.em (z = 0 ∧ 0 < cn) with hz | hz
          · obtain ⟨rfl, hcp⟩ := hz
            have dcp : decide (0 < cn) = true := decide_eq_true hcp
            have HL2 := hide (PB.lit2 HP5.out.tb NE0.out.1 NE0.out.2 (k : Int) (cn / (k : Int)))
            go_wp2
            go_roundw
            · exact ⟨k + 1, [(k : Int), cn / (k : Int)], by go_num, by omega, by simp, ⟨_, _, rfl⟩, HL2.out⟩
            · simp [intOf]; omega
          · have hdz : (z = 0 ∧ decide (0 < cn) = false) ∨ (z == 0) = false := by
              by_cases q : z = 0
              · exact Or.inl ⟨q, decide_eq_false (fun q2 => hz ⟨q, q2⟩)⟩
              · exact Or.inr (by simp [q])
            clear hz
            rcases hdz with ⟨rfl, dcp⟩ | dz
            · have hcp : ¬ 0 < cn := of_decide_eq_false dcp
              go_wp2
              go_roundw
              · exact ⟨k + 1, Q, by go_num, by omega, hQ2, ⟨_, _, rfl⟩, HP5.out⟩
              · simp [intOf]; omega
            · go_wp2
              go_roundw
              · exact ⟨k + 1, Q, by go_num, by omega, hQ2, ⟨_, _, rfl⟩, HP5.out⟩
              · simp [intOf]; omega
        · have dm : (cn % (k : Int) == 0) = false := by simp [hm]
          clear hm
          go_wp2
          go_roundw
          · exact ⟨k + 1, Q, by go_num, by omega, hQ2, ⟨_, _, rfl⟩, HP.out⟩
          · simp [intOf]; omega
      · have hk1 : ¬ (k : Int) < 5 := by omega
        have c0 := HP.out.tb.c0
        have c1 := HP.out.tb.c1
        have c2 := HP.out.tb.c2
        go_wp2_with fail
        rcases hq : rsL xs ss off Q with ⟨c, L, S, o⟩
        refine (sRS_own (own_ints HP.out.tb.dv.a) (own_ints HP.out.tb.dv.c) (own_ints HP.out.own) off (by omega) (by rw [hl5.out]; omega) (by omega) hq).mono ?_
        rintro e W8 h8
        have TX := hide HP.out.tb
        obtain ⟨sp, sq, cp, cq, rfl, hD, hB⟩ := h8.dv3 (w := w) (TX.out.sz)
        have T8 := hide (TX.out.bel hB)
        have T9 := hide (T8.out.setR NE0.out.1 NE0.out.2 (c' := c) (ro' := o) hD)
        have hvi := hide (rsL_vi hq)
        have f0 := T8.out.e0
        have f1 := T8.out.e1
        have f2 := T8.out.e2
        have f3 := T8.out.e3
        have ff := T8.out.ef
        clear hq h8 hD hB
        clear c0 c1 c2
        rcases Classical.em (c = 0) with hc0 | hc0
        · subst hc0
          have e0 := T9.out.e0
          have e1 := T9.out.e1
          have e2 := T9.out.e2
          have e3 := T9.out.e3
          have r0 := T9.out.rb.r0
          have r1 := T9.out.rb.r1
          have r2 := T9.out.rb.r2
          have rf := T9.out.rb.rf
          go_wp2
          have hne := dv_ne T9.out.rv (R := w.heap.size + 1) (by omega)
          exact bodyPost_ret (v := .agg #[.slice sp L.length cp, .slice sq S.length cq, .int .i64 o]) (by simp [results, Try.results90, go_sem, set3_0 r0, set3_1 r1, set3_2 r2]) rfl (DrawV.done T9.out.st (by omega) (T9.out.rv.low (by have := T9.out.st.hH; omega)) hne.1 hne.2 hvi.out)
        · have dc0 : (c == 0) = false := by simp [hc0]
          have e0 := T9.out.e0
          have c0 := T9.out.c0
          have c1 := T9.out.c1
          have c2 := T9.out.c2
          have r0 := T9.out.rb.r0
          have r1 := T9.out.rb.r1
          have r2 := T9.out.rb.r2
          have rf := T9.out.rb.rf
          go_wp2
          exact bodyPost_ret (v := .agg #[(.slice sa xs.length ca), (.slice sb ss.length cb), .int .i64 off]) (by simp [results, Try.results90, go_sem, set3_0 r0, set3_1 r1, set3_2 r2]) rfl (DrawV.done T9.out.st (by omega) T9.out.dv (NE.out.1 _ (by omega)) (NE.out.2 _ (by omega)) HI.out)
end Go.Proofs.Ytiekkninnjffpaa
