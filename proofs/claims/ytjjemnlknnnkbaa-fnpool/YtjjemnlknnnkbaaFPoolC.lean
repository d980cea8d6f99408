import Derived.Test.YtjjemnlknnnkbaaFPoolB
import Derived.Deep.QuietTactic
namespace Go.Proofs.Ytjjemnlknnnkbaa
open Go.ChangeShapes Go.RowKit Go.MuLone
set_option linter.unusedSimpArgs false
set_option linter.unusedVariables false

set_option maxRecDepth 100000 in
set_option maxHeartbeats 4000000 in
theorem lawFP (w : World) (v : Value) (cs : List Int) (hC : Code w v cs) (hl : cs.length ≤ 1048576) :
    Calls Try.prog 4 #[v] w fun e w' => LawOk w e w' := by
  obtain ⟨i2, hi2, hy0, hy1, hy2⟩ := info_parts info2
  have HC := hide hC
  obtain ⟨sa, cap, rfl, hh⟩ := hC
  clear hh
  have nx : ¬ (1048576 : Int) < (cs.length : Int) := by omega
  have hdl : (drawP (cs.take 4000) (0, mixL cs.length (cs.take 4000)) (sizeL (cs.take 4000))).2.length ≤ 1048576 := drawP_len _ _ _ (mixL_bd _ _).1 (by unfold sizeL; split <;> omega) (by unfold sizeL; split <;> omega)
  have hdr := hide (fun (W : World) (hW : Code W (.slice sa cs.length cap) cs) => drawPool_any hW)
  generalize drawP (cs.take 4000) (0, mixL cs.length (cs.take 4000)) (sizeL (cs.take 4000)) = DP at hdl hdr
  obtain ⟨budget, ops⟩ := DP
  dsimp only at hdl
  go_enter Try.func4, Try.ntmps4
  go_wp2_with fail
  refine (hdr.out _ HC.out).mono ?_
  rintro e w1 ⟨v1, rfl, hO1, hB1⟩
  dsimp only
  have HO1 := hide hO1.bound
  have HB1 := hide hB1
  have HC1 := hide (HC.out.keep hB1)
  obtain ⟨so, co, rfl, _⟩ := hO1
  clear hB1 HC
  go_wp2_with fail
  refine (sPR_any HO1.out.v budget hdl).mono ?_
  rintro e w2 ⟨sw, cw, rfl, iW, x2⟩
  have HO2 := hide (HO1.out.keep x2)
  have HB2 := hide (Bel.tr HB1.out x2)
  have HC2 := hide (HC1.out.keep x2)
  have HT2 := hide (pokB (cap := cw) iW)
  clear iW x2 HO1 HB1 HC1
  go_wp2_with fail
  refine (iPR_any HO2.out.v budget hdl).mono ?_
  rintro e w3 ⟨sg, cg, rfl, iG, x3⟩
  have HB3 := hide (Bel.tr HB2.out x3)
  have HC3 := hide (HC2.out.keep x3)
  have HT3 := hide (HT2.out.keep x3)
  have HG3 := hide (pokB (cap := cg) iG)
  have h23 : Hid (w2.heap.size ≤ w3.heap.size) := Below.size x3
  clear iG x3 HO2 HB2 HC2 HT2
  go_wp2_with fail
  refine (hdr.out _ HC3.out).mono ?_
  rintro e w4 ⟨v4, rfl, hO4, x4⟩
  dsimp only
  have HO4 := hide hO4.bound
  have HB4 := hide (Bel.tr HB3.out x4)
  have HT4 := hide (HT3.out.keep x4)
  have HG4 := hide (HG3.out.keep x4)
  have SZ : Hid (w2.heap.size ≤ w4.heap.size ∧ w3.heap.size ≤ w4.heap.size) := by
    have h1 := Below.size x4
    have h2 := h23.out
    exact ⟨by omega, h1⟩
  obtain ⟨so4, co4, rfl, _⟩ := hO4
  clear x4 HB3 HC3 HT3 HG3
  have HF := hide (fun k hk => poolL_at budget ops k hk)
  have hTl := poolL_len budget ops
  generalize poolL budget ops = T at HF hTl HT4 HG4 ⊢
  have S0 : Hid (FW w ((w4.alloc (.cells #[] 2)).alloc (.cells #[] 2)) w4.heap.size (.slice sw T.length cw) (.slice sg T.length cg) (.slice so4 ops.length co4) (.slice (some ⟨w4.heap.size, 0, none⟩) 0 0) (.slice (some ⟨w4.heap.size + 1, 0, none⟩) 0 0) T ops [] []) := by
    have hx1 : Ext w4 (w4.alloc (.cells #[] 2)) := (Ext.refl w4).alloc _ _
    have hx : Ext w4 ((w4.alloc (.cells #[] 2)).alloc (.cells #[] 2)) := hx1.alloc _ _
    have o1 := World.ownsRow_made (base := w4.heap.size) (e := 2) (size := 1) w4 #[] 0 (Nat.le_refl _) (by unfold maxLen; omega) rfl
    have o2 := World.ownsRow_made (base := w4.heap.size) (e := 2) (size := 1) (w4.alloc (.cells #[] 2)) #[] 0 (by simp) (by unfold maxLen; omega) rfl
    have e : (w4.alloc (.cells #[] 2)).heap.size = w4.heap.size + 1 := by simp
    rw [e] at o2
    exact ⟨(HT4.out.l.wide SZ.out.1).keep hx.bl, (HG4.out.l.wide SZ.out.2).keep hx.bl, HO4.out.keep hx.bl, o1.alloc _, o2, fun k hk e => by simp [Value.ownBlock] at hk e; omega, Below.size HB4.out, Below.size hx.bl, Bel.tr HB4.out hx.bl⟩
  go_wp2_with fail
  generalize hW : (w4.alloc (.cells #[] 2)).alloc (.cells #[] 2) = W at S0 ⊢
  generalize w4.heap.size = H at S0 ⊢
  clear hW HO4 HB4 HT4 HG4 SZ h23
  go_loopw [7, 8, 9] (fun l s i wr => LRel w H (.slice sw T.length cw) (.slice sg T.length cg) (.slice so4 ops.length co4) T ops budget l s i wr) (fun l s i _ => T.length - (intOf i).toNat)
  case atStart => exact ⟨0, _, _, _, _, rfl, by omega, rfl, rfl, S0.out⟩
  case round =>
    obtain ⟨k, sa', c, sb, d, rfl, hk, rfl, rfl, hW⟩ := hrel
    have HW := hide hW
    clear hW S0
    by_cases hlt : k < T.length
    · obtain ⟨hko, ho2, hTk⟩ := HF.out k hlt
      have hPI := hide (lawL_ok budget ops k)
      have hst := lawStep_ok (lawL_ok budget ops k) budget (ops.getD k p0)
      have hso := (run_ok budget ops (k + 1)).1
      have hlen := lawL_len budget ops k
      have hlen' := lawL_len budget ops (k + 1)
      have hsucc : Hid (lawL budget ops (k + 1) = lawStep (ops.getD k p0) (ansP (stepP budget (runP budget ops k).2 (ops.getD k p0))) (lawL budget ops k).1 (lawL budget ops k).2) := rfl
      rw [hsucc.out] at hlen'
      have hlv : (T.getD k p0).2.2 = liveL (stepP budget (runP budget ops k).2 (ops.getD k p0)).1 := by rw [hTk]; rfl
      obtain ⟨gw, ow, cw', ew, a0, a1, a2⟩ := HW.out.wt.cells k hlt
      injection ew with ew1 _ ew2
      subst ew1 ew2
      obtain ⟨gg, og, cg', eg, g0, g1, g2⟩ := HW.out.gt.cells k hlt
      injection eg with eg1 _ eg2
      subst eg1 eg2
      obtain ⟨go_, oo, co', eo, o0, o1, o2⟩ := HW.out.op.cells k hko
      injection eo with eo1 _ eo2
      subst eo1 eo2
      rw [← hTk] at hst hsucc hlen'
      have hbs : (runP budget ops (k + 1)).2 = (stepP budget (runP budget ops k).2 (ops.getD k p0)).1 := rfl
      rw [hbs] at hso
      generalize (stepP budget (runP budget ops k).2 (ops.getD k p0)).1 = bs' at hst hso hlv
      clear hbs hTk
      generalize hHt : T.getD k p0 = t at hst hsucc hlen' hlv a0 a1 a2 g0 g1 g2
      generalize hHo : ops.getD k p0 = op at hst hsucc hlen' o0 o1 o2
      generalize (runP budget ops k).2 = bs at hPI
      generalize lawL budget ops k = LS at hst hsucc hlen' hlen hPI HW ⊢
      obtain ⟨L, S⟩ := LS
      obtain ⟨code, blk, lv⟩ := t
      obtain ⟨kind, size, bl⟩ := op
      dsimp only at hst hsucc hlen' hlen hPI HW hlv a0 a1 a2 g0 g1 g2 o0 o1 o2 ⊢
      have Ht := hide hHt
      have Ho := hide hHo
      clear hHt hHo
      have Hst := hide hst
      clear hst
      obtain ⟨P1, P2⟩ := Hst.out
      have HP1 := hide P1
      have HP2 := hide P2
      clear P1 P2 Hst
      have hk0 : (0 : Int) ≤ (k : Int) := Int.natCast_nonneg _
      have hk1 : (k : Int) < (T.length : Int) := by omega
      have hk2 : (k : Int) < (ops.length : Int) := by omega
      by_cases hc : code = 0
      · by_cases hkd : kind = 1
        · subst hc
          subst hkd
          have hLS : lawStep (1, size, bl) (0, blk, lv) L S = (L ++ [blk], S ++ [roundL size]) := by unfold lawStep; dsimp only; rw [if_pos rfl, if_pos rfl]
          rw [hLS] at hsucc HP1 hlen'
          dsimp only at HP1 hlen'
          have hnob := (HP2.out rfl rfl).1
          have hbud := (HP2.out rfl rfl).2
          rw [← hlv] at hbud
          have Hnob := hide hnob
          have Hbud := hide hbud
          clear hnob hbud
          go_wp2_with fail
          go_quiet (fail)
          go_wp2_with fail
          clear a0 a1 a2 g0 g1 g2 o0 o1 o2
          go_loopw [11] (fun j wr2 => ∃ m : Nat, j = .int .i64 m ∧ m ≤ L.length ∧ FW w wr2 H (.slice (some ⟨gw, ow, none⟩) T.length cw) (.slice (some ⟨gg, og, none⟩) T.length cg) (.slice (some ⟨go_, oo, none⟩) ops.length co4) (.slice sa' L.length c) (.slice sb S.length d) T ops L S) (fun j _ => L.length - (intOf j).toNat)
          case atStart => exact ⟨0, rfl, by omega, HW.out.drewN _⟩
          case round =>
            obtain ⟨m, rfl, hm, hW3⟩ := hrel
            have HW3 := hide hW3
            clear hW3
            obtain ⟨a0, a1, a2⟩ := HW3.out.wt.cellsAt k hlt Ht.out
            obtain ⟨g0, g1, g2⟩ := HW3.out.gt.cellsAt k hlt Ht.out
            obtain ⟨o0, o1, o2⟩ := HW3.out.op.cellsAt k hko Ho.out
            by_cases hml : m < L.length
            · have hm1 : (m : Int) < (L.length : Int) := by omega
              have hm0 : (0 : Int) ≤ (m : Int) := Int.natCast_nonneg _
              have hL2 : L.length ≤ 2001 := by omega
              obtain ⟨gl, dl, el, cL, _⟩ := HW3.out.cellL m hml
              injection el with el1 _ el2
              subst el1 el2
              have hne := Hnob.out m hml
              generalize L.getD m 0 = z at cL hne
              have hzb : (z == blk) = false := by simp [hne]
              go_wp2_with fail
              go_quiet (fail)
              go_wp2
              go_roundw
              · exact ⟨m + 1, by go_num, by omega, HW3.out.drewN _⟩
              · simp [intOf]; omega
            · have hm1 : ¬ (m : Int) < (L.length : Int) := by omega
              clear HW
              have hL2 : L.length ≤ 2001 ∧ S.length ≤ 2001 := by omega
              go_wp2_with (first | (at_builtin; (refine wpList_append_own_at _ rfl _ _ 30 rfl H 2 i2 (.int .i64 0) 1 8 Try.underlying30 hi2 hy0 hy1 hy2 rfl (by decide) _ _ _ rfl (HX1.out.os.alloc _) ⟨_, 0, none⟩ 1 1 [.int .i64 (roundL size)] rfl rfl (one_new _ (roundL size)) (i64_one (roundL size)) (by unfold maxLen; omega) (by omega) (HX1.out.szA _ _) ?_); intro v8 w8 hown8 hgrow8 hnil8 hat8; obtain ⟨s8, c8, rfl⟩ := own_form2 hown8; have HX := hide (HX1.out.pushS (roundL size) hgrow8 hown8 (hat8.imp id (fun q => ⟨_, q, by simp⟩))); clear hown8 hgrow8 hnil8 hat8 HX1) | (at_builtin; (refine wpList_append_own_at _ rfl _ _ 30 rfl H 2 i2 (.int .i64 0) 1 8 Try.underlying30 hi2 hy0 hy1 hy2 rfl (by decide) _ _ _ rfl (HW3.out.ol.alloc _) ⟨wr.heap.size, 0, none⟩ 1 1 [.int .i64 blk] rfl rfl (one_new _ blk) (i64_one blk) (by unfold maxLen; omega) (by omega) (HW3.out.szA _ _) ?_); intro v7 w7 hown7 hgrow7 hnil7 hat7; obtain ⟨s7, c7, rfl⟩ := own_form2 hown7; have HX1 := hide (HW3.out.pushL blk hgrow7 hown7 (hat7.imp id (fun q => ⟨_, q, by simp⟩))); obtain ⟨p0', p1', p2'⟩ := HX1.out.op.cellsAt k hko Ho.out; clear hown7 hgrow7 hnil7 hat7 HW3) | (go_at_call 8; refine (iRound_any size _).mono ?_; rintro e w9 ⟨rfl, rfl⟩))
              have eL : L.length + 1 = (L ++ [blk]).length := by simp
              have eS : S.length + 1 = (S ++ [roundL size]).length := by simp
              rw [eL, eS] at HX ⊢
              clear eL eS hLS
              generalize L ++ [blk] = L2 at HX HP1 hlen' hsucc ⊢
              generalize S ++ [roundL size] = S2 at HX HP1 hlen' hsucc ⊢
              go_loopw [10, 12] (fun sm j wr3 => ∃ (q : Nat) (x : Int), j = .int .i64 q ∧ sm = .int .i64 x ∧ q ≤ (S2).length ∧ Hid (x = sumL ((S2).take q)) ∧ FW w wr3 H (.slice (some ⟨gw, ow, none⟩) T.length cw) (.slice (some ⟨gg, og, none⟩) T.length cg) (.slice (some ⟨go_, oo, none⟩) ops.length co4) (.slice s7 L2.length c7) (.slice s8 S2.length c8) T ops L2 S2) (fun sm j _ => (S2).length - (intOf j).toNat)
              case atStart => exact ⟨0, 0, rfl, rfl, by omega, by show (0 : Int) = sumL _; simp [sumL], HX.out⟩
              case round =>
                obtain ⟨q, x, rfl, rfl, hq, hx, hW5⟩ := hrel
                have HW5 := hide hW5
                clear hW5 HX
                have hxb : 0 ≤ x ∧ x ≤ 65536 * q := by rw [hx.out]; exact HP1.out.part hso q hq
                have hS2 : (S2).length ≤ 2001 := by have := hlen'.2; omega
                by_cases hql : q < (S2).length
                · obtain ⟨gs, ds, es, cS, _⟩ := HW5.out.cellS q hql
                  injection es with es1 _ es2
                  subst es1 es2
                  have hq1 : (q : Int) < ((S2).length : Int) := by omega
                  have hq0 : (0 : Int) ≤ (q : Int) := Int.natCast_nonneg _
                  have hyb := HP1.out.bd hso q hql
                  have hnx : Hid (x + (S2).getD q 0 = sumL ((S2).take (q + 1))) := by show x + _ = _; rw [sumL_take _ q hql, hx.out]
                  generalize (S2).getD q 0 = y at cS hyb hnx
                  go_wp2
                  go_roundw
                  · exact ⟨q + 1, x + y, by go_num, rfl, by omega, hnx, HW5.out⟩
                  · simp [intOf]; omega
                · have hq1 : ¬ (q : Int) < ((S2).length : Int) := by omega
                  have hxl : x = lv := by
                    have e : q = (S2).length := by omega
                    rw [hx.out, e, List.take_length, HP1.out.sum, hlv]
                  subst hxl
                  clear hx
                  obtain ⟨a0, a1, a2⟩ := HW5.out.wt.cellsAt k hlt Ht.out
                  obtain ⟨g0, g1, g2⟩ := HW5.out.gt.cellsAt k hlt Ht.out
                  obtain ⟨o0, o1, o2⟩ := HW5.out.op.cellsAt k hko Ho.out
                  have hbud := Hbud.out
                  go_wp2
                  go_roundw
                  · exact ⟨k + 1, _, _, _, _, by go_num, by omega, by rw [hsucc.out], by rw [hsucc.out], by rw [hsucc.out]; exact HW5.out⟩
                  · simp [intOf]; omega
        · subst hc
          have hkb : (kind == 1) = false := by simp [hkd]
          have hLS : lawStep (kind, size, bl) (0, blk, lv) L S = gv blk L S L.length := by unfold lawStep; dsimp only; rw [if_pos rfl, if_neg hkd]
          rw [hLS] at hsucc HP1 hlen'
          have hgl := fun m => gv_len blk L S m
          have HSL := hide hPI.out.len
          have Hgl := hide hgl
          clear hgl
          go_wp2_with fail
          go_quiet (fail)
          go_wp2_with fail
          clear a0 a1 a2 g0 g1 g2 o0 o1 o2
          go_loopw [11] (fun j wr2 => ∃ m : Nat, j = .int .i64 m ∧ m ≤ L.length ∧ FW w wr2 H (.slice (some ⟨gw, ow, none⟩) T.length cw) (.slice (some ⟨gg, og, none⟩) T.length cg) (.slice (some ⟨go_, oo, none⟩) ops.length co4) (.slice sa' L.length c) (.slice sb S.length d) T ops (gv blk L S m).1 (gv blk L S m).2) (fun j _ => L.length - (intOf j).toNat)
          case atStart => exact ⟨0, rfl, by omega, HW.out.drewN _⟩
          case round =>
            obtain ⟨m, rfl, hm, hW3⟩ := hrel
            have HW3 := hide hW3
            clear hW3
            obtain ⟨a0, a1, a2⟩ := HW3.out.wt.cellsAt k hlt Ht.out
            obtain ⟨g0, g1, g2⟩ := HW3.out.gt.cellsAt k hlt Ht.out
            obtain ⟨o0, o1, o2⟩ := HW3.out.op.cellsAt k hko Ho.out
            by_cases hml : m < L.length
            · have hm1 : (m : Int) < (L.length : Int) := by omega
              have hms : (m : Int) < (S.length : Int) := by rw [HSL.out]; exact hm1
              have hm0 : (0 : Int) ≤ (m : Int) := Int.natCast_nonneg _
              have hL2 : L.length ≤ 2001 := by omega
              obtain ⟨gl, dl, el, cL, fL⟩ := HW3.out.cellL m (by rw [(Hgl.out m).1]; exact hml)
              injection el with el1 _ el2
              subst el1 el2
              obtain ⟨gs, ds, es, cS, fS⟩ := HW3.out.cellS m (by rw [(Hgl.out m).2, HSL.out]; exact hml)
              injection es with es1 _ es2
              subst es1 es2
              have hgv : Hid (gv blk L S (m + 1) = if (gv blk L S m).1.getD m 0 = blk then ((gv blk L S m).1.set m (-2), (gv blk L S m).2.set m 0) else gv blk L S m) := rfl
              have hdj : gl ≠ gs := fun e => HW3.out.dj gl rfl (by rw [e]; rfl)
              generalize (gv blk L S m).1.getD m 0 = z at cL hgv
              generalize (gv blk L S m).2.getD m 0 = y at cS
              by_cases hz : z = blk
              · subst hz
                rw [if_pos rfl] at hgv
                have HN := hide (fun n => ((HW3.out.drewN n).setS m 0).setL m (-2))
                go_wp2_with fail
                go_quiet (fail)
                go_wp2
                go_roundw
                · exact ⟨m + 1, by go_num, by omega, by rw [hgv.out]; exact HN.out _⟩
                · simp [intOf]; omega
              · rw [if_neg hz] at hgv
                have hzb : (z == blk) = false := by simp [hz]
                go_wp2_with fail
                go_quiet (fail)
                go_wp2
                go_roundw
                · exact ⟨m + 1, by go_num, by omega, by rw [hgv.out]; exact HW3.out.drewN _⟩
                · simp [intOf]; omega
            · have hm1 : ¬ (m : Int) < (L.length : Int) := by omega
              clear HW
              have hmm : m = L.length := by omega
              subst hmm
              go_wp2_with fail
              have HX := HW3
              clear HW3
              have hlg := Hgl.out L.length
              obtain ⟨G, hG⟩ : ∃ G, gv blk L S L.length = G := ⟨_, rfl⟩
              rw [hG] at HX HP1 hlen' hsucc hlg
              clear hG hLS
              obtain ⟨L2, S2⟩ := G
              dsimp only at HX HP1 hlen' hlg
              have e1 : L.length = L2.length := hlg.1.symm
              have e2 : S.length = S2.length := hlg.2.symm
              rw [e1, e2] at HX ⊢
              clear hlg e1 e2 hm hml hm1 hlen HSL
              go_loopw [10, 12] (fun sm j wr3 => ∃ (q : Nat) (x : Int), j = .int .i64 q ∧ sm = .int .i64 x ∧ q ≤ (S2).length ∧ Hid (x = sumL ((S2).take q)) ∧ FW w wr3 H (.slice (some ⟨gw, ow, none⟩) T.length cw) (.slice (some ⟨gg, og, none⟩) T.length cg) (.slice (some ⟨go_, oo, none⟩) ops.length co4) (.slice sa' L2.length c) (.slice sb S2.length d) T ops L2 S2) (fun sm j _ => (S2).length - (intOf j).toNat)
              case atStart => exact ⟨0, 0, rfl, rfl, by omega, by show (0 : Int) = sumL _; simp [sumL], HX.out⟩
              case round =>
                obtain ⟨q, x, rfl, rfl, hq, hx, hW5⟩ := hrel
                have HW5 := hide hW5
                clear hW5 HX
                have hxb : 0 ≤ x ∧ x ≤ 65536 * q := by rw [hx.out]; exact HP1.out.part hso q hq
                have hS2 : (S2).length ≤ 2001 := by have := hlen'.2; omega
                by_cases hql : q < (S2).length
                · obtain ⟨gs, ds, es, cS, _⟩ := HW5.out.cellS q hql
                  injection es with es1 _ es2
                  subst es1 es2
                  have hq1 : (q : Int) < ((S2).length : Int) := by omega
                  have hq0 : (0 : Int) ≤ (q : Int) := Int.natCast_nonneg _
                  have hyb := HP1.out.bd hso q hql
                  have hnx : Hid (x + (S2).getD q 0 = sumL ((S2).take (q + 1))) := by show x + _ = _; rw [sumL_take _ q hql, hx.out]
                  generalize (S2).getD q 0 = y at cS hyb hnx
                  go_wp2
                  go_roundw
                  · exact ⟨q + 1, x + y, by go_num, rfl, by omega, hnx, HW5.out⟩
                  · simp [intOf]; omega
                · have hq1 : ¬ (q : Int) < ((S2).length : Int) := by omega
                  have hxl : x = lv := by
                    have e : q = (S2).length := by omega
                    rw [hx.out, e, List.take_length, HP1.out.sum, hlv]
                  subst hxl
                  clear hx
                  obtain ⟨a0, a1, a2⟩ := HW5.out.wt.cellsAt k hlt Ht.out
                  obtain ⟨g0, g1, g2⟩ := HW5.out.gt.cellsAt k hlt Ht.out
                  obtain ⟨o0, o1, o2⟩ := HW5.out.op.cellsAt k hko Ho.out
                  go_wp2
                  go_roundw
                  · exact ⟨k + 1, _, _, _, _, by go_num, by omega, by rw [hsucc.out], by rw [hsucc.out], by rw [hsucc.out]; exact HW5.out⟩
                  · simp [intOf]; omega
      · have hcb : (code == 0) = false := by simp [hc]
        have hLS : lawStep (kind, size, bl) (code, blk, lv) L S = (L, S) := by unfold lawStep; dsimp only; rw [if_neg hc]
        rw [hLS] at hsucc HP1 hlen'
        dsimp only at HP1 hlen'
        go_wp2_with fail
        go_quiet (fail)
        go_wp2_with fail
        clear a0 a1 a2 g0 g1 g2 o0 o1 o2
        go_loopw [11] (fun j wr2 => ∃ m : Nat, j = .int .i64 m ∧ m ≤ L.length ∧ FW w wr2 H (.slice (some ⟨gw, ow, none⟩) T.length cw) (.slice (some ⟨gg, og, none⟩) T.length cg) (.slice (some ⟨go_, oo, none⟩) ops.length co4) (.slice sa' L.length c) (.slice sb S.length d) T ops L S) (fun j _ => L.length - (intOf j).toNat)
        case atStart => exact ⟨0, rfl, by omega, HW.out.drewN _⟩
        case round =>
          obtain ⟨m, rfl, hm, hW3⟩ := hrel
          have HW3 := hide hW3
          clear hW3
          obtain ⟨a0, a1, a2⟩ := HW3.out.wt.cellsAt k hlt Ht.out
          obtain ⟨g0, g1, g2⟩ := HW3.out.gt.cellsAt k hlt Ht.out
          obtain ⟨o0, o1, o2⟩ := HW3.out.op.cellsAt k hko Ho.out
          by_cases hml : m < L.length
          · have hm1 : (m : Int) < (L.length : Int) := by omega
            have hm0 : (0 : Int) ≤ (m : Int) := Int.natCast_nonneg _
            have hL2 : L.length ≤ 2001 := by omega
            go_wp2_with fail
            go_quiet (fail)
            go_wp2
            go_roundw
            · exact ⟨m + 1, by go_num, by omega, HW3.out.drewN _⟩
            · simp [intOf]; omega
          · have hm1 : ¬ (m : Int) < (L.length : Int) := by omega
            clear HW
            go_wp2_with fail
            have HX := HW3
            clear HW3
            go_loopw [10, 12] (fun sm j wr3 => ∃ (q : Nat) (x : Int), j = .int .i64 q ∧ sm = .int .i64 x ∧ q ≤ (S).length ∧ Hid (x = sumL ((S).take q)) ∧ FW w wr3 H (.slice (some ⟨gw, ow, none⟩) T.length cw) (.slice (some ⟨gg, og, none⟩) T.length cg) (.slice (some ⟨go_, oo, none⟩) ops.length co4) (.slice sa' L.length c) (.slice sb S.length d) T ops L S) (fun sm j _ => (S).length - (intOf j).toNat)
            case atStart => exact ⟨0, 0, rfl, rfl, by omega, by show (0 : Int) = sumL _; simp [sumL], HX.out⟩
            case round =>
              obtain ⟨q, x, rfl, rfl, hq, hx, hW5⟩ := hrel
              have HW5 := hide hW5
              clear hW5 HX
              have hxb : 0 ≤ x ∧ x ≤ 65536 * q := by rw [hx.out]; exact HP1.out.part hso q hq
              have hS2 : (S).length ≤ 2001 := by have := hlen'.2; omega
              by_cases hql : q < (S).length
              · obtain ⟨gs, ds, es, cS, _⟩ := HW5.out.cellS q hql
                injection es with es1 _ es2
                subst es1 es2
                have hq1 : (q : Int) < ((S).length : Int) := by omega
                have hq0 : (0 : Int) ≤ (q : Int) := Int.natCast_nonneg _
                have hyb := HP1.out.bd hso q hql
                have hnx : Hid (x + (S).getD q 0 = sumL ((S).take (q + 1))) := by show x + _ = _; rw [sumL_take _ q hql, hx.out]
                generalize (S).getD q 0 = y at cS hyb hnx
                go_wp2
                go_roundw
                · exact ⟨q + 1, x + y, by go_num, rfl, by omega, hnx, HW5.out⟩
                · simp [intOf]; omega
              · have hq1 : ¬ (q : Int) < ((S).length : Int) := by omega
                have hxl : x = lv := by
                  have e : q = (S).length := by omega
                  rw [hx.out, e, List.take_length, HP1.out.sum, hlv]
                subst hxl
                clear hx
                obtain ⟨a0, a1, a2⟩ := HW5.out.wt.cellsAt k hlt Ht.out
                obtain ⟨g0, g1, g2⟩ := HW5.out.gt.cellsAt k hlt Ht.out
                obtain ⟨o0, o1, o2⟩ := HW5.out.op.cellsAt k hko Ho.out
                go_wp2
                go_roundw
                · exact ⟨k + 1, _, _, _, _, by go_num, by omega, by rw [hsucc.out], by rw [hsucc.out], by rw [hsucc.out]; exact HW5.out⟩
                · simp [intOf]; omega
    · have hkk : k = T.length := by omega
      subst hkk
      go_wp2
      go_ret
      exact ⟨rfl, HW.out.bl⟩
end Go.Proofs.Ytjjemnlknnnkbaa
