import Derived.Test.YtanbgpmbccianaaM15
import Derived.Test.YtanbgpmbccianaaM13
import Derived.Deep.DeepCutAuto
import Derived.Deep.RegionHeld3
import Derived.Deep.RegionLaw
namespace Go.Proofs.Ytanbgpmbccianaa
open Go.ChangeShapes Go.RowKit FL
set_option linter.unusedSimpArgs false
set_option linter.unusedVariables false
attribute [local go_sem] run_f43 run_f43c

set_option maxRecDepth 100000 in
set_option maxHeartbeats 8000000 in
theorem lawRR_yes (w : World) (v : Value) (cs : List Int) (hC : Code w v cs) (hl : cs.length ≤ 1048576) {xs ss ys : List Int} {off : Int} (hr : reshD (cs.take 4000) (0, mixL cs.length (cs.take 4000)) = ((xs, ss, off), ys)) {o : Int} {L S : List Int} (hq : rsL xs ss off ys = (0, L, S, o)) : Calls Try.prog 3 #[v] w fun e w' => LawRR w e w' := by
  have HD : Hid (∀ W, Bel w W → Calls Try.prog 4 #[v] W fun e w' => DrawPOk W (xs, ss, off) ys e w') := fun W hb => drawReshape_any (hC.keep hb) hr
  have HQ := hide hq
  clear hq hr
  obtain ⟨sv, cv, rfl, hh⟩ := hC
  clear hh
  have nx : ¬ (1048576 : Int) < (cs.length : Int) := by omega
  go_enter Try.func3, Try.ntmps3
  go_wp2_with fail
  refine (HD.out w (Below.refl _ _)).mono ?_
  rintro e W1 ⟨a1, b1, p1, ca1, cb1, cp1, rfl, hA1, hB1, hP1, hbd, x1⟩
  simp only at hA1 hB1 hP1 hbd ⊢
  have y1 : Ext W1 (W1.alloc (.cells #[.slice a1 xs.length ca1, .slice b1 ss.length cb1, .int .i64 off] 25)) := (Ext.refl _).alloc _ _
  have I1 := hide (hA1.ints.ext y1)
  have I2 := hide (hB1.ints.ext y1)
  have I3 := hide (hP1.ints.ext y1)
  have A1 : Hid (Bel w W1 ∧ Ints W1 (.slice a1 xs.length ca1) xs ∧ Ints W1 (.slice b1 ss.length cb1) ss) := ⟨x1, hA1.ints, hB1.ints⟩
  clear y1 hA1 hB1 hP1 x1
  go_wp2_with fail
  refine (iRS_any I1.out I2.out I3.out off (by omega) (by omega) (by omega) HQ.out).mono ?_
  rintro e W2 ⟨ra, rb, da, db, rfl, hT, x2⟩
  obtain ⟨t1, t2⟩ := two_ib hT
  have A2 := hide (LV.make (c := 0) (ro := o) A1.out.1 A1.out.2.1 A1.out.2.2 x2 t1.ints t2.ints)
  have hs1 : (W1.alloc (.cells #[.slice a1 xs.length ca1, .slice b1 ss.length cb1, .int .i64 off] 25)).heap.size = W1.heap.size + 1 := by simp
  rw [hs1] at t1 t2
  have y2 : Ext W2 (W2.alloc (.cells #[.int .i64 0, .slice ra L.length da, .slice rb S.length db, .int .i64 o] 29)) := (Ext.refl _).alloc _ _
  have T1 := hide (t1.keep y2.bl)
  have T2 := hide (t2.keep y2.bl)
  clear hT t1 t2 x2 A1 I1 I2 I3 y2 hs1
  go_wp2_with fail
  generalize W2.alloc (.cells #[.int .i64 0, .slice ra L.length da, .slice rb S.length db, .int .i64 o] 29) = V2 at A2 T1 T2 ⊢
  generalize hBV : W1.heap.size = BV at A2 T1 T2 ⊢
  generalize hBR : W2.heap.size = BR at A2 T1 T2 ⊢
  clear hBV hBR
  refine (HD.out V2 A2.out.l.bl).mono ?_
  rintro e W3 ⟨a2, b2, p2, ca2, cb2, cp2, rfl, i1, i2, i3, hbd2, x3⟩
  simp only at i1 i2 i3 ⊢
  have k3 := A2.out.l.keep x3
  have u0 := k3.v0
  have u1 := k3.v1
  have u2' := k3.v2
  have uf := k3.vf
  have A3 := hide (A2.out.setV T1.out T2.out (Nat.lt_succ_self BV) x3 i1 i2 (off' := off))
  have m3 : Mut BV W3 (((W3.setCell ⟨BV, 0, none⟩ (.slice a2 xs.length ca2)).setCell ⟨BV, 1, none⟩ (.slice b2 ss.length cb2)).setCell ⟨BV, 2, none⟩ (.int .i64 off)) := (((Mut.refl _ _).setCell _ _).setCell _ _).setCell _ _
  have J3 : Hid (Ints (((W3.setCell ⟨BV, 0, none⟩ (.slice a2 xs.length ca2)).setCell ⟨BV, 1, none⟩ (.slice b2 ss.length cb2)).setCell ⟨BV, 2, none⟩ (.int .i64 off)) (.slice p2 ys.length cp2) ys) := (i3.mut m3 (Or.inl (cell_lt A2.out.l.v0))).ints
  clear k3 m3 i1 i2 i3 x3 A2 T1 T2
  go_upto_region 6 with fail
  clear u0 u1 u2' uf
  generalize ((W3.setCell ⟨BV, 0, none⟩ (.slice a2 xs.length ca2)).setCell ⟨BV, 1, none⟩ (.slice b2 ss.length cb2)).setCell ⟨BV, 2, none⟩ (.int .i64 off) = V3w at A3 J3 ⊢
  have AD := hide (A3.out.keep (bel_drew V3w))
  have JD := hide (J3.out.below (bel_drew V3w))
  have SA : Hid ((fun w' : World => w'.cell? ⟨BV, 0, none⟩ = some (.slice a2 xs.length ca2) ∧ w'.cell? ⟨BV, 1, none⟩ = some (.slice b2 ss.length cb2) ∧ w'.cell? ⟨BV, 2, none⟩ = some (.int .i64 off) ∧ w'.cell? ⟨BR, 0, none⟩ = some (.int .i64 0)) V3w.drew) := ⟨AD.out.l.v0, AD.out.l.v1, AD.out.l.v2, AD.out.l.q0⟩
  go_cut [32] (fun sx wx => sx = .bool false ∧ LV w wx BV BR (.slice a2 xs.length ca2) (.slice b2 ss.length cb2) xs ss off 0 (.slice ra L.length da) (.slice rb S.length db) L S o ∧ Ints wx (.slice p2 ys.length cp2) ys)
  case first =>
    go_region_held3 (fun w' : World => w'.cell? ⟨BV, 0, none⟩ = some (.slice a2 xs.length ca2) ∧ w'.cell? ⟨BV, 1, none⟩ = some (.slice b2 ss.length cb2) ∧ w'.cell? ⟨BV, 2, none⟩ = some (.int .i64 off) ∧ w'.cell? ⟨BR, 0, none⟩ = some (.int .i64 0)) (first | with_reducible exact SA.out | with_reducible exact SB'.out | exact SA.out | exact SB'.out | fail) (first | (go_at_call 6; refine (sRS_any AD.out.l.iS.ints AD.out.l.iT.ints JD.out off (by omega) (by omega) (by omega) HQ.out).mono ?_; rintro e w4 ⟨za, zb, zc, zd, rfl, z1, z2, x4⟩; have A4 := hide (AD.out.keep x4); have J4 := hide (JD.out.below x4); have SB' : Hid ((fun w' : World => w'.cell? ⟨BV, 0, none⟩ = some (.slice a2 xs.length ca2) ∧ w'.cell? ⟨BV, 1, none⟩ = some (.slice b2 ss.length cb2) ∧ w'.cell? ⟨BV, 2, none⟩ = some (.int .i64 off) ∧ w'.cell? ⟨BR, 0, none⟩ = some (.int .i64 0)) w4) := ⟨A4.out.l.v0, A4.out.l.v1, A4.out.l.v2, A4.out.l.q0⟩; clear z1 z2 x4) | fail)
    all_goals (go_wp2_with fail; go_meet; (try case rel => exact ⟨by simp, A4.out, J4.out⟩))
  case rest =>
  obtain ⟨rfl, hA, hJ⟩ := hcut
  clear AD SA A3 JD J3
  have A3 := hide hA
  have J3 := hide hJ
  clear hA hJ
  obtain ⟨i59, hi59, hy0, hy1, hy2⟩ := info_parts info59
  have q0 := A3.out.l.q0
  go_wp2_with fail
  clear q0
  go_loopw [7] (fun i wr => ∃ m : Nat, i = .int .i64 m ∧ m ≤ 4096 ∧ ∃ o', RH wc wr wc.heap.size m o') (fun i _ => 4096 - (intOf i).toNat)
  case atStart => exact ⟨0, rfl, by omega, _, RH.start wc⟩
  case round =>
    obtain ⟨m, rfl, hm, o', hR⟩ := hrel
    obtain ⟨so, co, rfl⟩ := hR.form
    have HR := hide hR
    clear hR
    by_cases hml : m < 4096
    · have hm0 : (0 : Int) ≤ (m : Int) := Int.natCast_nonneg _
      have hm1 : (m : Int) < 4096 := by omega
      generalize wc.heap.size = A at HR ⊢
      have HW1 : Hid (RH wc (wr.alloc (.cells #[.int .i64 (m : Int), .float .f64 0, .float .f64 0] 39)).drew A m (.slice so m co)) := (HR.out.keep ((Ext.refl wr).alloc _ _).bl).keep (bel_drew _)
      have qa := HR.out.held ((Below.refl _ _).drew)
      have qb := HW1.out.held (Below.refl _ _)
      have qa1 := qa.2.1
      have qb1 := qb.2.1
      have SA : Hid ((fun w' : World => w'.cell? ⟨A + 1, 0, none⟩ = some (.slice (some ⟨A, 0, none⟩) 1 1)) wr.drew) := qa.1
      have SB : Hid ((fun w' : World => w'.cell? ⟨A + 1, 0, none⟩ = some (.slice (some ⟨A, 0, none⟩) 1 1)) (wr.alloc (.cells #[.int .i64 (m : Int), .float .f64 0, .float .f64 0] 39)).drew) := qb.1
      clear qa qb
      have HN := hide (World.news_of_block (w := (wr.alloc (.cells #[.int .i64 (m : Int), .float .f64 0, .float .f64 0] 39)).drew) (cs := #[.int .i64 (m : Int), .float .f64 0, .float .f64 0]) (t := 39) (fr := (0, 0)) (heap_alloc_new wr _))
      have hH : ((wr.alloc (.cells #[.int .i64 (m : Int), .float .f64 0, .float .f64 0] 39)).drew).heap.size = wr.heap.size + 1 := by show (wr.alloc _).heap.size = _; simp
      have h63 : m + 1 ≤ maxLen := by unfold maxLen; omega
      have h24 : (m + 1) * 24 ≤ 140737488355328 := by omega
      have HSZ := hide HW1.out.sz
      go_wp2_with fail
      have qa0 := SA.out
      have qb0 := SB.out
      go_region_law ((refine step_append_lies _ (by rfl) (.tmp 54) (.tmp 57) 31 (by rfl) (A + 1 + 1) 39 i59 (.agg #[.int .i64 0, .float .f64 0, .float .f64 0]) 3 24 Try.underlying31 hi59 hy0 hy1 hy2 rfl (by omega) _ m _ (by rfl) HW1.out.ow ⟨wr.heap.size, 0, none⟩ 1 1 (c3v ((m : Int), 0, 0)) (by rfl) (by rfl) HN.out (c3v_one _) (by omega) h63 h24 HSZ.out (wr.heap.size + 1) hH ?_; intro g9 cap9 w9 hown9 hgrow9 hat9 hlt9; have X9 := hide (HW1.out.grow hgrow9); have q9 := HW1.out.held X9.out; have q91 := q9.2.1; have q92 := q9.2.2; have SC : Hid ((fun w' : World => w'.cell? ⟨A + 1, 0, none⟩ = some (.slice (some ⟨A, 0, none⟩) 1 1)) w9) := q9.1; have SD : Hid ((fun w' : World => w'.cell? ⟨A + 1, 0, none⟩ = some (.slice (some ⟨A, 0, none⟩) 1 1)) (w9.setCell ⟨A, 1, none⟩ (.slice (some ⟨g9, 0, none⟩) (m + 1) cap9))) := (HW1.out.step X9.out hown9).h0; have q93 := q9.1; clear q9; have HO9 := hide hown9; clear hown9 hgrow9 hat9))
      all_goals go_wp2
      all_goals go_roundw
      all_goals first | exact ⟨m + 1, by go_num, by omega, _, HW1.out.step X9.out HO9.out⟩ | (simp [intOf]; omega)
    · have hmm : m = 4096 := by omega
      subst hmm
      obtain ⟨hLy, hv1, hv2, hoo, hpp⟩ := rs_offs HQ.out
      subst hLy
      have A5 := hide (A3.out.keep HR.out.bl)
      have J5 := hide (J3.out.below HR.out.bl)
      have HSV := hide HR.out.sv
      have hx0 := HR.out.h0
      obtain ⟨K, hK⟩ : ∃ K : List C3, K = (offsL xs ss off).map fun p => (p, 0, 0) := ⟨_, rfl⟩
      have hKz : Hid (∀ k, k < K.length → (K.getD k k0).2 = (0, 0)) := by rw [hK]; exact fun k hk => mapped_zero _ k hk
      have hKb : K.length ≤ 1048576 := by rw [hK, List.length_map]; have := offs_len hv1; omega
      have hKp : prod L = (K.length : Int) := by rw [hK, List.length_map, hpp, offs_prod hv1]
      have h4 := hv2.1.1
      have RD1 : Hid (Calls Try.prog 7 #[.agg #[.slice (some ⟨wc.heap.size, 0, none⟩) 1 1], .agg #[.int .i64 0, .slice a2 xs.length ca2, .slice b2 ss.length cb2, .int .i64 off]] wr fun e w' => CellsOk wr K e w') := by
        have h := iRd_any HSV.out (heapN_g (Nat.le_refl _)) (heapN_l (Nat.le_refl _)) 0 A5.out.l.iS.ints A5.out.l.iT.ints off (by omega) (by omega)
        rw [read_heapN hv1, ← hK] at h
        exact h
      have RD2 : Hid (∀ W, Bel wr W → Calls Try.prog 7 #[.agg #[.slice (some ⟨wc.heap.size, 0, none⟩) 1 1], .agg #[.int .i64 0, .slice ra L.length da, .slice rb S.length db, .int .i64 o]] W fun e w' => CellsOk W K e w') := fun W hb => by
        have h := iRd_any (HSV.out.keep hb) (heapN_g (Nat.le_refl _)) (heapN_l (Nat.le_refl _)) 0 (A5.out.iA.below hb) (A5.out.iB.below hb) o (by omega) (by have := hv2.2.1; omega)
        rw [read_heapN hv2, hoo, ← hK] at h
        exact h
      have RC : Hid (∀ W, Bel wr W → Calls Try.prog 9 #[.slice p2 L.length cp2] W fun e w' => e = .returned (.int .i64 (K.length : Int)) ∧ w' = W) := fun W hb => by
        have h := lwCount_any (J5.out.below hb) hv2.1.1 hv2.1.2.1
        rw [hKp] at h
        exact h
      have RS : Hid (∀ W, Bel wr W → Calls Try.prog 8 #[.slice ra L.length da, .slice p2 L.length cp2] W fun e w' => e = .returned (.bool true) ∧ Ext W w') := fun W hb => by
        have h := lwSame_any (A5.out.iA.below hb) (J5.out.below hb) (by omega)
        rw [show decide (L = L) = true by simp] at h
        exact h
      have HB := hide A5.out.l.bl
      have v0 := A5.out.l.v0
      have v1 := A5.out.l.v1
      have v2 := A5.out.l.v2
      clear hK hKp hpp hoo hv1 hv2 HQ HD HSV HR A3 J3
      go_wp2_with fail
      refine RD1.out.mono ?_
      rintro e w6 ⟨sx, cx, rfl, hX, x6⟩
      have A6 := hide (A5.out.keep x6)
      have X6 := hide x6
      have CX := hide (cv_of_own (cap := cx) hX)
      have hx6 := Bel.box x6 hx0
      have r1 := A6.out.l.q1
      have r2 := A6.out.l.q2
      have r3 := A6.out.l.q3
      clear v0 v1 v2 hx0 hX x6 A5 RD1
      go_wp2_with fail
      refine (RD2.out w6 X6.out).mono ?_
      rintro e w7 ⟨sy, cy, rfl, hY, x7⟩
      have A7 := hide (A6.out.keep x7)
      have X7 := hide (Bel.tr X6.out x7)
      have CX7 := hide (CX.out.keep x7)
      have CY := hide (cv_of_own (cap := cy) hY)
      have t1 := A7.out.l.q1
      clear r1 r2 r3 hx6 hY x7 A6 RD2 CX X6
      go_wp2_with fail
      refine (RS.out w7 X7.out).mono ?_
      rintro e w8 ⟨rfl, x8⟩
      have X8 := hide (Bel.tr X7.out x8.bl)
      have CX8 := hide (CX7.out.keep x8.bl)
      have CY8 := hide (CY.out.keep x8.bl)
      clear t1 x8 RS CX7 CY A7
      go_wp2_with fail
      refine (RC.out w8 X8.out).mono ?_
      rintro e w9 ⟨rfl, rfl⟩
      go_wp2_with fail
      refine (lwCells_same CX8.out CY8.out hKz.out hKb).mono ?_
      rintro e w10 ⟨rfl, x10⟩
      have XX := hide (Bel.tr HB.out (Bel.tr X8.out x10.bl))
      clear x10
      go_wp2
      go_ret
      exact ⟨rfl, XX.out⟩
end Go.Proofs.Ytanbgpmbccianaa
