import Derived.Test.YtiekkninnjffpaaM13
import Derived.Deep.DeepCutAuto
namespace Go.Proofs.Ytiekkninnjffpaa
open Go.ChangeShapes Go.RowKit
set_option linter.unusedSimpArgs false
set_option linter.unusedVariables false
attribute [local go_sem] run_f43 run_f43c

def LawFV (w : World) (e : Ending) (w' : World) : Prop := e = .returned (.bool true) ∧ Below w.heap.size w w'

set_option maxRecDepth 100000 in
set_option maxHeartbeats 8000000 in
theorem lawFV (w : World) (v : Value) (cs : List Int) (hC : Code w v cs) (hl : cs.length ≤ 1048576) : Calls Try.prog 12 #[v] w fun e w' => LawFV w e w' := by
  have HC := hide hC
  obtain ⟨sv, cv, rfl, hh⟩ := hC
  clear hh
  have nx : ¬ (1048576 : Int) < (cs.length : Int) := by omega
  go_enter Try.func12, Try.ntmps12
  go_wp2_with fail
  refine (drawSlice_any HC.out).mono ?_
  rintro e W1 ⟨sa, sb, ca, cb, xs, ss, off, ax, st, sp, se, rfl, i1, i2, ⟨l1, l2⟩, x1⟩
  have y1 : Ext W1 (W1.alloc (.cells #[.slice sa xs.length ca, .slice sb ss.length cb, .int .i64 off] 27)) := (Ext.refl _).alloc _ _
  have I1 := hide (i1.ext y1)
  have I2 := hide (i2.ext y1)
  have A1 : Hid (Bel w W1 ∧ Ints W1 (.slice sa xs.length ca) xs ∧ Ints W1 (.slice sb ss.length cb) ss) := ⟨x1, i1, i2⟩
  clear y1 i1 i2 x1
  go_wp2_with fail
  rcases hq : slL xs ss off ax st sp se with ⟨c, L, S, o⟩
  refine (iSL_any I1.out I2.out off ax st sp se (by omega) (by omega) hq).mono ?_
  rintro e W2 ⟨ra, rb, da, db, rfl, hT, x2⟩
  obtain ⟨t1, t2⟩ := two_ib hT
  have A2 := hide (LV.make (c := c) (ro := o) A1.out.1 A1.out.2.1 A1.out.2.2 x2 t1.ints t2.ints)
  have HQ := hide hq
  clear hq hT t1 t2 x2 A1 I1 I2
  go_upto_region 5 with fail
  generalize W2.alloc (.cells #[.int .i64 c, .slice ra L.length da, .slice rb S.length db, .int .i64 o] 43) = V2 at A2 ⊢
  generalize hBV : W1.heap.size = BV at A2 ⊢
  generalize hBR : W2.heap.size = BR at A2 ⊢
  clear hBV hBR
  have AD := hide (A2.out.keep (bel_drew V2))
  have SA : Hid ((fun w' : World => w'.cell? ⟨BV, 0, none⟩ = some (.slice sa xs.length ca) ∧ w'.cell? ⟨BV, 1, none⟩ = some (.slice sb ss.length cb) ∧ w'.cell? ⟨BV, 2, none⟩ = some (.int .i64 off) ∧ w'.cell? ⟨BR, 0, none⟩ = some (.int .i64 c)) V2.drew) := ⟨AD.out.l.v0, AD.out.l.v1, AD.out.l.v2, AD.out.l.q0⟩
  go_cut [37] (fun sx wx => sx = .bool false ∧ LV w wx BV BR (.slice sa xs.length ca) (.slice sb ss.length cb) xs ss off c (.slice ra L.length da) (.slice rb S.length db) L S o)
  case first =>
    go_region_held3 (fun w' : World => w'.cell? ⟨BV, 0, none⟩ = some (.slice sa xs.length ca) ∧ w'.cell? ⟨BV, 1, none⟩ = some (.slice sb ss.length cb) ∧ w'.cell? ⟨BV, 2, none⟩ = some (.int .i64 off) ∧ w'.cell? ⟨BR, 0, none⟩ = some (.int .i64 c)) (first | with_reducible exact SA.out | with_reducible exact SB'.out | exact SA.out | exact SB'.out | fail) (first | (go_at_call 43; refine (sSL_any AD.out.l.iS.ints AD.out.l.iT.ints off ax st sp se (by omega) (by omega) HQ.out).mono ?_; rintro e W4 ⟨pa, pb, ea, eb, rfl, j1, j2, x4⟩; have A4 := hide (AD.out.keep x4); have SB' : Hid ((fun w' : World => w'.cell? ⟨BV, 0, none⟩ = some (.slice sa xs.length ca) ∧ w'.cell? ⟨BV, 1, none⟩ = some (.slice sb ss.length cb) ∧ w'.cell? ⟨BV, 2, none⟩ = some (.int .i64 off) ∧ w'.cell? ⟨BR, 0, none⟩ = some (.int .i64 c)) W4) := ⟨A4.out.l.v0, A4.out.l.v1, A4.out.l.v2, A4.out.l.q0⟩; clear j1 j2 x4) | fail)
    all_goals (go_wp2_with fail; go_meet; (try case rel => exact ⟨by simp, A4.out⟩))
  case rest =>
  obtain ⟨rfl, hA⟩ := hcut
  clear AD SA A2
  have A2 := hide hA
  clear hA
  have q0 := A2.out.l.q0
  go_upto_if 40 with fail
  clear q0
  go_cut [] (fun wx => LV w wx BV BR (.slice sa xs.length ca) (.slice sb ss.length cb) xs ss off c (.slice ra L.length da) (.slice rb S.length db) L S o)
  case first =>
    rcases Classical.em (c = 0) with hc | hc
    · subst hc
      obtain ⟨a, rfl, hk⟩ := slL_ok HQ.out
      have HK := hide hk
      clear hk
      go_upto_region 8 with fail
      have B1 := hide (A2.out.keep (bel_drew wc))
      have B2 := hide ((A2.out.keep ((Ext.refl wc).alloc #[] 2).bl).keep (bel_drew _))
      have SA : Hid ((fun w' : World => w'.cell? ⟨BV, 0, none⟩ = some (.slice sa xs.length ca) ∧ w'.cell? ⟨BV, 1, none⟩ = some (.slice sb ss.length cb) ∧ w'.cell? ⟨BV, 2, none⟩ = some (.int .i64 off) ∧ w'.cell? ⟨BR, 1, none⟩ = some (.slice ra L.length da) ∧ w'.cell? ⟨BR, 2, none⟩ = some (.slice rb S.length db) ∧ w'.cell? ⟨BR, 3, none⟩ = some (.int .i64 o)) wc.drew) := ⟨B1.out.l.v0, B1.out.l.v1, B1.out.l.v2, B1.out.l.q1, B1.out.l.q2, B1.out.l.q3⟩
      have SA2 : Hid ((fun w' : World => w'.cell? ⟨BV, 0, none⟩ = some (.slice sa xs.length ca) ∧ w'.cell? ⟨BV, 1, none⟩ = some (.slice sb ss.length cb) ∧ w'.cell? ⟨BV, 2, none⟩ = some (.int .i64 off) ∧ w'.cell? ⟨BR, 1, none⟩ = some (.slice ra L.length da) ∧ w'.cell? ⟨BR, 2, none⟩ = some (.slice rb S.length db) ∧ w'.cell? ⟨BR, 3, none⟩ = some (.int .i64 o)) (wc.alloc (.cells #[] 2)).drew) := ⟨B2.out.l.v0, B2.out.l.v1, B2.out.l.v2, B2.out.l.q1, B2.out.l.q2, B2.out.l.q3⟩
      go_cut [55] (fun sx wx => sx = .bool false ∧ LV w wx BV BR (.slice sa xs.length ca) (.slice sb ss.length cb) xs ss off 0 (.slice ra L.length da) (.slice rb S.length db) L S o)
      case first =>
        go_region_held3 (fun w' : World => w'.cell? ⟨BV, 0, none⟩ = some (.slice sa xs.length ca) ∧ w'.cell? ⟨BV, 1, none⟩ = some (.slice sb ss.length cb) ∧ w'.cell? ⟨BV, 2, none⟩ = some (.int .i64 off) ∧ w'.cell? ⟨BR, 1, none⟩ = some (.slice ra L.length da) ∧ w'.cell? ⟨BR, 2, none⟩ = some (.slice rb S.length db) ∧ w'.cell? ⟨BR, 3, none⟩ = some (.int .i64 o)) (first | with_reducible exact SA.out | with_reducible exact SA2.out | with_reducible exact SB'.out | with_reducible exact SBa.out | with_reducible exact SC'.out | exact SA.out | exact SA2.out | exact SB'.out | exact SBa.out | exact SC'.out | fail) (first | (go_at_call 46; refine (lwPl0 off o o se a _ C4a.out.l.iS.ints C4a.out.l.iT.ints C4a.out.iA C4a.out.iB J1a.out HK.out.1 HK.out.2.1 HK.out.2.2.1 HK.out.2.2.2.1 HK.out.2.2.2.2.1 HK.out.2.2.2.2.2.1 HK.out.2.2.2.2.2.2.1 HK.out.2.2.2.2.2.2.2.1 HK.out.2.2.2.2.2.2.2.2).mono ?_; rintro e W5 ⟨rfl, x5⟩; have A5 := hide (C4a.out.keep x5); have SC' : Hid ((fun w' : World => w'.cell? ⟨BV, 0, none⟩ = some (.slice sa xs.length ca) ∧ w'.cell? ⟨BV, 1, none⟩ = some (.slice sb ss.length cb) ∧ w'.cell? ⟨BV, 2, none⟩ = some (.int .i64 off) ∧ w'.cell? ⟨BR, 1, none⟩ = some (.slice ra L.length da) ∧ w'.cell? ⟨BR, 2, none⟩ = some (.slice rb S.length db) ∧ w'.cell? ⟨BR, 3, none⟩ = some (.int .i64 o)) W5) := ⟨A5.out.l.v0, A5.out.l.v1, A5.out.l.v2, A5.out.l.q1, A5.out.l.q2, A5.out.l.q3⟩; clear x5) | (go_at_call 46; refine (lwPl0 off o o se a _ C4.out.l.iS.ints C4.out.l.iT.ints C4.out.iA C4.out.iB J1.out HK.out.1 HK.out.2.1 HK.out.2.2.1 HK.out.2.2.2.1 HK.out.2.2.2.2.1 HK.out.2.2.2.2.2.1 HK.out.2.2.2.2.2.2.1 HK.out.2.2.2.2.2.2.2.1 HK.out.2.2.2.2.2.2.2.2).mono ?_; rintro e W5 ⟨rfl, x5⟩; have A5 := hide (C4.out.keep x5); have SC' : Hid ((fun w' : World => w'.cell? ⟨BV, 0, none⟩ = some (.slice sa xs.length ca) ∧ w'.cell? ⟨BV, 1, none⟩ = some (.slice sb ss.length cb) ∧ w'.cell? ⟨BV, 2, none⟩ = some (.int .i64 off) ∧ w'.cell? ⟨BR, 1, none⟩ = some (.slice ra L.length da) ∧ w'.cell? ⟨BR, 2, none⟩ = some (.slice rb S.length db) ∧ w'.cell? ⟨BR, 3, none⟩ = some (.int .i64 o)) W5) := ⟨A5.out.l.v0, A5.out.l.v1, A5.out.l.v2, A5.out.l.q1, A5.out.l.q2, A5.out.l.q3⟩; clear x5) | (go_at_call 43; refine (sSL_any B1.out.l.iS.ints B1.out.l.iT.ints off a st sp se (by omega) (by omega) HQ.out).mono ?_; rintro e W4 ⟨pa, pb, ea, eb, rfl, j1, j2, x4⟩; have C4 := hide (B1.out.keep x4); have C4a := hide (C4.out.keep ((Ext.refl W4).alloc #[] 2).bl); have J1 := hide j1.ints; have J1a := hide (j1.ints.ext ((Ext.refl W4).alloc #[] 2)); have SB' : Hid ((fun w' : World => w'.cell? ⟨BV, 0, none⟩ = some (.slice sa xs.length ca) ∧ w'.cell? ⟨BV, 1, none⟩ = some (.slice sb ss.length cb) ∧ w'.cell? ⟨BV, 2, none⟩ = some (.int .i64 off) ∧ w'.cell? ⟨BR, 1, none⟩ = some (.slice ra L.length da) ∧ w'.cell? ⟨BR, 2, none⟩ = some (.slice rb S.length db) ∧ w'.cell? ⟨BR, 3, none⟩ = some (.int .i64 o)) W4) := ⟨C4.out.l.v0, C4.out.l.v1, C4.out.l.v2, C4.out.l.q1, C4.out.l.q2, C4.out.l.q3⟩; have SBa : Hid ((fun w' : World => w'.cell? ⟨BV, 0, none⟩ = some (.slice sa xs.length ca) ∧ w'.cell? ⟨BV, 1, none⟩ = some (.slice sb ss.length cb) ∧ w'.cell? ⟨BV, 2, none⟩ = some (.int .i64 off) ∧ w'.cell? ⟨BR, 1, none⟩ = some (.slice ra L.length da) ∧ w'.cell? ⟨BR, 2, none⟩ = some (.slice rb S.length db) ∧ w'.cell? ⟨BR, 3, none⟩ = some (.int .i64 o)) (W4.alloc (.cells #[] 2))) := ⟨C4a.out.l.v0, C4a.out.l.v1, C4a.out.l.v2, C4a.out.l.q1, C4a.out.l.q2, C4a.out.l.q3⟩; clear j1 j2 x4) | (go_at_call 43; refine (sSL_any B2.out.l.iS.ints B2.out.l.iT.ints off a st sp se (by omega) (by omega) HQ.out).mono ?_; rintro e W4 ⟨pa, pb, ea, eb, rfl, j1, j2, x4⟩; have C4 := hide (B2.out.keep x4); have C4a := hide (C4.out.keep ((Ext.refl W4).alloc #[] 2).bl); have J1 := hide j1.ints; have J1a := hide (j1.ints.ext ((Ext.refl W4).alloc #[] 2)); have SB' : Hid ((fun w' : World => w'.cell? ⟨BV, 0, none⟩ = some (.slice sa xs.length ca) ∧ w'.cell? ⟨BV, 1, none⟩ = some (.slice sb ss.length cb) ∧ w'.cell? ⟨BV, 2, none⟩ = some (.int .i64 off) ∧ w'.cell? ⟨BR, 1, none⟩ = some (.slice ra L.length da) ∧ w'.cell? ⟨BR, 2, none⟩ = some (.slice rb S.length db) ∧ w'.cell? ⟨BR, 3, none⟩ = some (.int .i64 o)) W4) := ⟨C4.out.l.v0, C4.out.l.v1, C4.out.l.v2, C4.out.l.q1, C4.out.l.q2, C4.out.l.q3⟩; have SBa : Hid ((fun w' : World => w'.cell? ⟨BV, 0, none⟩ = some (.slice sa xs.length ca) ∧ w'.cell? ⟨BV, 1, none⟩ = some (.slice sb ss.length cb) ∧ w'.cell? ⟨BV, 2, none⟩ = some (.int .i64 off) ∧ w'.cell? ⟨BR, 1, none⟩ = some (.slice ra L.length da) ∧ w'.cell? ⟨BR, 2, none⟩ = some (.slice rb S.length db) ∧ w'.cell? ⟨BR, 3, none⟩ = some (.int .i64 o)) (W4.alloc (.cells #[] 2))) := ⟨C4a.out.l.v0, C4a.out.l.v1, C4a.out.l.v2, C4a.out.l.q1, C4a.out.l.q2, C4a.out.l.q3⟩; clear j1 j2 x4) | fail)
        all_goals (go_wp2_with fail; go_meet; (try case rel => exact ⟨by simp, A5.out⟩))
      case rest =>
      obtain ⟨rfl, hA⟩ := hcut
      clear B1 B2 SA SA2 A2
      have A2 := hide hA
      clear hA
      go_wp2
      go_meet
      case rel => exact A2.out
    · have dc : (c == 0) = false := by simp [hc]
      go_wp2
      go_meet
      case rel => exact A2.out
  case rest =>
  clear A2
  have A2 := hide hcut
  clear hcut
  go_wp2_with fail
  refine (drawTranspose_any (HC.out.keep A2.out.l.bl)).mono ?_
  rintro e W26 ⟨sa2, sb2, sp2, ca2, cb2, cp2, xs2, ss2, ps2, off2, rfl, i1, i2, i3, ⟨l12, l22, l32⟩, x6⟩
  have k6 := A2.out.l.keep x6
  have u0 := k6.v0
  have u1 := k6.v1
  have u2' := k6.v2
  have uf := k6.vf
  have A6 := hide (A2.out.l.setV x6 i1 i2 (off' := off2))
  have m6 : Mut BV W26 (((W26.setCell ⟨BV, 0, none⟩ (.slice sa2 xs2.length ca2)).setCell ⟨BV, 1, none⟩ (.slice sb2 ss2.length cb2)).setCell ⟨BV, 2, none⟩ (.int .i64 off2)) := (((Mut.refl _ _).setCell _ _).setCell _ _).setCell _ _
  have I6 : Hid (Off (((W26.setCell ⟨BV, 0, none⟩ (.slice sa2 xs2.length ca2)).setCell ⟨BV, 1, none⟩ (.slice sb2 ss2.length cb2)).setCell ⟨BV, 2, none⟩ (.int .i64 off2)) BR (.slice sp2 ps2.length cp2) ps2) := ⟨_, _, i3.mut m6 (Or.inl (cell_lt A2.out.l.v0)), Or.inl (cell_lt A2.out.l.q0)⟩
  have v0 := A6.out.v0
  have v1 := A6.out.v1
  have v2 := A6.out.v2
  clear k6 m6 i1 i2 i3 x6 A2
  go_wp2_with fail
  clear u0 u1 u2' uf v0 v1 v2
  generalize ((W26.setCell ⟨BV, 0, none⟩ (.slice sa2 xs2.length ca2)).setCell ⟨BV, 1, none⟩ (.slice sb2 ss2.length cb2)).setCell ⟨BV, 2, none⟩ (.int .i64 off2) = V26 at A6 I6 ⊢
  rcases hq2 : trL xs2 ss2 off2 ps2 with ⟨c2, L2, S2, o2⟩
  refine (iTR_any A6.out.iS.ints A6.out.iT.ints I6.out.ints off2 (by omega) (by omega) (by omega) hq2).mono ?_
  rintro e W27 ⟨ra2, rb2, da2, db2, rfl, hT, x7⟩
  have HQ2 := hide hq2
  have k7 := A6.out.keep x7
  have u0 := k7.q0
  have u1 := k7.q1
  have u2' := k7.q2
  have u3 := k7.q3
  have uf := k7.qf
  have A7 := hide (A6.out.setR x7 hT (c' := c2) (ro' := o2))
  have I7 := hide (((I6.out.keep x7).mut (chain4m BR W27 (.int .i64 c2) (.slice ra2 L2.length da2) (.slice rb2 S2.length db2) (.int .i64 o2))).ints)
  clear k7 hT x7 hq2 A6 I6
  go_upto_region 12 with fail
  clear u0 u1 u2' u3 uf
  generalize (((W27.setCell ⟨BR, 0, none⟩ (.int .i64 c2)).setCell ⟨BR, 1, none⟩ (.slice ra2 L2.length da2)).setCell ⟨BR, 2, none⟩ (.slice rb2 S2.length db2)).setCell ⟨BR, 3, none⟩ (.int .i64 o2) = V27 at A7 I7 ⊢
  have AD := hide (A7.out.keep (bel_drew V27))
  have ID := hide (I7.out.below (bel_drew V27))
  have SA : Hid ((fun w' : World => w'.cell? ⟨BV, 0, none⟩ = some (.slice sa2 xs2.length ca2) ∧ w'.cell? ⟨BV, 1, none⟩ = some (.slice sb2 ss2.length cb2) ∧ w'.cell? ⟨BV, 2, none⟩ = some (.int .i64 off2) ∧ w'.cell? ⟨BR, 0, none⟩ = some (.int .i64 c2)) V27.drew) := ⟨AD.out.l.v0, AD.out.l.v1, AD.out.l.v2, AD.out.l.q0⟩
  go_cut [70] (fun sx wx => sx = .bool false ∧ (LV w wx BV BR (.slice sa2 xs2.length ca2) (.slice sb2 ss2.length cb2) xs2 ss2 off2 c2 (.slice ra2 L2.length da2) (.slice rb2 S2.length db2) L2 S2 o2 ∧ Ints wx (.slice sp2 ps2.length cp2) ps2))
  case first =>
    go_region_held3 (fun w' : World => w'.cell? ⟨BV, 0, none⟩ = some (.slice sa2 xs2.length ca2) ∧ w'.cell? ⟨BV, 1, none⟩ = some (.slice sb2 ss2.length cb2) ∧ w'.cell? ⟨BV, 2, none⟩ = some (.int .i64 off2) ∧ w'.cell? ⟨BR, 0, none⟩ = some (.int .i64 c2)) (first | with_reducible exact SA.out | with_reducible exact SB'.out | exact SA.out | exact SB'.out | fail) (first | (go_at_call 34; refine (sTR_any AD.out.l.iS.ints AD.out.l.iT.ints ID.out off2 (by omega) (by omega) (by omega) HQ2.out).mono ?_; rintro e W4 ⟨pa, pb, ea, eb, rfl, j1, j2, x4⟩; have A4 := hide (AD.out.keep x4); have I4 := hide (ID.out.below x4); have SB' : Hid ((fun w' : World => w'.cell? ⟨BV, 0, none⟩ = some (.slice sa2 xs2.length ca2) ∧ w'.cell? ⟨BV, 1, none⟩ = some (.slice sb2 ss2.length cb2) ∧ w'.cell? ⟨BV, 2, none⟩ = some (.int .i64 off2) ∧ w'.cell? ⟨BR, 0, none⟩ = some (.int .i64 c2)) W4) := ⟨A4.out.l.v0, A4.out.l.v1, A4.out.l.v2, A4.out.l.q0⟩; clear j1 j2 x4) | fail)
    all_goals (go_wp2_with fail; go_meet; (try case rel => exact ⟨by simp, A4.out, I4.out⟩))
  case rest =>
  obtain ⟨rfl, hA, hI⟩ := hcut
  clear AD ID SA A7 I7
  have A2 := hide hA
  have I2 := hide hI
  clear hA hI
  go_upto_region 14 with fail
  go_cut [82] (fun sx wx => sx = .bool false ∧ (LV w wx BV BR (.slice sa2 xs2.length ca2) (.slice sb2 ss2.length cb2) xs2 ss2 off2 c2 (.slice ra2 L2.length da2) (.slice rb2 S2.length db2) L2 S2 o2 ∧ Ints wx (.slice sp2 ps2.length cp2) ps2))
  case first =>
    have q0 := A2.out.l.q0
    have q1 := A2.out.l.q1
    have q2 := A2.out.l.q2
    have q3 := A2.out.l.q3
    have v0 := A2.out.l.v0
    have v1 := A2.out.l.v1
    have v2 := A2.out.l.v2
    rcases Classical.em (c2 = 0) with hc | hc
    · subst hc
      have HK := hide (trL_ok HQ2.out)
      go_wp2_with fail
      refine (lwPl1 off2 o2 0 0 0 I2.out A2.out.l.iS.ints A2.out.l.iT.ints A2.out.iA A2.out.iB (show Ints _ (.slice none 0 0) [] from ⟨none, 0, rfl, Or.inl rfl⟩) HK.out.1 HK.out.2.1 HK.out.2.2.1 HK.out.2.2.2.1 HK.out.2.2.2.2.1 HK.out.2.2.2.2.2.1 HK.out.2.2.2.2.2.2).mono ?_
      rintro e W9 ⟨rfl, x9⟩
      have A9 := hide (A2.out.keep x9)
      have I9 := hide (I2.out.below x9)
      clear x9
      go_wp2
      go_meet
      case rel => exact ⟨by simp, A9.out, I9.out⟩
    · have dc : (c2 == 0) = false := by simp [hc]
      go_wp2
      go_meet
      case rel => exact ⟨by simp, A2.out, I2.out⟩
  case rest =>
  obtain ⟨rfl, hA, hI⟩ := hcut
  clear A2 I2
  have A2 := hide hA
  clear hA hI
  go_wp2_with fail
  refine (drawBroadcast_any (HC.out.keep A2.out.l.bl)).mono ?_
  rintro e W36 ⟨sa3, sb3, sp3, ca3, cb3, cp3, xs3, ss3, ps3, off3, rfl, i1, i2, i3, ⟨l13, l23, l33⟩, x6⟩
  have k6 := A2.out.l.keep x6
  have u0 := k6.v0
  have u1 := k6.v1
  have u2' := k6.v2
  have uf := k6.vf
  have A6 := hide (A2.out.l.setV x6 i1 i2 (off' := off3))
  have m6 : Mut BV W36 (((W36.setCell ⟨BV, 0, none⟩ (.slice sa3 xs3.length ca3)).setCell ⟨BV, 1, none⟩ (.slice sb3 ss3.length cb3)).setCell ⟨BV, 2, none⟩ (.int .i64 off3)) := (((Mut.refl _ _).setCell _ _).setCell _ _).setCell _ _
  have I6 : Hid (Off (((W36.setCell ⟨BV, 0, none⟩ (.slice sa3 xs3.length ca3)).setCell ⟨BV, 1, none⟩ (.slice sb3 ss3.length cb3)).setCell ⟨BV, 2, none⟩ (.int .i64 off3)) BR (.slice sp3 ps3.length cp3) ps3) := ⟨_, _, i3.mut m6 (Or.inl (cell_lt A2.out.l.v0)), Or.inl (cell_lt A2.out.l.q0)⟩
  have v0 := A6.out.v0
  have v1 := A6.out.v1
  have v2 := A6.out.v2
  clear k6 m6 i1 i2 i3 x6 A2
  go_wp2_with fail
  clear u0 u1 u2' uf v0 v1 v2
  generalize ((W36.setCell ⟨BV, 0, none⟩ (.slice sa3 xs3.length ca3)).setCell ⟨BV, 1, none⟩ (.slice sb3 ss3.length cb3)).setCell ⟨BV, 2, none⟩ (.int .i64 off3) = V36 at A6 I6 ⊢
  rcases hq3 : brL xs3 ss3 off3 ps3 with ⟨c3, L3, S3, o3⟩
  refine (iBR_any A6.out.iS.ints A6.out.iT.ints I6.out.ints off3 (by omega) (by omega) (by omega) hq3).mono ?_
  rintro e W37 ⟨ra3, rb3, da3, db3, rfl, hT, x7⟩
  have HQ3 := hide hq3
  have k7 := A6.out.keep x7
  have u0 := k7.q0
  have u1 := k7.q1
  have u2' := k7.q2
  have u3 := k7.q3
  have uf := k7.qf
  have A7 := hide (A6.out.setR x7 hT (c' := c3) (ro' := o3))
  have I7 := hide (((I6.out.keep x7).mut (chain4m BR W37 (.int .i64 c3) (.slice ra3 L3.length da3) (.slice rb3 S3.length db3) (.int .i64 o3))).ints)
  clear k7 hT x7 hq3 A6 I6
  go_upto_region 18 with fail
  clear u0 u1 u2' u3 uf
  generalize (((W37.setCell ⟨BR, 0, none⟩ (.int .i64 c3)).setCell ⟨BR, 1, none⟩ (.slice ra3 L3.length da3)).setCell ⟨BR, 2, none⟩ (.slice rb3 S3.length db3)).setCell ⟨BR, 3, none⟩ (.int .i64 o3) = V37 at A7 I7 ⊢
  have AD := hide (A7.out.keep (bel_drew V37))
  have ID := hide (I7.out.below (bel_drew V37))
  have SA : Hid ((fun w' : World => w'.cell? ⟨BV, 0, none⟩ = some (.slice sa3 xs3.length ca3) ∧ w'.cell? ⟨BV, 1, none⟩ = some (.slice sb3 ss3.length cb3) ∧ w'.cell? ⟨BV, 2, none⟩ = some (.int .i64 off3) ∧ w'.cell? ⟨BR, 0, none⟩ = some (.int .i64 c3)) V37.drew) := ⟨AD.out.l.v0, AD.out.l.v1, AD.out.l.v2, AD.out.l.q0⟩
  go_cut [97] (fun sx wx => sx = .bool false ∧ (LV w wx BV BR (.slice sa3 xs3.length ca3) (.slice sb3 ss3.length cb3) xs3 ss3 off3 c3 (.slice ra3 L3.length da3) (.slice rb3 S3.length db3) L3 S3 o3 ∧ Ints wx (.slice sp3 ps3.length cp3) ps3))
  case first =>
    go_region_held3 (fun w' : World => w'.cell? ⟨BV, 0, none⟩ = some (.slice sa3 xs3.length ca3) ∧ w'.cell? ⟨BV, 1, none⟩ = some (.slice sb3 ss3.length cb3) ∧ w'.cell? ⟨BV, 2, none⟩ = some (.int .i64 off3) ∧ w'.cell? ⟨BR, 0, none⟩ = some (.int .i64 c3)) (first | with_reducible exact SA.out | with_reducible exact SB'.out | exact SA.out | exact SB'.out | fail) (first | (go_at_call 39; refine (sBR_any AD.out.l.iS.ints AD.out.l.iT.ints ID.out off3 (by omega) (by omega) (by omega) HQ3.out).mono ?_; rintro e W4 ⟨pa, pb, ea, eb, rfl, j1, j2, x4⟩; have A4 := hide (AD.out.keep x4); have I4 := hide (ID.out.below x4); have SB' : Hid ((fun w' : World => w'.cell? ⟨BV, 0, none⟩ = some (.slice sa3 xs3.length ca3) ∧ w'.cell? ⟨BV, 1, none⟩ = some (.slice sb3 ss3.length cb3) ∧ w'.cell? ⟨BV, 2, none⟩ = some (.int .i64 off3) ∧ w'.cell? ⟨BR, 0, none⟩ = some (.int .i64 c3)) W4) := ⟨A4.out.l.v0, A4.out.l.v1, A4.out.l.v2, A4.out.l.q0⟩; clear j1 j2 x4) | fail)
    all_goals (go_wp2_with fail; go_meet; (try case rel => exact ⟨by simp, A4.out, I4.out⟩))
  case rest =>
  obtain ⟨rfl, hA, hI⟩ := hcut
  clear AD ID SA A7 I7
  have A2 := hide hA
  have I2 := hide hI
  clear hA hI
  have q0 := A2.out.l.q0
  have q1 := A2.out.l.q1
  have q2 := A2.out.l.q2
  have q3 := A2.out.l.q3
  have v0 := A2.out.l.v0
  have v1 := A2.out.l.v1
  have v2 := A2.out.l.v2
  rcases Classical.em (c3 = 0) with hc | hc
  · subst hc
    have HK := hide (brL_ok HQ3.out)
    have hLy := (brL_ok HQ3.out).1
    have HLy := hide hLy
    clear hLy
    go_wp2_with fail
    refine (lwSame_any A2.out.iA I2.out (by have := HK.out.2.1.1.1; omega)).mono ?_
    rintro e W9 ⟨rfl, x9⟩
    rw [show decide (L3 = ps3) = true from decide_eq_true HLy.out]
    have A9 := hide (A2.out.keep x9.bl)
    have B9 := hide (A9.out.keep ((Ext.refl W9).alloc #[] 2).bl)
    have q1' := A9.out.l.q1
    have q2' := A9.out.l.q2
    have q3' := A9.out.l.q3
    have v0' := A9.out.l.v0
    have v1' := A9.out.l.v1
    have v2' := A9.out.l.v2
    clear x9 q0 q1 q2 q3 v0 v1 v2 A2 I2
    go_wp2_with fail
    refine (lwPl2 off3 o3 0 0 0 _ B9.out.l.iS.ints B9.out.l.iT.ints B9.out.iA B9.out.iB (show Ints _ (.slice none 0 0) [] from ⟨none, 0, rfl, Or.inl rfl⟩) HK.out.2.1 HK.out.2.2.1 HK.out.2.2.2.1 HK.out.2.2.2.2.1 HK.out.2.2.2.2.2.1 HK.out.2.2.2.2.2.2).mono ?_
    rintro e W10 ⟨rfl, x10⟩
    have A10 := hide (B9.out.keep x10)
    clear x10
    go_wp2
    go_ret
    exact ⟨rfl, A10.out.l.bl⟩
  · have dc : (c3 == 0) = false := by simp [hc]
    go_wp2
    go_ret
    exact ⟨rfl, A2.out.l.bl⟩

end Go.Proofs.Ytiekkninnjffpaa
