import Derived.Test.YtanbgpmbccianaaM14
import Derived.Deep.DeepCutAuto
namespace Go.Proofs.Ytanbgpmbccianaa
open Go.ChangeShapes Go.RowKit FL
set_option linter.unusedSimpArgs false
set_option linter.unusedVariables false

attribute [local go_sem] run_f43 run_f43c
theorem rs_no {xs ss ys : List Int} {off c : Int} {L S : List Int} {o : Int} (h : rsL xs ss off ys = (c, L, S, o)) (hc : c ≠ 0) : L = [] := by
  unfold rsL at h
  split at h
  · split at h
    · split at h
      · simp only [Prod.mk.injEq] at h; exact absurd h.1.symm hc
      · simp only [Prod.mk.injEq] at h; exact h.2.1.symm
    · simp only [Prod.mk.injEq] at h; exact h.2.1.symm
  · simp only [Prod.mk.injEq] at h; exact h.2.1.symm
def LawRR (w : World) (e : Ending) (w' : World) : Prop := e = .returned (.bool true) ∧ Bel w w'

set_option maxRecDepth 100000 in
set_option maxHeartbeats 8000000 in
theorem lawRR_no (w : World) (v : Value) (cs : List Int) (hC : Code w v cs) (hl : cs.length ≤ 1048576) {xs ss ys : List Int} {off : Int} (hr : reshD (cs.take 4000) (0, mixL cs.length (cs.take 4000)) = ((xs, ss, off), ys)) {c o : Int} {L S : List Int} (hq : rsL xs ss off ys = (c, L, S, o)) (hc : c ≠ 0) : Calls Try.prog 3 #[v] w fun e w' => LawRR w e w' := by
  have HD : Hid (∀ W, Bel w W → Calls Try.prog 4 #[v] W fun e w' => DrawPOk W (xs, ss, off) ys e w') := fun W hb => drawReshape_any (hC.keep hb) hr
  have HQ := hide hq
  clear hq hr
  obtain ⟨sv, cv, rfl, hh⟩ := hC
  clear hh
  have nx : ¬ (1048576 : Int) < (cs.length : Int) := by omega
  go_enter Try.func3, Try.ntmps3
  go_wp2_with fail
  refine (HD.out w (Below.refl _ _)).mono ?_
  rintro e W1 ⟨a1, b1, p1, ca1, cb1, cp1, rfl, hA1, hB1, hP1, hbd, x1⟩
  simp only at hA1 hB1 hP1 hbd ⊢
  have y1 : Ext W1 (W1.alloc (.cells #[.slice a1 xs.length ca1, .slice b1 ss.length cb1, .int .i64 off] 25)) := (Ext.refl _).alloc _ _
  have I1 := hide (hA1.ints.ext y1)
  have I2 := hide (hB1.ints.ext y1)
  have I3 := hide (hP1.ints.ext y1)
  have A1 : Hid (Bel w W1 ∧ Ints W1 (.slice a1 xs.length ca1) xs ∧ Ints W1 (.slice b1 ss.length cb1) ss) := ⟨x1, hA1.ints, hB1.ints⟩
  clear y1 hA1 hB1 hP1 x1
  go_wp2_with fail
  refine (iRS_any I1.out I2.out I3.out off (by omega) (by omega) (by omega) HQ.out).mono ?_
  rintro e W2 ⟨ra, rb, da, db, rfl, hT, x2⟩
  obtain ⟨t1, t2⟩ := two_ib hT
  have A2 := hide (LV.make (c := c) (ro := o) A1.out.1 A1.out.2.1 A1.out.2.2 x2 t1.ints t2.ints)
  have hs1 : (W1.alloc (.cells #[.slice a1 xs.length ca1, .slice b1 ss.length cb1, .int .i64 off] 25)).heap.size = W1.heap.size + 1 := by simp
  rw [hs1] at t1 t2
  have y2 : Ext W2 (W2.alloc (.cells #[.int .i64 c, .slice ra L.length da, .slice rb S.length db, .int .i64 o] 29)) := (Ext.refl _).alloc _ _
  have T1 := hide (t1.keep y2.bl)
  have T2 := hide (t2.keep y2.bl)
  clear hT t1 t2 x2 A1 I1 I2 I3 y2 hs1
  go_wp2_with fail
  generalize W2.alloc (.cells #[.int .i64 c, .slice ra L.length da, .slice rb S.length db, .int .i64 o] 29) = V2 at A2 T1 T2 ⊢
  generalize hBV : W1.heap.size = BV at A2 T1 T2 ⊢
  generalize hBR : W2.heap.size = BR at A2 T1 T2 ⊢
  clear hBV hBR
  refine (HD.out V2 A2.out.l.bl).mono ?_
  rintro e W3 ⟨a2, b2, p2, ca2, cb2, cp2, rfl, i1, i2, i3, hbd2, x3⟩
  simp only at i1 i2 i3 ⊢
  have k3 := A2.out.l.keep x3
  have u0 := k3.v0
  have u1 := k3.v1
  have u2' := k3.v2
  have uf := k3.vf
  have A3 := hide (A2.out.setV T1.out T2.out (Nat.lt_succ_self BV) x3 i1 i2 (off' := off))
  have m3 : Mut BV W3 (((W3.setCell ⟨BV, 0, none⟩ (.slice a2 xs.length ca2)).setCell ⟨BV, 1, none⟩ (.slice b2 ss.length cb2)).setCell ⟨BV, 2, none⟩ (.int .i64 off)) := (((Mut.refl _ _).setCell _ _).setCell _ _).setCell _ _
  have J3 : Hid (Ints (((W3.setCell ⟨BV, 0, none⟩ (.slice a2 xs.length ca2)).setCell ⟨BV, 1, none⟩ (.slice b2 ss.length cb2)).setCell ⟨BV, 2, none⟩ (.int .i64 off)) (.slice p2 ys.length cp2) ys) := (i3.mut m3 (Or.inl (cell_lt A2.out.l.v0))).ints
  clear k3 m3 i1 i2 i3 x3 A2 T1 T2
  go_upto_region 6 with fail
  clear u0 u1 u2' uf
  generalize ((W3.setCell ⟨BV, 0, none⟩ (.slice a2 xs.length ca2)).setCell ⟨BV, 1, none⟩ (.slice b2 ss.length cb2)).setCell ⟨BV, 2, none⟩ (.int .i64 off) = V3w at A3 J3 ⊢
  have AD := hide (A3.out.keep (bel_drew V3w))
  have JD := hide (J3.out.below (bel_drew V3w))
  have SA : Hid ((fun w' : World => w'.cell? ⟨BV, 0, none⟩ = some (.slice a2 xs.length ca2) ∧ w'.cell? ⟨BV, 1, none⟩ = some (.slice b2 ss.length cb2) ∧ w'.cell? ⟨BV, 2, none⟩ = some (.int .i64 off) ∧ w'.cell? ⟨BR, 0, none⟩ = some (.int .i64 c)) V3w.drew) := ⟨AD.out.l.v0, AD.out.l.v1, AD.out.l.v2, AD.out.l.q0⟩
  go_cut [32] (fun sx wx => sx = .bool false ∧ LV w wx BV BR (.slice a2 xs.length ca2) (.slice b2 ss.length cb2) xs ss off c (.slice ra L.length da) (.slice rb S.length db) L S o ∧ Ints wx (.slice p2 ys.length cp2) ys)
  case first =>
    go_region_held3 (fun w' : World => w'.cell? ⟨BV, 0, none⟩ = some (.slice a2 xs.length ca2) ∧ w'.cell? ⟨BV, 1, none⟩ = some (.slice b2 ss.length cb2) ∧ w'.cell? ⟨BV, 2, none⟩ = some (.int .i64 off) ∧ w'.cell? ⟨BR, 0, none⟩ = some (.int .i64 c)) (first | with_reducible exact SA.out | with_reducible exact SB'.out | exact SA.out | exact SB'.out | fail) (first | (go_at_call 6; refine (sRS_any AD.out.l.iS.ints AD.out.l.iT.ints JD.out off (by omega) (by omega) (by omega) HQ.out).mono ?_; rintro e w4 ⟨za, zb, zc, zd, rfl, z1, z2, x4⟩; have A4 := hide (AD.out.keep x4); have J4 := hide (JD.out.below x4); have SB' : Hid ((fun w' : World => w'.cell? ⟨BV, 0, none⟩ = some (.slice a2 xs.length ca2) ∧ w'.cell? ⟨BV, 1, none⟩ = some (.slice b2 ss.length cb2) ∧ w'.cell? ⟨BV, 2, none⟩ = some (.int .i64 off) ∧ w'.cell? ⟨BR, 0, none⟩ = some (.int .i64 c)) w4) := ⟨A4.out.l.v0, A4.out.l.v1, A4.out.l.v2, A4.out.l.q0⟩; clear z1 z2 x4) | fail)
    all_goals (go_wp2_with fail; go_meet; (try case rel => exact ⟨by simp, A4.out, J4.out⟩))
  case rest =>
  obtain ⟨rfl, hA, hJ⟩ := hcut
  clear AD SA A3 JD J3
  have A3 := hide hA
  have J3 := hide hJ
  clear hA hJ
  have q0 := A3.out.l.q0
  have q1 := A3.out.l.q1
  have dc : (c == 0) = false := by simp [hc]
  have dc2 : (c != 0) = true := by simp [hc]
  have hL : L = [] := rs_no HQ.out hc
  subst hL
  go_wp2
  go_ret
  exact ⟨rfl, A3.out.l.bl⟩
end Go.Proofs.Ytanbgpmbccianaa
