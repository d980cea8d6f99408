import Derived.Test.YtfhcpicddegblaaGreatM11
import Derived.Test.YtfhcpicddegblaaGreatM12
import Derived.Test.YtfhcpicddegblaaGreatM12
import Derived.Test.YtfhcpicddegblaaGreatM11
import Derived.Test.YtfhcpicddegblaaGreatM11
import Derived.Test.YtfhcpicddegblaaGreatM11
import Derived.Test.YtfhcpicddegblaaGreatM11
namespace Go.Proofs.YtfhcpicddegblaaGreat
open Go.ChangeShapes Go.RowKit FL
set_option linter.unusedSimpArgs false
set_option linter.unusedVariables false

theorem row_new2d (W : World) (a b : Int) (t : TypeId) : Row (W.alloc (.cells #[.int .i64 a, .int .i64 b] t)).drew W.heap.size 0 [a, b] := fun j hj => row_new2 W a b t j hj
set_option maxRecDepth 100000 in
set_option maxHeartbeats 8000000 in
theorem sSolve_any {w : World} {v va vb vo : Value} {ss : List St} {a b o : Ar} (h : SV w v ss) (hg : SG ss) (hl : SL ss 1048576) (ha : AV w va a) (hb : AV w vb b) (ho : AV w vo o) :
    Calls Tryz.prog 8 #[.agg #[v], va, vb, vo] w fun e w' => ∃ c u ts, e = .returned (.agg #[.int .i64 c, u]) ∧ SolveOk ss a b o c ts ∧ MSp w' w.heap.size u ts ∧ Bel w w' := by
  obtain ⟨sa, cap, rfl, hx⟩ := h
  have h : SV w (.slice sa ss.length cap) ss := ⟨sa, cap, rfl, hx⟩
  obtain ⟨p1, c1, q1, d1, rfl, ia1, ia2, la⟩ := ha
  obtain ⟨p2, c2, q2, d2, rfl, ib1, ib2, lb⟩ := hb
  obtain ⟨p3, c3, q3, d3, rfl, io1, io2, lo⟩ := ho
  have BX0 := SBx.start w (.slice sa ss.length cap) [.int .i64 a.st, .slice p1 a.xs.length c1, .slice q1 a.sv.length d1, .int .i64 a.off] [.int .i64 b.st, .slice p2 b.xs.length c2, .slice q2 b.sv.length d2, .int .i64 b.off] [.int .i64 o.st, .slice p3 o.xs.length c3, .slice q3 o.sv.length d3, .int .i64 o.off]
  have AR := arow3 (B := w.heap.size + 5) (W := (((((w.alloc (.cells #[.slice sa ss.length cap] 34)).alloc (.cells #[.int .i64 a.st, .slice p1 a.xs.length c1, .slice q1 a.sv.length d1, .int .i64 a.off] 41)).alloc (.cells #[.int .i64 b.st, .slice p2 b.xs.length c2, .slice q2 b.sv.length d2, .int .i64 b.off] 41)).alloc (.cells #[.int .i64 o.st, .slice p3 o.xs.length c3, .slice q3 o.sv.length d3, .int .i64 o.off] 41)).alloc (.cells #[.int .i64 0, .slice none 0 0] 36))) (by simp) ia1 ia2 ib1 ib2 io1 io2 BX0.bl
  have HH := hide h
  have xr : Ext (((((w.alloc (.cells #[.slice sa ss.length cap] 34)).alloc (.cells #[.int .i64 a.st, .slice p1 a.xs.length c1, .slice q1 a.sv.length d1, .int .i64 a.off] 41)).alloc (.cells #[.int .i64 b.st, .slice p2 b.xs.length c2, .slice q2 b.sv.length d2, .int .i64 b.off] 41)).alloc (.cells #[.int .i64 o.st, .slice p3 o.xs.length c3, .slice q3 o.sv.length d3, .int .i64 o.off] 41)).alloc (.cells #[.int .i64 0, .slice none 0 0] 36)) (((((((w.alloc (.cells #[.slice sa ss.length cap] 34)).alloc (.cells #[.int .i64 a.st, .slice p1 a.xs.length c1, .slice q1 a.sv.length d1, .int .i64 a.off] 41)).alloc (.cells #[.int .i64 b.st, .slice p2 b.xs.length c2, .slice q2 b.sv.length d2, .int .i64 b.off] 41)).alloc (.cells #[.int .i64 o.st, .slice p3 o.xs.length c3, .slice q3 o.sv.length d3, .int .i64 o.off] 41)).alloc (.cells #[.int .i64 0, .slice none 0 0] 36))).alloc (.cells #[.int .i64 a.st, .slice p1 a.xs.length c1, .slice q1 a.sv.length d1, .int .i64 a.off, .int .i64 b.st, .slice p2 b.xs.length c2, .slice q2 b.sv.length d2, .int .i64 b.off, .int .i64 o.st, .slice p3 o.xs.length c3, .slice q3 o.sv.length d3, .int .i64 o.off] 41)) := (Ext.refl _).alloc _ _
  have HF := hide (l4First_any (o := 0) (cp := 3) (h.keep (Bel.tr BX0.bl xr.bl)) hg hl AR (fun x hx => by simp at hx; rcases hx with rfl | rfl | rfl <;> assumption) (by simp))
  have HB0 := hide (BX0.keep xr.bl)
  have b0 := BX0.h
  have a0 := BX0.a 0 _ rfl
  have a1 := BX0.a 1 _ rfl
  have a2 := BX0.a 2 _ rfl
  have a3 := BX0.a 3 _ rfl
  have e0 := BX0.b 0 _ rfl
  have e1 := BX0.b 1 _ rfl
  have e2 := BX0.b 2 _ rfl
  have e3 := BX0.b 3 _ rfl
  have o0 := BX0.o 0 _ rfl
  have o1 := BX0.o 1 _ rfl
  have o2 := BX0.o 2 _ rfl
  have o3 := BX0.o 3 _ rfl
  clear AR BX0 xr hx h
  go_enter Tryz.func8, Tryz.ntmps8
  go_wp2_with fail
  refine HF.out.mono ?_
  rintro e w1 ⟨rfl, b1⟩
  have HB1 := hide (HB0.out.keep b1)
  clear b1 HF HB0 b0 a0 a1 a2 a3 e0 e1 e2 e3 o0 o1 o2 o3
  generalize hfe : firstL ss [a, b, o] = fc
  by_cases hfc : fc ≠ 0
  · have hok : Hid (fc = solveC ss a b o) := by show fc = _; unfold solveC; rw [hfe, if_pos hfc]
    have hne : (fc == 0) = false := by rw [beq_eq_false_iff_ne]; exact hfc
    have b0 := HB1.out.h
    have a0 := HB1.out.a 0 _ rfl
    have a1 := HB1.out.a 1 _ rfl
    have a2 := HB1.out.a 2 _ rfl
    have a3 := HB1.out.a 3 _ rfl
    have e0 := HB1.out.b 0 _ rfl
    have e1 := HB1.out.b 1 _ rfl
    have e2 := HB1.out.b 2 _ rfl
    have e3 := HB1.out.b 3 _ rfl
    have o0 := HB1.out.o 0 _ rfl
    have o1 := HB1.out.o 1 _ rfl
    have o2 := HB1.out.o 2 _ rfl
    have o3 := HB1.out.o 3 _ rfl
    have r0 := HB1.out.r0
    have r1 := HB1.out.r1
    have f0 := HB1.out.fz 0
    have f1 := HB1.out.fz 1
    go_wp2
    refine bodyPost_ret (v := .agg #[.int .i64 fc, .slice none 0 0]) (by simp [results, Tryz.results8, go_sem, r0, r1]) rfl ⟨fc, _, [], rfl, ⟨hok.out, .inl ⟨by first | exact hfc | omega, rfl⟩⟩, .inl ⟨rfl, rfl⟩, by (first | exact (HB1.out.bl.setCell (p := ⟨w.heap.size + 1 + 1 + 1 + 1, 0, none⟩) (by show _ ≤ w.heap.size + 1 + 1 + 1 + 1; omega) _).setCell (p := ⟨w.heap.size + 1 + 1 + 1 + 1, 1, none⟩) (by show _ ≤ w.heap.size + 1 + 1 + 1 + 1; omega) _ | exact HB1.out.bl.setCell (p := ⟨w.heap.size + 1 + 1 + 1 + 1, 0, none⟩) (by show _ ≤ w.heap.size + 1 + 1 + 1 + 1; omega) _)⟩
  have hfc0 : fc = 0 := by omega
  subst hfc0
  obtain ⟨hga0, hgb0, hgo0⟩ := first_good hfe
  have hga := hide hga0
  have hgb := hide hgb0
  have hgo := hide hgo0
  clear hga0 hgb0 hgo0
  have HT1 := hide (fun W (x : Bel w W) => l4Type_any (vS := .slice p1 a.xs.length c1) (vT := .slice q1 a.sv.length d1) (HH.out.keep x) a.st a.off hga.out.1.1 hga.out.1.2)
  have HT2 := hide (fun W (x : Bel w W) => l4Type_any (vS := .slice p2 b.xs.length c2) (vT := .slice q2 b.sv.length d2) (HH.out.keep x) b.st b.off hgb.out.1.1 hgb.out.1.2)
  have HT3 := hide (fun W (x : Bel w W) => l4Type_any (vS := .slice p3 o.xs.length c3) (vT := .slice q3 o.sv.length d3) (HH.out.keep x) o.st o.off hgo.out.1.1 hgo.out.1.2)
  have hda : Hid (a.dt ss = (ss.getD a.st.toNat s0).1) := rfl
  have hdb : Hid (b.dt ss = (ss.getD b.st.toNat s0).1) := rfl
  have hdo : Hid (o.dt ss = (ss.getD o.st.toNat s0).1) := rfl
  rw [← hda.out] at HT1
  rw [← hdb.out] at HT2
  rw [← hdo.out] at HT3
  have h4 : Hid (dblB ss a b o = false → solveC ss a b o = 4) := fun q => by unfold solveC; rw [hfe, if_neg (by simp), if_pos q]
  have h5 : Hid (dblB ss a b o = true → solveC ss a b o = if fitB a b o = false then 6 else if WrV o.xs o.sv o.off then (if ((sys0 ss a b).elim (solN b)).isSome then 0 else 11) else 9) := fun q => by unfold solveC; rw [hfe, if_neg (by simp), if_neg (by rw [q]; simp)]
  have hdbl : Hid (dblB ss a b o = decide (a.dt ss = 8 ∧ b.dt ss = 8 ∧ o.dt ss = 8)) := rfl
  generalize a.dt ss = da at HT1 hdbl
  generalize b.dt ss = db at HT2 hdbl
  generalize o.dt ss = dd at HT3 hdbl
  clear hda hdb hdo
  have b0 := HB1.out.h
  have a0 := HB1.out.a 0 _ rfl
  have a1 := HB1.out.a 1 _ rfl
  have a2 := HB1.out.a 2 _ rfl
  have a3 := HB1.out.a 3 _ rfl
  have e0 := HB1.out.b 0 _ rfl
  have e1 := HB1.out.b 1 _ rfl
  have e2 := HB1.out.b 2 _ rfl
  have e3 := HB1.out.b 3 _ rfl
  have o0 := HB1.out.o 0 _ rfl
  have o1 := HB1.out.o 1 _ rfl
  have o2 := HB1.out.o 2 _ rfl
  have o3 := HB1.out.o 3 _ rfl
  have r0 := HB1.out.r0
  have r1 := HB1.out.r1
  have f0 := HB1.out.fz 0
  have f1 := HB1.out.fz 1
  by_cases k1 : da = 8
  · subst k1
    by_cases k2 : db = 8
    · subst k2
      by_cases k3 : dd = 8
      · subst k3
        have hD : dblB ss a b o = true := by rw [hdbl.out]; rfl
        have h6 := hide (h5.out hD)
        go_wp2_with fail
        refine (HT1.out _ HB1.out.bl).mono ?_
        rintro e w2 ⟨rfl, x2⟩
        have HB2 := hide (HB1.out.keep x2.bl)
        clear x2 b0 a0 a1 a2 a3 e0 e1 e2 e3 o0 o1 o2 o3 r0 r1 f0 f1
        have b0 := HB2.out.h
        have a0 := HB2.out.a 0 _ rfl
        have a1 := HB2.out.a 1 _ rfl
        have a2 := HB2.out.a 2 _ rfl
        have a3 := HB2.out.a 3 _ rfl
        have e0 := HB2.out.b 0 _ rfl
        have e1 := HB2.out.b 1 _ rfl
        have e2 := HB2.out.b 2 _ rfl
        have e3 := HB2.out.b 3 _ rfl
        have o0 := HB2.out.o 0 _ rfl
        have o1 := HB2.out.o 1 _ rfl
        have o2 := HB2.out.o 2 _ rfl
        have o3 := HB2.out.o 3 _ rfl
        have r0 := HB2.out.r0
        have r1 := HB2.out.r1
        have f0 := HB2.out.fz 0
        have f1 := HB2.out.fz 1
        go_wp2_with fail
        refine (HT2.out _ HB2.out.bl).mono ?_
        rintro e w3 ⟨rfl, x3⟩
        have HB3 := hide (HB2.out.keep x3.bl)
        clear x3 b0 a0 a1 a2 a3 e0 e1 e2 e3 o0 o1 o2 o3 r0 r1 f0 f1
        have b0 := HB3.out.h
        have a0 := HB3.out.a 0 _ rfl
        have a1 := HB3.out.a 1 _ rfl
        have a2 := HB3.out.a 2 _ rfl
        have a3 := HB3.out.a 3 _ rfl
        have e0 := HB3.out.b 0 _ rfl
        have e1 := HB3.out.b 1 _ rfl
        have e2 := HB3.out.b 2 _ rfl
        have e3 := HB3.out.b 3 _ rfl
        have o0 := HB3.out.o 0 _ rfl
        have o1 := HB3.out.o 1 _ rfl
        have o2 := HB3.out.o 2 _ rfl
        have o3 := HB3.out.o 3 _ rfl
        have r0 := HB3.out.r0
        have r1 := HB3.out.r1
        have f0 := HB3.out.fz 0
        have f1 := HB3.out.fz 1
        go_wp2_with fail
        refine (HT3.out _ HB3.out.bl).mono ?_
        rintro e w4 ⟨rfl, x4⟩
        have HB4 := hide (HB3.out.keep x4.bl)
        clear x4 b0 a0 a1 a2 a3 e0 e1 e2 e3 o0 o1 o2 o3 r0 r1 f0 f1
        have b0 := HB4.out.h
        have a0 := HB4.out.a 0 _ rfl
        have a1 := HB4.out.a 1 _ rfl
        have a2 := HB4.out.a 2 _ rfl
        have a3 := HB4.out.a 3 _ rfl
        have e0 := HB4.out.b 0 _ rfl
        have e1 := HB4.out.b 1 _ rfl
        have e2 := HB4.out.b 2 _ rfl
        have e3 := HB4.out.b 3 _ rfl
        have o0 := HB4.out.o 0 _ rfl
        have o1 := HB4.out.o 1 _ rfl
        have o2 := HB4.out.o 2 _ rfl
        have o3 := HB4.out.o 3 _ rfl
        have r0 := HB4.out.r0
        have r1 := HB4.out.r1
        have f0 := HB4.out.fz 0
        have f1 := HB4.out.fz 1
        clear h4 h5 hdbl
        have HS2 := hide (fun W (x : Bel w W) => sameList_any (ints_bel ib1 x) (ints_bel io1 x) lb.1 lo.1)
        have hdr : Hid (Bel w4 w4.drew) := (Below.refl _ _).drew
        have HB4d := hide (HB4.out.keep hdr.out)
        have hfit6 : Hid (fitB a b o = false → solveC ss a b o = 6) := fun q => by rw [h6.out, if_pos q]
        have hfit7 : Hid (fitB a b o = true → solveC ss a b o = if WrV o.xs o.sv o.off then (if ((sys0 ss a b).elim (solN b)).isSome then 0 else 11) else 9) := fun q => by rw [h6.out, if_neg (by rw [q]; simp)]
        by_cases m1 : b.xs.length = 1
        · obtain ⟨sb2, cb2, eb2, hbr⟩ := ib1
          injection eb2 with eb3 _ eb4
          subst eb3 eb4
          obtain ⟨bb, ob, rfl, hbr2⟩ := hbr.resolve_left (fun q => by rw [q] at m1; simp at m1)
          have hb0 := hbr2 0 (by omega)
          rw [Nat.add_zero] at hb0
          have ee0 := Bel.box HB4.out.bl hb0
          have hbcell0 := hb0
          have hb0l := cell_lt hb0
          have hfe2 : Hid (fitB a b o = decide (a.xs = [b.xs.getD 0 0, b.xs.getD 0 0] ∧ b.xs = o.xs)) := by
            show decide _ = decide _
            simp [m1]
          have HS1 := hide (fun W (x : Bel w W) (bk : Nat) (r : Row W bk 0 [b.xs.getD 0 0, b.xs.getD 0 0]) => sameList_any (ints_bel ia1 x) (⟨some ⟨bk, 0, none⟩, 2, rfl, Or.inr ⟨bk, 0, rfl, r⟩⟩ : Ints W (.slice (some ⟨bk, 0, none⟩) 2 2) [b.xs.getD 0 0, b.xs.getD 0 0]) la.1 (by simp))
          generalize hB0 : b.xs.getD 0 0 = b0' at ee0 hfe2 HS1 hbcell0
          have Hb0 := hide hB0
          have hbcell := hide hbcell0
          have ib1' : Ints w (.slice (some ⟨bb, ob, none⟩) b.xs.length c2) b.xs := ⟨_, _, rfl, Or.inr ⟨bb, ob, rfl, hbr2⟩⟩
          clear hbcell0
          clear hB0 hb0 hbr hbr2
          rw [m1] at e1 HS2
          have SA : Hid ((fun w' : World => w'.cell? ⟨w.heap.size + 1, 1, none⟩ = some (.slice p1 a.xs.length c1) ∧ w'.cell? ⟨w.heap.size + 1 + 1, 1, none⟩ = some (.slice (some ⟨bb, ob, none⟩) 1 c2) ∧ w'.cell? ⟨w.heap.size + 1 + 1 + 1, 1, none⟩ = some (.slice p3 o.xs.length c3) ∧ w'.cell? ⟨bb, ob, none⟩ = some (.int .i64 b0')) w4.drew) := ⟨a1, e1, o1, ee0⟩
          by_cases m2 : a.xs = [b0', b0']
          · rw [decide_eq_true m2] at HS1
            by_cases m3 : b.xs = o.xs
            · rw [decide_eq_true m3] at HS2
              have hok7 := hide (hfit7.out (by rw [hfe2.out, decide_eq_true ⟨m2, m3⟩]))
              have hfitT : Hid (fitB a b o = true) := by show _ = _; rw [hfe2.out, decide_eq_true ⟨m2, m3⟩]
              clear hfit6 hfit7 hfe2 h6
              have M2 := hide m2
              have M3 := hide m3
              clear m2 m3
              go_wp2_with fail
              refine region_u (S := (fun w' : World => w'.cell? ⟨w.heap.size + 1, 1, none⟩ = some (.slice p1 a.xs.length c1) ∧ w'.cell? ⟨w.heap.size + 1 + 1, 1, none⟩ = some (.slice (some ⟨bb, ob, none⟩) 1 c2) ∧ w'.cell? ⟨w.heap.size + 1 + 1 + 1, 1, none⟩ = some (.slice p3 o.xs.length c3) ∧ w'.cell? ⟨bb, ob, none⟩ = some (.int .i64 b0'))) (late := []) (by kernel_rfl) ?_
              refine wpAnyU_takeD (i := 0) (d := 48) (v := .pointer (some ⟨w.heap.size + 1 + 1, 1, none⟩)) rfl (by rfl) (by kernel_rfl) (by kernel_rfl) (fun _ _ _ h => by cases h.1) _ (by kernel_rfl) (by kernel_rfl) (Or.inl ⟨by kernel_rfl, ?_⟩) SA.out ?_
              · intro w' hSw
                obtain ⟨z0, z1, z2, z3⟩ := hSw
                go_simp
              simp only [Act.put, List.setIfInBounds_toArray, List.set_cons_zero, List.set_cons_succ]
              refine wpAnyU_takeD (i := 1) (d := 49) (v := .pointer (some ⟨w.heap.size + 1 + 1, 1, none⟩)) rfl (by rfl) (by kernel_rfl) (by kernel_rfl) (fun _ _ _ h => by cases h.1) _ (by kernel_rfl) (by kernel_rfl) (Or.inl ⟨by kernel_rfl, ?_⟩) SA.out ?_
              · intro w' hSw
                obtain ⟨z0, z1, z2, z3⟩ := hSw
                go_simp
              simp only [Act.put, List.setIfInBounds_toArray, List.set_cons_zero, List.set_cons_succ]
              refine wpAnyU_takeD (i := 2) (d := 50) (v := .slice (some ⟨bb, ob, none⟩) 1 c2) rfl (by rfl) (by kernel_rfl) (by kernel_rfl) (fun _ _ _ h => by cases h.1) _ (by kernel_rfl) (by kernel_rfl) (Or.inl ⟨by kernel_rfl, ?_⟩) SA.out ?_
              · intro w' hSw
                obtain ⟨z0, z1, z2, z3⟩ := hSw
                go_simp
              simp only [Act.put, List.setIfInBounds_toArray, List.set_cons_zero, List.set_cons_succ]
              refine wpAnyU_takeD (i := 3) (d := 51) (v := .int .i64 1) rfl (by rfl) (by kernel_rfl) (by kernel_rfl) (fun _ _ _ h => by cases h.1) _ (by kernel_rfl) (by kernel_rfl) (Or.inl ⟨by kernel_rfl, ?_⟩) SA.out ?_
              · intro w' hSw
                obtain ⟨z0, z1, z2, z3⟩ := hSw
                go_simp
              simp only [Act.put, List.setIfInBounds_toArray, List.set_cons_zero, List.set_cons_succ]
              refine wpAnyU_takeD (i := 4) (d := 52) (v := .bool false) rfl (by rfl) (by kernel_rfl) (by kernel_rfl) (fun _ _ _ h => by cases h.1) _ (by kernel_rfl) (by kernel_rfl) (Or.inl ⟨by kernel_rfl, ?_⟩) SA.out ?_
              · intro w' hSw
                obtain ⟨z0, z1, z2, z3⟩ := hSw
                go_simp
              simp only [Act.put, List.setIfInBounds_toArray, List.set_cons_zero, List.set_cons_succ]
              refine wpAnyU_takeD (i := 5) (d := 53) (v := .bool false) rfl (by rfl) (by kernel_rfl) (by kernel_rfl) (fun _ _ _ h => by cases h.1) _ (by kernel_rfl) (by kernel_rfl) (Or.inl ⟨by kernel_rfl, ?_⟩) SA.out ?_
              · intro w' hSw
                obtain ⟨z0, z1, z2, z3⟩ := hSw
                go_simp
              simp only [Act.put, List.setIfInBounds_toArray, List.set_cons_zero, List.set_cons_succ]
              refine wpAnyU_takeD (i := 6) (d := 54) (v := .pointer (some ⟨w.heap.size + 1, 1, none⟩)) rfl (by rfl) (by kernel_rfl) (by kernel_rfl) (fun _ _ _ h => by cases h.1) _ (by kernel_rfl) (by kernel_rfl) (Or.inl ⟨by kernel_rfl, ?_⟩) SA.out ?_
              · intro w' hSw
                obtain ⟨z0, z1, z2, z3⟩ := hSw
                go_simp
              simp only [Act.put, List.setIfInBounds_toArray, List.set_cons_zero, List.set_cons_succ]
              refine wpAnyU_takeD (i := 7) (d := 55) (v := .pointer (some ⟨w.heap.size + 1, 1, none⟩)) rfl (by rfl) (by kernel_rfl) (by kernel_rfl) (fun _ _ _ h => by cases h.1) _ (by kernel_rfl) (by kernel_rfl) (Or.inl ⟨by kernel_rfl, ?_⟩) SA.out ?_
              · intro w' hSw
                obtain ⟨z0, z1, z2, z3⟩ := hSw
                go_simp
              simp only [Act.put, List.setIfInBounds_toArray, List.set_cons_zero, List.set_cons_succ]
              refine wpAnyU_takeD (i := 8) (d := 56) (v := .slice p1 a.xs.length c1) rfl (by rfl) (by kernel_rfl) (by kernel_rfl) (fun _ _ _ h => by cases h.1) _ (by kernel_rfl) (by kernel_rfl) (Or.inl ⟨by kernel_rfl, ?_⟩) SA.out ?_
              · intro w' hSw
                obtain ⟨z0, z1, z2, z3⟩ := hSw
                go_simp
              simp only [Act.put, List.setIfInBounds_toArray, List.set_cons_zero, List.set_cons_succ]
              refine wpAnyU_takeD (i := 9) (d := 57) (v := .pointer (some ⟨w.heap.size + 1 + 1, 1, none⟩)) rfl (by rfl) (by kernel_rfl) (by kernel_rfl) (fun _ _ _ h => by cases h.1) _ (by kernel_rfl) (by kernel_rfl) (Or.inl ⟨by kernel_rfl, ?_⟩) SA.out ?_
              · intro w' hSw
                obtain ⟨z0, z1, z2, z3⟩ := hSw
                go_simp
              simp only [Act.put, List.setIfInBounds_toArray, List.set_cons_zero, List.set_cons_succ]
              refine wpAnyU_takeD (i := 10) (d := 58) (v := .pointer (some ⟨w.heap.size + 1 + 1, 1, none⟩)) rfl (by rfl) (by kernel_rfl) (by kernel_rfl) (fun _ _ _ h => by cases h.1) _ (by kernel_rfl) (by kernel_rfl) (Or.inl ⟨by kernel_rfl, ?_⟩) SA.out ?_
              · intro w' hSw
                obtain ⟨z0, z1, z2, z3⟩ := hSw
                go_simp
              simp only [Act.put, List.setIfInBounds_toArray, List.set_cons_zero, List.set_cons_succ]
              refine wpAnyU_takeD (i := 11) (d := 59) (v := .slice (some ⟨bb, ob, none⟩) 1 c2) rfl (by rfl) (by kernel_rfl) (by kernel_rfl) (fun _ _ _ h => by cases h.1) _ (by kernel_rfl) (by kernel_rfl) (Or.inl ⟨by kernel_rfl, ?_⟩) SA.out ?_
              · intro w' hSw
                obtain ⟨z0, z1, z2, z3⟩ := hSw
                go_simp
              simp only [Act.put, List.setIfInBounds_toArray, List.set_cons_zero, List.set_cons_succ]
              refine wpAnyU_takeD (i := 12) (d := 60) (v := .pointer (some ⟨bb, ob, none⟩)) rfl (by rfl) (by kernel_rfl) (by kernel_rfl) (fun _ _ _ h => by cases h.1) _ (by kernel_rfl) (by kernel_rfl) (Or.inl ⟨by kernel_rfl, ?_⟩) SA.out ?_
              · intro w' hSw
                obtain ⟨z0, z1, z2, z3⟩ := hSw
                go_simp
              simp only [Act.put, List.setIfInBounds_toArray, List.set_cons_zero, List.set_cons_succ]
              refine wpAnyU_takeD (i := 13) (d := 61) (v := .int .i64 b0') rfl (by rfl) (by kernel_rfl) (by kernel_rfl) (fun _ _ _ h => by cases h.1) _ (by kernel_rfl) (by kernel_rfl) (Or.inl ⟨by kernel_rfl, ?_⟩) SA.out ?_
              · intro w' hSw
                obtain ⟨z0, z1, z2, z3⟩ := hSw
                go_simp
              simp only [Act.put, List.setIfInBounds_toArray, List.set_cons_zero, List.set_cons_succ]
              refine wpAnyU_takeD (i := 14) (d := 62) (v := .pointer (some ⟨w.heap.size + 1 + 1, 1, none⟩)) rfl (by rfl) (by kernel_rfl) (by kernel_rfl) (fun _ _ _ h => by cases h.1) _ (by kernel_rfl) (by kernel_rfl) (Or.inl ⟨by kernel_rfl, ?_⟩) SA.out ?_
              · intro w' hSw
                obtain ⟨z0, z1, z2, z3⟩ := hSw
                go_simp
              simp only [Act.put, List.setIfInBounds_toArray, List.set_cons_zero, List.set_cons_succ]
              refine wpAnyU_takeD (i := 15) (d := 63) (v := .pointer (some ⟨w.heap.size + 1 + 1, 1, none⟩)) rfl (by rfl) (by kernel_rfl) (by kernel_rfl) (fun _ _ _ h => by cases h.1) _ (by kernel_rfl) (by kernel_rfl) (Or.inl ⟨by kernel_rfl, ?_⟩) SA.out ?_
              · intro w' hSw
                obtain ⟨z0, z1, z2, z3⟩ := hSw
                go_simp
              simp only [Act.put, List.setIfInBounds_toArray, List.set_cons_zero, List.set_cons_succ]
              refine wpAnyU_takeD (i := 16) (d := 64) (v := .slice (some ⟨bb, ob, none⟩) 1 c2) rfl (by rfl) (by kernel_rfl) (by kernel_rfl) (fun _ _ _ h => by cases h.1) _ (by kernel_rfl) (by kernel_rfl) (Or.inl ⟨by kernel_rfl, ?_⟩) SA.out ?_
              · intro w' hSw
                obtain ⟨z0, z1, z2, z3⟩ := hSw
                go_simp
              simp only [Act.put, List.setIfInBounds_toArray, List.set_cons_zero, List.set_cons_succ]
              refine wpAnyU_takeD (i := 17) (d := 65) (v := .pointer (some ⟨bb, ob, none⟩)) rfl (by rfl) (by kernel_rfl) (by kernel_rfl) (fun _ _ _ h => by cases h.1) _ (by kernel_rfl) (by kernel_rfl) (Or.inl ⟨by kernel_rfl, ?_⟩) SA.out ?_
              · intro w' hSw
                obtain ⟨z0, z1, z2, z3⟩ := hSw
                go_simp
              simp only [Act.put, List.setIfInBounds_toArray, List.set_cons_zero, List.set_cons_succ]
              refine wpAnyU_takeD (i := 18) (d := 66) (v := .int .i64 b0') rfl (by rfl) (by kernel_rfl) (by kernel_rfl) (fun _ _ _ h => by cases h.1) _ (by kernel_rfl) (by kernel_rfl) (Or.inl ⟨by kernel_rfl, ?_⟩) SA.out ?_
              · intro w' hSw
                obtain ⟨z0, z1, z2, z3⟩ := hSw
                go_simp
              simp only [Act.put, List.setIfInBounds_toArray, List.set_cons_zero, List.set_cons_succ]
              have xal : Ext w4 (w4.alloc (.cells #[.int .i64 b0', .int .i64 b0'] 2)).drew := ((Ext.refl w4).alloc _ _).drew
              have SB1 : Hid ((fun w' : World => w'.cell? ⟨w.heap.size + 1, 1, none⟩ = some (.slice p1 a.xs.length c1) ∧ w'.cell? ⟨w.heap.size + 1 + 1, 1, none⟩ = some (.slice (some ⟨bb, ob, none⟩) 1 c2) ∧ w'.cell? ⟨w.heap.size + 1 + 1 + 1, 1, none⟩ = some (.slice p3 o.xs.length c3) ∧ w'.cell? ⟨bb, ob, none⟩ = some (.int .i64 b0')) (w4.alloc (.cells #[.int .i64 b0', .int .i64 b0'] 2)).drew) := ⟨xal.box a1, xal.box e1, xal.box o1, xal.box ee0⟩
              refine wpAnyU_one (i := 19) (by kernel_rfl) rfl (fun K hK => ?_)
              go_simp
              refine hK.out _ _ (fun _ => SB1.out) ?_
              clear hK K
              try simp only [Act.put, List.setIfInBounds_toArray, List.set_cons_zero, List.set_cons_succ]
              refine wpAnyU_one (i := 20) (by kernel_rfl) rfl (fun K hK => ?_)
              go_simp
              refine (HS1.out _ (Bel.tr HB4.out.bl xal.bl) _ (row_new2d w4 b0' b0' 2)).mono ?_
              rintro e w5 ⟨rfl, x5⟩
              have X5 := hide (xal.trans x5)
              have SB2 : Hid ((fun w' : World => w'.cell? ⟨w.heap.size + 1, 1, none⟩ = some (.slice p1 a.xs.length c1) ∧ w'.cell? ⟨w.heap.size + 1 + 1, 1, none⟩ = some (.slice (some ⟨bb, ob, none⟩) 1 c2) ∧ w'.cell? ⟨w.heap.size + 1 + 1 + 1, 1, none⟩ = some (.slice p3 o.xs.length c3) ∧ w'.cell? ⟨bb, ob, none⟩ = some (.int .i64 b0')) w5) := ⟨X5.out.box a1, X5.out.box e1, X5.out.box o1, X5.out.box ee0⟩
              refine hK.out _ _ (fun _ => SB2.out) ?_
              clear hK K
              try simp only [Act.put, List.setIfInBounds_toArray, List.set_cons_zero, List.set_cons_succ]
              clear x5 xal
              refine wpAnyU_takeD (i := 21) (d := 69) (v := .bool false) rfl (by rfl) (by kernel_rfl) (by kernel_rfl) (fun _ _ _ h => by cases h.1) _ (by kernel_rfl) (by kernel_rfl) (Or.inl ⟨by kernel_rfl, ?_⟩) SB2.out ?_
              · intro w' hSw
                obtain ⟨z0, z1, z2, z3⟩ := hSw
                go_simp
              simp only [Act.put, List.setIfInBounds_toArray, List.set_cons_zero, List.set_cons_succ]
              refine wpAnyU_takeD (i := 22) (d := 70) (v := .bool false) rfl (by rfl) (by kernel_rfl) (by kernel_rfl) (fun _ _ _ h => by cases h.1) _ (by kernel_rfl) (by kernel_rfl) (Or.inl ⟨by kernel_rfl, ?_⟩) SB2.out ?_
              · intro w' hSw
                obtain ⟨z0, z1, z2, z3⟩ := hSw
                go_simp
              simp only [Act.put, List.setIfInBounds_toArray, List.set_cons_zero, List.set_cons_succ]
              refine wpAnyU_takeD (i := 23) (d := 71) (v := .bool false) rfl (by rfl) (by kernel_rfl) (by kernel_rfl) (fun _ _ _ h => by cases h.1) _ (by kernel_rfl) (by kernel_rfl) (Or.inl ⟨by kernel_rfl, ?_⟩) SB2.out ?_
              · intro w' hSw
                obtain ⟨z0, z1, z2, z3⟩ := hSw
                go_simp
              simp only [Act.put, List.setIfInBounds_toArray, List.set_cons_zero, List.set_cons_succ]
              refine wpAnyU_takeD (i := 24) (d := 72) (v := .pointer (some ⟨w.heap.size + 1 + 1, 1, none⟩)) rfl (by rfl) (by kernel_rfl) (by kernel_rfl) (fun _ _ _ h => by cases h.1) _ (by kernel_rfl) (by kernel_rfl) (Or.inl ⟨by kernel_rfl, ?_⟩) SB2.out ?_
              · intro w' hSw
                obtain ⟨z0, z1, z2, z3⟩ := hSw
                go_simp
              simp only [Act.put, List.setIfInBounds_toArray, List.set_cons_zero, List.set_cons_succ]
              refine wpAnyU_takeD (i := 25) (d := 73) (v := .pointer (some ⟨w.heap.size + 1 + 1, 1, none⟩)) rfl (by rfl) (by kernel_rfl) (by kernel_rfl) (fun _ _ _ h => by cases h.1) _ (by kernel_rfl) (by kernel_rfl) (Or.inl ⟨by kernel_rfl, ?_⟩) SB2.out ?_
              · intro w' hSw
                obtain ⟨z0, z1, z2, z3⟩ := hSw
                go_simp
              simp only [Act.put, List.setIfInBounds_toArray, List.set_cons_zero, List.set_cons_succ]
              refine wpAnyU_takeD (i := 26) (d := 74) (v := .slice (some ⟨bb, ob, none⟩) 1 c2) rfl (by rfl) (by kernel_rfl) (by kernel_rfl) (fun _ _ _ h => by cases h.1) _ (by kernel_rfl) (by kernel_rfl) (Or.inl ⟨by kernel_rfl, ?_⟩) SB2.out ?_
              · intro w' hSw
                obtain ⟨z0, z1, z2, z3⟩ := hSw
                go_simp
              simp only [Act.put, List.setIfInBounds_toArray, List.set_cons_zero, List.set_cons_succ]
              refine wpAnyU_takeD (i := 27) (d := 75) (v := .pointer (some ⟨w.heap.size + 1 + 1 + 1, 1, none⟩)) rfl (by rfl) (by kernel_rfl) (by kernel_rfl) (fun _ _ _ h => by cases h.1) _ (by kernel_rfl) (by kernel_rfl) (Or.inl ⟨by kernel_rfl, ?_⟩) SB2.out ?_
              · intro w' hSw
                obtain ⟨z0, z1, z2, z3⟩ := hSw
                go_simp
              simp only [Act.put, List.setIfInBounds_toArray, List.set_cons_zero, List.set_cons_succ]
              refine wpAnyU_takeD (i := 28) (d := 76) (v := .pointer (some ⟨w.heap.size + 1 + 1 + 1, 1, none⟩)) rfl (by rfl) (by kernel_rfl) (by kernel_rfl) (fun _ _ _ h => by cases h.1) _ (by kernel_rfl) (by kernel_rfl) (Or.inl ⟨by kernel_rfl, ?_⟩) SB2.out ?_
              · intro w' hSw
                obtain ⟨z0, z1, z2, z3⟩ := hSw
                go_simp
              simp only [Act.put, List.setIfInBounds_toArray, List.set_cons_zero, List.set_cons_succ]
              refine wpAnyU_takeD (i := 29) (d := 77) (v := .slice p3 o.xs.length c3) rfl (by rfl) (by kernel_rfl) (by kernel_rfl) (fun _ _ _ h => by cases h.1) _ (by kernel_rfl) (by kernel_rfl) (Or.inl ⟨by kernel_rfl, ?_⟩) SB2.out ?_
              · intro w' hSw
                obtain ⟨z0, z1, z2, z3⟩ := hSw
                go_simp
              simp only [Act.put, List.setIfInBounds_toArray, List.set_cons_zero, List.set_cons_succ]
              refine wpAnyU_one (i := 30) (by kernel_rfl) rfl (fun K hK => ?_)
              go_simp
              refine (HS2.out _ (Bel.tr HB4.out.bl X5.out.bl)).mono ?_
              rintro e w6 ⟨rfl, x6⟩
              have X6 := hide (X5.out.trans x6)
              have SB3 : Hid ((fun w' : World => w'.cell? ⟨w.heap.size + 1, 1, none⟩ = some (.slice p1 a.xs.length c1) ∧ w'.cell? ⟨w.heap.size + 1 + 1, 1, none⟩ = some (.slice (some ⟨bb, ob, none⟩) 1 c2) ∧ w'.cell? ⟨w.heap.size + 1 + 1 + 1, 1, none⟩ = some (.slice p3 o.xs.length c3) ∧ w'.cell? ⟨bb, ob, none⟩ = some (.int .i64 b0')) w6) := ⟨X6.out.box a1, X6.out.box e1, X6.out.box o1, X6.out.box ee0⟩
              refine hK.out _ _ (fun _ => SB3.out) ?_
              clear hK K
              try simp only [Act.put, List.setIfInBounds_toArray, List.set_cons_zero, List.set_cons_succ]
              refine wpAnyU_takeD (i := 31) (d := 79) (v := .bool false) rfl (by rfl) (by kernel_rfl) (by kernel_rfl) (fun _ _ _ h => by cases h.1) _ (by kernel_rfl) (by kernel_rfl) (Or.inl ⟨by kernel_rfl, ?_⟩) SB3.out ?_
              · intro w' hSw
                obtain ⟨z0, z1, z2, z3⟩ := hSw
                go_simp
              simp only [Act.put, List.setIfInBounds_toArray, List.set_cons_zero, List.set_cons_succ]
              refine wpAnyU_takeD (i := 32) (d := 80) (v := .bool false) rfl (by rfl) (by kernel_rfl) (by kernel_rfl) (fun _ _ _ h => by cases h.1) _ (by kernel_rfl) (by kernel_rfl) (Or.inl ⟨by kernel_rfl, ?_⟩) SB3.out ?_
              · intro w' hSw
                obtain ⟨z0, z1, z2, z3⟩ := hSw
                go_simp
              simp only [Act.put, List.setIfInBounds_toArray, List.set_cons_zero, List.set_cons_succ]
              refine wpAnyU_done (by kernel_rfl) ?_ _
              refine ⟨rfl, ?_⟩
              have HB5 := hide (HB4.out.keep X6.out.bl)
              clear b0 a0 a1 a2 a3 e0 e1 e2 e3 o0 o1 o2 o3 r0 r1 f0 f1 SA SB1 SB2 SB3 X5 X6 ee0
              have b0 := HB5.out.h
              have a0 := HB5.out.a 0 _ rfl
              have a1 := HB5.out.a 1 _ rfl
              have a2 := HB5.out.a 2 _ rfl
              have a3 := HB5.out.a 3 _ rfl
              have e0 := HB5.out.b 0 _ rfl
              have e1 := HB5.out.b 1 _ rfl
              have e2 := HB5.out.b 2 _ rfl
              have e3 := HB5.out.b 3 _ rfl
              have o0 := HB5.out.o 0 _ rfl
              have o1 := HB5.out.o 1 _ rfl
              have o2 := HB5.out.o 2 _ rfl
              have o3 := HB5.out.o 3 _ rfl
              have r0 := HB5.out.r0
              have r1 := HB5.out.r1
              have f0 := HB5.out.fz 0
              have f1 := HB5.out.fz 1
              have hgood5 := HB5.out.bl
              have HWR := hide (sWR_any (ints_bel io1 hgood5) (ints_bel io2 hgood5) o.off lo.1 lo.2)
              go_wp2_with fail
              refine HWR.out.mono ?_
              rintro e w7 ⟨rfl, b7⟩
              have HB7 := hide (HB5.out.keep b7)
              clear b7 HWR hgood5 b0 a0 a1 a2 a3 e0 e1 e2 e3 o0 o1 o2 o3 r0 r1 f0 f1
              have b0 := HB7.out.h
              have a0 := HB7.out.a 0 _ rfl
              have a1 := HB7.out.a 1 _ rfl
              have a2 := HB7.out.a 2 _ rfl
              have a3 := HB7.out.a 3 _ rfl
              have e0 := HB7.out.b 0 _ rfl
              have e1 := HB7.out.b 1 _ rfl
              have e2 := HB7.out.b 2 _ rfl
              have e3 := HB7.out.b 3 _ rfl
              have o0 := HB7.out.o 0 _ rfl
              have o1 := HB7.out.o 1 _ rfl
              have o2 := HB7.out.o 2 _ rfl
              have o3 := HB7.out.o 3 _ rfl
              have r0 := HB7.out.r0
              have r1 := HB7.out.r1
              have f0 := HB7.out.fz 0
              have f1 := HB7.out.fz 1
              by_cases hwr : WrV o.xs o.sv o.off
              · rw [if_pos hwr] at hok7
                rw [dcWrV_t hwr]
                have HWr := hide hwr
                clear hwr
                obtain ⟨hsq, hal, hbl, hax, hbx, hox, hn4⟩ := sys0_sq hfitT.out hga.out hgb.out
                have ee0 := Bel.box HB7.out.bl hbcell.out
                have hnb : b0' = (solN b : Int) := by
                  have := Hb0.out
                  rw [hbx] at this
                  exact this.symm
                rw [hnb] at ee0
                have ib1n := ib1'
                rw [m1] at ib1n
                obtain ⟨n, HN⟩ : ∃ n : Nat, Hid (solN b = n) := ⟨_, rfl⟩
                obtain ⟨RL, HRL⟩ : ∃ RL : List C3, Hid (a.rd ss = RL) := ⟨_, rfl⟩
                obtain ⟨BL, HBL⟩ : ∃ BL : List C3, Hid (b.rd ss = BL) := ⟨_, rfl⟩
                rw [HN.out] at hal hbl hn4 ee0 hsq
                rw [HRL.out] at hal
                rw [HBL.out] at hbl
                obtain ⟨nn, Hnn⟩ : ∃ nn : Nat, Hid (n * n = nn) := ⟨_, rfl⟩
                obtain ⟨Bf, HBf⟩ : ∃ Bf : List Nat, Hid (BL.map (·.2.1) = Bf) := ⟨_, rfl⟩
                have HAL := hide hal
                have HBN := hide hbl
                have HGR : Hid (CG RL) := by show CG RL; rw [← HRL.out]; exact rd_good hg hga.out
                have HGB : Hid (CG BL) := by show CG BL; rw [← HBL.out]; exact rd_good hg hgb.out
                have HS0 : Hid (sys0 ss a b = ((List.range n).map fun i => laneF RL n i, Bf)) := by
                  show sys0 ss a b = _
                  unfold sys0
                  rw [HN.out, HRL.out, HBL.out, HBf.out]
                have hnn : nn ≤ 16777216 := by
                  have := Nat.mul_le_mul hn4 hn4
                  rw [Hnn.out] at this
                  exact this
                have HRA : Hid (∀ W, Bel w W → Calls Tryz.prog 29 #[.agg #[.slice sa ss.length cap], .int .i64 a.st, .agg #[.slice p1 a.xs.length c1, .slice q1 a.sv.length d1, .int .i64 a.off]] W fun e w' => ∃ sA cA, e = .returned (.slice sA nn cA) ∧ (RL = [] ∨ ∃ g, sA = some ⟨g, 0, none⟩ ∧ CRow w' g 0 RL) ∧ Bel W w') := fun W x => by
                  refine (l4Read_any (HH.out.keep x) hl a.st (ints_bel ia1 x) (ints_bel ia2 x) a.off hga.out).mono ?_
                  rintro e w' ⟨sA, cA, rfl, hO, hB⟩
                  refine ⟨sA, cA, ?_, ?_, hB⟩
                  · show Ending.returned (.slice sA (a.rd ss).length cA) = _
                    rw [HRL.out, HAL.out, Hnn.out]
                  · have hO2 : OwnC w' W.heap.size sA (a.rd ss) := hO
                    rw [HRL.out] at hO2
                    exact hO2.imp id fun ⟨g, q1, q2, q3, q4⟩ => ⟨g, q1, q3⟩
                have HRB : Hid (∀ W, Bel w W → Calls Tryz.prog 29 #[.agg #[.slice sa ss.length cap], .int .i64 b.st, .agg #[.slice (some ⟨bb, ob, none⟩) 1 c2, .slice q2 b.sv.length d2, .int .i64 b.off]] W fun e w' => ∃ sA cA, e = .returned (.slice sA n cA) ∧ (BL = [] ∨ ∃ g, sA = some ⟨g, 0, none⟩ ∧ CRow w' g 0 BL) ∧ Bel W w') := fun W x => by
                  refine (l4Read_any (HH.out.keep x) hl b.st (ints_bel ib1n x) (ints_bel ib2 x) b.off hgb.out).mono ?_
                  rintro e w' ⟨sA, cA, rfl, hO, hB⟩
                  refine ⟨sA, cA, ?_, ?_, hB⟩
                  · show Ending.returned (.slice sA (b.rd ss).length cA) = _
                    rw [HBL.out, HBN.out]
                  · have hO2 : OwnC w' W.heap.size sA (b.rd ss) := hO
                    rw [HBL.out] at hO2
                    exact hO2.imp id fun ⟨g, q1, q2, q3, q4⟩ => ⟨g, q1, q3⟩
                clear hax hbx hox hal hbl hsq hnb ib1n
                rw [m1] at e1
                go_wp2_with fail
                refine (HRA.out _ HB7.out.bl).mono ?_
                rintro e w8 ⟨sA, cA, rfl, oA, xA⟩
                have HB8 := hide (HB7.out.keep xA)
                have OA := hide oA
                clear xA oA HRA ee0 b0 a0 a1 a2 a3 e0 e1 e2 e3 o0 o1 o2 o3 r0 r1 f0 f1
                have b0 := HB8.out.h
                have a0 := HB8.out.a 0 _ rfl
                have a1 := HB8.out.a 1 _ rfl
                have a2 := HB8.out.a 2 _ rfl
                have a3 := HB8.out.a 3 _ rfl
                have e0 := HB8.out.b 0 _ rfl
                have e1 := HB8.out.b 1 _ rfl
                have e2 := HB8.out.b 2 _ rfl
                have e3 := HB8.out.b 3 _ rfl
                have o0 := HB8.out.o 0 _ rfl
                have o1 := HB8.out.o 1 _ rfl
                have o2 := HB8.out.o 2 _ rfl
                have o3 := HB8.out.o 3 _ rfl
                have r0 := HB8.out.r0
                have r1 := HB8.out.r1
                have f0 := HB8.out.fz 0
                have f1 := HB8.out.fz 1
                rw [m1] at e1
                go_wp2_with fail
                refine (HRB.out _ HB8.out.bl).mono ?_
                rintro e w9 ⟨sB, cB, rfl, oB, xB⟩
                have HB9 := hide (HB8.out.keep xB)
                have OA9 : Hid (RL = [] ∨ ∃ g, sA = some ⟨g, 0, none⟩ ∧ CRow w9 g 0 RL) := OA.out.imp id fun ⟨g, q1, q2⟩ => ⟨g, q1, q2.keep xB⟩
                have OB := hide oB
                clear xB oB OA HRB b0 a0 a1 a2 a3 e0 e1 e2 e3 o0 o1 o2 o3 r0 r1 f0 f1
                have b0 := HB9.out.h
                have a0 := HB9.out.a 0 _ rfl
                have a1 := HB9.out.a 1 _ rfl
                have a2 := HB9.out.a 2 _ rfl
                have a3 := HB9.out.a 3 _ rfl
                have e0 := HB9.out.b 0 _ rfl
                have e1 := HB9.out.b 1 _ rfl
                have e2 := HB9.out.b 2 _ rfl
                have e3 := HB9.out.b 3 _ rfl
                have o0 := HB9.out.o 0 _ rfl
                have o1 := HB9.out.o 1 _ rfl
                have o2 := HB9.out.o 2 _ rfl
                have o3 := HB9.out.o 3 _ rfl
                have r0 := HB9.out.r0
                have r1 := HB9.out.r1
                have f0 := HB9.out.fz 0
                have f1 := HB9.out.fz 1
                rw [m1] at e1
                obtain ⟨i64', hi64, hy0, hy1, hy2⟩ := info_parts info64
                obtain ⟨i69, hi69, hz0, hz1, hz2⟩ := info_parts info69
                obtain ⟨i6, hi6, hx0, hx1, hx2⟩ := info_parts info66
                have L0 := hide (LrSt.start w9 n RL Bf)
                go_wp2_with fail
                go_loopw [13, 14] (fun v i wr => ∃ (rv : Value) (k : Nat) (A : Nat → Value) (bs cps : Nat → Nat), rv = v ∧ i = .int .i64 k ∧ k ≤ n ∧ LrSt w9 n RL Bf k v A bs cps wr) (fun v i _ => n - (intOf i).toNat)
                case atStart => exact ⟨_, 0, _, _, _, rfl, rfl, by omega, L0.out⟩
                case round =>
                  obtain ⟨rv, k, A, bs, cps, rfl, rfl, hk, hL⟩ := hrel
                  obtain ⟨wo, rfl⟩ : ∃ wo, wo = wr := ⟨_, rfl⟩
                  have HLr := hide hL
                  have HBo := hide (HB9.out.keep hL.bl)
                  clear hL L0 b0 a0 a1 a2 a3 e0 e1 e2 e3 o0 o1 o2 o3 r0 r1 f0 f1
                  have b0 := HBo.out.h
                  have a0 := HBo.out.a 0 _ rfl
                  have a1 := HBo.out.a 1 _ rfl
                  have a2 := HBo.out.a 2 _ rfl
                  have a3 := HBo.out.a 3 _ rfl
                  have e0 := HBo.out.b 0 _ rfl
                  have e1 := HBo.out.b 1 _ rfl
                  have e2 := HBo.out.b 2 _ rfl
                  have e3 := HBo.out.b 3 _ rfl
                  have o0 := HBo.out.o 0 _ rfl
                  have o1 := HBo.out.o 1 _ rfl
                  have o2 := HBo.out.o 2 _ rfl
                  have o3 := HBo.out.o 3 _ rfl
                  have r0 := HBo.out.r0
                  have r1 := HBo.out.r1
                  have f0 := HBo.out.fz 0
                  have f1 := HBo.out.fz 1
                  rw [m1] at e1
                  by_cases hkn : k < n
                  · have hd : decide ((k : Int) < (n : Int)) = true := decide_eq_true (by omega)
                    have hk0 : (0 : Int) ≤ (k : Int) := Int.natCast_nonneg _
                    have hk1 : (k : Int) < (n : Int) := by omega
                    obtain ⟨gB, rfl, hrB⟩ := OB.out.resolve_left (fun e => by have := HBN.out; rw [e] at this; simp at this; omega)
                    obtain ⟨_, tb1, _⟩ := (hrB.keep HLr.out.bl) k (by rw [HBN.out]; exact hkn)
                    rw [Nat.zero_add] at tb1
                    obtain ⟨gA, rfl, hrA⟩ := OA9.out.resolve_left (fun e => by have := HAL.out; rw [e] at this; have h2 := Nat.mul_pos (show 0 < n by omega) (show 0 < n by omega); simp at this; omega)
                    have HRA9 := hide (hrA.keep HLr.out.bl)
                    obtain ⟨Bk, HBk⟩ : ∃ Bk, Hid (Bf.getD k 0 = Bk) := ⟨_, rfl⟩
                    have hbk : (BL.getD k k0).2.1 = Bk := by
                      have h1 := HBk.out
                      rw [← HBf.out, List.getD_eq_getElem?_getD, List.getElem?_map, List.getElem?_eq_getElem (by rw [HBN.out]; exact hkn)] at h1
                      rw [List.getD_eq_getElem?_getD, List.getElem?_eq_getElem (by rw [HBN.out]; exact hkn)]
                      exact h1
                    rw [hbk] at tb1
                    obtain ⟨Ln, HLn⟩ : ∃ Ln, Hid (laneF RL n k = Ln) := ⟨_, rfl⟩
                    have HLl : Hid (Ln.length = n) := by show _ = _; rw [← HLn.out]; exact laneF_len HAL.out hkn
                    obtain ⟨kn, Hkn⟩ : ∃ kn : Nat, Hid (k * n = kn) := ⟨_, rfl⟩
                    have hkm : (k : Int) * (n : Int) = (kn : Int) := by rw [← Hkn.out]; exact (Int.natCast_mul _ _).symm
                    have hknl : kn + n ≤ nn := by
                      have hle : (k + 1) * n ≤ n * n := Nat.mul_le_mul_right _ hkn
                      rw [Nat.add_mul, Nat.one_mul, Hkn.out, Hnn.out] at hle
                      exact hle
                    have HYc : Hid (∀ j, j < n → wo.cell? ⟨gA, (kn + j) * 3 + 1, none⟩ = some (.float .f64 (Ln.getD j 0))) := fun j hj => by
                      have h1 := (HRA9.out (kn + j) (by rw [HAL.out, Hnn.out]; omega)).2.1
                      rw [Nat.zero_add] at h1
                      rw [h1, ← HLn.out, laneF_at HAL.out hkn hj, Hkn.out]
                    have x5 : Ext wo (wo.alloc (.cells #[.slice none 0 0, .float .f64 Bk] 69)) := (Ext.refl wo).alloc _ _
                    have nb := fun j => new_cell wo #[.slice none 0 0, .float .f64 Bk] 69 wo.heap.size rfl j
                    have NB0 := hide (nb 0)
                    have NB1 := hide (nb 1)
                    have NF : Hid (∀ o, (wo.alloc (.cells #[.slice none 0 0, .float .f64 Bk] 69)).frozen? ⟨wo.heap.size, o, none⟩ = false) := fun o => x5.unfrozen (Nat.le_refl _) o
                    have X5 := hide x5.bl
                    have hgAl : gA < wo.heap.size := cell_lt (HYc.out 0 (by omega))
                    have hszo := HBo.out.sz
                    clear x5 nb hbk hrA hrB HRA9
                    go_wp2_with fail
                    go_loopw [16] (fun i wv => ∃ (j : Nat) (v : Value), i = .int .i64 j ∧ j ≤ n ∧ Bel wo wv ∧ wv.cell? ⟨wo.heap.size, 0, none⟩ = some v ∧ wv.cell? ⟨wo.heap.size, 1, none⟩ = some (.float .f64 Bk) ∧ (∀ o, wv.frozen? ⟨wo.heap.size, o, none⟩ = false) ∧ wv.ownsRow (wo.heap.size + 1) 64 1 v j (flv (Ln.take j))) (fun i _ => n - (intOf i).toNat)
                    case atStart => exact ⟨0, _, rfl, by omega, X5.out, NB0.out, NB1.out, NF.out, ⟨rfl, Or.inl ⟨rfl, rfl⟩⟩⟩
                    case round =>
                      obtain ⟨j, v, rfl, hj, hBv, hv0, hv1, hvf, hvo⟩ := hrel
                      have HBV := hide hBv
                      have HVO := hide hvo
                      have HVF := hide hvf
                      have HV1 := hide hv1
                      by_cases hjl : j < n
                      · have hd : decide ((j : Int) < (n : Int)) = true := decide_eq_true (by omega)
                        have hj0 : (0 : Int) ≤ (j : Int) := Int.natCast_nonneg _
                        have hj1 : (j : Int) < (n : Int) := by omega
                        have ty := Bel.box hBv (HYc.out j hjl)
                        have HTK : Hid (flv (Ln.take (j + 1)) = flv (Ln.take j) ++ [.float .f64 (Ln.getD j 0)]) := flv_take _ _ (by rw [HLl.out]; exact hjl)
                        generalize Ln.getD j 0 = Y at ty HTK
                        obtain ⟨q, hq⟩ : ∃ q, q = kn + j := ⟨_, rfl⟩
                        rw [← hq] at ty
                        have hqi : (kn : Int) + (j : Int) = (q : Int) := by omega
                        have hwk : IntKind.i64.wrap (kn : Int) = (kn : Int) := wrap_small _ (by omega) (by omega)
                        have hwq : IntKind.i64.wrap (q : Int) = (q : Int) := wrap_small _ (by omega) (by omega)
                        have hq0 : (0 : Int) ≤ (q : Int) := Int.natCast_nonneg _
                        have hq1 : (q : Int) < (nn : Int) := by omega
                        clear hq
                        have SA : Hid ((fun w' : World => w'.cell? ⟨wo.heap.size, 0, none⟩ = some v ∧ w'.cell? ⟨gA, q * 3 + 1, none⟩ = some (.float .f64 Y)) wr.drew) := ⟨hv0, ty⟩
                        have hws := HBV.out.size
                        have hsv := cell_lt hv0
                        have hov : Hid (∀ c, v.ownBlock = some c → wo.heap.size + 1 ≤ c ∧ c < wr.heap.size) := fun c hc => HVO.out.lt c hc
                        have HNW : Hid (∀ q u, ([.float .f64 Y] : List Value)[q]? = some u → (wr.alloc (.cells #[.float .f64 Y] 64)).cell? ((⟨wr.heap.size, 0, none⟩ : Addr).add q) = some u) := fun q u hq => by
                          rw [Addr.add_lit, Nat.zero_add, new_cell wr _ 64 _ rfl q]
                          simpa using hq
                        have hvf0 := hvf 0
                        clear hBv hvo hvf hv1
                        go_wp2_with fail
                        refine region_u (S := (fun w' : World => w'.cell? ⟨wo.heap.size, 0, none⟩ = some v ∧ w'.cell? ⟨gA, q * 3 + 1, none⟩ = some (.float .f64 Y))) (late := [14]) (by kernel_rfl) ?_
                        refine wpAnyU_takeD (i := 0) (d := 121) (v := .pointer (some ⟨wo.heap.size, 0, none⟩)) rfl (by rfl) (by kernel_rfl) (by kernel_rfl) (fun _ _ _ h => by cases h.1) _ (by kernel_rfl) (by kernel_rfl) (Or.inl ⟨by kernel_rfl, ?_⟩) SA.out ?_
                        · intro w' hSw
                          obtain ⟨z0, z1⟩ := hSw
                          go_simp
                        simp only [Act.put, List.setIfInBounds_toArray, List.set_cons_zero, List.set_cons_succ]
                        refine wpAnyU_takeD (i := 1) (d := 122) (v := v) rfl (by rfl) (by kernel_rfl) (by kernel_rfl) (fun _ _ _ h => by cases h.1) _ (by kernel_rfl) (by kernel_rfl) (Or.inl ⟨by kernel_rfl, ?_⟩) SA.out ?_
                        · intro w' hSw
                          obtain ⟨z0, z1⟩ := hSw
                          go_simp
                        simp only [Act.put, List.setIfInBounds_toArray, List.set_cons_zero, List.set_cons_succ]
                        refine wpAnyU_takeD (i := 2) (d := 123) (v := .slice (some ⟨gA, 0, none⟩) nn cA) rfl (by rfl) (by kernel_rfl) (by kernel_rfl) (fun _ _ _ h => by cases h.1) _ (by kernel_rfl) (by kernel_rfl) (Or.inl ⟨by kernel_rfl, ?_⟩) SA.out ?_
                        · intro w' hSw
                          obtain ⟨z0, z1⟩ := hSw
                          go_simp
                        simp only [Act.put, List.setIfInBounds_toArray, List.set_cons_zero, List.set_cons_succ]
                        refine wpAnyU_takeD (i := 3) (d := 124) (v := .int .i64 k) rfl (by rfl) (by kernel_rfl) (by kernel_rfl) (fun _ _ _ h => by cases h.1) _ (by kernel_rfl) (by kernel_rfl) (Or.inl ⟨by kernel_rfl, ?_⟩) SA.out ?_
                        · intro w' hSw
                          obtain ⟨z0, z1⟩ := hSw
                          go_simp
                        simp only [Act.put, List.setIfInBounds_toArray, List.set_cons_zero, List.set_cons_succ]
                        refine wpAnyU_takeD (i := 4) (d := 125) (v := .int .i64 n) rfl (by rfl) (by kernel_rfl) (by kernel_rfl) (fun _ _ _ h => by cases h.1) _ (by kernel_rfl) (by kernel_rfl) (Or.inl ⟨by kernel_rfl, ?_⟩) SA.out ?_
                        · intro w' hSw
                          obtain ⟨z0, z1⟩ := hSw
                          go_simp
                        simp only [Act.put, List.setIfInBounds_toArray, List.set_cons_zero, List.set_cons_succ]
                        refine wpAnyU_takeD (i := 5) (d := 126) (v := .int .i64 kn) rfl (by rfl) (by kernel_rfl) (by kernel_rfl) (fun _ _ _ h => by cases h.1) _ (by kernel_rfl) (by kernel_rfl) (Or.inl ⟨by kernel_rfl, ?_⟩) SA.out ?_
                        · intro w' hSw
                          obtain ⟨z0, z1⟩ := hSw
                          go_simp
                        simp only [Act.put, List.setIfInBounds_toArray, List.set_cons_zero, List.set_cons_succ]
                        refine wpAnyU_takeD (i := 6) (d := 127) (v := .int .i64 j) rfl (by rfl) (by kernel_rfl) (by kernel_rfl) (fun _ _ _ h => by cases h.1) _ (by kernel_rfl) (by kernel_rfl) (Or.inl ⟨by kernel_rfl, ?_⟩) SA.out ?_
                        · intro w' hSw
                          obtain ⟨z0, z1⟩ := hSw
                          go_simp
                        simp only [Act.put, List.setIfInBounds_toArray, List.set_cons_zero, List.set_cons_succ]
                        refine wpAnyU_takeD (i := 7) (d := 128) (v := .int .i64 q) rfl (by rfl) (by kernel_rfl) (by kernel_rfl) (fun _ _ _ h => by cases h.1) _ (by kernel_rfl) (by kernel_rfl) (Or.inl ⟨by kernel_rfl, ?_⟩) SA.out ?_
                        · intro w' hSw
                          obtain ⟨z0, z1⟩ := hSw
                          go_simp
                        simp only [Act.put, List.setIfInBounds_toArray, List.set_cons_zero, List.set_cons_succ]
                        refine wpAnyU_takeD (i := 8) (d := 129) (v := .pointer (some ⟨gA, q * 3, none⟩)) rfl (by rfl) (by kernel_rfl) (by kernel_rfl) (fun _ _ _ h => by cases h.1) _ (by kernel_rfl) (by kernel_rfl) (Or.inl ⟨by kernel_rfl, ?_⟩) SA.out ?_
                        · intro w' hSw
                          obtain ⟨z0, z1⟩ := hSw
                          go_simp
                        simp only [Act.put, List.setIfInBounds_toArray, List.set_cons_zero, List.set_cons_succ]
                        refine wpAnyU_takeD (i := 9) (d := 130) (v := .pointer (some ⟨gA, q * 3 + 1, none⟩)) rfl (by rfl) (by kernel_rfl) (by kernel_rfl) (fun _ _ _ h => by cases h.1) _ (by kernel_rfl) (by kernel_rfl) (Or.inl ⟨by kernel_rfl, ?_⟩) SA.out ?_
                        · intro w' hSw
                          obtain ⟨z0, z1⟩ := hSw
                          go_simp
                        simp only [Act.put, List.setIfInBounds_toArray, List.set_cons_zero, List.set_cons_succ]
                        refine wpAnyU_takeD (i := 10) (d := 131) (v := .float .f64 Y) rfl (by rfl) (by kernel_rfl) (by kernel_rfl) (fun _ _ _ h => by cases h.1) _ (by kernel_rfl) (by kernel_rfl) (Or.inl ⟨by kernel_rfl, ?_⟩) SA.out ?_
                        · intro w' hSw
                          obtain ⟨z0, z1⟩ := hSw
                          go_simp
                        simp only [Act.put, List.setIfInBounds_toArray, List.set_cons_zero, List.set_cons_succ]
                        have xal : Ext wr (wr.alloc (.cells #[.float .f64 Y] 64)).drew := ((Ext.refl wr).alloc _ _).drew
                        have SB : Hid ((fun w' : World => w'.cell? ⟨wo.heap.size, 0, none⟩ = some v ∧ w'.cell? ⟨gA, q * 3 + 1, none⟩ = some (.float .f64 Y)) (wr.alloc (.cells #[.float .f64 Y] 64)).drew) := ⟨xal.box SA.out.1, xal.box SA.out.2⟩
                        refine wpAnyU_one (i := 11) (by kernel_rfl) rfl (fun K hK => ?_)
                        go_simp
                        refine hK.out _ _ (fun _ => SB.out) ?_
                        clear hK K
                        try simp only [Act.put, List.setIfInBounds_toArray, List.set_cons_zero, List.set_cons_succ]
                        refine wpAnyU_one (i := 12) (by kernel_rfl) rfl (fun K hK => ?_)
                        refine step_append_lies _ (by rfl) (.tmp 122) (.tmp 132) 67 (by rfl) (wo.heap.size + 1) 64 i64' (.float .f64 0) 1 8 Tryz.underlying67 hi64 hy0 hy1 hy2 rfl (by decide) v j (flv (Ln.take j)) (by rfl) ((HVO.out.alloc _).drew) ⟨wr.heap.size, 0, none⟩ 1 1 [.float .f64 Y] (by rfl) (by rfl) HNW.out (by simp [Value.oneCell']) (by omega) (by unfold maxLen; omega) (by omega) (by simp; omega) (wr.heap.size + 1) (by simp) ?_
                        intro g5 cap5 w5 hown5 hgrow5 hat5 hlt5
                        have hno : ∀ c, c < wo.heap.size + 1 → v.ownBlock ≠ some c := fun c hc e => by have := hov.out c e; omega
                        have hk5 : ∀ c, c < wo.heap.size + 1 → w5.heap[c]? = wr.heap[c]? := fun c hc => (hgrow5.block c (by simp; omega) (fun e => hno c hc e.symm)).trans (xal.bl.block c (by omega))
                        have ck : ∀ {c o x}, c < wo.heap.size + 1 → wr.cell? ⟨c, o, none⟩ = some x → w5.cell? ⟨c, o, none⟩ = some x := fun {c o x} hc hx => (World.cell?_of_block (w := wr) (a := ⟨c, o, none⟩) (hk5 c hc)).trans hx
                        have S5 : Hid ((fun w' : World => w'.cell? ⟨wo.heap.size, 0, none⟩ = some v ∧ w'.cell? ⟨gA, q * 3 + 1, none⟩ = some (.float .f64 Y)) w5) := ⟨ck (by omega) SA.out.1, ck (by omega) SA.out.2⟩
                        refine hK.out _ _ (fun _ => S5.out) ?_
                        clear hK K
                        try simp only [Act.put, List.setIfInBounds_toArray, List.set_cons_zero, List.set_cons_succ]
                        have c5 : w5.cell? ⟨wo.heap.size, 0, none⟩ = some v := S5.out.1
                        have f5 : ∀ o, w5.frozen? ⟨wo.heap.size, o, none⟩ = false := fun o => (World.frozen?_of_block (w := wr) (a := ⟨wo.heap.size, o, none⟩) (hk5 wo.heap.size (by omega))).trans (HVF.out o)
                        have f51 := f5 0
                        have hs5 : wr.heap.size + 1 ≤ w5.heap.size := by have := hgrow5.size; simpa using this
                        have HEND : Hid (Bel wo (w5.setCell ⟨wo.heap.size, 0, none⟩ (.slice (some ⟨g5, 0, none⟩) (j + 1) cap5)) ∧ (w5.setCell ⟨wo.heap.size, 0, none⟩ (.slice (some ⟨g5, 0, none⟩) (j + 1) cap5)).cell? ⟨wo.heap.size, 0, none⟩ = some (.slice (some ⟨g5, 0, none⟩) (j + 1) cap5) ∧ (w5.setCell ⟨wo.heap.size, 0, none⟩ (.slice (some ⟨g5, 0, none⟩) (j + 1) cap5)).cell? ⟨wo.heap.size, 1, none⟩ = some (.float .f64 Bk) ∧ (∀ o, (w5.setCell ⟨wo.heap.size, 0, none⟩ (.slice (some ⟨g5, 0, none⟩) (j + 1) cap5)).frozen? ⟨wo.heap.size, o, none⟩ = false) ∧ (w5.setCell ⟨wo.heap.size, 0, none⟩ (.slice (some ⟨g5, 0, none⟩) (j + 1) cap5)).ownsRow (wo.heap.size + 1) 64 1 (.slice (some ⟨g5, 0, none⟩) (j + 1) cap5) (j + 1) (flv (Ln.take (j + 1)))) := by
                          refine ⟨⟨?_, ?_, ?_, ?_, fun c hc => ?_⟩, World.cell?_setCell_same _ _ _ c5, ?_, fun o => by rw [World.frozen?_setCell]; exact f5 o, ?_⟩
                          · exact hgrow5.os.trans HBV.out.os
                          · exact hgrow5.tape.trans HBV.out.tape
                          · exact hgrow5.output.trans HBV.out.output
                          · simp [World.setCell]; omega
                          · exact (Below.heap_setCell _ _ _ _ (by show c ≠ wo.heap.size; omega)).trans ((hk5 c (by omega)).trans (HBV.out.block c hc))
                          · rw [World.cell?_setCell_other _ _ _ _ (by intro e; simp only [Addr.mk.injEq] at e; omega)]
                            exact ck (by omega) HV1.out
                          · rw [HTK.out]
                            refine own_far hown5 (fun e => ?_)
                            have := own_lo hown5 (by omega)
                            simp [Value.ownBlock] at e
                            omega
                        clear hown5 hgrow5 hat5 hlt5 f5 hk5 hno xal
                        refine wpAnyU_takeD (i := 13) (d := 134) (v := .pointer (some ⟨wo.heap.size, 0, none⟩)) rfl (by rfl) (by kernel_rfl) (by kernel_rfl) (fun _ _ _ h => by cases h.1) _ (by kernel_rfl) (by kernel_rfl) (Or.inl ⟨by kernel_rfl, ?_⟩) S5.out ?_
                        · intro w' hSw
                          obtain ⟨z0, z1⟩ := hSw
                          go_simp
                        simp only [Act.put, List.setIfInBounds_toArray, List.set_cons_zero, List.set_cons_succ]
                        refine wpAnyU_one (i := 14) (by kernel_rfl) rfl (fun K hK => ?_)
                        go_simp
                        refine hK.out _ _ (fun h => absurd h (by decide)) ?_
                        clear hK K
                        try simp only [Act.put, List.setIfInBounds_toArray, List.set_cons_zero, List.set_cons_succ]
                        refine wpAnyU_done (by kernel_rfl) ?_ _
                        refine ⟨rfl, ?_⟩
                        clear SA SB S5
                        go_wp2_with fail
                        go_roundw
                        · exact ⟨j + 1, _, by go_num, by omega, HEND.out⟩
                        · simp [intOf]; omega
                      · have hjj : j = n := by omega
                        subst hjj
                        have hov := HVO.out
                        rw [← HLl.out, List.take_length, HLl.out] at hov
                        have HOV := hide hov
                        have hd : decide ((j : Int) < (j : Int)) = false := decide_eq_false (by omega)
                        have hsv := cell_lt hv0
                        have HOW := hide (own_bel HLr.out.own hBv)
                        have hws := HBV.out.size
                        have hwo9 := HLr.out.bl.size
                        clear hov HVO
                        obtain ⟨c, cv, hvE, hvl⟩ := own_g HOV.out (by omega)
                        subst hvE
                        have HFR : Hid (FRow wr c Ln) := frow_own2 HOV.out HLl.out (by rw [← HLn.out]; exact laneF_b64 HGR.out _ _)
                        have hnew : ∀ q x, ([.slice (some ⟨c, 0, none⟩) j cv, .float .f64 Bk] : List Value)[q]? = some x → (wr.alloc (.cells #[.slice (some ⟨c, 0, none⟩) j cv, .float .f64 Bk] 69)).cell? ((⟨wr.heap.size, 0, none⟩ : Addr).add q) = some x := fun q x hq => by
                          rw [Addr.add_lit, Nat.zero_add, new_cell wr _ 69 _ rfl q]
                          simpa using hq
                        have Hnew := hide hnew
                        clear hnew hBv hvf hvo
                        go_wp2_with (at_builtin; (refine wpList_append_lies _ rfl _ _ 63 rfl w9.heap.size 69 i69 (.agg #[.slice none 0 0, .float .f64 0]) 2 32 Tryz.underlying63 hi69 hz0 hz1 hz2 rfl (by decide) rv k (flatR A Bf k) rfl (HOW.out.alloc _) ⟨wr.heap.size, 0, none⟩ 1 1 [.slice (some ⟨c, 0, none⟩) j cv, .float .f64 Bk] rfl rfl Hnew.out (by simp [Value.oneCell']) (by omega) (by unfold maxLen; omega) (by omega) (by simp; omega) (wr.heap.size + 1) (by simp) ?_); intro g9 c9 w10 hown9 hgrow9 hat9 hlt9; have HO9 := hide hown9; have HG9 := hide hgrow9; have HA9 := hide hat9; clear hown9 hgrow9 hat9 hlt9)
                        have HST := hide (HLr.out.step HBV.out (c := c) (cp := cv) (g := g9) (cap := c9) (by rw [HLn.out]; exact HFR.out) (by rw [HLn.out]; exact HLl.out) (by omega) (by omega) (by rw [HBk.out]; exact HO9.out) HG9.out HA9.out)
                        refine ⟨⟨_, k + 1, _, _, _, rfl, by go_num, by omega, HST.out⟩, ?_⟩
                        simp [intOf]; omega
                  · obtain rfl : n = k := by omega
                    have hd : decide ((n : Int) < (n : Int)) = false := decide_eq_false (by omega)
                    have hBfl : Bf.length = n := by rw [← HBf.out, List.length_map]; exact HBN.out
                    have HSV := hide (HLr.out.solve hBfl (by rw [← HBf.out]; exact bs_b64 HGB.out) hn4)
                    rw [← HS0.out] at HSV
                    clear hBfl
                    go_wp2_with fail
                    refine HSV.out.mono ?_
                    rintro e w11 ⟨xE, hres⟩
                    have HB11 := hide (HB9.out.keep xE)
                    clear xE HSV b0 a0 a1 a2 a3 e0 e1 e2 e3 o0 o1 o2 o3 r0 r1 f0 f1
                    have b0 := HB11.out.h
                    have a0 := HB11.out.a 0 _ rfl
                    have a1 := HB11.out.a 1 _ rfl
                    have a2 := HB11.out.a 2 _ rfl
                    have a3 := HB11.out.a 3 _ rfl
                    have e0 := HB11.out.b 0 _ rfl
                    have e1 := HB11.out.b 1 _ rfl
                    have e2 := HB11.out.b 2 _ rfl
                    have e3 := HB11.out.b 3 _ rfl
                    have o0 := HB11.out.o 0 _ rfl
                    have o1 := HB11.out.o 1 _ rfl
                    have o2 := HB11.out.o 2 _ rfl
                    have o3 := HB11.out.o 3 _ rfl
                    have r0 := HB11.out.r0
                    have r1 := HB11.out.r1
                    have f0 := HB11.out.fz 0
                    have f1 := HB11.out.fz 1
                    rw [m1] at e1
                    rcases hres with ⟨hel, vE, rfl⟩ | ⟨t1, sX, cX, X, hel, rfl, hXr, hXn, hXs, hXb⟩
                    · have hok := hide (hok7.out.trans (by rw [HN.out, hel])).symm
                      go_wp2
                      refine bodyPost_ret (v := .agg #[.int .i64 11, .slice none 0 0]) (by simp [results, Tryz.results8, go_sem, r0, r1]) rfl ⟨11, _, [], rfl, ⟨hok.out, .inl ⟨by first | exact hfc | omega, rfl⟩⟩, .inl ⟨rfl, rfl⟩, by (first | exact (HB11.out.bl.setCell (p := ⟨w.heap.size + 1 + 1 + 1 + 1, 0, none⟩) (by show _ ≤ w.heap.size + 1 + 1 + 1 + 1; omega) _).setCell (p := ⟨w.heap.size + 1 + 1 + 1 + 1, 1, none⟩) (by show _ ≤ w.heap.size + 1 + 1 + 1 + 1; omega) _ | exact HB11.out.bl.setCell (p := ⟨w.heap.size + 1 + 1 + 1 + 1, 0, none⟩) (by show _ ≤ w.heap.size + 1 + 1 + 1 + 1; omega) _)⟩
                    · have HOK := hide (hok7.out.trans (by rw [HN.out, hel]))
                      have HEL := hide hel
                      have HXR := hide hXr
                      have HXS := hide hXs
                      have HXB := hide hXb
                      have HXN := hide hXn
                      have C0 : Hid ((w11.alloc (.cells #[] 66)).ownsRow w11.heap.size 66 3 (.slice (some ⟨w11.heap.size, 0, none⟩) 0 0) 0 (flat (fcells (X.take 0)))) := World.ownsRow_made (base := w11.heap.size) (e := 66) (size := 3) w11 #[] 0 (Nat.le_refl _) (by unfold maxLen; omega) (by simp)
                      have X0 : Hid (Bel w11 (w11.alloc (.cells #[] 66))) := ((Ext.refl w11).alloc _ _).bl
                      clear hel hXr hXs hXb hXn
                      go_wp2_with fail
                      go_loopw [19, 20] (fun v i wr => ∃ (cv : Value) (m : Nat), cv = v ∧ i = .int .i64 m ∧ m ≤ n ∧ wr.ownsRow w11.heap.size 66 3 v m (flat (fcells (X.take m))) ∧ Bel w11 wr) (fun v i _ => n - (intOf i).toNat)
                      case atStart => exact ⟨_, 0, rfl, rfl, by omega, C0.out, X0.out⟩
                      case round =>
                        obtain ⟨cv, m, rfl, rfl, hm, hcv, hbv⟩ := hrel
                        have HCV := hide hcv
                        have HBv := hide hbv
                        have HB12 := hide (HB11.out.keep hbv)
                        clear C0 X0 hcv b0 a0 a1 a2 a3 e0 e1 e2 e3 o0 o1 o2 o3 r0 r1 f0 f1
                        have b0 := HB12.out.h
                        have a0 := HB12.out.a 0 _ rfl
                        have a1 := HB12.out.a 1 _ rfl
                        have a2 := HB12.out.a 2 _ rfl
                        have a3 := HB12.out.a 3 _ rfl
                        have e0 := HB12.out.b 0 _ rfl
                        have e1 := HB12.out.b 1 _ rfl
                        have e2 := HB12.out.b 2 _ rfl
                        have e3 := HB12.out.b 3 _ rfl
                        have o0 := HB12.out.o 0 _ rfl
                        have o1 := HB12.out.o 1 _ rfl
                        have o2 := HB12.out.o 2 _ rfl
                        have o3 := HB12.out.o 3 _ rfl
                        have r0 := HB12.out.r0
                        have r1 := HB12.out.r1
                        have f0 := HB12.out.fz 0
                        have f1 := HB12.out.fz 1
                        rw [m1] at e1
                        by_cases hml : m < n
                        · have hd2 : decide ((m : Int) < (n : Int)) = true := decide_eq_true (by omega)
                          have hm0 : (0 : Int) ≤ (m : Int) := Int.natCast_nonneg _
                          have hm1 : (m : Int) < (n : Int) := by omega
                          obtain ⟨bX, rfl, hFX⟩ := HXR.out.resolve_left (by omega)
                          have tx := Bel.box hbv (hFX.cell m (by rw [HXN.out]; exact hml))
                          have HTK : Hid (flat (fcells (X.take (m + 1))) = flat (fcells (X.take m)) ++ [.int .i64 0, .float .f64 (X.getD m 0), .float .f64 0]) := by
                            show _ = _
                            rw [fcells_take X m (by rw [HXN.out]; exact hml), flat_one]
                            rfl
                          generalize X.getD m 0 = x at tx HTK
                          have HNW : Hid (∀ q u, ([.int .i64 0, .float .f64 x, .float .f64 0] : List Value)[q]? = some u → (wr.alloc (.cells #[.int .i64 0, .float .f64 x, .float .f64 0] 66)).cell? ((⟨wr.heap.size, 0, none⟩ : Addr).add q) = some u) := fun q u hq => by
                            rw [Addr.add_lit, Nat.zero_add, new_cell wr _ 66 _ rfl q]
                            simpa using hq
                          have hbs := HBv.out.size
                          clear hbv hFX
                          go_wp2_with (at_builtin; (refine wpList_append_lies _ rfl _ _ 61 rfl w11.heap.size 66 i6 (.agg #[.int .i64 0, .float .f64 0, .float .f64 0]) 3 24 Tryz.underlying61 hi6 hx0 hx1 hx2 rfl (by decide) cv m (flat (fcells (X.take m))) rfl (HCV.out.alloc _) ⟨wr.heap.size, 0, none⟩ 1 1 [.int .i64 0, .float .f64 x, .float .f64 0] rfl rfl HNW.out (by simp [Value.oneCell']) (by omega) (by unfold maxLen; omega) (by omega) (by simp; omega) (wr.heap.size + 1) (by simp) ?_); intro g9 c9 w12 hown9 hgrow9 hat9 hlt9; have HO9 := hide hown9; have HG9 := hide hgrow9; clear hown9 hgrow9 hat9 hlt9)
                          refine ⟨⟨_, m + 1, rfl, by go_num, by omega, by rw [HTK.out]; exact HO9.out, bel_grow HBv.out (fun c hc => (HCV.out.lt c hc).1) HG9.out⟩, ?_⟩
                          simp [intOf]; omega
                        · obtain rfl : n = m := by omega
                          have hd2 : decide ((n : Int) < (n : Int)) = false := decide_eq_false (by omega)
                          have hcv2 := HCV.out
                          have htk : X.take n = X := by rw [← HXN.out]; exact List.take_length
                          rw [htk] at hcv2
                          obtain ⟨sC, cC, rfl, hCC⟩ := cv_cells HXN.out hcv2
                          have hst : ((o.st.toNat : Nat) : Int) = o.st := Int.toNat_of_nonneg hgo.out.1.1
                          have hofl : (offsL o.xs o.sv o.off).length = n := by
                            rw [offs_count hgo.out.2.1, (sys0_sq hfitT.out hga.out hgb.out).2.2.2.2.2.1, HN.out]
                            show (1 * (n : Int)).toNat = _
                            rw [Int.one_mul, Int.toNat_natCast]
                          have HWT := hide (l4Write_any (HH.out.keep HB12.out.bl) hl o.st.toNat o.off (by have := hgo.out.1; omega) (of_decide_eq_true hD).2.2 (ints_bel io1 HB12.out.bl) (ints_bel io2 HB12.out.bl) lo.1 lo.2 HWr.out hgo.out.2.2 hCC HXB.out (by rw [hofl, HXN.out]; exact Nat.le_refl _) (by rw [HXN.out]; exact hn4))
                          rw [hst] at HWT
                          have hXl := HXN.out
                          rw [hXl] at HWT
                          clear hcv2 htk hCC hofl hst hXl HCV
                          rw [HXN.out]
                          go_wp2_with fail
                          refine HWT.out.mono ?_
                          rintro e w13 ⟨gR, cR, cbR, rfl, hSp, b13⟩
                          have HB13 := hide (HB12.out.keep b13)
                          have HSp' := hide hSp
                          have hlo := HB12.out.sz
                          clear hSp b13 HWT b0 a0 a1 a2 a3 e0 e1 e2 e3 o0 o1 o2 o3 r0 r1 f0 f1
                          have b0 := HB13.out.h
                          have a0 := HB13.out.a 0 _ rfl
                          have a1 := HB13.out.a 1 _ rfl
                          have a2 := HB13.out.a 2 _ rfl
                          have a3 := HB13.out.a 3 _ rfl
                          have e0 := HB13.out.b 0 _ rfl
                          have e1 := HB13.out.b 1 _ rfl
                          have e2 := HB13.out.b 2 _ rfl
                          have e3 := HB13.out.b 3 _ rfl
                          have o0 := HB13.out.o 0 _ rfl
                          have o1 := HB13.out.o 1 _ rfl
                          have o2 := HB13.out.o 2 _ rfl
                          have o3 := HB13.out.o 3 _ rfl
                          have r0 := HB13.out.r0
                          have r1 := HB13.out.r1
                          have f0 := HB13.out.fz 0
                          have f1 := HB13.out.fz 1
                          rw [m1] at e1
                          go_wp2
                          refine bodyPost_ret (v := .agg #[.int .i64 0, .slice (some ⟨gR, 0, none⟩) ss.length cR]) (by simp [results, Tryz.results8, go_sem, r0, r1]) rfl ⟨0, _, _, rfl, ⟨HOK.out.symm, .inr ⟨rfl, hgo.out, t1, X, by rw [HN.out]; exact HEL.out, by rw [HN.out]; exact HXN.out, by rw [HN.out]; exact HXS.out, HXB.out, rfl⟩⟩, ?_, ?_⟩
                          · have h1 := ((HSp'.out.far (b := w.heap.size + 1 + 1 + 1 + 1) (o := 0) (by omega) (.int .i64 0)).far (b := w.heap.size + 1 + 1 + 1 + 1) (o := 1) (by omega) (.slice (some ⟨gR, 0, none⟩) ss.length cR)).lower (lo' := w.heap.size) (by omega)
                            exact .inr ⟨gR, cR, cbR, by rw [putS_len], h1⟩
                          · (first | exact (HB13.out.bl.setCell (p := ⟨w.heap.size + 1 + 1 + 1 + 1, 0, none⟩) (by show _ ≤ w.heap.size + 1 + 1 + 1 + 1; omega) _).setCell (p := ⟨w.heap.size + 1 + 1 + 1 + 1, 1, none⟩) (by show _ ≤ w.heap.size + 1 + 1 + 1 + 1; omega) _ | exact HB13.out.bl.setCell (p := ⟨w.heap.size + 1 + 1 + 1 + 1, 0, none⟩) (by show _ ≤ w.heap.size + 1 + 1 + 1 + 1; omega) _)
              · rw [if_neg hwr] at hok7
                rw [dcWrV_f hwr]
                clear hwr
                have hok := hide hok7.out.symm
                go_wp2
                refine bodyPost_ret (v := .agg #[.int .i64 9, .slice none 0 0]) (by simp [results, Tryz.results8, go_sem, r0, r1]) rfl ⟨9, _, [], rfl, ⟨hok.out, .inl ⟨by first | exact hfc | omega, rfl⟩⟩, .inl ⟨rfl, rfl⟩, by (first | exact (HB7.out.bl.setCell (p := ⟨w.heap.size + 1 + 1 + 1 + 1, 0, none⟩) (by show _ ≤ w.heap.size + 1 + 1 + 1 + 1; omega) _).setCell (p := ⟨w.heap.size + 1 + 1 + 1 + 1, 1, none⟩) (by show _ ≤ w.heap.size + 1 + 1 + 1 + 1; omega) _ | exact HB7.out.bl.setCell (p := ⟨w.heap.size + 1 + 1 + 1 + 1, 0, none⟩) (by show _ ≤ w.heap.size + 1 + 1 + 1 + 1; omega) _)⟩
            · rw [decide_eq_false m3] at HS2
              have hok := hide (hfit6.out (by rw [hfe2.out, decide_eq_false (fun q => m3 q.2)])).symm
              clear m2 m3
              go_wp2_with fail
              refine region_u (S := (fun w' : World => w'.cell? ⟨w.heap.size + 1, 1, none⟩ = some (.slice p1 a.xs.length c1) ∧ w'.cell? ⟨w.heap.size + 1 + 1, 1, none⟩ = some (.slice (some ⟨bb, ob, none⟩) 1 c2) ∧ w'.cell? ⟨w.heap.size + 1 + 1 + 1, 1, none⟩ = some (.slice p3 o.xs.length c3) ∧ w'.cell? ⟨bb, ob, none⟩ = some (.int .i64 b0'))) (late := []) (by kernel_rfl) ?_
              refine wpAnyU_takeD (i := 0) (d := 48) (v := .pointer (some ⟨w.heap.size + 1 + 1, 1, none⟩)) rfl (by rfl) (by kernel_rfl) (by kernel_rfl) (fun _ _ _ h => by cases h.1) _ (by kernel_rfl) (by kernel_rfl) (Or.inl ⟨by kernel_rfl, ?_⟩) SA.out ?_
              · intro w' hSw
                obtain ⟨z0, z1, z2, z3⟩ := hSw
                go_simp
              simp only [Act.put, List.setIfInBounds_toArray, List.set_cons_zero, List.set_cons_succ]
              refine wpAnyU_takeD (i := 1) (d := 49) (v := .pointer (some ⟨w.heap.size + 1 + 1, 1, none⟩)) rfl (by rfl) (by kernel_rfl) (by kernel_rfl) (fun _ _ _ h => by cases h.1) _ (by kernel_rfl) (by kernel_rfl) (Or.inl ⟨by kernel_rfl, ?_⟩) SA.out ?_
              · intro w' hSw
                obtain ⟨z0, z1, z2, z3⟩ := hSw
                go_simp
              simp only [Act.put, List.setIfInBounds_toArray, List.set_cons_zero, List.set_cons_succ]
              refine wpAnyU_takeD (i := 2) (d := 50) (v := .slice (some ⟨bb, ob, none⟩) 1 c2) rfl (by rfl) (by kernel_rfl) (by kernel_rfl) (fun _ _ _ h => by cases h.1) _ (by kernel_rfl) (by kernel_rfl) (Or.inl ⟨by kernel_rfl, ?_⟩) SA.out ?_
              · intro w' hSw
                obtain ⟨z0, z1, z2, z3⟩ := hSw
                go_simp
              simp only [Act.put, List.setIfInBounds_toArray, List.set_cons_zero, List.set_cons_succ]
              refine wpAnyU_takeD (i := 3) (d := 51) (v := .int .i64 1) rfl (by rfl) (by kernel_rfl) (by kernel_rfl) (fun _ _ _ h => by cases h.1) _ (by kernel_rfl) (by kernel_rfl) (Or.inl ⟨by kernel_rfl, ?_⟩) SA.out ?_
              · intro w' hSw
                obtain ⟨z0, z1, z2, z3⟩ := hSw
                go_simp
              simp only [Act.put, List.setIfInBounds_toArray, List.set_cons_zero, List.set_cons_succ]
              refine wpAnyU_takeD (i := 4) (d := 52) (v := .bool false) rfl (by rfl) (by kernel_rfl) (by kernel_rfl) (fun _ _ _ h => by cases h.1) _ (by kernel_rfl) (by kernel_rfl) (Or.inl ⟨by kernel_rfl, ?_⟩) SA.out ?_
              · intro w' hSw
                obtain ⟨z0, z1, z2, z3⟩ := hSw
                go_simp
              simp only [Act.put, List.setIfInBounds_toArray, List.set_cons_zero, List.set_cons_succ]
              refine wpAnyU_takeD (i := 5) (d := 53) (v := .bool false) rfl (by rfl) (by kernel_rfl) (by kernel_rfl) (fun _ _ _ h => by cases h.1) _ (by kernel_rfl) (by kernel_rfl) (Or.inl ⟨by kernel_rfl, ?_⟩) SA.out ?_
              · intro w' hSw
                obtain ⟨z0, z1, z2, z3⟩ := hSw
                go_simp
              simp only [Act.put, List.setIfInBounds_toArray, List.set_cons_zero, List.set_cons_succ]
              refine wpAnyU_takeD (i := 6) (d := 54) (v := .pointer (some ⟨w.heap.size + 1, 1, none⟩)) rfl (by rfl) (by kernel_rfl) (by kernel_rfl) (fun _ _ _ h => by cases h.1) _ (by kernel_rfl) (by kernel_rfl) (Or.inl ⟨by kernel_rfl, ?_⟩) SA.out ?_
              · intro w' hSw
                obtain ⟨z0, z1, z2, z3⟩ := hSw
                go_simp
              simp only [Act.put, List.setIfInBounds_toArray, List.set_cons_zero, List.set_cons_succ]
              refine wpAnyU_takeD (i := 7) (d := 55) (v := .pointer (some ⟨w.heap.size + 1, 1, none⟩)) rfl (by rfl) (by kernel_rfl) (by kernel_rfl) (fun _ _ _ h => by cases h.1) _ (by kernel_rfl) (by kernel_rfl) (Or.inl ⟨by kernel_rfl, ?_⟩) SA.out ?_
              · intro w' hSw
                obtain ⟨z0, z1, z2, z3⟩ := hSw
                go_simp
              simp only [Act.put, List.setIfInBounds_toArray, List.set_cons_zero, List.set_cons_succ]
              refine wpAnyU_takeD (i := 8) (d := 56) (v := .slice p1 a.xs.length c1) rfl (by rfl) (by kernel_rfl) (by kernel_rfl) (fun _ _ _ h => by cases h.1) _ (by kernel_rfl) (by kernel_rfl) (Or.inl ⟨by kernel_rfl, ?_⟩) SA.out ?_
              · intro w' hSw
                obtain ⟨z0, z1, z2, z3⟩ := hSw
                go_simp
              simp only [Act.put, List.setIfInBounds_toArray, List.set_cons_zero, List.set_cons_succ]
              refine wpAnyU_takeD (i := 9) (d := 57) (v := .pointer (some ⟨w.heap.size + 1 + 1, 1, none⟩)) rfl (by rfl) (by kernel_rfl) (by kernel_rfl) (fun _ _ _ h => by cases h.1) _ (by kernel_rfl) (by kernel_rfl) (Or.inl ⟨by kernel_rfl, ?_⟩) SA.out ?_
              · intro w' hSw
                obtain ⟨z0, z1, z2, z3⟩ := hSw
                go_simp
              simp only [Act.put, List.setIfInBounds_toArray, List.set_cons_zero, List.set_cons_succ]
              refine wpAnyU_takeD (i := 10) (d := 58) (v := .pointer (some ⟨w.heap.size + 1 + 1, 1, none⟩)) rfl (by rfl) (by kernel_rfl) (by kernel_rfl) (fun _ _ _ h => by cases h.1) _ (by kernel_rfl) (by kernel_rfl) (Or.inl ⟨by kernel_rfl, ?_⟩) SA.out ?_
              · intro w' hSw
                obtain ⟨z0, z1, z2, z3⟩ := hSw
                go_simp
              simp only [Act.put, List.setIfInBounds_toArray, List.set_cons_zero, List.set_cons_succ]
              refine wpAnyU_takeD (i := 11) (d := 59) (v := .slice (some ⟨bb, ob, none⟩) 1 c2) rfl (by rfl) (by kernel_rfl) (by kernel_rfl) (fun _ _ _ h => by cases h.1) _ (by kernel_rfl) (by kernel_rfl) (Or.inl ⟨by kernel_rfl, ?_⟩) SA.out ?_
              · intro w' hSw
                obtain ⟨z0, z1, z2, z3⟩ := hSw
                go_simp
              simp only [Act.put, List.setIfInBounds_toArray, List.set_cons_zero, List.set_cons_succ]
              refine wpAnyU_takeD (i := 12) (d := 60) (v := .pointer (some ⟨bb, ob, none⟩)) rfl (by rfl) (by kernel_rfl) (by kernel_rfl) (fun _ _ _ h => by cases h.1) _ (by kernel_rfl) (by kernel_rfl) (Or.inl ⟨by kernel_rfl, ?_⟩) SA.out ?_
              · intro w' hSw
                obtain ⟨z0, z1, z2, z3⟩ := hSw
                go_simp
              simp only [Act.put, List.setIfInBounds_toArray, List.set_cons_zero, List.set_cons_succ]
              refine wpAnyU_takeD (i := 13) (d := 61) (v := .int .i64 b0') rfl (by rfl) (by kernel_rfl) (by kernel_rfl) (fun _ _ _ h => by cases h.1) _ (by kernel_rfl) (by kernel_rfl) (Or.inl ⟨by kernel_rfl, ?_⟩) SA.out ?_
              · intro w' hSw
                obtain ⟨z0, z1, z2, z3⟩ := hSw
                go_simp
              simp only [Act.put, List.setIfInBounds_toArray, List.set_cons_zero, List.set_cons_succ]
              refine wpAnyU_takeD (i := 14) (d := 62) (v := .pointer (some ⟨w.heap.size + 1 + 1, 1, none⟩)) rfl (by rfl) (by kernel_rfl) (by kernel_rfl) (fun _ _ _ h => by cases h.1) _ (by kernel_rfl) (by kernel_rfl) (Or.inl ⟨by kernel_rfl, ?_⟩) SA.out ?_
              · intro w' hSw
                obtain ⟨z0, z1, z2, z3⟩ := hSw
                go_simp
              simp only [Act.put, List.setIfInBounds_toArray, List.set_cons_zero, List.set_cons_succ]
              refine wpAnyU_takeD (i := 15) (d := 63) (v := .pointer (some ⟨w.heap.size + 1 + 1, 1, none⟩)) rfl (by rfl) (by kernel_rfl) (by kernel_rfl) (fun _ _ _ h => by cases h.1) _ (by kernel_rfl) (by kernel_rfl) (Or.inl ⟨by kernel_rfl, ?_⟩) SA.out ?_
              · intro w' hSw
                obtain ⟨z0, z1, z2, z3⟩ := hSw
                go_simp
              simp only [Act.put, List.setIfInBounds_toArray, List.set_cons_zero, List.set_cons_succ]
              refine wpAnyU_takeD (i := 16) (d := 64) (v := .slice (some ⟨bb, ob, none⟩) 1 c2) rfl (by rfl) (by kernel_rfl) (by kernel_rfl) (fun _ _ _ h => by cases h.1) _ (by kernel_rfl) (by kernel_rfl) (Or.inl ⟨by kernel_rfl, ?_⟩) SA.out ?_
              · intro w' hSw
                obtain ⟨z0, z1, z2, z3⟩ := hSw
                go_simp
              simp only [Act.put, List.setIfInBounds_toArray, List.set_cons_zero, List.set_cons_succ]
              refine wpAnyU_takeD (i := 17) (d := 65) (v := .pointer (some ⟨bb, ob, none⟩)) rfl (by rfl) (by kernel_rfl) (by kernel_rfl) (fun _ _ _ h => by cases h.1) _ (by kernel_rfl) (by kernel_rfl) (Or.inl ⟨by kernel_rfl, ?_⟩) SA.out ?_
              · intro w' hSw
                obtain ⟨z0, z1, z2, z3⟩ := hSw
                go_simp
              simp only [Act.put, List.setIfInBounds_toArray, List.set_cons_zero, List.set_cons_succ]
              refine wpAnyU_takeD (i := 18) (d := 66) (v := .int .i64 b0') rfl (by rfl) (by kernel_rfl) (by kernel_rfl) (fun _ _ _ h => by cases h.1) _ (by kernel_rfl) (by kernel_rfl) (Or.inl ⟨by kernel_rfl, ?_⟩) SA.out ?_
              · intro w' hSw
                obtain ⟨z0, z1, z2, z3⟩ := hSw
                go_simp
              simp only [Act.put, List.setIfInBounds_toArray, List.set_cons_zero, List.set_cons_succ]
              have xal : Ext w4 (w4.alloc (.cells #[.int .i64 b0', .int .i64 b0'] 2)).drew := ((Ext.refl w4).alloc _ _).drew
              have SB1 : Hid ((fun w' : World => w'.cell? ⟨w.heap.size + 1, 1, none⟩ = some (.slice p1 a.xs.length c1) ∧ w'.cell? ⟨w.heap.size + 1 + 1, 1, none⟩ = some (.slice (some ⟨bb, ob, none⟩) 1 c2) ∧ w'.cell? ⟨w.heap.size + 1 + 1 + 1, 1, none⟩ = some (.slice p3 o.xs.length c3) ∧ w'.cell? ⟨bb, ob, none⟩ = some (.int .i64 b0')) (w4.alloc (.cells #[.int .i64 b0', .int .i64 b0'] 2)).drew) := ⟨xal.box a1, xal.box e1, xal.box o1, xal.box ee0⟩
              refine wpAnyU_one (i := 19) (by kernel_rfl) rfl (fun K hK => ?_)
              go_simp
              refine hK.out _ _ (fun _ => SB1.out) ?_
              clear hK K
              try simp only [Act.put, List.setIfInBounds_toArray, List.set_cons_zero, List.set_cons_succ]
              refine wpAnyU_one (i := 20) (by kernel_rfl) rfl (fun K hK => ?_)
              go_simp
              refine (HS1.out _ (Bel.tr HB4.out.bl xal.bl) _ (row_new2d w4 b0' b0' 2)).mono ?_
              rintro e w5 ⟨rfl, x5⟩
              have X5 := hide (xal.trans x5)
              have SB2 : Hid ((fun w' : World => w'.cell? ⟨w.heap.size + 1, 1, none⟩ = some (.slice p1 a.xs.length c1) ∧ w'.cell? ⟨w.heap.size + 1 + 1, 1, none⟩ = some (.slice (some ⟨bb, ob, none⟩) 1 c2) ∧ w'.cell? ⟨w.heap.size + 1 + 1 + 1, 1, none⟩ = some (.slice p3 o.xs.length c3) ∧ w'.cell? ⟨bb, ob, none⟩ = some (.int .i64 b0')) w5) := ⟨X5.out.box a1, X5.out.box e1, X5.out.box o1, X5.out.box ee0⟩
              refine hK.out _ _ (fun _ => SB2.out) ?_
              clear hK K
              try simp only [Act.put, List.setIfInBounds_toArray, List.set_cons_zero, List.set_cons_succ]
              clear x5 xal
              refine wpAnyU_takeD (i := 21) (d := 69) (v := .bool false) rfl (by rfl) (by kernel_rfl) (by kernel_rfl) (fun _ _ _ h => by cases h.1) _ (by kernel_rfl) (by kernel_rfl) (Or.inl ⟨by kernel_rfl, ?_⟩) SB2.out ?_
              · intro w' hSw
                obtain ⟨z0, z1, z2, z3⟩ := hSw
                go_simp
              simp only [Act.put, List.setIfInBounds_toArray, List.set_cons_zero, List.set_cons_succ]
              refine wpAnyU_takeD (i := 22) (d := 70) (v := .bool false) rfl (by rfl) (by kernel_rfl) (by kernel_rfl) (fun _ _ _ h => by cases h.1) _ (by kernel_rfl) (by kernel_rfl) (Or.inl ⟨by kernel_rfl, ?_⟩) SB2.out ?_
              · intro w' hSw
                obtain ⟨z0, z1, z2, z3⟩ := hSw
                go_simp
              simp only [Act.put, List.setIfInBounds_toArray, List.set_cons_zero, List.set_cons_succ]
              refine wpAnyU_takeD (i := 23) (d := 71) (v := .bool false) rfl (by rfl) (by kernel_rfl) (by kernel_rfl) (fun _ _ _ h => by cases h.1) _ (by kernel_rfl) (by kernel_rfl) (Or.inl ⟨by kernel_rfl, ?_⟩) SB2.out ?_
              · intro w' hSw
                obtain ⟨z0, z1, z2, z3⟩ := hSw
                go_simp
              simp only [Act.put, List.setIfInBounds_toArray, List.set_cons_zero, List.set_cons_succ]
              refine wpAnyU_takeD (i := 24) (d := 72) (v := .pointer (some ⟨w.heap.size + 1 + 1, 1, none⟩)) rfl (by rfl) (by kernel_rfl) (by kernel_rfl) (fun _ _ _ h => by cases h.1) _ (by kernel_rfl) (by kernel_rfl) (Or.inl ⟨by kernel_rfl, ?_⟩) SB2.out ?_
              · intro w' hSw
                obtain ⟨z0, z1, z2, z3⟩ := hSw
                go_simp
              simp only [Act.put, List.setIfInBounds_toArray, List.set_cons_zero, List.set_cons_succ]
              refine wpAnyU_takeD (i := 25) (d := 73) (v := .pointer (some ⟨w.heap.size + 1 + 1, 1, none⟩)) rfl (by rfl) (by kernel_rfl) (by kernel_rfl) (fun _ _ _ h => by cases h.1) _ (by kernel_rfl) (by kernel_rfl) (Or.inl ⟨by kernel_rfl, ?_⟩) SB2.out ?_
              · intro w' hSw
                obtain ⟨z0, z1, z2, z3⟩ := hSw
                go_simp
              simp only [Act.put, List.setIfInBounds_toArray, List.set_cons_zero, List.set_cons_succ]
              refine wpAnyU_takeD (i := 26) (d := 74) (v := .slice (some ⟨bb, ob, none⟩) 1 c2) rfl (by rfl) (by kernel_rfl) (by kernel_rfl) (fun _ _ _ h => by cases h.1) _ (by kernel_rfl) (by kernel_rfl) (Or.inl ⟨by kernel_rfl, ?_⟩) SB2.out ?_
              · intro w' hSw
                obtain ⟨z0, z1, z2, z3⟩ := hSw
                go_simp
              simp only [Act.put, List.setIfInBounds_toArray, List.set_cons_zero, List.set_cons_succ]
              refine wpAnyU_takeD (i := 27) (d := 75) (v := .pointer (some ⟨w.heap.size + 1 + 1 + 1, 1, none⟩)) rfl (by rfl) (by kernel_rfl) (by kernel_rfl) (fun _ _ _ h => by cases h.1) _ (by kernel_rfl) (by kernel_rfl) (Or.inl ⟨by kernel_rfl, ?_⟩) SB2.out ?_
              · intro w' hSw
                obtain ⟨z0, z1, z2, z3⟩ := hSw
                go_simp
              simp only [Act.put, List.setIfInBounds_toArray, List.set_cons_zero, List.set_cons_succ]
              refine wpAnyU_takeD (i := 28) (d := 76) (v := .pointer (some ⟨w.heap.size + 1 + 1 + 1, 1, none⟩)) rfl (by rfl) (by kernel_rfl) (by kernel_rfl) (fun _ _ _ h => by cases h.1) _ (by kernel_rfl) (by kernel_rfl) (Or.inl ⟨by kernel_rfl, ?_⟩) SB2.out ?_
              · intro w' hSw
                obtain ⟨z0, z1, z2, z3⟩ := hSw
                go_simp
              simp only [Act.put, List.setIfInBounds_toArray, List.set_cons_zero, List.set_cons_succ]
              refine wpAnyU_takeD (i := 29) (d := 77) (v := .slice p3 o.xs.length c3) rfl (by rfl) (by kernel_rfl) (by kernel_rfl) (fun _ _ _ h => by cases h.1) _ (by kernel_rfl) (by kernel_rfl) (Or.inl ⟨by kernel_rfl, ?_⟩) SB2.out ?_
              · intro w' hSw
                obtain ⟨z0, z1, z2, z3⟩ := hSw
                go_simp
              simp only [Act.put, List.setIfInBounds_toArray, List.set_cons_zero, List.set_cons_succ]
              refine wpAnyU_one (i := 30) (by kernel_rfl) rfl (fun K hK => ?_)
              go_simp
              refine (HS2.out _ (Bel.tr HB4.out.bl X5.out.bl)).mono ?_
              rintro e w6 ⟨rfl, x6⟩
              have X6 := hide (X5.out.trans x6)
              have SB3 : Hid ((fun w' : World => w'.cell? ⟨w.heap.size + 1, 1, none⟩ = some (.slice p1 a.xs.length c1) ∧ w'.cell? ⟨w.heap.size + 1 + 1, 1, none⟩ = some (.slice (some ⟨bb, ob, none⟩) 1 c2) ∧ w'.cell? ⟨w.heap.size + 1 + 1 + 1, 1, none⟩ = some (.slice p3 o.xs.length c3) ∧ w'.cell? ⟨bb, ob, none⟩ = some (.int .i64 b0')) w6) := ⟨X6.out.box a1, X6.out.box e1, X6.out.box o1, X6.out.box ee0⟩
              refine hK.out _ _ (fun _ => SB3.out) ?_
              clear hK K
              try simp only [Act.put, List.setIfInBounds_toArray, List.set_cons_zero, List.set_cons_succ]
              refine wpAnyU_takeD (i := 31) (d := 79) (v := .bool true) rfl (by rfl) (by kernel_rfl) (by kernel_rfl) (fun _ _ _ h => by cases h.1) _ (by kernel_rfl) (by kernel_rfl) (Or.inl ⟨by kernel_rfl, ?_⟩) SB3.out ?_
              · intro w' hSw
                obtain ⟨z0, z1, z2, z3⟩ := hSw
                go_simp
              simp only [Act.put, List.setIfInBounds_toArray, List.set_cons_zero, List.set_cons_succ]
              refine wpAnyU_takeD (i := 32) (d := 80) (v := .bool true) rfl (by rfl) (by kernel_rfl) (by kernel_rfl) (fun _ _ _ h => by cases h.1) _ (by kernel_rfl) (by kernel_rfl) (Or.inl ⟨by kernel_rfl, ?_⟩) SB3.out ?_
              · intro w' hSw
                obtain ⟨z0, z1, z2, z3⟩ := hSw
                go_simp
              simp only [Act.put, List.setIfInBounds_toArray, List.set_cons_zero, List.set_cons_succ]
              refine wpAnyU_done (by kernel_rfl) ?_ _
              refine ⟨rfl, ?_⟩
              have HB5 := hide (HB4.out.keep X6.out.bl)
              clear b0 a0 a1 a2 a3 e0 e1 e2 e3 o0 o1 o2 o3 r0 r1 f0 f1 SA SB1 SB2 SB3 X5 X6 ee0
              have b0 := HB5.out.h
              have a0 := HB5.out.a 0 _ rfl
              have a1 := HB5.out.a 1 _ rfl
              have a2 := HB5.out.a 2 _ rfl
              have a3 := HB5.out.a 3 _ rfl
              have e0 := HB5.out.b 0 _ rfl
              have e1 := HB5.out.b 1 _ rfl
              have e2 := HB5.out.b 2 _ rfl
              have e3 := HB5.out.b 3 _ rfl
              have o0 := HB5.out.o 0 _ rfl
              have o1 := HB5.out.o 1 _ rfl
              have o2 := HB5.out.o 2 _ rfl
              have o3 := HB5.out.o 3 _ rfl
              have r0 := HB5.out.r0
              have r1 := HB5.out.r1
              have f0 := HB5.out.fz 0
              have f1 := HB5.out.fz 1
              go_wp2
              refine bodyPost_ret (v := .agg #[.int .i64 6, .slice none 0 0]) (by simp [results, Tryz.results8, go_sem, r0, r1]) rfl ⟨6, _, [], rfl, ⟨hok.out, .inl ⟨by first | exact hfc | omega, rfl⟩⟩, .inl ⟨rfl, rfl⟩, by (first | exact (HB5.out.bl.setCell (p := ⟨w.heap.size + 1 + 1 + 1 + 1, 0, none⟩) (by show _ ≤ w.heap.size + 1 + 1 + 1 + 1; omega) _).setCell (p := ⟨w.heap.size + 1 + 1 + 1 + 1, 1, none⟩) (by show _ ≤ w.heap.size + 1 + 1 + 1 + 1; omega) _ | exact HB5.out.bl.setCell (p := ⟨w.heap.size + 1 + 1 + 1 + 1, 0, none⟩) (by show _ ≤ w.heap.size + 1 + 1 + 1 + 1; omega) _)⟩
          · rw [decide_eq_false m2] at HS1
            have hok := hide (hfit6.out (by rw [hfe2.out, decide_eq_false (fun q => m2 q.1)])).symm
            clear m2
            go_wp2_with fail
            refine region_u (S := (fun w' : World => w'.cell? ⟨w.heap.size + 1, 1, none⟩ = some (.slice p1 a.xs.length c1) ∧ w'.cell? ⟨w.heap.size + 1 + 1, 1, none⟩ = some (.slice (some ⟨bb, ob, none⟩) 1 c2) ∧ w'.cell? ⟨w.heap.size + 1 + 1 + 1, 1, none⟩ = some (.slice p3 o.xs.length c3) ∧ w'.cell? ⟨bb, ob, none⟩ = some (.int .i64 b0'))) (late := []) (by kernel_rfl) ?_
            refine wpAnyU_takeD (i := 0) (d := 48) (v := .pointer (some ⟨w.heap.size + 1 + 1, 1, none⟩)) rfl (by rfl) (by kernel_rfl) (by kernel_rfl) (fun _ _ _ h => by cases h.1) _ (by kernel_rfl) (by kernel_rfl) (Or.inl ⟨by kernel_rfl, ?_⟩) SA.out ?_
            · intro w' hSw
              obtain ⟨z0, z1, z2, z3⟩ := hSw
              go_simp
            simp only [Act.put, List.setIfInBounds_toArray, List.set_cons_zero, List.set_cons_succ]
            refine wpAnyU_takeD (i := 1) (d := 49) (v := .pointer (some ⟨w.heap.size + 1 + 1, 1, none⟩)) rfl (by rfl) (by kernel_rfl) (by kernel_rfl) (fun _ _ _ h => by cases h.1) _ (by kernel_rfl) (by kernel_rfl) (Or.inl ⟨by kernel_rfl, ?_⟩) SA.out ?_
            · intro w' hSw
              obtain ⟨z0, z1, z2, z3⟩ := hSw
              go_simp
            simp only [Act.put, List.setIfInBounds_toArray, List.set_cons_zero, List.set_cons_succ]
            refine wpAnyU_takeD (i := 2) (d := 50) (v := .slice (some ⟨bb, ob, none⟩) 1 c2) rfl (by rfl) (by kernel_rfl) (by kernel_rfl) (fun _ _ _ h => by cases h.1) _ (by kernel_rfl) (by kernel_rfl) (Or.inl ⟨by kernel_rfl, ?_⟩) SA.out ?_
            · intro w' hSw
              obtain ⟨z0, z1, z2, z3⟩ := hSw
              go_simp
            simp only [Act.put, List.setIfInBounds_toArray, List.set_cons_zero, List.set_cons_succ]
            refine wpAnyU_takeD (i := 3) (d := 51) (v := .int .i64 1) rfl (by rfl) (by kernel_rfl) (by kernel_rfl) (fun _ _ _ h => by cases h.1) _ (by kernel_rfl) (by kernel_rfl) (Or.inl ⟨by kernel_rfl, ?_⟩) SA.out ?_
            · intro w' hSw
              obtain ⟨z0, z1, z2, z3⟩ := hSw
              go_simp
            simp only [Act.put, List.setIfInBounds_toArray, List.set_cons_zero, List.set_cons_succ]
            refine wpAnyU_takeD (i := 4) (d := 52) (v := .bool false) rfl (by rfl) (by kernel_rfl) (by kernel_rfl) (fun _ _ _ h => by cases h.1) _ (by kernel_rfl) (by kernel_rfl) (Or.inl ⟨by kernel_rfl, ?_⟩) SA.out ?_
            · intro w' hSw
              obtain ⟨z0, z1, z2, z3⟩ := hSw
              go_simp
            simp only [Act.put, List.setIfInBounds_toArray, List.set_cons_zero, List.set_cons_succ]
            refine wpAnyU_takeD (i := 5) (d := 53) (v := .bool false) rfl (by rfl) (by kernel_rfl) (by kernel_rfl) (fun _ _ _ h => by cases h.1) _ (by kernel_rfl) (by kernel_rfl) (Or.inl ⟨by kernel_rfl, ?_⟩) SA.out ?_
            · intro w' hSw
              obtain ⟨z0, z1, z2, z3⟩ := hSw
              go_simp
            simp only [Act.put, List.setIfInBounds_toArray, List.set_cons_zero, List.set_cons_succ]
            refine wpAnyU_takeD (i := 6) (d := 54) (v := .pointer (some ⟨w.heap.size + 1, 1, none⟩)) rfl (by rfl) (by kernel_rfl) (by kernel_rfl) (fun _ _ _ h => by cases h.1) _ (by kernel_rfl) (by kernel_rfl) (Or.inl ⟨by kernel_rfl, ?_⟩) SA.out ?_
            · intro w' hSw
              obtain ⟨z0, z1, z2, z3⟩ := hSw
              go_simp
            simp only [Act.put, List.setIfInBounds_toArray, List.set_cons_zero, List.set_cons_succ]
            refine wpAnyU_takeD (i := 7) (d := 55) (v := .pointer (some ⟨w.heap.size + 1, 1, none⟩)) rfl (by rfl) (by kernel_rfl) (by kernel_rfl) (fun _ _ _ h => by cases h.1) _ (by kernel_rfl) (by kernel_rfl) (Or.inl ⟨by kernel_rfl, ?_⟩) SA.out ?_
            · intro w' hSw
              obtain ⟨z0, z1, z2, z3⟩ := hSw
              go_simp
            simp only [Act.put, List.setIfInBounds_toArray, List.set_cons_zero, List.set_cons_succ]
            refine wpAnyU_takeD (i := 8) (d := 56) (v := .slice p1 a.xs.length c1) rfl (by rfl) (by kernel_rfl) (by kernel_rfl) (fun _ _ _ h => by cases h.1) _ (by kernel_rfl) (by kernel_rfl) (Or.inl ⟨by kernel_rfl, ?_⟩) SA.out ?_
            · intro w' hSw
              obtain ⟨z0, z1, z2, z3⟩ := hSw
              go_simp
            simp only [Act.put, List.setIfInBounds_toArray, List.set_cons_zero, List.set_cons_succ]
            refine wpAnyU_takeD (i := 9) (d := 57) (v := .pointer (some ⟨w.heap.size + 1 + 1, 1, none⟩)) rfl (by rfl) (by kernel_rfl) (by kernel_rfl) (fun _ _ _ h => by cases h.1) _ (by kernel_rfl) (by kernel_rfl) (Or.inl ⟨by kernel_rfl, ?_⟩) SA.out ?_
            · intro w' hSw
              obtain ⟨z0, z1, z2, z3⟩ := hSw
              go_simp
            simp only [Act.put, List.setIfInBounds_toArray, List.set_cons_zero, List.set_cons_succ]
            refine wpAnyU_takeD (i := 10) (d := 58) (v := .pointer (some ⟨w.heap.size + 1 + 1, 1, none⟩)) rfl (by rfl) (by kernel_rfl) (by kernel_rfl) (fun _ _ _ h => by cases h.1) _ (by kernel_rfl) (by kernel_rfl) (Or.inl ⟨by kernel_rfl, ?_⟩) SA.out ?_
            · intro w' hSw
              obtain ⟨z0, z1, z2, z3⟩ := hSw
              go_simp
            simp only [Act.put, List.setIfInBounds_toArray, List.set_cons_zero, List.set_cons_succ]
            refine wpAnyU_takeD (i := 11) (d := 59) (v := .slice (some ⟨bb, ob, none⟩) 1 c2) rfl (by rfl) (by kernel_rfl) (by kernel_rfl) (fun _ _ _ h => by cases h.1) _ (by kernel_rfl) (by kernel_rfl) (Or.inl ⟨by kernel_rfl, ?_⟩) SA.out ?_
            · intro w' hSw
              obtain ⟨z0, z1, z2, z3⟩ := hSw
              go_simp
            simp only [Act.put, List.setIfInBounds_toArray, List.set_cons_zero, List.set_cons_succ]
            refine wpAnyU_takeD (i := 12) (d := 60) (v := .pointer (some ⟨bb, ob, none⟩)) rfl (by rfl) (by kernel_rfl) (by kernel_rfl) (fun _ _ _ h => by cases h.1) _ (by kernel_rfl) (by kernel_rfl) (Or.inl ⟨by kernel_rfl, ?_⟩) SA.out ?_
            · intro w' hSw
              obtain ⟨z0, z1, z2, z3⟩ := hSw
              go_simp
            simp only [Act.put, List.setIfInBounds_toArray, List.set_cons_zero, List.set_cons_succ]
            refine wpAnyU_takeD (i := 13) (d := 61) (v := .int .i64 b0') rfl (by rfl) (by kernel_rfl) (by kernel_rfl) (fun _ _ _ h => by cases h.1) _ (by kernel_rfl) (by kernel_rfl) (Or.inl ⟨by kernel_rfl, ?_⟩) SA.out ?_
            · intro w' hSw
              obtain ⟨z0, z1, z2, z3⟩ := hSw
              go_simp
            simp only [Act.put, List.setIfInBounds_toArray, List.set_cons_zero, List.set_cons_succ]
            refine wpAnyU_takeD (i := 14) (d := 62) (v := .pointer (some ⟨w.heap.size + 1 + 1, 1, none⟩)) rfl (by rfl) (by kernel_rfl) (by kernel_rfl) (fun _ _ _ h => by cases h.1) _ (by kernel_rfl) (by kernel_rfl) (Or.inl ⟨by kernel_rfl, ?_⟩) SA.out ?_
            · intro w' hSw
              obtain ⟨z0, z1, z2, z3⟩ := hSw
              go_simp
            simp only [Act.put, List.setIfInBounds_toArray, List.set_cons_zero, List.set_cons_succ]
            refine wpAnyU_takeD (i := 15) (d := 63) (v := .pointer (some ⟨w.heap.size + 1 + 1, 1, none⟩)) rfl (by rfl) (by kernel_rfl) (by kernel_rfl) (fun _ _ _ h => by cases h.1) _ (by kernel_rfl) (by kernel_rfl) (Or.inl ⟨by kernel_rfl, ?_⟩) SA.out ?_
            · intro w' hSw
              obtain ⟨z0, z1, z2, z3⟩ := hSw
              go_simp
            simp only [Act.put, List.setIfInBounds_toArray, List.set_cons_zero, List.set_cons_succ]
            refine wpAnyU_takeD (i := 16) (d := 64) (v := .slice (some ⟨bb, ob, none⟩) 1 c2) rfl (by rfl) (by kernel_rfl) (by kernel_rfl) (fun _ _ _ h => by cases h.1) _ (by kernel_rfl) (by kernel_rfl) (Or.inl ⟨by kernel_rfl, ?_⟩) SA.out ?_
            · intro w' hSw
              obtain ⟨z0, z1, z2, z3⟩ := hSw
              go_simp
            simp only [Act.put, List.setIfInBounds_toArray, List.set_cons_zero, List.set_cons_succ]
            refine wpAnyU_takeD (i := 17) (d := 65) (v := .pointer (some ⟨bb, ob, none⟩)) rfl (by rfl) (by kernel_rfl) (by kernel_rfl) (fun _ _ _ h => by cases h.1) _ (by kernel_rfl) (by kernel_rfl) (Or.inl ⟨by kernel_rfl, ?_⟩) SA.out ?_
            · intro w' hSw
              obtain ⟨z0, z1, z2, z3⟩ := hSw
              go_simp
            simp only [Act.put, List.setIfInBounds_toArray, List.set_cons_zero, List.set_cons_succ]
            refine wpAnyU_takeD (i := 18) (d := 66) (v := .int .i64 b0') rfl (by rfl) (by kernel_rfl) (by kernel_rfl) (fun _ _ _ h => by cases h.1) _ (by kernel_rfl) (by kernel_rfl) (Or.inl ⟨by kernel_rfl, ?_⟩) SA.out ?_
            · intro w' hSw
              obtain ⟨z0, z1, z2, z3⟩ := hSw
              go_simp
            simp only [Act.put, List.setIfInBounds_toArray, List.set_cons_zero, List.set_cons_succ]
            have xal : Ext w4 (w4.alloc (.cells #[.int .i64 b0', .int .i64 b0'] 2)).drew := ((Ext.refl w4).alloc _ _).drew
            have SB1 : Hid ((fun w' : World => w'.cell? ⟨w.heap.size + 1, 1, none⟩ = some (.slice p1 a.xs.length c1) ∧ w'.cell? ⟨w.heap.size + 1 + 1, 1, none⟩ = some (.slice (some ⟨bb, ob, none⟩) 1 c2) ∧ w'.cell? ⟨w.heap.size + 1 + 1 + 1, 1, none⟩ = some (.slice p3 o.xs.length c3) ∧ w'.cell? ⟨bb, ob, none⟩ = some (.int .i64 b0')) (w4.alloc (.cells #[.int .i64 b0', .int .i64 b0'] 2)).drew) := ⟨xal.box a1, xal.box e1, xal.box o1, xal.box ee0⟩
            refine wpAnyU_one (i := 19) (by kernel_rfl) rfl (fun K hK => ?_)
            go_simp
            refine hK.out _ _ (fun _ => SB1.out) ?_
            clear hK K
            try simp only [Act.put, List.setIfInBounds_toArray, List.set_cons_zero, List.set_cons_succ]
            refine wpAnyU_one (i := 20) (by kernel_rfl) rfl (fun K hK => ?_)
            go_simp
            refine (HS1.out _ (Bel.tr HB4.out.bl xal.bl) _ (row_new2d w4 b0' b0' 2)).mono ?_
            rintro e w5 ⟨rfl, x5⟩
            have X5 := hide (xal.trans x5)
            have SB2 : Hid ((fun w' : World => w'.cell? ⟨w.heap.size + 1, 1, none⟩ = some (.slice p1 a.xs.length c1) ∧ w'.cell? ⟨w.heap.size + 1 + 1, 1, none⟩ = some (.slice (some ⟨bb, ob, none⟩) 1 c2) ∧ w'.cell? ⟨w.heap.size + 1 + 1 + 1, 1, none⟩ = some (.slice p3 o.xs.length c3) ∧ w'.cell? ⟨bb, ob, none⟩ = some (.int .i64 b0')) w5) := ⟨X5.out.box a1, X5.out.box e1, X5.out.box o1, X5.out.box ee0⟩
            refine hK.out _ _ (fun _ => SB2.out) ?_
            clear hK K
            try simp only [Act.put, List.setIfInBounds_toArray, List.set_cons_zero, List.set_cons_succ]
            clear x5 xal
            refine wpAnyU_takeD (i := 21) (d := 69) (v := .bool true) rfl (by rfl) (by kernel_rfl) (by kernel_rfl) (fun _ _ _ h => by cases h.1) _ (by kernel_rfl) (by kernel_rfl) (Or.inl ⟨by kernel_rfl, ?_⟩) SB2.out ?_
            · intro w' hSw
              obtain ⟨z0, z1, z2, z3⟩ := hSw
              go_simp
            simp only [Act.put, List.setIfInBounds_toArray, List.set_cons_zero, List.set_cons_succ]
            refine wpAnyU_takeD (i := 22) (d := 70) (v := .bool true) rfl (by rfl) (by kernel_rfl) (by kernel_rfl) (fun _ _ _ h => by cases h.1) _ (by kernel_rfl) (by kernel_rfl) (Or.inl ⟨by kernel_rfl, ?_⟩) SB2.out ?_
            · intro w' hSw
              obtain ⟨z0, z1, z2, z3⟩ := hSw
              go_simp
            simp only [Act.put, List.setIfInBounds_toArray, List.set_cons_zero, List.set_cons_succ]
            refine wpAnyU_takeD (i := 23) (d := 71) (v := .bool true) rfl (by rfl) (by kernel_rfl) (by kernel_rfl) (fun _ _ _ h => by cases h.1) _ (by kernel_rfl) (by kernel_rfl) (Or.inl ⟨by kernel_rfl, ?_⟩) SB2.out ?_
            · intro w' hSw
              obtain ⟨z0, z1, z2, z3⟩ := hSw
              go_simp
            simp only [Act.put, List.setIfInBounds_toArray, List.set_cons_zero, List.set_cons_succ]
            refine wpAnyU_takeD (i := 24) (d := 72) (v := undef) rfl (by rfl) (by kernel_rfl) (by kernel_rfl) (fun _ _ _ h => by cases h.1) _ (by kernel_rfl) (by kernel_rfl) (Or.inr ⟨by kernel_rfl, rfl⟩) SB2.out ?_
            simp only [Act.put, List.setIfInBounds_toArray, List.set_cons_zero, List.set_cons_succ]
            refine wpAnyU_takeD (i := 25) (d := 73) (v := undef) rfl (by rfl) (by kernel_rfl) (by kernel_rfl) (fun _ _ _ h => by cases h.1) _ (by kernel_rfl) (by kernel_rfl) (Or.inr ⟨by kernel_rfl, rfl⟩) SB2.out ?_
            simp only [Act.put, List.setIfInBounds_toArray, List.set_cons_zero, List.set_cons_succ]
            refine wpAnyU_takeD (i := 26) (d := 74) (v := undef) rfl (by rfl) (by kernel_rfl) (by kernel_rfl) (fun _ _ _ h => by cases h.1) _ (by kernel_rfl) (by kernel_rfl) (Or.inr ⟨by kernel_rfl, rfl⟩) SB2.out ?_
            simp only [Act.put, List.setIfInBounds_toArray, List.set_cons_zero, List.set_cons_succ]
            refine wpAnyU_takeD (i := 27) (d := 75) (v := undef) rfl (by rfl) (by kernel_rfl) (by kernel_rfl) (fun _ _ _ h => by cases h.1) _ (by kernel_rfl) (by kernel_rfl) (Or.inr ⟨by kernel_rfl, rfl⟩) SB2.out ?_
            simp only [Act.put, List.setIfInBounds_toArray, List.set_cons_zero, List.set_cons_succ]
            refine wpAnyU_takeD (i := 28) (d := 76) (v := undef) rfl (by rfl) (by kernel_rfl) (by kernel_rfl) (fun _ _ _ h => by cases h.1) _ (by kernel_rfl) (by kernel_rfl) (Or.inr ⟨by kernel_rfl, rfl⟩) SB2.out ?_
            simp only [Act.put, List.setIfInBounds_toArray, List.set_cons_zero, List.set_cons_succ]
            refine wpAnyU_takeD (i := 29) (d := 77) (v := undef) rfl (by rfl) (by kernel_rfl) (by kernel_rfl) (fun _ _ _ h => by cases h.1) _ (by kernel_rfl) (by kernel_rfl) (Or.inr ⟨by kernel_rfl, rfl⟩) SB2.out ?_
            simp only [Act.put, List.setIfInBounds_toArray, List.set_cons_zero, List.set_cons_succ]
            refine wpAnyU_takeD (i := 30) (d := 78) (v := undef) rfl (by rfl) (by kernel_rfl) (by kernel_rfl) (fun _ _ _ h => by cases h.1) _ (by kernel_rfl) (by kernel_rfl) (Or.inr ⟨by kernel_rfl, rfl⟩) SB2.out ?_
            simp only [Act.put, List.setIfInBounds_toArray, List.set_cons_zero, List.set_cons_succ]
            refine wpAnyU_takeD (i := 31) (d := 79) (v := undef) rfl (by rfl) (by kernel_rfl) (by kernel_rfl) (fun _ _ _ h => by cases h.1) _ (by kernel_rfl) (by kernel_rfl) (Or.inr ⟨by kernel_rfl, rfl⟩) SB2.out ?_
            simp only [Act.put, List.setIfInBounds_toArray, List.set_cons_zero, List.set_cons_succ]
            refine wpAnyU_takeD (i := 32) (d := 80) (v := .bool true) rfl (by rfl) (by kernel_rfl) (by kernel_rfl) (fun _ _ _ h => by cases h.1) _ (by kernel_rfl) (by kernel_rfl) (Or.inl ⟨by kernel_rfl, ?_⟩) SB2.out ?_
            · intro w' hSw
              obtain ⟨z0, z1, z2, z3⟩ := hSw
              go_simp
            simp only [Act.put, List.setIfInBounds_toArray, List.set_cons_zero, List.set_cons_succ]
            refine wpAnyU_done (by kernel_rfl) ?_ _
            refine ⟨rfl, ?_⟩
            have HB5 := hide (HB4.out.keep X5.out.bl)
            clear b0 a0 a1 a2 a3 e0 e1 e2 e3 o0 o1 o2 o3 r0 r1 f0 f1 SA SB1 SB2 X5 ee0
            have b0 := HB5.out.h
            have a0 := HB5.out.a 0 _ rfl
            have a1 := HB5.out.a 1 _ rfl
            have a2 := HB5.out.a 2 _ rfl
            have a3 := HB5.out.a 3 _ rfl
            have e0 := HB5.out.b 0 _ rfl
            have e1 := HB5.out.b 1 _ rfl
            have e2 := HB5.out.b 2 _ rfl
            have e3 := HB5.out.b 3 _ rfl
            have o0 := HB5.out.o 0 _ rfl
            have o1 := HB5.out.o 1 _ rfl
            have o2 := HB5.out.o 2 _ rfl
            have o3 := HB5.out.o 3 _ rfl
            have r0 := HB5.out.r0
            have r1 := HB5.out.r1
            have f0 := HB5.out.fz 0
            have f1 := HB5.out.fz 1
            go_wp2
            refine bodyPost_ret (v := .agg #[.int .i64 6, .slice none 0 0]) (by simp [results, Tryz.results8, go_sem, r0, r1]) rfl ⟨6, _, [], rfl, ⟨hok.out, .inl ⟨by first | exact hfc | omega, rfl⟩⟩, .inl ⟨rfl, rfl⟩, by (first | exact (HB5.out.bl.setCell (p := ⟨w.heap.size + 1 + 1 + 1 + 1, 0, none⟩) (by show _ ≤ w.heap.size + 1 + 1 + 1 + 1; omega) _).setCell (p := ⟨w.heap.size + 1 + 1 + 1 + 1, 1, none⟩) (by show _ ≤ w.heap.size + 1 + 1 + 1 + 1; omega) _ | exact HB5.out.bl.setCell (p := ⟨w.heap.size + 1 + 1 + 1 + 1, 0, none⟩) (by show _ ≤ w.heap.size + 1 + 1 + 1 + 1; omega) _)⟩
        · have hne : ((b.xs.length : Int) == 1) = false := by rw [beq_eq_false_iff_ne]; omega
          have hne2 : ¬ ((b.xs.length : Int) = 1) := by omega
          have hok := hide (hfit6.out (by unfold fitB; rw [decide_eq_false (fun q => m1 q.1)])).symm
          have SA : Hid ((fun w' : World => w'.cell? ⟨w.heap.size + 1 + 1, 1, none⟩ = some (.slice p2 b.xs.length c2)) w4.drew) := e1
          go_wp2_with fail
          refine region_u (S := (fun w' : World => w'.cell? ⟨w.heap.size + 1 + 1, 1, none⟩ = some (.slice p2 b.xs.length c2))) (late := []) (by kernel_rfl) ?_
          refine wpAnyU_takeD (i := 0) (d := 48) (v := .pointer (some ⟨w.heap.size + 1 + 1, 1, none⟩)) rfl (by rfl) (by kernel_rfl) (by kernel_rfl) (fun _ _ _ h => by cases h.1) _ (by kernel_rfl) (by kernel_rfl) (Or.inl ⟨by kernel_rfl, ?_⟩) SA.out ?_
          · intro w' hSw
            have z0 := hSw
            go_simp
          simp only [Act.put, List.setIfInBounds_toArray, List.set_cons_zero, List.set_cons_succ]
          refine wpAnyU_takeD (i := 1) (d := 49) (v := .pointer (some ⟨w.heap.size + 1 + 1, 1, none⟩)) rfl (by rfl) (by kernel_rfl) (by kernel_rfl) (fun _ _ _ h => by cases h.1) _ (by kernel_rfl) (by kernel_rfl) (Or.inl ⟨by kernel_rfl, ?_⟩) SA.out ?_
          · intro w' hSw
            have z0 := hSw
            go_simp
          simp only [Act.put, List.setIfInBounds_toArray, List.set_cons_zero, List.set_cons_succ]
          refine wpAnyU_takeD (i := 2) (d := 50) (v := .slice p2 b.xs.length c2) rfl (by rfl) (by kernel_rfl) (by kernel_rfl) (fun _ _ _ h => by cases h.1) _ (by kernel_rfl) (by kernel_rfl) (Or.inl ⟨by kernel_rfl, ?_⟩) SA.out ?_
          · intro w' hSw
            have z0 := hSw
            go_simp
          simp only [Act.put, List.setIfInBounds_toArray, List.set_cons_zero, List.set_cons_succ]
          refine wpAnyU_takeD (i := 3) (d := 51) (v := .int .i64 b.xs.length) rfl (by rfl) (by kernel_rfl) (by kernel_rfl) (fun _ _ _ h => by cases h.1) _ (by kernel_rfl) (by kernel_rfl) (Or.inl ⟨by kernel_rfl, ?_⟩) SA.out ?_
          · intro w' hSw
            have z0 := hSw
            go_simp
          simp only [Act.put, List.setIfInBounds_toArray, List.set_cons_zero, List.set_cons_succ]
          refine wpAnyU_takeD (i := 4) (d := 52) (v := .bool true) rfl (by rfl) (by kernel_rfl) (by kernel_rfl) (fun _ _ _ h => by cases h.1) _ (by kernel_rfl) (by kernel_rfl) (Or.inl ⟨by kernel_rfl, ?_⟩) SA.out ?_
          · intro w' hSw
            have z0 := hSw
            go_simp
          simp only [Act.put, List.setIfInBounds_toArray, List.set_cons_zero, List.set_cons_succ]
          refine wpAnyU_takeD (i := 5) (d := 53) (v := .bool true) rfl (by rfl) (by kernel_rfl) (by kernel_rfl) (fun _ _ _ h => by cases h.1) _ (by kernel_rfl) (by kernel_rfl) (Or.inl ⟨by kernel_rfl, ?_⟩) SA.out ?_
          · intro w' hSw
            have z0 := hSw
            go_simp
          simp only [Act.put, List.setIfInBounds_toArray, List.set_cons_zero, List.set_cons_succ]
          refine wpAnyU_takeD (i := 6) (d := 54) (v := undef) rfl (by rfl) (by kernel_rfl) (by kernel_rfl) (fun _ _ _ h => by cases h.1) _ (by kernel_rfl) (by kernel_rfl) (Or.inr ⟨by kernel_rfl, rfl⟩) SA.out ?_
          simp only [Act.put, List.setIfInBounds_toArray, List.set_cons_zero, List.set_cons_succ]
          refine wpAnyU_takeD (i := 7) (d := 55) (v := undef) rfl (by rfl) (by kernel_rfl) (by kernel_rfl) (fun _ _ _ h => by cases h.1) _ (by kernel_rfl) (by kernel_rfl) (Or.inr ⟨by kernel_rfl, rfl⟩) SA.out ?_
          simp only [Act.put, List.setIfInBounds_toArray, List.set_cons_zero, List.set_cons_succ]
          refine wpAnyU_takeD (i := 8) (d := 56) (v := undef) rfl (by rfl) (by kernel_rfl) (by kernel_rfl) (fun _ _ _ h => by cases h.1) _ (by kernel_rfl) (by kernel_rfl) (Or.inr ⟨by kernel_rfl, rfl⟩) SA.out ?_
          simp only [Act.put, List.setIfInBounds_toArray, List.set_cons_zero, List.set_cons_succ]
          refine wpAnyU_takeD (i := 9) (d := 57) (v := undef) rfl (by rfl) (by kernel_rfl) (by kernel_rfl) (fun _ _ _ h => by cases h.1) _ (by kernel_rfl) (by kernel_rfl) (Or.inr ⟨by kernel_rfl, rfl⟩) SA.out ?_
          simp only [Act.put, List.setIfInBounds_toArray, List.set_cons_zero, List.set_cons_succ]
          refine wpAnyU_takeD (i := 10) (d := 58) (v := undef) rfl (by rfl) (by kernel_rfl) (by kernel_rfl) (fun _ _ _ h => by cases h.1) _ (by kernel_rfl) (by kernel_rfl) (Or.inr ⟨by kernel_rfl, rfl⟩) SA.out ?_
          simp only [Act.put, List.setIfInBounds_toArray, List.set_cons_zero, List.set_cons_succ]
          refine wpAnyU_takeD (i := 11) (d := 59) (v := undef) rfl (by rfl) (by kernel_rfl) (by kernel_rfl) (fun _ _ _ h => by cases h.1) _ (by kernel_rfl) (by kernel_rfl) (Or.inr ⟨by kernel_rfl, rfl⟩) SA.out ?_
          simp only [Act.put, List.setIfInBounds_toArray, List.set_cons_zero, List.set_cons_succ]
          refine wpAnyU_takeD (i := 12) (d := 60) (v := undef) rfl (by rfl) (by kernel_rfl) (by kernel_rfl) (fun _ _ _ h => by cases h.1) _ (by kernel_rfl) (by kernel_rfl) (Or.inr ⟨by kernel_rfl, rfl⟩) SA.out ?_
          simp only [Act.put, List.setIfInBounds_toArray, List.set_cons_zero, List.set_cons_succ]
          refine wpAnyU_takeD (i := 13) (d := 61) (v := undef) rfl (by rfl) (by kernel_rfl) (by kernel_rfl) (fun _ _ _ h => by cases h.1) _ (by kernel_rfl) (by kernel_rfl) (Or.inr ⟨by kernel_rfl, rfl⟩) SA.out ?_
          simp only [Act.put, List.setIfInBounds_toArray, List.set_cons_zero, List.set_cons_succ]
          refine wpAnyU_takeD (i := 14) (d := 62) (v := undef) rfl (by rfl) (by kernel_rfl) (by kernel_rfl) (fun _ _ _ h => by cases h.1) _ (by kernel_rfl) (by kernel_rfl) (Or.inr ⟨by kernel_rfl, rfl⟩) SA.out ?_
          simp only [Act.put, List.setIfInBounds_toArray, List.set_cons_zero, List.set_cons_succ]
          refine wpAnyU_takeD (i := 15) (d := 63) (v := undef) rfl (by rfl) (by kernel_rfl) (by kernel_rfl) (fun _ _ _ h => by cases h.1) _ (by kernel_rfl) (by kernel_rfl) (Or.inr ⟨by kernel_rfl, rfl⟩) SA.out ?_
          simp only [Act.put, List.setIfInBounds_toArray, List.set_cons_zero, List.set_cons_succ]
          refine wpAnyU_takeD (i := 16) (d := 64) (v := undef) rfl (by rfl) (by kernel_rfl) (by kernel_rfl) (fun _ _ _ h => by cases h.1) _ (by kernel_rfl) (by kernel_rfl) (Or.inr ⟨by kernel_rfl, rfl⟩) SA.out ?_
          simp only [Act.put, List.setIfInBounds_toArray, List.set_cons_zero, List.set_cons_succ]
          refine wpAnyU_takeD (i := 17) (d := 65) (v := undef) rfl (by rfl) (by kernel_rfl) (by kernel_rfl) (fun _ _ _ h => by cases h.1) _ (by kernel_rfl) (by kernel_rfl) (Or.inr ⟨by kernel_rfl, rfl⟩) SA.out ?_
          simp only [Act.put, List.setIfInBounds_toArray, List.set_cons_zero, List.set_cons_succ]
          refine wpAnyU_takeD (i := 18) (d := 66) (v := undef) rfl (by rfl) (by kernel_rfl) (by kernel_rfl) (fun _ _ _ h => by cases h.1) _ (by kernel_rfl) (by kernel_rfl) (Or.inr ⟨by kernel_rfl, rfl⟩) SA.out ?_
          simp only [Act.put, List.setIfInBounds_toArray, List.set_cons_zero, List.set_cons_succ]
          refine wpAnyU_takeD (i := 19) (d := 67) (v := undef) rfl (by rfl) (by kernel_rfl) (by kernel_rfl) (fun _ _ _ h => by cases h.1) _ (by kernel_rfl) (by kernel_rfl) (Or.inr ⟨by kernel_rfl, rfl⟩) SA.out ?_
          simp only [Act.put, List.setIfInBounds_toArray, List.set_cons_zero, List.set_cons_succ]
          refine wpAnyU_takeD (i := 20) (d := 68) (v := undef) rfl (by rfl) (by kernel_rfl) (by kernel_rfl) (fun _ _ _ h => by cases h.1) _ (by kernel_rfl) (by kernel_rfl) (Or.inr ⟨by kernel_rfl, rfl⟩) SA.out ?_
          simp only [Act.put, List.setIfInBounds_toArray, List.set_cons_zero, List.set_cons_succ]
          refine wpAnyU_takeD (i := 21) (d := 69) (v := undef) rfl (by rfl) (by kernel_rfl) (by kernel_rfl) (fun _ _ _ h => by cases h.1) _ (by kernel_rfl) (by kernel_rfl) (Or.inr ⟨by kernel_rfl, rfl⟩) SA.out ?_
          simp only [Act.put, List.setIfInBounds_toArray, List.set_cons_zero, List.set_cons_succ]
          refine wpAnyU_takeD (i := 22) (d := 70) (v := .bool true) rfl (by rfl) (by kernel_rfl) (by kernel_rfl) (fun _ _ _ h => by cases h.1) _ (by kernel_rfl) (by kernel_rfl) (Or.inl ⟨by kernel_rfl, ?_⟩) SA.out ?_
          · intro w' hSw
            have z0 := hSw
            go_simp
          simp only [Act.put, List.setIfInBounds_toArray, List.set_cons_zero, List.set_cons_succ]
          refine wpAnyU_takeD (i := 23) (d := 71) (v := .bool true) rfl (by rfl) (by kernel_rfl) (by kernel_rfl) (fun _ _ _ h => by cases h.1) _ (by kernel_rfl) (by kernel_rfl) (Or.inl ⟨by kernel_rfl, ?_⟩) SA.out ?_
          · intro w' hSw
            have z0 := hSw
            go_simp
          simp only [Act.put, List.setIfInBounds_toArray, List.set_cons_zero, List.set_cons_succ]
          refine wpAnyU_takeD (i := 24) (d := 72) (v := undef) rfl (by rfl) (by kernel_rfl) (by kernel_rfl) (fun _ _ _ h => by cases h.1) _ (by kernel_rfl) (by kernel_rfl) (Or.inr ⟨by kernel_rfl, rfl⟩) SA.out ?_
          simp only [Act.put, List.setIfInBounds_toArray, List.set_cons_zero, List.set_cons_succ]
          refine wpAnyU_takeD (i := 25) (d := 73) (v := undef) rfl (by rfl) (by kernel_rfl) (by kernel_rfl) (fun _ _ _ h => by cases h.1) _ (by kernel_rfl) (by kernel_rfl) (Or.inr ⟨by kernel_rfl, rfl⟩) SA.out ?_
          simp only [Act.put, List.setIfInBounds_toArray, List.set_cons_zero, List.set_cons_succ]
          refine wpAnyU_takeD (i := 26) (d := 74) (v := undef) rfl (by rfl) (by kernel_rfl) (by kernel_rfl) (fun _ _ _ h => by cases h.1) _ (by kernel_rfl) (by kernel_rfl) (Or.inr ⟨by kernel_rfl, rfl⟩) SA.out ?_
          simp only [Act.put, List.setIfInBounds_toArray, List.set_cons_zero, List.set_cons_succ]
          refine wpAnyU_takeD (i := 27) (d := 75) (v := undef) rfl (by rfl) (by kernel_rfl) (by kernel_rfl) (fun _ _ _ h => by cases h.1) _ (by kernel_rfl) (by kernel_rfl) (Or.inr ⟨by kernel_rfl, rfl⟩) SA.out ?_
          simp only [Act.put, List.setIfInBounds_toArray, List.set_cons_zero, List.set_cons_succ]
          refine wpAnyU_takeD (i := 28) (d := 76) (v := undef) rfl (by rfl) (by kernel_rfl) (by kernel_rfl) (fun _ _ _ h => by cases h.1) _ (by kernel_rfl) (by kernel_rfl) (Or.inr ⟨by kernel_rfl, rfl⟩) SA.out ?_
          simp only [Act.put, List.setIfInBounds_toArray, List.set_cons_zero, List.set_cons_succ]
          refine wpAnyU_takeD (i := 29) (d := 77) (v := undef) rfl (by rfl) (by kernel_rfl) (by kernel_rfl) (fun _ _ _ h => by cases h.1) _ (by kernel_rfl) (by kernel_rfl) (Or.inr ⟨by kernel_rfl, rfl⟩) SA.out ?_
          simp only [Act.put, List.setIfInBounds_toArray, List.set_cons_zero, List.set_cons_succ]
          refine wpAnyU_takeD (i := 30) (d := 78) (v := undef) rfl (by rfl) (by kernel_rfl) (by kernel_rfl) (fun _ _ _ h => by cases h.1) _ (by kernel_rfl) (by kernel_rfl) (Or.inr ⟨by kernel_rfl, rfl⟩) SA.out ?_
          simp only [Act.put, List.setIfInBounds_toArray, List.set_cons_zero, List.set_cons_succ]
          refine wpAnyU_takeD (i := 31) (d := 79) (v := undef) rfl (by rfl) (by kernel_rfl) (by kernel_rfl) (fun _ _ _ h => by cases h.1) _ (by kernel_rfl) (by kernel_rfl) (Or.inr ⟨by kernel_rfl, rfl⟩) SA.out ?_
          simp only [Act.put, List.setIfInBounds_toArray, List.set_cons_zero, List.set_cons_succ]
          refine wpAnyU_takeD (i := 32) (d := 80) (v := .bool true) rfl (by rfl) (by kernel_rfl) (by kernel_rfl) (fun _ _ _ h => by cases h.1) _ (by kernel_rfl) (by kernel_rfl) (Or.inl ⟨by kernel_rfl, ?_⟩) SA.out ?_
          · intro w' hSw
            have z0 := hSw
            go_simp
          simp only [Act.put, List.setIfInBounds_toArray, List.set_cons_zero, List.set_cons_succ]
          refine wpAnyU_done (by kernel_rfl) ?_ _
          refine ⟨rfl, ?_⟩
          clear SA
          go_wp2
          refine bodyPost_ret (v := .agg #[.int .i64 6, .slice none 0 0]) (by simp [results, Tryz.results8, go_sem, r0, r1]) rfl ⟨6, _, [], rfl, ⟨hok.out, .inl ⟨by first | exact hfc | omega, rfl⟩⟩, .inl ⟨rfl, rfl⟩, by (first | exact (HB4d.out.bl.setCell (p := ⟨w.heap.size + 1 + 1 + 1 + 1, 0, none⟩) (by show _ ≤ w.heap.size + 1 + 1 + 1 + 1; omega) _).setCell (p := ⟨w.heap.size + 1 + 1 + 1 + 1, 1, none⟩) (by show _ ≤ w.heap.size + 1 + 1 + 1 + 1; omega) _ | exact HB4d.out.bl.setCell (p := ⟨w.heap.size + 1 + 1 + 1 + 1, 0, none⟩) (by show _ ≤ w.heap.size + 1 + 1 + 1 + 1; omega) _)⟩
      · have hne : (dd == 8) = false := by rw [beq_eq_false_iff_ne]; exact k3
        have hok := hide (h4.out (by rw [hdbl.out]; simp [k3])).symm
        go_wp2_with fail
        refine (HT1.out _ HB1.out.bl).mono ?_
        rintro e w2 ⟨rfl, x2⟩
        have HB2 := hide (HB1.out.keep x2.bl)
        clear x2 b0 a0 a1 a2 a3 e0 e1 e2 e3 o0 o1 o2 o3 r0 r1 f0 f1
        have b0 := HB2.out.h
        have a0 := HB2.out.a 0 _ rfl
        have a1 := HB2.out.a 1 _ rfl
        have a2 := HB2.out.a 2 _ rfl
        have a3 := HB2.out.a 3 _ rfl
        have e0 := HB2.out.b 0 _ rfl
        have e1 := HB2.out.b 1 _ rfl
        have e2 := HB2.out.b 2 _ rfl
        have e3 := HB2.out.b 3 _ rfl
        have o0 := HB2.out.o 0 _ rfl
        have o1 := HB2.out.o 1 _ rfl
        have o2 := HB2.out.o 2 _ rfl
        have o3 := HB2.out.o 3 _ rfl
        have r0 := HB2.out.r0
        have r1 := HB2.out.r1
        have f0 := HB2.out.fz 0
        have f1 := HB2.out.fz 1
        go_wp2_with fail
        refine (HT2.out _ HB2.out.bl).mono ?_
        rintro e w3 ⟨rfl, x3⟩
        have HB3 := hide (HB2.out.keep x3.bl)
        clear x3 b0 a0 a1 a2 a3 e0 e1 e2 e3 o0 o1 o2 o3 r0 r1 f0 f1
        have b0 := HB3.out.h
        have a0 := HB3.out.a 0 _ rfl
        have a1 := HB3.out.a 1 _ rfl
        have a2 := HB3.out.a 2 _ rfl
        have a3 := HB3.out.a 3 _ rfl
        have e0 := HB3.out.b 0 _ rfl
        have e1 := HB3.out.b 1 _ rfl
        have e2 := HB3.out.b 2 _ rfl
        have e3 := HB3.out.b 3 _ rfl
        have o0 := HB3.out.o 0 _ rfl
        have o1 := HB3.out.o 1 _ rfl
        have o2 := HB3.out.o 2 _ rfl
        have o3 := HB3.out.o 3 _ rfl
        have r0 := HB3.out.r0
        have r1 := HB3.out.r1
        have f0 := HB3.out.fz 0
        have f1 := HB3.out.fz 1
        go_wp2_with fail
        refine (HT3.out _ HB3.out.bl).mono ?_
        rintro e w4 ⟨rfl, x4⟩
        have HB4 := hide (HB3.out.keep x4.bl)
        clear x4 b0 a0 a1 a2 a3 e0 e1 e2 e3 o0 o1 o2 o3 r0 r1 f0 f1
        have b0 := HB4.out.h
        have a0 := HB4.out.a 0 _ rfl
        have a1 := HB4.out.a 1 _ rfl
        have a2 := HB4.out.a 2 _ rfl
        have a3 := HB4.out.a 3 _ rfl
        have e0 := HB4.out.b 0 _ rfl
        have e1 := HB4.out.b 1 _ rfl
        have e2 := HB4.out.b 2 _ rfl
        have e3 := HB4.out.b 3 _ rfl
        have o0 := HB4.out.o 0 _ rfl
        have o1 := HB4.out.o 1 _ rfl
        have o2 := HB4.out.o 2 _ rfl
        have o3 := HB4.out.o 3 _ rfl
        have r0 := HB4.out.r0
        have r1 := HB4.out.r1
        have f0 := HB4.out.fz 0
        have f1 := HB4.out.fz 1
        go_wp2
        refine bodyPost_ret (v := .agg #[.int .i64 4, .slice none 0 0]) (by simp [results, Tryz.results8, go_sem, r0, r1]) rfl ⟨4, _, [], rfl, ⟨hok.out, .inl ⟨by first | exact hfc | omega, rfl⟩⟩, .inl ⟨rfl, rfl⟩, by (first | exact (HB4.out.bl.setCell (p := ⟨w.heap.size + 1 + 1 + 1 + 1, 0, none⟩) (by show _ ≤ w.heap.size + 1 + 1 + 1 + 1; omega) _).setCell (p := ⟨w.heap.size + 1 + 1 + 1 + 1, 1, none⟩) (by show _ ≤ w.heap.size + 1 + 1 + 1 + 1; omega) _ | exact HB4.out.bl.setCell (p := ⟨w.heap.size + 1 + 1 + 1 + 1, 0, none⟩) (by show _ ≤ w.heap.size + 1 + 1 + 1 + 1; omega) _)⟩
    · have hne : (db == 8) = false := by rw [beq_eq_false_iff_ne]; exact k2
      have hok := hide (h4.out (by rw [hdbl.out]; simp [k2])).symm
      go_wp2_with fail
      refine (HT1.out _ HB1.out.bl).mono ?_
      rintro e w2 ⟨rfl, x2⟩
      have HB2 := hide (HB1.out.keep x2.bl)
      clear x2 b0 a0 a1 a2 a3 e0 e1 e2 e3 o0 o1 o2 o3 r0 r1 f0 f1
      have b0 := HB2.out.h
      have a0 := HB2.out.a 0 _ rfl
      have a1 := HB2.out.a 1 _ rfl
      have a2 := HB2.out.a 2 _ rfl
      have a3 := HB2.out.a 3 _ rfl
      have e0 := HB2.out.b 0 _ rfl
      have e1 := HB2.out.b 1 _ rfl
      have e2 := HB2.out.b 2 _ rfl
      have e3 := HB2.out.b 3 _ rfl
      have o0 := HB2.out.o 0 _ rfl
      have o1 := HB2.out.o 1 _ rfl
      have o2 := HB2.out.o 2 _ rfl
      have o3 := HB2.out.o 3 _ rfl
      have r0 := HB2.out.r0
      have r1 := HB2.out.r1
      have f0 := HB2.out.fz 0
      have f1 := HB2.out.fz 1
      go_wp2_with fail
      refine (HT2.out _ HB2.out.bl).mono ?_
      rintro e w3 ⟨rfl, x3⟩
      have HB3 := hide (HB2.out.keep x3.bl)
      clear x3 b0 a0 a1 a2 a3 e0 e1 e2 e3 o0 o1 o2 o3 r0 r1 f0 f1
      have b0 := HB3.out.h
      have a0 := HB3.out.a 0 _ rfl
      have a1 := HB3.out.a 1 _ rfl
      have a2 := HB3.out.a 2 _ rfl
      have a3 := HB3.out.a 3 _ rfl
      have e0 := HB3.out.b 0 _ rfl
      have e1 := HB3.out.b 1 _ rfl
      have e2 := HB3.out.b 2 _ rfl
      have e3 := HB3.out.b 3 _ rfl
      have o0 := HB3.out.o 0 _ rfl
      have o1 := HB3.out.o 1 _ rfl
      have o2 := HB3.out.o 2 _ rfl
      have o3 := HB3.out.o 3 _ rfl
      have r0 := HB3.out.r0
      have r1 := HB3.out.r1
      have f0 := HB3.out.fz 0
      have f1 := HB3.out.fz 1
      go_wp2
      refine bodyPost_ret (v := .agg #[.int .i64 4, .slice none 0 0]) (by simp [results, Tryz.results8, go_sem, r0, r1]) rfl ⟨4, _, [], rfl, ⟨hok.out, .inl ⟨by first | exact hfc | omega, rfl⟩⟩, .inl ⟨rfl, rfl⟩, by (first | exact (HB3.out.bl.setCell (p := ⟨w.heap.size + 1 + 1 + 1 + 1, 0, none⟩) (by show _ ≤ w.heap.size + 1 + 1 + 1 + 1; omega) _).setCell (p := ⟨w.heap.size + 1 + 1 + 1 + 1, 1, none⟩) (by show _ ≤ w.heap.size + 1 + 1 + 1 + 1; omega) _ | exact HB3.out.bl.setCell (p := ⟨w.heap.size + 1 + 1 + 1 + 1, 0, none⟩) (by show _ ≤ w.heap.size + 1 + 1 + 1 + 1; omega) _)⟩
  · have hne : (da == 8) = false := by rw [beq_eq_false_iff_ne]; exact k1
    have hok := hide (h4.out (by rw [hdbl.out]; simp [k1])).symm
    go_wp2_with fail
    refine (HT1.out _ HB1.out.bl).mono ?_
    rintro e w2 ⟨rfl, x2⟩
    have HB2 := hide (HB1.out.keep x2.bl)
    clear x2 b0 a0 a1 a2 a3 e0 e1 e2 e3 o0 o1 o2 o3 r0 r1 f0 f1
    have b0 := HB2.out.h
    have a0 := HB2.out.a 0 _ rfl
    have a1 := HB2.out.a 1 _ rfl
    have a2 := HB2.out.a 2 _ rfl
    have a3 := HB2.out.a 3 _ rfl
    have e0 := HB2.out.b 0 _ rfl
    have e1 := HB2.out.b 1 _ rfl
    have e2 := HB2.out.b 2 _ rfl
    have e3 := HB2.out.b 3 _ rfl
    have o0 := HB2.out.o 0 _ rfl
    have o1 := HB2.out.o 1 _ rfl
    have o2 := HB2.out.o 2 _ rfl
    have o3 := HB2.out.o 3 _ rfl
    have r0 := HB2.out.r0
    have r1 := HB2.out.r1
    have f0 := HB2.out.fz 0
    have f1 := HB2.out.fz 1
    go_wp2
    refine bodyPost_ret (v := .agg #[.int .i64 4, .slice none 0 0]) (by simp [results, Tryz.results8, go_sem, r0, r1]) rfl ⟨4, _, [], rfl, ⟨hok.out, .inl ⟨by first | exact hfc | omega, rfl⟩⟩, .inl ⟨rfl, rfl⟩, by (first | exact (HB2.out.bl.setCell (p := ⟨w.heap.size + 1 + 1 + 1 + 1, 0, none⟩) (by show _ ≤ w.heap.size + 1 + 1 + 1 + 1; omega) _).setCell (p := ⟨w.heap.size + 1 + 1 + 1 + 1, 1, none⟩) (by show _ ≤ w.heap.size + 1 + 1 + 1 + 1; omega) _ | exact HB2.out.bl.setCell (p := ⟨w.heap.size + 1 + 1 + 1 + 1, 0, none⟩) (by show _ ≤ w.heap.size + 1 + 1 + 1 + 1; omega) _)⟩
end Go.Proofs.YtfhcpicddegblaaGreat
