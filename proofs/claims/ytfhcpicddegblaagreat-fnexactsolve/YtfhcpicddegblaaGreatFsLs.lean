import Derived.Test.YtfhcpicddegblaaGreatM6
import Derived.Test.YtfhcpicddegblaaGreatM5
import Derived.BigRegion
namespace Go.Proofs.YtfhcpicddegblaaGreat
open Go.RowKit FL
set_option linter.unusedSimpArgs false
set_option linter.unusedVariables false

/-- Where the elimination stands in front of column k. -/
def LsSt (w : World) (g n : Nat) (bs : List Nat) (t : Sys) (k : Nat) (wr : World) : Prop := ∃ (bs1 cps1 : List Nat) (s1 t1 : Sys), t.elim k = some t1 ∧ SysSp wr g n bs1 cps1 s1 ∧ SmS s1 t1 ∧ Among n bs bs1 ∧ MutP (InG g n bs) w wr
/-- What l5Solve answers. -/
def LsOk (w : World) (n : Nat) (t : Sys) (e : Ending) (w' : World) (g : Nat) (bs : List Nat) : Prop := MutP (InG g n bs) w w' ∧ ((t.elim n = none ∧ ∃ v, e = .returned (.tuple #[v, .bool false])) ∨
  (∃ (t1 : Sys) (b : Nat) (X : List Nat), t.elim n = some t1 ∧ e = .returned (.tuple #[.slice (some ⟨b, 0, none⟩) n n, .bool true]) ∧ FRow w' b X ∧ X.length = n ∧ SmL X (t1.back n)))
theorem mutP_new {p : Nat → Prop} {A B C : World} {b : Nat} (x : Ext A B) (y : Mut b B C) (hb : A.heap.size ≤ b) : MutP p A C := ⟨y.os.trans x.bl.os, y.tape.trans x.bl.tape, y.output.trans x.bl.output, Nat.le_trans x.bl.size y.size, fun k hk _ => (y.block k (Nat.lt_of_lt_of_le hk x.bl.size) (by omega)).trans (x.bl.block k hk), fun a => (y.fz a).trans (x.fz a)⟩
theorem swap_at {t : Sys} {n k p : Nat} (h : t.Sq n) (hk : k < n) (hp : p < n) : (t.swap k p).at k k = t.at p k := by
  show ((swapL t.1 k p []).getD k []).getD k 0 = _
  rw [swapL_getD _ _ _ _ _ (by rw [h.1]; exact hk) (by rw [h.1]; exact hp)]
  by_cases e : k = p
  · rw [if_pos e, ← e]; rfl
  · rw [if_neg e, if_pos rfl]; rfl

section
attribute [local go_sem] run_ar_add run_ar_sub run_ar_mul run_ar_quo
set_option maxRecDepth 100000 in
set_option maxHeartbeats 16000000 in
theorem l5Solve_any {w : World} {g n cg : Nat} {bs cps : List Nat} {s t : Sys} (H : SysSp w g n bs cps s) (hst : SmS s t) (hn0 : 0 < n) (hn : n ≤ 4096) :
    Calls Tryz.prog 30 #[.slice (some ⟨g, 0, none⟩) n cg] w fun e w' => LsOk w n t e w' g bs := by
  have htl : t.1.length = n := by rw [← hst.1]; exact H.sq.1
  have hts : t.Sq n := ⟨htl, by rw [← hst.2.2.1]; exact H.sq.2.1, fun i hi => by rw [← (hst.2.1 i).1]; exact H.sq.2.2 i hi⟩
  have HW0 : Hid (LsSt w g n bs t 0 w) := ⟨bs, cps, s, t, rfl, H, hst, Among.refl _ _, MutP.refl _ _⟩
  have hgl : g < w.heap.size := cell_lt (H.a 0 hn0)
  clear H hst
  go_enter Tryz.func30, Tryz.ntmps30
  go_wp2_with fail
  go_loopw [5] (fun i wr => ∃ k : Nat, i = .int .i64 k ∧ k ≤ n ∧ LsSt w g n bs t k wr) (fun i _ => n - (intOf i).toNat)
  case atStart => exact ⟨0, rfl, by omega, HW0.out⟩
  case round =>
    obtain ⟨k, rfl, hk, bs1, cps1, s1, t1, he, hS, hT, hA, hM⟩ := hrel
    clear HW0
    have HE := hide he
    have HS := hide hS
    have HT := hide hT
    have HA := hide hA
    have HM := hide hM
    clear he hS hT hA hM
    by_cases hkn : k < n
    · have k0 : (0 : Int) ≤ (k : Int) := Int.natCast_nonneg _
      have k1 : (k : Int) < (n : Int) := by omega
      have hsq : t1.Sq n := hts.elim hk HE.out
      go_wp2_with fail
      go_loopw [6, 7] (fun p i wq => ∃ m : Nat, i = .int .i64 (k + 1 + m : Nat) ∧ k + 1 + m ≤ n ∧ p = .int .i64 (pivN (fun i => t1.at i k) k m) ∧ ∃ z, wq = wr.drewN z) (fun p i _ => n - (intOf i).toNat)
      case atStart => exact ⟨0, by simp, by omega, by simp [pivN], 0, rfl⟩
      case round =>
        obtain ⟨m, rfl, hm, rfl, z, rfl⟩ := hrel
        have hp := pivN_le (fun i => t1.at i k) k m
        by_cases hlt : k + 1 + m < n
        · have hpn : pivN (fun i => t1.at i k) k m < n := by omega
          have d1 := HS.out.a (k + 1 + m) hlt
          have d2 := HS.out.a _ hpn
          have d3 := HS.out.elt hlt hkn
          have d4 := HS.out.elt hpn hkn
          have b3 := (HS.out.row (k + 1 + m) hlt).b64 k
          have b4 := (HS.out.row _ hpn).b64 k
          have hcmp : Hid (flt (absF (s1.at (pivN (fun i => t1.at i k) k m) k)) (absF (s1.at (k + 1 + m) k)) = flt (absF (t1.at (pivN (fun i => t1.at i k) k m) k)) (absF (t1.at (k + 1 + m) k))) := flt_congr (abs_key _ _ (HT.out.at _ _)) (abs_key _ _ (HT.out.at _ _))
          have hnx : Hid (pivN (fun i => t1.at i k) k (m + 1) = if flt (absF (t1.at (pivN (fun i => t1.at i k) k m) k)) (absF (t1.at (k + 1 + m) k)) then k + 1 + m else pivN (fun i => t1.at i k) k m) := rfl
          change B64 (s1.at (k + 1 + m) k) at b3
          change B64 (s1.at (pivN (fun i => t1.at i k) k m) k) at b4
          generalize hP : pivN (fun i => t1.at i k) k m = p at *
          generalize hI : k + 1 + m = i at *
          generalize bs1.getD i 0 = bi at d1 d3
          generalize bs1.getD p 0 = bp at d2 d4
          generalize cps1.getD i 0 = ci at d1
          generalize cps1.getD p 0 = cp at d2
          generalize s1.at i k = x at d3 b3 hcmp
          generalize s1.at p k = y at d4 b4 hcmp
          have i0 : (0 : Int) ≤ (i : Int) := Int.natCast_nonneg _
          have i1 : (i : Int) < (n : Int) := by omega
          have p0 : (0 : Int) ≤ (p : Int) := Int.natCast_nonneg _
          have p1 : (p : Int) < (n : Int) := by omega
          have SA : Hid ((fun w' : World => w'.cell? ⟨g, i * 2, none⟩ = some (.slice (some ⟨bi, 0, none⟩) n ci) ∧ w'.cell? ⟨g, p * 2, none⟩ = some (.slice (some ⟨bp, 0, none⟩) n cp) ∧ w'.cell? ⟨bi, k, none⟩ = some (.float .f64 x) ∧ w'.cell? ⟨bp, k, none⟩ = some (.float .f64 y)) (wr.drewN z).drew) := ⟨d1, d2, d3, d4⟩
          have hd : decide ((i : Int) < (n : Int)) = true := decide_eq_true (by omega)
          clear d1 d2 d3 d4
          go_wp2_with fail
          refine region_u (S := (fun w' : World => w'.cell? ⟨g, i * 2, none⟩ = some (.slice (some ⟨bi, 0, none⟩) n ci) ∧ w'.cell? ⟨g, p * 2, none⟩ = some (.slice (some ⟨bp, 0, none⟩) n cp) ∧ w'.cell? ⟨bi, k, none⟩ = some (.float .f64 x) ∧ w'.cell? ⟨bp, k, none⟩ = some (.float .f64 y))) (late := []) (by kernel_rfl) ?_
          refine wpAnyU_take (i := 0) (v := .slice (some ⟨g, 0, none⟩) n cg) rfl (by kernel_rfl) (by kernel_rfl) (fun _ _ _ h => by cases h.1) _ (by kernel_rfl) (by kernel_rfl) (Or.inl ⟨by rfl, ?_⟩) SA.out ?_
          · intro w' hSw
            obtain ⟨z0, z1, z2, z3⟩ := hSw
            go_simp
          simp only [Act.put, List.setIfInBounds_toArray, List.set_cons_zero, List.set_cons_succ]
          refine wpAnyU_take (i := 1) (v := .int .i64 i) rfl (by kernel_rfl) (by kernel_rfl) (fun _ _ _ h => by cases h.1) _ (by kernel_rfl) (by kernel_rfl) (Or.inl ⟨by rfl, ?_⟩) SA.out ?_
          · intro w' hSw
            obtain ⟨z0, z1, z2, z3⟩ := hSw
            go_simp
          simp only [Act.put, List.setIfInBounds_toArray, List.set_cons_zero, List.set_cons_succ]
          refine wpAnyU_take (i := 2) (v := .pointer (some ⟨g, i * 2, none⟩)) rfl (by kernel_rfl) (by kernel_rfl) (fun _ _ _ h => by cases h.1) _ (by kernel_rfl) (by kernel_rfl) (Or.inl ⟨by rfl, ?_⟩) SA.out ?_
          · intro w' hSw
            obtain ⟨z0, z1, z2, z3⟩ := hSw
            go_simp
          simp only [Act.put, List.setIfInBounds_toArray, List.set_cons_zero, List.set_cons_succ]
          refine wpAnyU_take (i := 3) (v := .pointer (some ⟨g, i * 2, none⟩)) rfl (by kernel_rfl) (by kernel_rfl) (fun _ _ _ h => by cases h.1) _ (by kernel_rfl) (by kernel_rfl) (Or.inl ⟨by rfl, ?_⟩) SA.out ?_
          · intro w' hSw
            obtain ⟨z0, z1, z2, z3⟩ := hSw
            go_simp
          simp only [Act.put, List.setIfInBounds_toArray, List.set_cons_zero, List.set_cons_succ]
          refine wpAnyU_take (i := 4) (v := .slice (some ⟨bi, 0, none⟩) n ci) rfl (by kernel_rfl) (by kernel_rfl) (fun _ _ _ h => by cases h.1) _ (by kernel_rfl) (by kernel_rfl) (Or.inl ⟨by rfl, ?_⟩) SA.out ?_
          · intro w' hSw
            obtain ⟨z0, z1, z2, z3⟩ := hSw
            go_simp
          simp only [Act.put, List.setIfInBounds_toArray, List.set_cons_zero, List.set_cons_succ]
          refine wpAnyU_take (i := 5) (v := .int .i64 k) rfl (by kernel_rfl) (by kernel_rfl) (fun _ _ _ h => by cases h.1) _ (by kernel_rfl) (by kernel_rfl) (Or.inl ⟨by rfl, ?_⟩) SA.out ?_
          · intro w' hSw
            obtain ⟨z0, z1, z2, z3⟩ := hSw
            go_simp
          simp only [Act.put, List.setIfInBounds_toArray, List.set_cons_zero, List.set_cons_succ]
          refine wpAnyU_take (i := 6) (v := .pointer (some ⟨bi, k, none⟩)) rfl (by kernel_rfl) (by kernel_rfl) (fun _ _ _ h => by cases h.1) _ (by kernel_rfl) (by kernel_rfl) (Or.inl ⟨by rfl, ?_⟩) SA.out ?_
          · intro w' hSw
            obtain ⟨z0, z1, z2, z3⟩ := hSw
            go_simp
          simp only [Act.put, List.setIfInBounds_toArray, List.set_cons_zero, List.set_cons_succ]
          refine wpAnyU_take (i := 7) (v := .float .f64 x) rfl (by kernel_rfl) (by kernel_rfl) (fun _ _ _ h => by cases h.1) _ (by kernel_rfl) (by kernel_rfl) (Or.inl ⟨by rfl, ?_⟩) SA.out ?_
          · intro w' hSw
            obtain ⟨z0, z1, z2, z3⟩ := hSw
            go_simp
          simp only [Act.put, List.setIfInBounds_toArray, List.set_cons_zero, List.set_cons_succ]
          refine wpAnyU_take (i := 9) (v := .slice (some ⟨g, 0, none⟩) n cg) rfl (by kernel_rfl) (by kernel_rfl) (fun _ _ _ h => by cases h.1) _ (by kernel_rfl) (by kernel_rfl) (Or.inl ⟨by rfl, ?_⟩) SA.out ?_
          · intro w' hSw
            obtain ⟨z0, z1, z2, z3⟩ := hSw
            go_simp
          simp only [Act.put, List.setIfInBounds_toArray, List.set_cons_zero, List.set_cons_succ]
          refine wpAnyU_take (i := 10) (v := .int .i64 p) rfl (by kernel_rfl) (by kernel_rfl) (fun _ _ _ h => by cases h.1) _ (by kernel_rfl) (by kernel_rfl) (Or.inl ⟨by rfl, ?_⟩) SA.out ?_
          · intro w' hSw
            obtain ⟨z0, z1, z2, z3⟩ := hSw
            go_simp
          simp only [Act.put, List.setIfInBounds_toArray, List.set_cons_zero, List.set_cons_succ]
          refine wpAnyU_take (i := 11) (v := .pointer (some ⟨g, p * 2, none⟩)) rfl (by kernel_rfl) (by kernel_rfl) (fun _ _ _ h => by cases h.1) _ (by kernel_rfl) (by kernel_rfl) (Or.inl ⟨by rfl, ?_⟩) SA.out ?_
          · intro w' hSw
            obtain ⟨z0, z1, z2, z3⟩ := hSw
            go_simp
          simp only [Act.put, List.setIfInBounds_toArray, List.set_cons_zero, List.set_cons_succ]
          refine wpAnyU_take (i := 12) (v := .pointer (some ⟨g, p * 2, none⟩)) rfl (by kernel_rfl) (by kernel_rfl) (fun _ _ _ h => by cases h.1) _ (by kernel_rfl) (by kernel_rfl) (Or.inl ⟨by rfl, ?_⟩) SA.out ?_
          · intro w' hSw
            obtain ⟨z0, z1, z2, z3⟩ := hSw
            go_simp
          simp only [Act.put, List.setIfInBounds_toArray, List.set_cons_zero, List.set_cons_succ]
          refine wpAnyU_take (i := 13) (v := .slice (some ⟨bp, 0, none⟩) n cp) rfl (by kernel_rfl) (by kernel_rfl) (fun _ _ _ h => by cases h.1) _ (by kernel_rfl) (by kernel_rfl) (Or.inl ⟨by rfl, ?_⟩) SA.out ?_
          · intro w' hSw
            obtain ⟨z0, z1, z2, z3⟩ := hSw
            go_simp
          simp only [Act.put, List.setIfInBounds_toArray, List.set_cons_zero, List.set_cons_succ]
          refine wpAnyU_take (i := 14) (v := .int .i64 k) rfl (by kernel_rfl) (by kernel_rfl) (fun _ _ _ h => by cases h.1) _ (by kernel_rfl) (by kernel_rfl) (Or.inl ⟨by rfl, ?_⟩) SA.out ?_
          · intro w' hSw
            obtain ⟨z0, z1, z2, z3⟩ := hSw
            go_simp
          simp only [Act.put, List.setIfInBounds_toArray, List.set_cons_zero, List.set_cons_succ]
          refine wpAnyU_take (i := 15) (v := .pointer (some ⟨bp, k, none⟩)) rfl (by kernel_rfl) (by kernel_rfl) (fun _ _ _ h => by cases h.1) _ (by kernel_rfl) (by kernel_rfl) (Or.inl ⟨by rfl, ?_⟩) SA.out ?_
          · intro w' hSw
            obtain ⟨z0, z1, z2, z3⟩ := hSw
            go_simp
          simp only [Act.put, List.setIfInBounds_toArray, List.set_cons_zero, List.set_cons_succ]
          refine wpAnyU_take (i := 16) (v := .float .f64 y) rfl (by kernel_rfl) (by kernel_rfl) (fun _ _ _ h => by cases h.1) _ (by kernel_rfl) (by kernel_rfl) (Or.inl ⟨by rfl, ?_⟩) SA.out ?_
          · intro w' hSw
            obtain ⟨z0, z1, z2, z3⟩ := hSw
            go_simp
          simp only [Act.put, List.setIfInBounds_toArray, List.set_cons_zero, List.set_cons_succ]
          refine wpAnyU_one (i := 8) (by kernel_rfl) rfl (fun K hK => ?_)
          go_simp
          refine (l5Abs_any x b3 _).mono ?_
          rintro e w2 ⟨r1, n1, rfl, hl1, rfl⟩
          refine hK.out _ _ (fun _ => SA.out) ?_
          clear hK K
          try simp only [Act.put, List.setIfInBounds_toArray, List.set_cons_zero, List.set_cons_succ]
          refine wpAnyU_one (i := 17) (by kernel_rfl) rfl (fun K hK => ?_)
          go_simp
          refine (l5Abs_any y b4 _).mono ?_
          rintro e w2 ⟨r2, n2, rfl, hl2, rfl⟩
          refine hK.out _ _ (fun _ => SA.out) ?_
          clear hK K
          try simp only [Act.put, List.setIfInBounds_toArray, List.set_cons_zero, List.set_cons_succ]
          have hfl : flt r2 r1 = flt (absF y) (absF x) := hl2.flt hl1
          generalize hf : flt r2 r1 = ff at hfl
          refine wpAnyU_take (i := 18) (v := .bool ff) rfl (by kernel_rfl) (by kernel_rfl) (fun _ _ _ h => by cases h.1) _ (by kernel_rfl) (by kernel_rfl) (Or.inl ⟨by rfl, ?_⟩) SA.out ?_
          · intro w' hSw
            obtain ⟨z0, z1, z2, z3⟩ := hSw
            go_simp
          simp only [Act.put, List.setIfInBounds_toArray, List.set_cons_zero, List.set_cons_succ]
          refine wpAnyU_done (by kernel_rfl) ?_ _
          refine ⟨rfl, ?_⟩
          have hnx2 := hnx.out
          rw [← hcmp.out, ← hfl] at hnx2
          have HN := hide hnx2
          clear hnx2 hnx hcmp hfl hf hl1 hl2
          cases ff
          · go_wp2_with fail
            go_roundw
            · exact ⟨m + 1, by rw [← hI]; go_num, by omega, by rw [HN.out]; rfl, _, rfl⟩
            · simp [intOf]; omega
          · go_wp2_with fail
            go_roundw
            · exact ⟨m + 1, by rw [← hI]; go_num, by omega, by rw [HN.out]; rfl, _, rfl⟩
            · simp [intOf]; omega
        · have hfin : Hid (t1.piv k = pivN (fun i => t1.at i k) k m) := by
            show t1.piv k = _
            unfold Sys.piv
            rw [hsq.1, show n - k - 1 = m by omega]
          have hd : decide (((k + 1 + m : Nat) : Int) < (n : Int)) = false := decide_eq_false (by omega)
          generalize hP : pivN (fun i => t1.at i k) k m = p at *
          have Hp := hide hP
          clear hP
          have hpn : p < n := by omega
          generalize hI : k + 1 + m = i at *
          have HS2 := hide (HS.out.ext hn0 (Ext.drewN' wr z))
          have HM2 := hide (HM.out.trans ((Ext.drewN' wr z).mutP _))
          clear HS HM
          have d2 := HS2.out.a p hpn
          have d4 := HS2.out.elt hpn hkn
          have hnn := same_nan (HT.out.at p k)
          have hff := feq_congr (HT.out.at p k) (same_self 0)
          have E4 : Hid (t.elim (k + 1) = if nanD (t1.at p k) || feq (t1.at p k) 0 then none else some ((t1.swap k p).subs k (n - k - 1))) := by
            show t.elim (k + 1) = _
            have e : t.elim (k + 1) = (t.elim k).bind fun t => t.round k := rfl
            rw [e, HE.out]
            show t1.round k = _
            unfold Sys.round
            rw [hfin.out, hsq.1]
            simp only [swap_at hsq hkn hpn]
          generalize hbp : bs1.getD p 0 = bp at d2 d4
          generalize hcp : cps1.getD p 0 = cp at d2
          generalize hdv : s1.at p k = dv at d4 hnn hff
          rw [← hnn, ← hff] at E4
          have bad : Hid ((nanD dv || feq dv 0) = true → t.elim n = none) := fun q => elim_none (k := k + 1) (by rw [E4.out, if_pos q]) (by omega)
          have good0 : Hid ((nanD dv || feq dv 0) = false → t.elim (k + 1) = some ((t1.swap k p).subs k (n - k - 1))) := fun q => by rw [E4.out, if_neg (by rw [q]; simp)]
          have Hbp := hide hbp
          have Hcp := hide hcp
          clear E4 hnn hff hdv hbp hcp
          generalize hW2 : wr.drewN z = W2 at *
          clear hW2
          have p0 : (0 : Int) ≤ (p : Int) := Int.natCast_nonneg _
          have p1 : (p : Int) < (n : Int) := by omega
          cases hna : nanD dv with
          | true =>
            go_wp2_with (go_at_call 70; refine (l1IsNaN_any _ _).mono ?_; rintro e w' ⟨rfl, rfl⟩; rw [hna])
            refine bodyPost_ret (results_tmp2 rfl _ _ _) rfl ?_
            exact ⟨HM2.out.trans (((Ext.refl _).alloc _ _).mutP _), .inl ⟨bad.out (by rw [hna]; rfl), _, rfl⟩⟩
          | false =>
            cases hze : feq dv 0 with
            | true =>
              go_wp2_with (go_at_call 70; refine (l1IsNaN_any _ _).mono ?_; rintro e w' ⟨rfl, rfl⟩; rw [hna])
              refine bodyPost_ret (results_tmp2 rfl _ _ _) rfl ?_
              exact ⟨HM2.out.trans (((Ext.refl _).alloc _ _).mutP _), .inl ⟨bad.out (by rw [hze]; simp), _, rfl⟩⟩
            | false =>
              have good := hide (good0.out (by rw [hna, hze]; rfl))
              clear bad good0
              have d1 := HS2.out.a k hkn
              have e1 := HS2.out.b k hkn
              have e2 := HS2.out.b p hpn
              have SW0 := HS2.out.swap hkn hpn
              rw [Hbp.out, Hcp.out] at SW0
              have SW := hide SW0
              have f0 := HS2.out.ofz (k * 2)
              have f1 := HS2.out.ofz (k * 2 + 1)
              have f2 := HS2.out.ofz (p * 2)
              have f3 := HS2.out.ofz (p * 2 + 1)
              have hgW : g < W2.heap.size := cell_lt d1
              generalize hbk : bs1.getD k 0 = bk at d1 SW
              generalize hck : cps1.getD k 0 = ck at d1 SW
              generalize hrk : s1.rt k = rk at e1 SW
              generalize hrp : s1.rt p = rp at e2 SW
              clear hbk hck hrk hrp SW0
              have ne : ∀ {a b : Nat} {W : World} {u : Value}, a ≠ b → (W.setCell ⟨g, a, none⟩ u).cell? ⟨g, b, none⟩ = W.cell? ⟨g, b, none⟩ := fun {a b W u} h => World.cell?_setCell_other _ _ _ _ (by intro e; simp only [Addr.mk.injEq] at e; omega)
              have q1 : (W2.setCell ⟨g, k * 2, none⟩ (.slice (some ⟨bp, 0, none⟩) n cp)).cell? ⟨g, k * 2 + 1, none⟩ = some (.float .f64 rk) := (ne (by omega)).trans e1
              have q2 : ((W2.setCell ⟨g, k * 2, none⟩ (.slice (some ⟨bp, 0, none⟩) n cp)).setCell ⟨g, k * 2 + 1, none⟩ (.float .f64 rp)).cell? ⟨g, p * 2, none⟩ = some (.slice (some ⟨bp, 0, none⟩) n cp) := by
                rw [ne (by omega)]
                by_cases e : k = p
                · subst e; rw [World.cell?_setCell_same _ _ _ d1]
                · rw [ne (by omega), d2]
              have q3 : (((W2.setCell ⟨g, k * 2, none⟩ (.slice (some ⟨bp, 0, none⟩) n cp)).setCell ⟨g, k * 2 + 1, none⟩ (.float .f64 rp)).setCell ⟨g, p * 2, none⟩ (.slice (some ⟨bk, 0, none⟩) n ck)).cell? ⟨g, p * 2 + 1, none⟩ = some (.float .f64 rp) := by
                rw [ne (by omega)]
                by_cases e : k = p
                · subst e; rw [World.cell?_setCell_same _ _ _ q1]
                · rw [ne (by omega), ne (by omega), e2]
              clear ne
              have MW : Hid (MutP (InG g n bs) w (swp W2 g k p (.slice (some ⟨bp, 0, none⟩) n cp) (.float .f64 rp) (.slice (some ⟨bk, 0, none⟩) n ck) (.float .f64 rk))) := HM2.out.trans ((swp_mut ..).mutP (.inl rfl))
              have T4 : Hid (SmS (s1.swap k p) (t1.swap k p)) := HT.out.swap (by rw [HS2.out.sq.1]; exact hkn) (by rw [HS2.out.sq.1]; exact hpn)
              have A4 : Hid (Among n bs (swapL bs1 k p 0)) := HA.out.swap HS2.out.len hkn hpn
              have SW5 := hide (SW.out.ext hn0 ((Ext.refl _).alloc #[.slice (some ⟨bk, 0, none⟩) n ck, .float .f64 rk] 69))
              have MW5 := hide (MW.out.trans (((Ext.refl (swp W2 g k p (.slice (some ⟨bp, 0, none⟩) n cp) (.float .f64 rp) (.slice (some ⟨bk, 0, none⟩) n ck) (.float .f64 rk))).alloc #[.slice (some ⟨bk, 0, none⟩) n ck, .float .f64 rk] 69).mutP (InG g n bs)))
              unfold swp at SW5 MW5
              clear SW MW
              go_wp2_with (go_at_call 70; refine (l1IsNaN_any _ _).mono ?_; rintro e w' ⟨rfl, rfl⟩; rw [hna])
              generalize (((((w'.setCell ⟨g, k * 2, none⟩ (.slice (some ⟨bp, 0, none⟩) n cp)).setCell ⟨g, k * 2 + 1, none⟩ (.float .f64 rp)).setCell ⟨g, p * 2, none⟩ (.slice (some ⟨bk, 0, none⟩) n ck)).setCell ⟨g, p * 2 + 1, none⟩ (.float .f64 rk)).alloc (.cells #[.slice (some ⟨bk, 0, none⟩) n ck, .float .f64 rk] 69)) = W4 at SW5 MW5 ⊢
              have hsq4 : Hid ((t1.swap k p).Sq n) := hsq.swap k p hkn hpn
              clear d1 d2 d4 e1 e2 f0 f1 f2 f3 q1 q2 q3 HS2 HM2 HT HA HE Hbp Hcp
              generalize swapL bs1 k p 0 = bs4 at SW5 A4
              generalize swapL cps1 k p 0 = cps4 at SW5
              generalize s1.swap k p = s4 at SW5 T4
              generalize t1.swap k p = t4 at T4 good hsq4
              clear hfin Hp hlt hp hpn p0 p1 hgW
              go_loopw [9] (fun i wq => ∃ (m : Nat) (s5 : Sys), i = .int .i64 (k + 1 + m : Nat) ∧ k + 1 + m ≤ n ∧ SysSp wq g n bs4 cps4 s5 ∧ SmS s5 (t4.subs k m) ∧ MutP (InG g n bs) w wq) (fun i _ => n - (intOf i).toNat)
              case atStart => exact ⟨0, s4, by simp, by omega, SW5.out, T4.out, MW5.out⟩
              case round =>
                obtain ⟨m, s5, rfl, hm, hG5, hT5, hM5⟩ := hrel
                clear SW5 T4 MW5
                have HG5 := hide hG5
                have HT5 := hide hT5
                have HM5 := hide hM5
                clear hG5 hT5 hM5
                by_cases hmn : k + 1 + m < n
                · have hts5 : Hid ((t4.subs k m).Sq n) := hsq4.out.subs k m
                  have hnxt : Hid (t4.subs k (m + 1) = (t4.subs k m).sub (k + 1 + m) k) := rfl
                  have hik : k + 1 + m ≠ k := by omega
                  generalize hI2 : k + 1 + m = i at *
                  have HI2 := hide hI2
                  clear hI2
                  generalize t4.subs k m = t5 at HT5 hts5 hnxt
                  have d1 := HG5.out.a i hmn
                  have d2 := HG5.out.a k hkn
                  have d3 := HG5.out.elt hmn hkn
                  have d4 := HG5.out.elt hkn hkn
                  have i0 : (0 : Int) ≤ (i : Int) := Int.natCast_nonneg _
                  have i1 : (i : Int) < (n : Int) := by omega
                  have hbig := HG5.out.gb i hmn
                  have hbki := HG5.out.nd k i hkn hmn (Ne.symm hik)
                  have hbil := HG5.out.lt hmn
                  have hrli := HG5.out.rowLen hmn
                  have hrlk := HG5.out.rowLen hkn
                  have FRi := hide (HG5.out.row i hmn)
                  have FRk := hide (HG5.out.row k hkn)
                  have hbiA : Hid (InG g n bs (bs4.getD i 0)) := by
                    obtain ⟨j, hj, e⟩ := A4.out i hmn
                    exact .inr ⟨j, hj, e⟩
                  generalize hbi : bs4.getD i 0 = bi at d1 d3 hbig hbki hbil FRi hbiA
                  generalize hbk : bs4.getD k 0 = bk at d2 d4 hbki FRk
                  generalize hci : cps4.getD i 0 = ci at d1
                  generalize hck : cps4.getD k 0 = ck at d2
                  generalize hai : s5.at i k = ai at d3
                  generalize hak : s5.at k k = ak at d4
                  have Hbi := hide hbi
                  have Hai := hide hai
                  have Hak := hide hak
                  have D1 := hide d1
                  have D2 := hide d2
                  clear hbi hbk hci hck hai hak
                  go_wp2_with fail
                  go_region
                  have hmS : sameB (arR .quo ai ak wr.drew) (fop .quo (t5.at i k) (t5.at k k)) = true := arR_same .quo _ (by rw [← Hai.out]; exact HT5.out.at i k) (by rw [← Hak.out]; exact HT5.out.at k k)
                  have hm64 := arR_lt .quo ai ak wr.drew
                  generalize arR .quo ai ak wr.drew = mq at hmS hm64 ⊢
                  have Hm := hide hmS
                  have Hm64 := hide hm64
                  have XD := hide (Ext.drewN' wr (1 + arN .quo ai ak))
                  generalize wr.drewN (1 + arN .quo ai ak) = W6 at XD ⊢
                  have E1 := hide (XD.out.box D1.out)
                  have E2 := hide (XD.out.box D2.out)
                  have FI := hide (FRi.out.block (XD.out.bl.block _ hbil))
                  have HG6 := hide (HG5.out.ext hn0 XD.out)
                  have HM6 := hide (HM5.out.trans (XD.out.mutP _))
                  have FK := hide (FRk.out.block (XD.out.bl.block _ (cell_lt (FRk.out.cell k (by omega)))))
                  clear hmS hm64 d1 d2 d3 d4 FRi FRk
                  go_wp2_with fail
                  go_loopw [11] (fun j wv => ∃ jn : Nat, j = .int .i64 jn ∧ k + 1 ≤ jn ∧ jn ≤ n ∧ ∃ Cur, Cur.length = n ∧ FRow wv bi Cur ∧ SmL Cur (subTo (fop .quo (t5.at i k) (t5.at k k)) (t5.1.getD k []) (t5.1.getD i []) k jn) ∧ Mut bi W6 wv) (fun j _ => n - (intOf j).toNat)
                  case atStart => exact ⟨k + 1, by simp, by omega, by omega, s5.1.getD i [], hrli, FI.out, by rw [subTo_first]; exact HT5.out.2.1 i, Mut.refl _ _⟩
                  case round =>
                    obtain ⟨jn, rfl, hj0, hj1, Cur, hcl, hcr, hcs, hmu⟩ := hrel
                    have d1 := hmu.box (Ne.symm hbig) E1.out
                    have d2 := hmu.box (Ne.symm hbig) E2.out
                    have HCR := hide hcr
                    have HCS := hide hcs
                    have HMU := hide hmu
                    by_cases hjn : jn < n
                    · have hd : decide ((jn : Int) < (n : Int)) = true := decide_eq_true (by omega)
                      have j0 : (0 : Int) ≤ (jn : Int) := Int.natCast_nonneg _
                      have j1 : (jn : Int) < (n : Int) := by omega
                      have d3 := hcr.cell jn (by omega)
                      have d4 := hmu.box hbki (FK.out.cell jn (by omega))
                      have f3 := hcr.fz jn
                      generalize hx : Cur.getD jn 0 = x at d3
                      generalize hy : (s5.1.getD k []).getD jn 0 = y at d4
                      have HX := hide hx
                      have HY := hide hy
                      clear hx hy hcr hcs hmu
                      go_wp2_with fail
                      have hPS : sameB (arR .mul mq y wr) (fop .mul (fop .quo (t5.at i k) (t5.at k k)) ((t5.1.getD k []).getD jn 0)) = true := arR_same .mul _ Hm.out (by rw [← HY.out]; exact (HT5.out.2.1 k).at jn)
                      have hP64 := arR_lt .mul mq y wr
                      generalize arR .mul mq y wr = pv at hPS hP64 ⊢
                      have HPS := hide hPS
                      clear hPS hP64
                      generalize arN .mul mq y = q1
                      go_region
                      have hz : sameB (arR .sub x pv (wr.drewN (q1 + 1))) (fop .sub ((subTo (fop .quo (t5.at i k) (t5.at k k)) (t5.1.getD k []) (t5.1.getD i []) k jn).getD jn 0) (fop .mul (fop .quo (t5.at i k) (t5.at k k)) ((t5.1.getD k []).getD jn 0))) = true := arR_same .sub _ (by rw [← HX.out]; exact HCS.out.at jn) HPS.out
                      have hz64 := arR_lt .sub x pv (wr.drewN (q1 + 1))
                      generalize arR .sub x pv (wr.drewN (q1 + 1)) = zv at hz hz64 ⊢
                      generalize (q1 + 1 + arN .sub x pv) = q2
                      have F2 : Hid (FRow ((wr.drewN q2).setCell ⟨bi, jn, none⟩ (.float .f64 zv)) bi (Cur.set jn zv)) := (FRow.block (w' := wr.drewN q2) HCR.out rfl).set (by omega) hz64
                      have M2 : Hid (Mut bi W6 ((wr.drewN q2).setCell ⟨bi, jn, none⟩ (.float .f64 zv))) := (HMU.out.drewN q2).setCell jn _
                      have S2 : Hid (SmL (Cur.set jn zv) (subTo (fop .quo (t5.at i k) (t5.at k k)) (t5.1.getD k []) (t5.1.getD i []) k (jn + 1))) := by
                        rw [subTo_next _ _ _ _ _ (by omega) (by rw [← (HT5.out.2.1 i).1, hrli]; omega)]
                        exact HCS.out.set jn hz
                      generalize (wr.drewN q2).setCell ⟨bi, jn, none⟩ (.float .f64 zv) = W7 at F2 M2 ⊢
                      clear hz hz64 d1 d2 d3 d4 f3
                      go_wp2_with fail
                      go_roundw
                      · exact ⟨jn + 1, by go_num, by omega, by omega, Cur.set jn zv, by simpa using hcl, F2.out, S2.out, M2.out⟩
                      · simp [intOf]; omega
                    · have hjj : jn = n := by omega
                      subst hjj
                      have e3 := hmu.box (Ne.symm hbig) (HG6.out.b k hkn)
                      have e4 := hmu.box (Ne.symm hbig) (HG6.out.b i hmn)
                      have fb := (hmu.fz ⟨g, i * 2 + 1, none⟩).trans (HG6.out.ofz _)
                      have r3 := HT5.out.rt k
                      have r4 := HT5.out.rt i
                      generalize hrk : s5.rt k = rk2 at e3 r3
                      generalize hri : s5.rt i = ri2 at e4 r4
                      have R3 := hide r3
                      have R4 := hide r4
                      clear hcr hcs hmu r3 r4 hrk hri
                      go_wp2_with fail
                      have hzS : sameB (arR .sub ri2 (arR .mul mq rk2 wr) (wr.drewN (arN .mul mq rk2))) (fop .sub (t5.rt i) (fop .mul (fop .quo (t5.at i k) (t5.at k k)) (t5.rt k))) = true := arR_same .sub _ R4.out (arR_same .mul _ Hm.out R3.out)
                      have hz64 := arR_lt .sub ri2 (arR .mul mq rk2 wr) (wr.drewN (arN .mul mq rk2))
                      generalize arR .sub ri2 (arR .mul mq rk2 wr) (wr.drewN (arN .mul mq rk2)) = yv at hzS hz64 ⊢
                      generalize (arN .mul mq rk2 + arN .sub ri2 (arR .mul mq rk2 wr)) = q3
                      have hgl6 : g < W6.heap.size := cell_lt (HG6.out.a i hmn)
                      have hbg : wr.heap[g]? = W6.heap[g]? := HMU.out.block g hgl6 (Ne.symm hbig)
                      have hcg : ∀ o, wr.cell? ⟨g, o, none⟩ = W6.cell? ⟨g, o, none⟩ := fun o => World.cell?_of_block (w := W6) (a := ⟨g, o, none⟩) hbg
                      have hWg : ∀ o, o ≠ i * 2 + 1 → ((wr.drewN q3).setCell ⟨g, i * 2 + 1, none⟩ (.float .f64 yv)).cell? ⟨g, o, none⟩ = W6.cell? ⟨g, o, none⟩ := fun o ho => by
                        rw [World.cell?_setCell_other _ _ _ _ (by intro e; simp only [Addr.mk.injEq] at e; omega)]
                        exact hcg o
                      have hWb : ∀ c, c ≠ g → ((wr.drewN q3).setCell ⟨g, i * 2 + 1, none⟩ (.float .f64 yv)).heap[c]? = wr.heap[c]? := fun c hc => Below.heap_setCell _ _ _ _ hc
                      have STEP := HG6.out.step (w' := (wr.drewN q3).setCell ⟨g, i * 2 + 1, none⟩ (.float .f64 yv)) hmn hz64 (Cur := Cur) (fun j hj => hWg _ (by omega)) (fun j hj hji => hWg _ (by omega)) (World.cell?_setCell_same _ _ _ e4)
                        (fun o => by rw [World.frozen?_setCell]; exact HMU.out.fz _) (by rw [Hbi.out]; exact HCR.out.block (hWb bi hbig)) hcl
                        (fun j hj hji => (hWb _ (HG6.out.gb j hj)).trans (HMU.out.block _ (HG6.out.lt hj) (by rw [← Hbi.out]; exact HG6.out.nd j i hj hmn hji)))
                      have SM : SmS (s5.1.set i Cur, s5.2.set i yv) (t4.subs k (m + 1)) := by
                        rw [hnxt.out]
                        show SmS (s5.1.set i Cur, s5.2.set i yv) (t5.1.set i (subTo (fop .quo (t5.at i k) (t5.at k k)) (t5.1.getD k []) (t5.1.getD i []) k t5.1.length), t5.2.set i (fop .sub (t5.rt i) (fop .mul (fop .quo (t5.at i k) (t5.at k k)) (t5.rt k))))
                        rw [hts5.out.1]
                        exact HT5.out.step HG6.out.sq.1 HCS.out (HT5.out.2.2.set i hzS)
                      have MU8 : MutP (InG g jn bs) w ((wr.drewN q3).setCell ⟨g, i * 2 + 1, none⟩ (.float .f64 yv)) := HM6.out.trans ((HMU.out.mutP hbiA.out).trans ((((Mut.refl g wr).drewN q3).setCell _ _).mutP (.inl rfl)))
                      refine ⟨⟨m + 1, (s5.1.set i Cur, s5.2.set i yv), by have := HI2.out; congr 1; omega, by have := HI2.out; omega, STEP, SM, MU8⟩, ?_⟩
                      simp [intOf]; omega
                · have hmm : m = n - k - 1 := by omega
                  subst hmm
                  have hd : decide (((k + 1 + (n - k - 1) : Nat) : Int) < (n : Int)) = false := decide_eq_false (by omega)
                  go_wp2_with fail
                  go_roundw
                  · exact ⟨k + 1, by go_num, by omega, bs4, cps4, s5, _, good.out, HG5.out, HT5.out, A4.out, HM5.out⟩
                  · simp [intOf]; omega

    · have hkk : k = n := by omega
      subst hkk
      have hmk := make_floats wr k hn
      have F0 := hide (frow_new wr k)
      have X1 : Ext wr (wr.alloc (.cells (madeCells #[.float .f64 0] k) 64)) := (Ext.refl wr).alloc _ _
      have HX1 := hide X1
      have HS1 := hide (HS.out.ext hn0 X1)
      have n0 : (0 : Int) ≤ (k : Int) := Int.natCast_nonneg _
      have hsq : t1.Sq k := hts.elim hk HE.out
      have htl1 := hsq.1
      have hgW : g < wr.heap.size := cell_lt (HS.out.a 0 hn0)
      have hbW := fun i (hi : i < k) => HS.out.lt hi
      have HbW := hide hbW
      clear X1 HS hbW
      go_wp2_with fail
      clear hmk
      generalize hxb : wr.heap.size = xb at F0 hgW HbW ⊢
      have Hxb := hide hxb
      generalize (wr.alloc (.cells (madeCells #[.float .f64 0] k) 64)) = W2 at F0 HX1 HS1 ⊢
      go_loopw [15] (fun i wq => ∃ m : Nat, i = .int .i64 ((k : Int) - 1 - m) ∧ m ≤ k ∧ ∃ X, FRow wq xb X ∧ X.length = k ∧ SmL X (t1.back m) ∧ Mut xb W2 wq) (fun i _ => ((intOf i) + 1).toNat)
      case atStart => exact ⟨0, by go_num, by omega, List.replicate k 0, F0.out, by simp, by unfold Sys.back; rw [htl1]; exact SmL.refl _, Mut.refl _ _⟩
      case round =>
        obtain ⟨m, rfl, hm, X, hF, hXl, hXS, hXM⟩ := hrel
        have HF := hide hF
        have HXS := hide hXS
        have HXM := hide hXM
        by_cases hmn : m < k
        · obtain ⟨i, hi⟩ : ∃ i : Nat, (k : Int) - 1 - m = i := ⟨k - 1 - m, by omega⟩
          rw [hi]
          have hin : i < k := by omega
          have i0 : (0 : Int) ≤ (i : Int) := Int.natCast_nonneg _
          have i1 : (i : Int) < (k : Int) := by omega
          have d1 := hXM.box (show g ≠ xb by omega) (HS1.out.b i hin)
          have d2 := hXM.box (show g ≠ xb by omega) (HS1.out.a i hin)
          have hib := HbW.out i hin
          have HRow : Hid (FRow wr (bs1.getD i 0) (s1.1.getD i [])) := (HS1.out.row i hin).block (hXM.block _ (HS1.out.lt hin) (by omega))
          have r64 := HS1.out.b64 i
          have rs : sameB (s1.rt i) (t1.rest (t1.back m) i 0) = true := HT.out.rt i
          generalize s1.rt i = r0 at d1 r64 rs
          generalize hbi : bs1.getD i 0 = bi at d2 hib HRow
          generalize cps1.getD i 0 = ci at d2
          have D2 := hide d2
          have R64 := hide r64
          have RS := hide rs
          have hrl := HS1.out.rowLen hin
          clear hF hXS hXM r64 rs hbi
          go_wp2_with fail
          go_loopw [16, 17] (fun r j wq => ∃ (q rr : Nat), j = .int .i64 (i + 1 + q : Nat) ∧ i + 1 + q ≤ k ∧ r = .float .f64 rr ∧ B64 rr ∧ sameB rr (t1.rest (t1.back m) i q) = true ∧ ∃ z, wq = wr.drewN z) (fun r j _ => k - (intOf j).toNat)
          case atStart => exact ⟨0, r0, by simp, by omega, rfl, R64.out, RS.out, 0, rfl⟩
          case round =>
            obtain ⟨q, rr, rfl, hq, rfl, hr64, hrs, z, rfl⟩ := hrel
            by_cases hqn : i + 1 + q < k
            · have j0 : (0 : Int) ≤ ((i + 1 + q : Nat) : Int) := Int.natCast_nonneg _
              have j1 : ((i + 1 + q : Nat) : Int) < (k : Int) := by omega
              have d2 := D2.out
              have d3 := HRow.out.cell (i + 1 + q) (by omega)
              have d4 := HF.out.cell (i + 1 + q) (by omega)
              have s3 := (HT.out.2.1 i).at (i + 1 + q)
              have s4 := HXS.out.at (i + 1 + q)
              have hnx : Hid (t1.rest (t1.back m) i (q + 1) = fop .sub (t1.rest (t1.back m) i q) (fop .mul (t1.at i (i + 1 + q)) ((t1.back m).getD (i + 1 + q) 0))) := rfl
              change sameB _ (t1.at i (i + 1 + q)) = true at s3
              generalize (s1.1.getD i []).getD (i + 1 + q) 0 = a at d3 s3
              generalize X.getD (i + 1 + q) 0 = b at d4 s4
              have S3 := hide s3
              have S4 := hide s4
              have HRS := hide hrs
              clear s3 s4 hrs
              generalize hJ : i + 1 + q = j at *
              go_wp2_with fail
              go_region
              go_wp2_with fail
              have hz : sameB (arR .sub rr (arR .mul a b (wr.drewN (z + 1))) (wr.drewN (z + 1 + arN .mul a b))) (fop .sub (t1.rest (t1.back m) i q) (fop .mul (t1.at i j) ((t1.back m).getD j 0))) = true := arR_same .sub _ HRS.out (arR_same .mul _ S3.out S4.out)
              rw [← hnx.out] at hz
              have hz64 := arR_lt .sub rr (arR .mul a b (wr.drewN (z + 1))) (wr.drewN (z + 1 + arN .mul a b))
              refine ⟨⟨q + 1, _, by have := hJ; congr 1; omega, by omega, rfl, hz64, hz, _, rfl⟩, ?_⟩
              simp [intOf]; omega
            · have hqq : i + 1 + q = k := by omega
              have hqm : q = m := by omega
              subst hqm
              have hd : decide (((i + 1 + q : Nat) : Int) < (k : Int)) = false := decide_eq_false (by omega)
              have d2 := D2.out
              have d3 := HRow.out.cell i (by omega)
              have d4 := HF.out.cell i (by omega)
              have f4 := HF.out.fz i
              have s3 := (HT.out.2.1 i).at i
              change sameB _ (t1.at i i) = true at s3
              have hnx : Hid (t1.back (q + 1) = (t1.back q).set i (fop .quo (t1.rest (t1.back q) i q) (t1.at i i))) := by
                show t1.back (q + 1) = _
                have e : t1.back (q + 1) = (t1.back q).set (t1.1.length - 1 - q) (fop .quo (t1.rest (t1.back q) (t1.1.length - 1 - q) q) (t1.at (t1.1.length - 1 - q) (t1.1.length - 1 - q))) := rfl
                rw [htl1, show k - 1 - q = i by omega] at e
                exact e
              generalize (s1.1.getD i []).getD i 0 = a at d3 s3
              generalize X.getD i 0 = b at d4
              have S3 := hide s3
              have HRS := hide hrs
              clear s3 hrs
              generalize hJ : i + 1 + q = j at *
              go_wp2_with fail
              have hz : sameB (arR .quo rr a (wr.drewN z)) (fop .quo (t1.rest (t1.back q) i q) (t1.at i i)) = true := arR_same .quo _ HRS.out S3.out
              refine ⟨⟨q + 1, by congr 1; omega, by omega, X.set i (arR .quo rr a (wr.drewN z)), (FRow.block (w' := wr.drewN (z + arN .quo rr a)) HF.out rfl).set (by omega) (arR_lt _ _ _ _), by simpa using hXl, ?_, (HXM.out.drewN _).setCell i _⟩, by simp [intOf]⟩
              rw [hnx.out]
              exact HXS.out.set i hz
        · have hmm : m = k := by omega
          subst hmm
          have hd : decide (0 ≤ (m : Int) - 1 - m) = false := decide_eq_false (by omega)
          go_wp2
          refine bodyPost_ret (results_tmp2 rfl _ _ _) rfl ?_
          refine ⟨HM.out.trans ((mutP_new HX1.out HXM.out (by rw [Hxb.out]; exact Nat.le_refl _))), .inr ⟨t1, xb, X, HE.out, rfl, HF.out, hXl, HXS.out⟩⟩
end
end Go.Proofs.YtfhcpicddegblaaGreat
