import Derived.Test.YtanbgpmbccianaaM9
namespace Go.Proofs.Ytanbgpmbccianaa
open Go.ChangeShapes Go.RowKit
set_option linter.unusedSimpArgs false
set_option linter.unusedVariables false
variable {G : Gh} {s t : SS}
attribute [local go_sem] run_f43 run_f43c

/-- l2Turn, as numbers. -/
def pickR (v : V3) (r : V4) (s : SS) : V3 × SS := (if r.1 = 0 then r.2 else v, s)
theorem pickR_0 {v : V3} {r : V3} : pickR v (0, r) s = (r, s) := by simp [pickR]
theorem pickR_1 {v : V3} {c : Int} {r : V3} (h : ¬ c = 0) : pickR v (c, r) s = (v, s) := by simp [pickR, h]
def turn0 (ds : List Int) (s : SS) (v : V3) : V3 × SS :=
  if v.1.length = 0 then (v, s) else match nextL ds s v.1.length with
    | (a, s2) => match sliceD ds s2 v a.toNat with
      | (r, s3) => pickR v r s3
def permT (n : Nat) (tn : Int) : List Int :=
  if tn = 3 ∧ 1 < n then (((List.range n).map fun (i : Nat) => ((i : Int) + tn) % (n : Int)).set 0 (((List.range n).map fun (i : Nat) => ((i : Int) + tn) % (n : Int)).getD 1 0)).set 1 (((List.range n).map fun (i : Nat) => ((i : Int) + tn) % (n : Int)).getD 0 0)
  else (List.range n).map fun (i : Nat) => ((i : Int) + tn) % (n : Int)
def turn2 (ds : List Int) (s : SS) (v : V3) : V3 × SS :=
  match nextL ds s 4 with
  | (tn, s2) => pickR v (trL v.1 v.2.1 v.2.2 (permT v.1.length tn)) s2
def preD (ds : List Int) (s : SS) (xs : List Int) : List Int × SS :=
  if xs.length < 4 then (match nextL ds s 3 with
    | (x, s2) => ((1 + x) :: xs, s2)) else (xs, s)
def onesD (ds : List Int) (Q : List Int) (s : SS) : Nat → List Int × SS
  | 0 => (Q, s)
  | k + 1 => match onesD ds Q s k with
    | (P, s1) => if P.getD k 0 = 1 then (match nextL ds s1 2 with
        | (z, s2) => (if z = 0 then P.set k 3 else P, s2)) else (P, s1)
def turn3 (ds : List Int) (s : SS) (v : V3) : V3 × SS :=
  match preD ds s v.1 with
  | (Q, s2) => match onesD ds Q s2 Q.length with
    | (P, s3) => pickR v (brL v.1 v.2.1 v.2.2 P) s3
def facD (ds : List Int) (cn : Int) (s : SS) : Nat → List Int × SS
  | 0 => ([cn], s)
  | k + 1 => match facD ds cn s k with
    | (P, s1) => if cn % ((k + 2 : Nat) : Int) = 0 then (match nextL ds s1 2 with
        | (z, s2) => (if z = 0 ∧ 0 < cn then [((k + 2 : Nat) : Int), cn / ((k + 2 : Nat) : Int)] else P, s2)) else (P, s1)
def turn4 (ds : List Int) (s : SS) (v : V3) : V3 × SS :=
  match facD ds (cntL v.1) s 3 with
  | (Q, s2) => pickR v (rsL v.1 v.2.1 v.2.2 Q) s2
def turnD (ds : List Int) (s : SS) (v : V3) : V3 × SS :=
  match nextL ds s 5 with
  | (k, s1) => if k = 2 then turn2 ds s1 v else if k = 3 then turn3 ds s1 v else if k = 4 then turn4 ds s1 v else turn0 ds s1 v
theorem onesD_a {ds Q0 Q : List Int} {s0 sk s5 : SS} {k : Nat} {z : Int} (h : onesD ds Q0 s0 k = (Q, sk)) (hx : Q.getD k 0 = 1) (hr : nextL ds sk 2 = (z, s5)) (hz : z = 0) : onesD ds Q0 s0 (k + 1) = (Q.set k 3, s5) := by
  rw [onesD, h]
  dsimp only
  rw [if_pos hx, hr]
  dsimp only
  rw [if_pos hz]
theorem onesD_b {ds Q0 Q : List Int} {s0 sk s5 : SS} {k : Nat} {z : Int} (h : onesD ds Q0 s0 k = (Q, sk)) (hx : Q.getD k 0 = 1) (hr : nextL ds sk 2 = (z, s5)) (hz : ¬ z = 0) : onesD ds Q0 s0 (k + 1) = (Q, s5) := by
  rw [onesD, h]
  dsimp only
  rw [if_pos hx, hr]
  dsimp only
  rw [if_neg hz]
theorem onesD_c {ds Q0 Q : List Int} {s0 sk : SS} {k : Nat} (h : onesD ds Q0 s0 k = (Q, sk)) (hx : ¬ Q.getD k 0 = 1) : onesD ds Q0 s0 (k + 1) = (Q, sk) := by
  rw [onesD, h]
  dsimp only
  rw [if_neg hx]
theorem facD_a {ds : List Int} {cn z : Int} {s1 sk s5 : SS} {k' k : Nat} {Q : List Int} (h : facD ds cn s1 k' = (Q, sk)) (hk : k = k' + 2) (hm : cn % (k : Int) = 0) (hr : nextL ds sk 2 = (z, s5)) (hz : z = 0) (hc : 0 < cn) : facD ds cn s1 (k' + 1) = ([(k : Int), cn / (k : Int)], s5) := by
  subst hk
  rw [facD, h]
  dsimp only
  rw [if_pos hm, hr]
  dsimp only
  rw [if_pos ⟨hz, hc⟩]
theorem facD_b {ds : List Int} {cn z : Int} {s1 sk s5 : SS} {k' k : Nat} {Q : List Int} (h : facD ds cn s1 k' = (Q, sk)) (hk : k = k' + 2) (hm : cn % (k : Int) = 0) (hr : nextL ds sk 2 = (z, s5)) (hz : ¬ (z = 0 ∧ 0 < cn)) : facD ds cn s1 (k' + 1) = (Q, s5) := by
  subst hk
  rw [facD, h]
  dsimp only
  rw [if_pos hm, hr]
  dsimp only
  rw [if_neg hz]
theorem facD_c {ds : List Int} {cn : Int} {s1 sk : SS} {k' k : Nat} {Q : List Int} (h : facD ds cn s1 k' = (Q, sk)) (hk : k = k' + 2) (hm : ¬ cn % (k : Int) = 0) : facD ds cn s1 (k' + 1) = (Q, sk) := by
  subst hk
  rw [facD, h]
  dsimp only
  rw [if_neg hm]
theorem range_snoc {f : Nat → Int} {P : List Int} (h : P = (List.range P.length).map f) : P ++ [f P.length] = (List.range (P ++ [f P.length]).length).map f := by
  have e : (P ++ [f P.length]).length = P.length + 1 := by simp
  rw [e, List.range_succ, List.map_append, ← h]
  rfl

set_option maxRecDepth 100000 in
set_option maxHeartbeats 16000000 in
theorem turn_any {w : World} {H b : Nat} {vA vB : Value} {xs ss : List Int} (off : Int) (hV : DV w H vA vB xs ss) (hI : VI xs ss) (hs : ST w w H b G s) {r : V3 × SS} (hr : turnD G.ds s (xs, ss, off) = r) :
    Calls Try.prog 36 #[.agg #[vA, vB, .int .i64 off], .pointer (some ⟨b, 0, none⟩)] w fun e w' => DrawV w H b G r e w' := by
  have HR := hide hr
  clear hr
  obtain ⟨i0, hi0, hz0, hz1, hz2⟩ := info_parts info2
  have T0 := hide (TB.start off hs hV)
  have NE0 : Hid ((∀ g, vA.ownBlock = some g → g < w.heap.size) ∧ (∀ g, vB.ownBlock = some g → g < w.heap.size)) := ⟨fun g hg => (hV.a.lt g hg).2, fun g hg => (hV.c.lt g hg).2⟩
  have NE : Hid ((∀ R, w.heap.size ≤ R → vA.ownBlock ≠ some R) ∧ (∀ R, w.heap.size ≤ R → vB.ownBlock ≠ some R)) := ⟨fun R hR e => by have := (hV.a.lt R e).2; omega, fun R hR e => by have := (hV.c.lt R e).2; omega⟩
  have HI := hide hI
  have hl4 := hI.1.1
  have hl5 : Hid (ss.length = xs.length) := hI.2.1
  obtain ⟨sa, ca, rfl⟩ := own_form2 hV.a
  obtain ⟨sb, cb, rfl⟩ := own_form2 hV.c
  clear hV hs hI
  go_enter Try.func36, Try.ntmps36
  go_wp2_with fail
  generalize ((w.alloc (.cells #[.slice sa xs.length ca, .slice sb ss.length cb, .int .i64 off] 25)).alloc (.cells #[.slice none 0 0, .slice none 0 0, .int .i64 0] 25)).alloc (.cells #[.int .i64 1, .slice none 0 0, .slice none 0 0, .int .i64 0] 29) = V0 at T0 ⊢
  refine (T0.out.next 5).mono ?_
  rintro e W1 ⟨sw, s1, Q1, rfl, b1, t1⟩
  have T1 := hide t1
  have R1 := hide Q1
  clear t1 T0 Q1
  rcases (show sw = 0 ∨ sw = 1 ∨ sw = 2 ∨ sw = 3 ∨ sw = 4 by omega) with rfl | rfl | rfl | rfl | rfl
  · rcases (show xs.length = 0 ∨ 0 < xs.length by omega) with hd0 | hd0
    · have hd1 : ¬ (0 : Int) < (xs.length : Int) := by omega
      have dd1 : decide ((0 : Int) < (xs.length : Int)) = false := decide_eq_false hd1
      have er : r = ((xs, ss, off), s1) := by rw [← HR.out]; simp [turnD, R1.out, turn0, hd0]
      subst er
      clear hd0
      have e0 := T1.out.e0
      have c0 := T1.out.c0
      have c1 := T1.out.c1
      have c2 := T1.out.c2
      have r0 := T1.out.rb.r0
      have r1 := T1.out.rb.r1
      have r2 := T1.out.rb.r2
      have rf := T1.out.rb.rf
      go_wp2
      exact bodyPost_ret (v := .agg #[(.slice sa xs.length ca), (.slice sb ss.length cb), .int .i64 off]) (by simp [results, Try.results36, go_sem, set3_0 r0, set3_1 r1, set3_2 r2]) rfl (DrawV.done T1.out.st (by omega) T1.out.dv (NE.out.1 _ (by omega)) (NE.out.2 _ (by omega)) HI.out)
    · have hd1 : (0 : Int) < (xs.length : Int) := by omega
      have dd1 : decide ((0 : Int) < (xs.length : Int)) = true := decide_eq_true hd1
      go_wp2_with fail
      refine (T1.out.next (xs.length : Int)).mono ?_
      rintro e W2 ⟨v2, s2, Q2, rfl, b2, t2⟩
      have T2 := hide t2
      have R2 := hide Q2
      clear t2 T1 Q2
      obtain ⟨a, ha⟩ : ∃ a : Nat, v2 = (a : Int) := ⟨v2.toNat, by omega⟩
      subst ha
      have hax : a < xs.length := by omega
      have c0 := T2.out.c0
      have c1 := T2.out.c1
      have c2 := T2.out.c2
      go_wp2_with fail
      rcases hS : sliceD G.ds s2 (xs, ss, off) a with ⟨⟨c, L, S, o⟩, s3⟩
      refine (drawSl_any off a T2.out.dv HI.out hax (ST.start T2.out.st.src (Nat.le_trans T2.out.st.hH T2.out.st.sz)) hS).mono ?_
      rintro e W3 ⟨sp, sq, cp, cq, rfl, hD, hvi, hst⟩
      dsimp only at hD hvi hst
      dsimp only
      have hne : ¬ xs.length = 0 := by omega
      have HE : Hid (r = pickR (xs, ss, off) (c, L, S, o) s3) := by
        show r = _
        rw [← HR.out]
        simp [turnD, R1.out, turn0, hne, R2.out, hS]
      clear hne hS
      have T8 := hide (T2.out.gb (T2.out.st.trans hst) hst.gb)
      have T9 := hide (T8.out.setR NE0.out.1 NE0.out.2 (c' := c) (ro' := o) (hD.low T2.out.sz))
      have HVI := hide hvi
      have f0 := T8.out.e0
      have f1 := T8.out.e1
      have f2 := T8.out.e2
      have f3 := T8.out.e3
      have ff := T8.out.ef
      clear hD hvi hst c0 c1 c2 T2
      rcases Classical.em (c = 0) with hc0 | hc0
      · subst hc0
        have er := HE.out.trans pickR_0
        subst er
        have e0 := T9.out.e0
        have e1 := T9.out.e1
        have e2 := T9.out.e2
        have e3 := T9.out.e3
        have r0 := T9.out.rb.r0
        have r1 := T9.out.rb.r1
        have r2 := T9.out.rb.r2
        have rf := T9.out.rb.rf
        go_wp2
        have hne := dv_ne T9.out.rv (R := w.heap.size + 1) (by omega)
        exact bodyPost_ret (v := .agg #[.slice sp L.length cp, .slice sq S.length cq, .int .i64 o]) (by simp [results, Try.results36, go_sem, set3_0 r0, set3_1 r1, set3_2 r2]) rfl (DrawV.done T9.out.st (by omega) (T9.out.rv.low (by have := T9.out.st.hH; omega)) hne.1 hne.2 HVI.out)
      · have dc0 : (c == 0) = false := by simp [hc0]
        have er := HE.out.trans (pickR_1 hc0)
        subst er
        have e0 := T9.out.e0
        have c0 := T9.out.c0
        have c1 := T9.out.c1
        have c2 := T9.out.c2
        have r0 := T9.out.rb.r0
        have r1 := T9.out.rb.r1
        have r2 := T9.out.rb.r2
        have rf := T9.out.rb.rf
        go_wp2
        exact bodyPost_ret (v := .agg #[(.slice sa xs.length ca), (.slice sb ss.length cb), .int .i64 off]) (by simp [results, Try.results36, go_sem, set3_0 r0, set3_1 r1, set3_2 r2]) rfl (DrawV.done T9.out.st (by omega) T9.out.dv (NE.out.1 _ (by omega)) (NE.out.2 _ (by omega)) HI.out)
  · rcases (show xs.length = 0 ∨ 0 < xs.length by omega) with hd0 | hd0
    · have hd1 : ¬ (0 : Int) < (xs.length : Int) := by omega
      have dd1 : decide ((0 : Int) < (xs.length : Int)) = false := decide_eq_false hd1
      have er : r = ((xs, ss, off), s1) := by rw [← HR.out]; simp [turnD, R1.out, turn0, hd0]
      subst er
      clear hd0
      have e0 := T1.out.e0
      have c0 := T1.out.c0
      have c1 := T1.out.c1
      have c2 := T1.out.c2
      have r0 := T1.out.rb.r0
      have r1 := T1.out.rb.r1
      have r2 := T1.out.rb.r2
      have rf := T1.out.rb.rf
      go_wp2
      exact bodyPost_ret (v := .agg #[(.slice sa xs.length ca), (.slice sb ss.length cb), .int .i64 off]) (by simp [results, Try.results36, go_sem, set3_0 r0, set3_1 r1, set3_2 r2]) rfl (DrawV.done T1.out.st (by omega) T1.out.dv (NE.out.1 _ (by omega)) (NE.out.2 _ (by omega)) HI.out)
    · have hd1 : (0 : Int) < (xs.length : Int) := by omega
      have dd1 : decide ((0 : Int) < (xs.length : Int)) = true := decide_eq_true hd1
      go_wp2_with fail
      refine (T1.out.next (xs.length : Int)).mono ?_
      rintro e W2 ⟨v2, s2, Q2, rfl, b2, t2⟩
      have T2 := hide t2
      have R2 := hide Q2
      clear t2 T1 Q2
      obtain ⟨a, ha⟩ : ∃ a : Nat, v2 = (a : Int) := ⟨v2.toNat, by omega⟩
      subst ha
      have hax : a < xs.length := by omega
      have c0 := T2.out.c0
      have c1 := T2.out.c1
      have c2 := T2.out.c2
      go_wp2_with fail
      rcases hS : sliceD G.ds s2 (xs, ss, off) a with ⟨⟨c, L, S, o⟩, s3⟩
      refine (drawSl_any off a T2.out.dv HI.out hax (ST.start T2.out.st.src (Nat.le_trans T2.out.st.hH T2.out.st.sz)) hS).mono ?_
      rintro e W3 ⟨sp, sq, cp, cq, rfl, hD, hvi, hst⟩
      dsimp only at hD hvi hst
      dsimp only
      have hne : ¬ xs.length = 0 := by omega
      have HE : Hid (r = pickR (xs, ss, off) (c, L, S, o) s3) := by
        show r = _
        rw [← HR.out]
        simp [turnD, R1.out, turn0, hne, R2.out, hS]
      clear hne hS
      have T8 := hide (T2.out.gb (T2.out.st.trans hst) hst.gb)
      have T9 := hide (T8.out.setR NE0.out.1 NE0.out.2 (c' := c) (ro' := o) (hD.low T2.out.sz))
      have HVI := hide hvi
      have f0 := T8.out.e0
      have f1 := T8.out.e1
      have f2 := T8.out.e2
      have f3 := T8.out.e3
      have ff := T8.out.ef
      clear hD hvi hst c0 c1 c2 T2
      rcases Classical.em (c = 0) with hc0 | hc0
      · subst hc0
        have er := HE.out.trans pickR_0
        subst er
        have e0 := T9.out.e0
        have e1 := T9.out.e1
        have e2 := T9.out.e2
        have e3 := T9.out.e3
        have r0 := T9.out.rb.r0
        have r1 := T9.out.rb.r1
        have r2 := T9.out.rb.r2
        have rf := T9.out.rb.rf
        go_wp2
        have hne := dv_ne T9.out.rv (R := w.heap.size + 1) (by omega)
        exact bodyPost_ret (v := .agg #[.slice sp L.length cp, .slice sq S.length cq, .int .i64 o]) (by simp [results, Try.results36, go_sem, set3_0 r0, set3_1 r1, set3_2 r2]) rfl (DrawV.done T9.out.st (by omega) (T9.out.rv.low (by have := T9.out.st.hH; omega)) hne.1 hne.2 HVI.out)
      · have dc0 : (c == 0) = false := by simp [hc0]
        have er := HE.out.trans (pickR_1 hc0)
        subst er
        have e0 := T9.out.e0
        have c0 := T9.out.c0
        have c1 := T9.out.c1
        have c2 := T9.out.c2
        have r0 := T9.out.rb.r0
        have r1 := T9.out.rb.r1
        have r2 := T9.out.rb.r2
        have rf := T9.out.rb.rf
        go_wp2
        exact bodyPost_ret (v := .agg #[(.slice sa xs.length ca), (.slice sb ss.length cb), .int .i64 off]) (by simp [results, Try.results36, go_sem, set3_0 r0, set3_1 r1, set3_2 r2]) rfl (DrawV.done T9.out.st (by omega) T9.out.dv (NE.out.1 _ (by omega)) (NE.out.2 _ (by omega)) HI.out)
  · go_wp2_with fail
    have P0 := hide (PB.start T1.out NE0.out.1 NE0.out.2)
    clear T1
    generalize hPv : (Value.slice (some ⟨W1.heap.size, 0, none⟩) 0 0) = vP0 at P0 ⊢
    generalize W1.alloc (.cells #[] 2) = V1 at P0 ⊢
    refine (P0.out.next 4).mono ?_
    rintro e W2 ⟨tn, s2, Q2, rfl, b2, p2⟩
    have P2 := hide p2
    have R2 := hide Q2
    clear p2 P0 Q2
    go_wp2_with fail
    go_loopw [8, 10] (fun o i wr => ∃ (P : List Int), i = .int .i64 P.length ∧ P.length ≤ xs.length ∧ (∃ s c, o = .slice s P.length c) ∧ Hid (P = (List.range P.length).map fun (i : Nat) => ((i : Int) + tn) % (xs.length : Int)) ∧ PB w wr G s2 H b (.slice sa xs.length ca) (.slice sb ss.length cb) xs ss off o P) (fun o i _ => xs.length - (intOf i).toNat)
    case atStart => exact ⟨[], rfl, by simp, ⟨_, _, hPv.symm⟩, (show ([] : List Int) = _ from rfl), P2.out⟩
    case round =>
      obtain ⟨P, rfl, hP, ⟨s, c, rfl⟩, HF, hPB⟩ := hrel
      have HP := hide hPB
      clear hPB P2 hPv
      by_cases hlt : P.length < xs.length
      · have hlt1 : (P.length : Int) < (xs.length : Int) := by omega
        have hnz : ¬ (xs.length : Int) = 0 := by omega
        go_wp2_with (at_builtin; (refine wpList_append_own _ rfl _ _ 23 rfl (w.heap.size + 3) 2 i0 (.int .i64 0) 1 8 Try.underlying23 hi0 hz0 hz1 hz2 rfl (by decide) _ _ _ rfl (HP.out.own.alloc _) ⟨wr.heap.size, 0, none⟩ 1 1 [.int .i64 (((P.length : Int) + tn) % (xs.length : Int))] rfl rfl (cell_one_new _ _ _) (one_val _) (by unfold maxLen; omega) (by omega) (HP.out.szP (((P.length : Int) + tn) % (xs.length : Int))) ?_); intro v3 w3 hown3 hgrow3 hnil3)
        have HSt := hide (HP.out.step (((P.length : Int) + tn) % (xs.length : Int)) hown3 hgrow3)
        obtain ⟨s3, c3, rfl⟩ := own_form2 hown3
        clear hown3 hgrow3 hnil3
        go_wp2
        go_roundw
        · exact ⟨P ++ [((P.length : Int) + tn) % (xs.length : Int)], by simp, by simp; omega, ⟨s3, c3, by simp⟩, range_snoc (f := fun (i : Nat) => ((i : Int) + tn) % (xs.length : Int)) HF.out, HSt.out⟩
        · simp [intOf]; omega
      · have hlt1 : ¬ (P.length : Int) < (xs.length : Int) := by omega
        have hPl : Hid (P.length = xs.length) := by show P.length = xs.length; omega
        rcases Classical.em (tn = 3 ∧ 1 < xs.length) with hsw | hsw
        · obtain ⟨rfl, hsw⟩ := hsw
          have h1 : (1 : Int) < (xs.length : Int) := by omega
          have hp0 : (0 : Int) < (P.length : Int) := by omega
          have hp1 : (1 : Int) < (P.length : Int) := by omega
          obtain ⟨g, cap, hv, hg, hrow, hfz, hset⟩ := HP.out.at (by omega)
          have hs0 : s = some ⟨g, 0, none⟩ := by injection hv
          subst hs0
          have q0 := hrow 0 (by omega)
          have q1 := hrow 1 (by omega)
          rw [Nat.zero_add] at q0 q1
          have HFF : Hid (permT xs.length 3 = (P.set 0 (P.getD 1 0)).set 1 (P.getD 0 0)) := by
            show permT xs.length 3 = _
            have e := HF.out
            rw [hPl.out] at e
            unfold permT
            rw [if_pos ⟨rfl, hsw⟩, ← e]
          generalize P.getD 0 0 = x0 at q0 HFF
          generalize P.getD 1 0 = x1 at q1 HFF
          have HQ := hide (hset 0 x1)
          have HQ2 : Hid (PB w ((wr.setCell ⟨g, 0, none⟩ (.int .i64 x1)).setCell ⟨g, 1, none⟩ (.int .i64 x0)) G s2 H b (.slice sa xs.length ca) (.slice sb ss.length cb) xs ss off (.slice (some ⟨g, 0, none⟩) P.length c) ((P.set 0 x1).set 1 x0)) := by
            show PB _ _ _ _ _ _ _ _ _ _ _ _ _
            obtain ⟨g', cap', hv', _, _, _, hset'⟩ := HQ.out.at (by simp; omega)
            have hgg : g' = g := by injection hv' with h1 h2 h3; injection h1 with h1; injection h1 with h1; exact h1.symm
            subst hgg
            exact hset' 1 x0
          have c0 := HQ2.out.tb.c0
          have c1 := HQ2.out.tb.c1
          have c2 := HQ2.out.tb.c2
          have d3 : decide ((1 : Int) < (xs.length : Int)) = true := decide_eq_true h1
          clear HP hset HQ hv hrow c0 c1 c2
          have c0 := HQ2.out.tb.c0
          have c1 := HQ2.out.tb.c1
          have c2 := HQ2.out.tb.c2
          go_wp2_with fail
          rcases hq : trL xs ss off ((P.set 0 x1).set 1 x0) with ⟨c, L, S, o⟩
          have HE : Hid (r = pickR (xs, ss, off) (c, L, S, o) s2) := by
            show r = _
            rw [← HR.out]
            simp [turnD, R1.out, turn2, R2.out, HFF.out, hq]
          refine (sTR_own (own_ints HQ2.out.tb.dv.a) (own_ints HQ2.out.tb.dv.c) (own_ints HQ2.out.own) off (by omega) (by rw [hl5.out]; omega) (by simp; omega) hq).mono ?_
          rintro e W8 h8
          have TX := hide HQ2.out.tb
          obtain ⟨sp, sq, cp, cq, rfl, hD, hB⟩ := h8.dv3 (w := w) (TX.out.sz)
          have T8 := hide (TX.out.bel hB)
          have T9 := hide (T8.out.setR NE0.out.1 NE0.out.2 (c' := c) (ro' := o) hD)
          have hvi := hide (trL_vi hq)
          have f0 := T8.out.e0
          have f1 := T8.out.e1
          have f2 := T8.out.e2
          have f3 := T8.out.e3
          have ff := T8.out.ef
          clear hq h8 hD hB
          clear c0 c1 c2
          rcases Classical.em (c = 0) with hc0 | hc0
          · subst hc0
            have er := HE.out.trans pickR_0
            subst er
            have e0 := T9.out.e0
            have e1 := T9.out.e1
            have e2 := T9.out.e2
            have e3 := T9.out.e3
            have r0 := T9.out.rb.r0
            have r1 := T9.out.rb.r1
            have r2 := T9.out.rb.r2
            have rf := T9.out.rb.rf
            go_wp2
            have hne := dv_ne T9.out.rv (R := w.heap.size + 1) (by omega)
            exact bodyPost_ret (v := .agg #[.slice sp L.length cp, .slice sq S.length cq, .int .i64 o]) (by simp [results, Try.results36, go_sem, set3_0 r0, set3_1 r1, set3_2 r2]) rfl (DrawV.done T9.out.st (by omega) (T9.out.rv.low (by have := T9.out.st.hH; omega)) hne.1 hne.2 hvi.out)
          · have dc0 : (c == 0) = false := by simp [hc0]
            have er := HE.out.trans (pickR_1 hc0)
            subst er
            have e0 := T9.out.e0
            have c0 := T9.out.c0
            have c1 := T9.out.c1
            have c2 := T9.out.c2
            have r0 := T9.out.rb.r0
            have r1 := T9.out.rb.r1
            have r2 := T9.out.rb.r2
            have rf := T9.out.rb.rf
            go_wp2
            exact bodyPost_ret (v := .agg #[(.slice sa xs.length ca), (.slice sb ss.length cb), .int .i64 off]) (by simp [results, Try.results36, go_sem, set3_0 r0, set3_1 r1, set3_2 r2]) rfl (DrawV.done T9.out.st (by omega) T9.out.dv (NE.out.1 _ (by omega)) (NE.out.2 _ (by omega)) HI.out)
        · have hdd : (tn = 3 ∧ (tn == 3) = true ∧ decide ((1 : Int) < (xs.length : Int)) = false) ∨ ((tn == 3) = false) := by
            by_cases q : tn = 3
            · exact Or.inl ⟨q, by simp [q], decide_eq_false (by omega)⟩
            · exact Or.inr (by simp [q])
          have HSW := hide hsw
          clear hsw
          have HFF : Hid (permT xs.length tn = P) := by
            show permT xs.length tn = P
            have e := HF.out
            rw [hPl.out] at e
            unfold permT
            rw [if_neg HSW.out, ← e]
          rcases hdd with ⟨rfl, d1, d2⟩ | d1
          · have c0 := HP.out.tb.c0
            have c1 := HP.out.tb.c1
            have c2 := HP.out.tb.c2
            go_wp2_with fail
            rcases hq : trL xs ss off P with ⟨c, L, S, o⟩
            have HE : Hid (r = pickR (xs, ss, off) (c, L, S, o) s2) := by
              show r = _
              rw [← HR.out]
              simp [turnD, R1.out, turn2, R2.out, HFF.out, hq]
            refine (sTR_own (own_ints HP.out.tb.dv.a) (own_ints HP.out.tb.dv.c) (own_ints HP.out.own) off (by omega) (by rw [hl5.out]; omega) (by omega) hq).mono ?_
            rintro e W8 h8
            have TX := hide HP.out.tb
            obtain ⟨sp, sq, cp, cq, rfl, hD, hB⟩ := h8.dv3 (w := w) (TX.out.sz)
            have T8 := hide (TX.out.bel hB)
            have T9 := hide (T8.out.setR NE0.out.1 NE0.out.2 (c' := c) (ro' := o) hD)
            have hvi := hide (trL_vi hq)
            have f0 := T8.out.e0
            have f1 := T8.out.e1
            have f2 := T8.out.e2
            have f3 := T8.out.e3
            have ff := T8.out.ef
            clear hq h8 hD hB
            clear c0 c1 c2
            rcases Classical.em (c = 0) with hc0 | hc0
            · subst hc0
              have er := HE.out.trans pickR_0
              subst er
              have e0 := T9.out.e0
              have e1 := T9.out.e1
              have e2 := T9.out.e2
              have e3 := T9.out.e3
              have r0 := T9.out.rb.r0
              have r1 := T9.out.rb.r1
              have r2 := T9.out.rb.r2
              have rf := T9.out.rb.rf
              go_wp2
              have hne := dv_ne T9.out.rv (R := w.heap.size + 1) (by omega)
              exact bodyPost_ret (v := .agg #[.slice sp L.length cp, .slice sq S.length cq, .int .i64 o]) (by simp [results, Try.results36, go_sem, set3_0 r0, set3_1 r1, set3_2 r2]) rfl (DrawV.done T9.out.st (by omega) (T9.out.rv.low (by have := T9.out.st.hH; omega)) hne.1 hne.2 hvi.out)
            · have dc0 : (c == 0) = false := by simp [hc0]
              have er := HE.out.trans (pickR_1 hc0)
              subst er
              have e0 := T9.out.e0
              have c0 := T9.out.c0
              have c1 := T9.out.c1
              have c2 := T9.out.c2
              have r0 := T9.out.rb.r0
              have r1 := T9.out.rb.r1
              have r2 := T9.out.rb.r2
              have rf := T9.out.rb.rf
              go_wp2
              exact bodyPost_ret (v := .agg #[(.slice sa xs.length ca), (.slice sb ss.length cb), .int .i64 off]) (by simp [results, Try.results36, go_sem, set3_0 r0, set3_1 r1, set3_2 r2]) rfl (DrawV.done T9.out.st (by omega) T9.out.dv (NE.out.1 _ (by omega)) (NE.out.2 _ (by omega)) HI.out)
          · have c0 := HP.out.tb.c0
            have c1 := HP.out.tb.c1
            have c2 := HP.out.tb.c2
            go_wp2_with fail
            rcases hq : trL xs ss off P with ⟨c, L, S, o⟩
            have HE : Hid (r = pickR (xs, ss, off) (c, L, S, o) s2) := by
              show r = _
              rw [← HR.out]
              simp [turnD, R1.out, turn2, R2.out, HFF.out, hq]
            refine (sTR_own (own_ints HP.out.tb.dv.a) (own_ints HP.out.tb.dv.c) (own_ints HP.out.own) off (by omega) (by rw [hl5.out]; omega) (by omega) hq).mono ?_
            rintro e W8 h8
            have TX := hide HP.out.tb
            obtain ⟨sp, sq, cp, cq, rfl, hD, hB⟩ := h8.dv3 (w := w) (TX.out.sz)
            have T8 := hide (TX.out.bel hB)
            have T9 := hide (T8.out.setR NE0.out.1 NE0.out.2 (c' := c) (ro' := o) hD)
            have hvi := hide (trL_vi hq)
            have f0 := T8.out.e0
            have f1 := T8.out.e1
            have f2 := T8.out.e2
            have f3 := T8.out.e3
            have ff := T8.out.ef
            clear hq h8 hD hB
            clear c0 c1 c2
            rcases Classical.em (c = 0) with hc0 | hc0
            · subst hc0
              have er := HE.out.trans pickR_0
              subst er
              have e0 := T9.out.e0
              have e1 := T9.out.e1
              have e2 := T9.out.e2
              have e3 := T9.out.e3
              have r0 := T9.out.rb.r0
              have r1 := T9.out.rb.r1
              have r2 := T9.out.rb.r2
              have rf := T9.out.rb.rf
              go_wp2
              have hne := dv_ne T9.out.rv (R := w.heap.size + 1) (by omega)
              exact bodyPost_ret (v := .agg #[.slice sp L.length cp, .slice sq S.length cq, .int .i64 o]) (by simp [results, Try.results36, go_sem, set3_0 r0, set3_1 r1, set3_2 r2]) rfl (DrawV.done T9.out.st (by omega) (T9.out.rv.low (by have := T9.out.st.hH; omega)) hne.1 hne.2 hvi.out)
            · have dc0 : (c == 0) = false := by simp [hc0]
              have er := HE.out.trans (pickR_1 hc0)
              subst er
              have e0 := T9.out.e0
              have c0 := T9.out.c0
              have c1 := T9.out.c1
              have c2 := T9.out.c2
              have r0 := T9.out.rb.r0
              have r1 := T9.out.rb.r1
              have r2 := T9.out.rb.r2
              have rf := T9.out.rb.rf
              go_wp2
              exact bodyPost_ret (v := .agg #[(.slice sa xs.length ca), (.slice sb ss.length cb), .int .i64 off]) (by simp [results, Try.results36, go_sem, set3_0 r0, set3_1 r1, set3_2 r2]) rfl (DrawV.done T9.out.st (by omega) T9.out.dv (NE.out.1 _ (by omega)) (NE.out.2 _ (by omega)) HI.out)
  · have c0 := T1.out.c0
    go_wp2_with fail
    refine (copyList_some (own_ints T1.out.dv.a) (by omega)).mono ?_
    rintro e W2 ⟨gs, cs, rfl, hO, x2⟩
    have P2 : Hid (PB w W2 G s1 H b (.slice sa xs.length ca) (.slice sb ss.length cb) xs ss off (.slice (some ⟨gs, 0, none⟩) xs.length cs) xs) := ⟨T1.out.bel x2, own_low hO T1.out.sz, NE0.out.1, NE0.out.2⟩
    clear hO x2 c0 T1
    rcases (show xs.length < 4 ∨ ¬ xs.length < 4 by omega) with h4 | h4
    · have h4i : (xs.length : Int) < 4 := by omega
      go_wp2_with fail
      refine (P2.out.next 3).mono ?_
      rintro e W3 ⟨x3, s3, Q3, rfl, b3, p3⟩
      have P3 := hide p3
      have HPRE : Hid (preD G.ds s1 xs = ((1 + x3) :: xs, s3)) := by
        show preD _ _ _ = _
        unfold preD
        rw [if_pos h4, Q3]
      clear p3 P2 Q3
      have L3 := hide (own_lit (W := W3) (base := w.heap.size + 3) (1 + x3) P3.out.tb.sz)
      go_wp2_with (at_builtin; (refine wpList_append_own _ rfl _ _ 23 rfl (w.heap.size + 3) 2 i0 (.int .i64 0) 1 8 Try.underlying23 hi0 hz0 hz1 hz2 rfl (by decide) _ 1 [.int .i64 (1 + x3)] rfl L3.out ⟨gs, 0, none⟩ xs.length cs (xs.map (Value.int .i64)) rfl (by simp) (P3.out.news _) map_one (by unfold maxLen; omega) (by omega) (P3.out.szP _) ?_); intro v3 w3 hown3 hgrow3 hnil3)
      have P4 := hide (P3.out.join hown3 hgrow3)
      have hnn : ¬ v3 = .slice none 0 0 := fun e => by have := (hnil3.1 e).1; cases this
      obtain ⟨g3, c3, rfl⟩ := own_blk hown3 hnn
      clear hown3 hgrow3 hnil3 hnn L3 P3
      obtain ⟨n3, hn3⟩ : ∃ n3, n3 = 1 + xs.length := ⟨_, rfl⟩
      have hn34 : n3 ≤ 4 := by omega
      rw [← hn3] at P4 ⊢
      have HN3 := hide hn3
      clear hn3
      go_wp2_with fail
      go_loopw [13] (fun i wr => ∃ (k : Nat) (Q : List Int) (sk : SS), i = .int .i64 k ∧ k ≤ n3 ∧ Hid (onesD G.ds ((1 + x3) :: xs) s3 k = (Q, sk)) ∧ PB w wr G sk H b (.slice sa xs.length ca) (.slice sb ss.length cb) xs ss off (.slice (some ⟨g3, 0, none⟩) n3 c3) Q) (fun i _ => n3 - (intOf i).toNat)
      case atStart => exact ⟨0, (1 + x3) :: xs, s3, rfl, by omega, (show onesD G.ds ((1 + x3) :: xs) s3 0 = _ from rfl), P4.out⟩
      case round =>
        obtain ⟨k, Q, sk, rfl, hk, HO, hPB⟩ := hrel
        have HP := hide hPB
        clear hPB P4
        obtain ⟨hQl, hg, hrow, hfz, hset⟩ := HP.out.row
        have HQl := hide hQl
        clear hQl
        by_cases hlt : k < n3
        · have hk0 : (0 : Int) ≤ (k : Int) := Int.natCast_nonneg _
          have hk1 : (k : Int) < ((n3 : Nat) : Int) := by omega
          have q0 := hrow k (by rw [HQl.out]; exact hlt)
          rw [Nat.zero_add] at q0
          have HS3 := hide (hset k 3)
          generalize hQk : Q.getD k 0 = x at q0
          have HQk := hide hQk
          clear hrow hset hQk
          rcases Classical.em (x = 1) with hx | hx
          · subst hx
            go_wp2_with fail
            refine (HP.out.next 2).mono ?_
            rintro e W5 ⟨z, s5, Q5, rfl, bz, p5⟩
            have HP5 := hide p5
            have R5 := hide Q5
            clear p5 HS3 q0 hfz Q5
            obtain ⟨_, _, hrow5, hfz5, hset5⟩ := HP5.out.row
            have q5 := hrow5 k (by rw [HQl.out]; exact hlt)
            rw [Nat.zero_add] at q5
            have HS5 := hide (hset5 k 3)
            generalize Q.getD k 0 = x5 at q5
            clear hrow5 hset5
            rcases Classical.em (z = 0) with hz | hz
            · subst hz
              go_wp2
              go_roundw
              · exact ⟨k + 1, Q.set k 3, s5, by go_num, by omega, onesD_a HO.out HQk.out R5.out rfl, HS5.out⟩
              · simp [intOf]; omega
            · have dz : (z == 0) = false := by simp [hz]
              go_wp2
              go_roundw
              · exact ⟨k + 1, Q, s5, by go_num, by omega, onesD_b HO.out HQk.out R5.out hz, HP5.out⟩
              · simp [intOf]; omega
          · have dx : (x == 1) = false := by simp [hx]
            go_wp2
            go_roundw
            · exact ⟨k + 1, Q, sk, by go_num, by omega, onesD_c HO.out (by rw [HQk.out]; exact hx), HP.out⟩
            · simp [intOf]; omega
        · have hk1 : ¬ (k : Int) < ((n3 : Nat) : Int) := by omega
          have hkn : k = n3 := by omega
          have HO2 : Hid (onesD G.ds ((1 + x3) :: xs) s3 ((1 + x3) :: xs).length = (Q, sk)) := by
            show onesD _ _ _ _ = _
            have e := HO.out
            rw [hkn] at e
            rw [show ((1 + x3) :: xs).length = n3 by (have := HN3.out; simp; omega)]
            exact e
          clear hrow hset hfz hkn
          have c0 := HP.out.tb.c0
          have c1 := HP.out.tb.c1
          have c2 := HP.out.tb.c2
          go_wp2_with fail
          rcases hq : brL xs ss off Q with ⟨c, L, S, o⟩
          have HE : Hid (r = pickR (xs, ss, off) (c, L, S, o) sk) := by
            show r = _
            rw [← HR.out]
            simp only [turnD, R1.out, turn3]; rw [show preD G.ds s1 xs = ((1 + x3) :: xs, s3) from HPRE.out]; dsimp only; rw [HO2.out]; simp [hq]
          refine (sBR_own (own_ints HP.out.tb.dv.a) (own_ints HP.out.tb.dv.c) (own_ints HP.out.own) off (by omega) (by rw [hl5.out]; omega) (by rw [HQl.out]; omega) hq).mono ?_
          rintro e W8 h8
          have TX := hide HP.out.tb
          obtain ⟨sp, sq, cp, cq, rfl, hD, hB⟩ := h8.dv3 (w := w) (TX.out.sz)
          have T8 := hide (TX.out.bel hB)
          have T9 := hide (T8.out.setR NE0.out.1 NE0.out.2 (c' := c) (ro' := o) hD)
          have hvi := hide (brL_vi hq)
          have f0 := T8.out.e0
          have f1 := T8.out.e1
          have f2 := T8.out.e2
          have f3 := T8.out.e3
          have ff := T8.out.ef
          clear hq h8 hD hB
          clear c0 c1 c2
          rcases Classical.em (c = 0) with hc0 | hc0
          · subst hc0
            have er := HE.out.trans pickR_0
            subst er
            have e0 := T9.out.e0
            have e1 := T9.out.e1
            have e2 := T9.out.e2
            have e3 := T9.out.e3
            have r0 := T9.out.rb.r0
            have r1 := T9.out.rb.r1
            have r2 := T9.out.rb.r2
            have rf := T9.out.rb.rf
            go_wp2
            have hne := dv_ne T9.out.rv (R := w.heap.size + 1) (by omega)
            exact bodyPost_ret (v := .agg #[.slice sp L.length cp, .slice sq S.length cq, .int .i64 o]) (by simp [results, Try.results36, go_sem, set3_0 r0, set3_1 r1, set3_2 r2]) rfl (DrawV.done T9.out.st (by omega) (T9.out.rv.low (by have := T9.out.st.hH; omega)) hne.1 hne.2 hvi.out)
          · have dc0 : (c == 0) = false := by simp [hc0]
            have er := HE.out.trans (pickR_1 hc0)
            subst er
            have e0 := T9.out.e0
            have c0 := T9.out.c0
            have c1 := T9.out.c1
            have c2 := T9.out.c2
            have r0 := T9.out.rb.r0
            have r1 := T9.out.rb.r1
            have r2 := T9.out.rb.r2
            have rf := T9.out.rb.rf
            go_wp2
            exact bodyPost_ret (v := .agg #[(.slice sa xs.length ca), (.slice sb ss.length cb), .int .i64 off]) (by simp [results, Try.results36, go_sem, set3_0 r0, set3_1 r1, set3_2 r2]) rfl (DrawV.done T9.out.st (by omega) T9.out.dv (NE.out.1 _ (by omega)) (NE.out.2 _ (by omega)) HI.out)
    · have h4i : ¬ (xs.length : Int) < 4 := by omega
      have HPRE : Hid (preD G.ds s1 xs = (xs, s1)) := by
        show preD _ _ _ = _
        unfold preD
        rw [if_neg h4]
      go_wp2_with fail
      go_loopw [13] (fun i wr => ∃ (k : Nat) (Q : List Int) (sk : SS), i = .int .i64 k ∧ k ≤ xs.length ∧ Hid (onesD G.ds (xs) s1 k = (Q, sk)) ∧ PB w wr G sk H b (.slice sa xs.length ca) (.slice sb ss.length cb) xs ss off (.slice (some ⟨gs, 0, none⟩) xs.length cs) Q) (fun i _ => xs.length - (intOf i).toNat)
      case atStart => exact ⟨0, xs, s1, rfl, by omega, (show onesD G.ds (xs) s1 0 = _ from rfl), P2.out⟩
      case round =>
        obtain ⟨k, Q, sk, rfl, hk, HO, hPB⟩ := hrel
        have HP := hide hPB
        clear hPB P2
        obtain ⟨hQl, hg, hrow, hfz, hset⟩ := HP.out.row
        have HQl := hide hQl
        clear hQl
        by_cases hlt : k < xs.length
        · have hk0 : (0 : Int) ≤ (k : Int) := Int.natCast_nonneg _
          have hk1 : (k : Int) < ((xs.length : Nat) : Int) := by omega
          have q0 := hrow k (by rw [HQl.out]; exact hlt)
          rw [Nat.zero_add] at q0
          have HS3 := hide (hset k 3)
          generalize hQk : Q.getD k 0 = x at q0
          have HQk := hide hQk
          clear hrow hset hQk
          rcases Classical.em (x = 1) with hx | hx
          · subst hx
            go_wp2_with fail
            refine (HP.out.next 2).mono ?_
            rintro e W5 ⟨z, s5, Q5, rfl, bz, p5⟩
            have HP5 := hide p5
            have R5 := hide Q5
            clear p5 HS3 q0 hfz Q5
            obtain ⟨_, _, hrow5, hfz5, hset5⟩ := HP5.out.row
            have q5 := hrow5 k (by rw [HQl.out]; exact hlt)
            rw [Nat.zero_add] at q5
            have HS5 := hide (hset5 k 3)
            generalize Q.getD k 0 = x5 at q5
            clear hrow5 hset5
            rcases Classical.em (z = 0) with hz | hz
            · subst hz
              go_wp2
              go_roundw
              · exact ⟨k + 1, Q.set k 3, s5, by go_num, by omega, onesD_a HO.out HQk.out R5.out rfl, HS5.out⟩
              · simp [intOf]; omega
            · have dz : (z == 0) = false := by simp [hz]
              go_wp2
              go_roundw
              · exact ⟨k + 1, Q, s5, by go_num, by omega, onesD_b HO.out HQk.out R5.out hz, HP5.out⟩
              · simp [intOf]; omega
          · have dx : (x == 1) = false := by simp [hx]
            go_wp2
            go_roundw
            · exact ⟨k + 1, Q, sk, by go_num, by omega, onesD_c HO.out (by rw [HQk.out]; exact hx), HP.out⟩
            · simp [intOf]; omega
        · have hk1 : ¬ (k : Int) < ((xs.length : Nat) : Int) := by omega
          have hkn : k = xs.length := by omega
          have HO2 : Hid (onesD G.ds (xs) s1 (xs).length = (Q, sk)) := by
            show onesD _ _ _ _ = _
            have e := HO.out
            rw [hkn] at e
            rw [show (xs).length = xs.length by rfl]
            exact e
          clear hrow hset hfz hkn
          have c0 := HP.out.tb.c0
          have c1 := HP.out.tb.c1
          have c2 := HP.out.tb.c2
          go_wp2_with fail
          rcases hq : brL xs ss off Q with ⟨c, L, S, o⟩
          have HE : Hid (r = pickR (xs, ss, off) (c, L, S, o) sk) := by
            show r = _
            rw [← HR.out]
            simp only [turnD, R1.out, turn3]; rw [show preD G.ds s1 xs = (xs, s1) from HPRE.out]; dsimp only; rw [HO2.out]; simp [hq]
          refine (sBR_own (own_ints HP.out.tb.dv.a) (own_ints HP.out.tb.dv.c) (own_ints HP.out.own) off (by omega) (by rw [hl5.out]; omega) (by rw [HQl.out]; omega) hq).mono ?_
          rintro e W8 h8
          have TX := hide HP.out.tb
          obtain ⟨sp, sq, cp, cq, rfl, hD, hB⟩ := h8.dv3 (w := w) (TX.out.sz)
          have T8 := hide (TX.out.bel hB)
          have T9 := hide (T8.out.setR NE0.out.1 NE0.out.2 (c' := c) (ro' := o) hD)
          have hvi := hide (brL_vi hq)
          have f0 := T8.out.e0
          have f1 := T8.out.e1
          have f2 := T8.out.e2
          have f3 := T8.out.e3
          have ff := T8.out.ef
          clear hq h8 hD hB
          clear c0 c1 c2
          rcases Classical.em (c = 0) with hc0 | hc0
          · subst hc0
            have er := HE.out.trans pickR_0
            subst er
            have e0 := T9.out.e0
            have e1 := T9.out.e1
            have e2 := T9.out.e2
            have e3 := T9.out.e3
            have r0 := T9.out.rb.r0
            have r1 := T9.out.rb.r1
            have r2 := T9.out.rb.r2
            have rf := T9.out.rb.rf
            go_wp2
            have hne := dv_ne T9.out.rv (R := w.heap.size + 1) (by omega)
            exact bodyPost_ret (v := .agg #[.slice sp L.length cp, .slice sq S.length cq, .int .i64 o]) (by simp [results, Try.results36, go_sem, set3_0 r0, set3_1 r1, set3_2 r2]) rfl (DrawV.done T9.out.st (by omega) (T9.out.rv.low (by have := T9.out.st.hH; omega)) hne.1 hne.2 hvi.out)
          · have dc0 : (c == 0) = false := by simp [hc0]
            have er := HE.out.trans (pickR_1 hc0)
            subst er
            have e0 := T9.out.e0
            have c0 := T9.out.c0
            have c1 := T9.out.c1
            have c2 := T9.out.c2
            have r0 := T9.out.rb.r0
            have r1 := T9.out.rb.r1
            have r2 := T9.out.rb.r2
            have rf := T9.out.rb.rf
            go_wp2
            exact bodyPost_ret (v := .agg #[(.slice sa xs.length ca), (.slice sb ss.length cb), .int .i64 off]) (by simp [results, Try.results36, go_sem, set3_0 r0, set3_1 r1, set3_2 r2]) rfl (DrawV.done T9.out.st (by omega) T9.out.dv (NE.out.1 _ (by omega)) (NE.out.2 _ (by omega)) HI.out)
  · have c0 := T1.out.c0
    have hcn : 0 ≤ cntL xs ∧ cntL xs ≤ 4096 := by
      have hg := HI.out.1
      have e : cntL xs = prod xs := if_pos hg
      have h1 := prod_plen (fun n hn => (good_nonneg hg n hn).1)
      have h2 := hg.2.2
      omega
    go_wp2_with fail
    refine (l2Count_any (own_ints T1.out.dv.a) (by omega)).mono ?_
    rintro e W2 ⟨rfl, rfl⟩
    generalize hcnE : cntL xs = cn at hcn ⊢
    have HCN := hide hcnE
    clear hcnE
    have P2 := hide (PB.lit T1.out NE0.out.1 NE0.out.2 cn)
    clear c0 T1
    go_wp2_with fail
    go_loopw [15, 16] (fun o i wr => ∃ (k : Nat) (Q : List Int) (sk : SS), i = .int .i64 ((k + 2 : Nat) : Int) ∧ k ≤ 3 ∧ Q.length ≤ 2 ∧ (∃ g c, o = .slice (some ⟨g, 0, none⟩) Q.length c) ∧ Hid (facD G.ds cn s1 k = (Q, sk)) ∧ PB w wr G sk H b (.slice sa xs.length ca) (.slice sb ss.length cb) xs ss off o Q) (fun o i _ => 5 - (intOf i).toNat)
    case atStart => exact ⟨0, [cn], s1, rfl, by omega, by simp, ⟨_, _, rfl⟩, (show facD _ _ _ 0 = _ from rfl), P2.out⟩
    case round =>
      obtain ⟨k', Q, sk, rfl, hk, hQ2, ⟨g, c, rfl⟩, HO, hPB⟩ := hrel
      have HP := hide hPB
      clear hPB P2
      obtain ⟨k, hkk⟩ : ∃ k : Nat, k = k' + 2 := ⟨_, rfl⟩
      rw [← hkk]
      have HKK := hide hkk
      have hkb : 2 ≤ k ∧ k ≤ 5 := by omega
      clear hkk
      by_cases hlt : k < 5
      · have hk1 : (k : Int) < 5 := by omega
        have hk2 : ¬ (k : Int) = 0 := by omega
        have hk3 : (0 : Int) < (k : Int) := by omega
        rcases Classical.em (cn % (k : Int) = 0) with hm | hm
        · have dm : (cn % (k : Int) == 0) = true := by simp [hm]
          have HM := hide hm
          clear hm
          go_wp2_with fail
          refine (HP.out.next 2).mono ?_
          rintro e W5 ⟨z, s5, Q5, rfl, bz, p5⟩
          have HP5 := hide p5
          have R5 := hide Q5
          clear p5 HP Q5
          rcases Classical.em (z = 0 ∧ 0 < cn) with hz | hz
          · obtain ⟨rfl, hcp⟩ := hz
            have dcp : decide (0 < cn) = true := decide_eq_true hcp
            have HL2 := hide (PB.lit2 HP5.out.tb NE0.out.1 NE0.out.2 (k : Int) (cn / (k : Int)))
            go_wp2
            go_roundw
            · exact ⟨k' + 1, [(k : Int), cn / (k : Int)], s5, by have := HKK.out; go_num, by have := HKK.out; omega, by simp, ⟨_, _, rfl⟩, facD_a HO.out HKK.out HM.out R5.out rfl hcp, HL2.out⟩
            · simp [intOf]; omega
          · have hdz : (z = 0 ∧ decide (0 < cn) = false) ∨ (z == 0) = false := by
              by_cases q : z = 0
              · exact Or.inl ⟨q, decide_eq_false (fun q2 => hz ⟨q, q2⟩)⟩
              · exact Or.inr (by simp [q])
            have HZ := hide hz
            clear hz
            rcases hdz with ⟨rfl, dcp⟩ | dz
            · have hcp : ¬ 0 < cn := of_decide_eq_false dcp
              have HZ2 : Hid (cn ≤ 0) := by show cn ≤ 0; omega
              go_wp2
              go_roundw
              · exact ⟨k' + 1, Q, s5, by have := HKK.out; go_num, by have := HKK.out; omega, hQ2, ⟨_, _, rfl⟩, facD_b HO.out HKK.out HM.out R5.out (fun h => absurd h.2 (by have := HZ2.out; omega)), HP5.out⟩
              · simp [intOf]; omega
            · go_wp2
              go_roundw
              · exact ⟨k' + 1, Q, s5, by have := HKK.out; go_num, by have := HKK.out; omega, hQ2, ⟨_, _, rfl⟩, facD_b HO.out HKK.out HM.out R5.out HZ.out, HP5.out⟩
              · simp [intOf]; omega
        · have dm : (cn % (k : Int) == 0) = false := by simp [hm]
          have HM := hide hm
          clear hm
          go_wp2
          go_roundw
          · exact ⟨k' + 1, Q, sk, by have := HKK.out; go_num, by have := HKK.out; omega, hQ2, ⟨_, _, rfl⟩, facD_c HO.out HKK.out HM.out, HP.out⟩
          · simp [intOf]; omega
      · have hk1 : ¬ (k : Int) < 5 := by omega
        have HO2 : Hid (facD G.ds cn s1 3 = (Q, sk)) := by
          show facD _ _ _ _ = _
          have e := HO.out
          rw [show k' = 3 by have := HKK.out; omega] at e
          exact e
        have c0 := HP.out.tb.c0
        have c1 := HP.out.tb.c1
        have c2 := HP.out.tb.c2
        go_wp2_with fail
        rcases hq : rsL xs ss off Q with ⟨c, L, S, o⟩
        have HE : Hid (r = pickR (xs, ss, off) (c, L, S, o) sk) := by
          show r = _
          rw [← HR.out]
          simp [turnD, R1.out, turn4, HCN.out, HO2.out, hq]
        refine (sRS_own (own_ints HP.out.tb.dv.a) (own_ints HP.out.tb.dv.c) (own_ints HP.out.own) off (by omega) (by rw [hl5.out]; omega) (by omega) hq).mono ?_
        rintro e W8 h8
        have TX := hide HP.out.tb
        obtain ⟨sp, sq, cp, cq, rfl, hD, hB⟩ := h8.dv3 (w := w) (TX.out.sz)
        have T8 := hide (TX.out.bel hB)
        have T9 := hide (T8.out.setR NE0.out.1 NE0.out.2 (c' := c) (ro' := o) hD)
        have hvi := hide (rsL_vi hq)
        have f0 := T8.out.e0
        have f1 := T8.out.e1
        have f2 := T8.out.e2
        have f3 := T8.out.e3
        have ff := T8.out.ef
        clear hq h8 hD hB
        clear c0 c1 c2
        rcases Classical.em (c = 0) with hc0 | hc0
        · subst hc0
          have er := HE.out.trans pickR_0
          subst er
          have e0 := T9.out.e0
          have e1 := T9.out.e1
          have e2 := T9.out.e2
          have e3 := T9.out.e3
          have r0 := T9.out.rb.r0
          have r1 := T9.out.rb.r1
          have r2 := T9.out.rb.r2
          have rf := T9.out.rb.rf
          go_wp2
          have hne := dv_ne T9.out.rv (R := w.heap.size + 1) (by omega)
          exact bodyPost_ret (v := .agg #[.slice sp L.length cp, .slice sq S.length cq, .int .i64 o]) (by simp [results, Try.results36, go_sem, set3_0 r0, set3_1 r1, set3_2 r2]) rfl (DrawV.done T9.out.st (by omega) (T9.out.rv.low (by have := T9.out.st.hH; omega)) hne.1 hne.2 hvi.out)
        · have dc0 : (c == 0) = false := by simp [hc0]
          have er := HE.out.trans (pickR_1 hc0)
          subst er
          have e0 := T9.out.e0
          have c0 := T9.out.c0
          have c1 := T9.out.c1
          have c2 := T9.out.c2
          have r0 := T9.out.rb.r0
          have r1 := T9.out.rb.r1
          have r2 := T9.out.rb.r2
          have rf := T9.out.rb.rf
          go_wp2
          exact bodyPost_ret (v := .agg #[(.slice sa xs.length ca), (.slice sb ss.length cb), .int .i64 off]) (by simp [results, Try.results36, go_sem, set3_0 r0, set3_1 r1, set3_2 r2]) rfl (DrawV.done T9.out.st (by omega) T9.out.dv (NE.out.1 _ (by omega)) (NE.out.2 _ (by omega)) HI.out)
end Go.Proofs.Ytanbgpmbccianaa
