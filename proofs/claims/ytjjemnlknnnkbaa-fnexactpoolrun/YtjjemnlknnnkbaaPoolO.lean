import Derived.Test.YtjjemnlknnnkbaaPoolM
import Derived.Test.YtjjemnlknnnkbaaPoolN
namespace Go.Proofs.Ytjjemnlknnnkbaa
open Go.ChangeShapes Go.RowKit Go.Lib Go.ChangeMaps
set_option linter.unusedSimpArgs false
set_option linter.unusedVariables false
def RunOk (w : World) (base P Mb n : Nat) (budget : Int) (x : List Blk × Int × Int) (e : Ending) (w' : World) : Prop :=
  e = .returned (.agg #[.int .i64 x.2.1, .int .i64 x.2.2, .int .i64 (liveL x.1)]) ∧ Pl w' base P Mb (n + 1) budget x.1 ∧ Kp base P w w'

theorem step_code (budget : Int) (bs : List Blk) (op : P3) (h : (stepP budget bs op).2.1 ≠ 0) : (stepP budget bs op).2.2 = -1 := by
  unfold stepP at h ⊢
  split
  · rename_i h1
    rw [if_pos h1] at h
    split
    · rfl
    · rename_i h2
      rw [if_neg h2] at h
      simp only at h ⊢
      split at h
      · rename_i h3
        rcases round_bd op.2.1 with hr | hr
        · omega
        · unfold takeL at h3 ⊢
          split at h3
          · rename_i h4; rw [if_pos h4]
          · rename_i h4
            split at h3
            · simp at h3; omega
            · simp at h3; omega
      · exact absurd rfl h
  · rename_i h1
    rw [if_neg h1] at h
    split
    · rename_i h2
      rw [if_pos h2] at h
      split
      · rename_i h3
        rw [if_pos h3] at h
        exact absurd rfl h
      · rfl
    · rfl
theorem Pl.ext {w w' : World} {base P Mb n : Nat} {budget : Int} {bs : List Blk} (h : Pl w base P Mb n budget bs) (x : Ext w w') : Pl w' base P Mb n budget bs := by
  obtain ⟨zs, vB, M, h⟩ := h
  exact ⟨zs, vB, M, h.ext x⟩
theorem Pl.now {w : World} {base P Mb n : Nat} {budget : Int} {bs : List Blk} (h : Pl w base P Mb n budget bs) :
    Calls Try.prog 43 #[.pointer (some ⟨P, 0, none⟩)] w fun e w' => e = .returned (.int .i64 (liveL bs)) ∧ Pl w' base P Mb n budget bs ∧ Mut P w w' := by
  obtain ⟨zs, vB, M, h⟩ := h
  refine (now_any w h.pb).mono ?_
  rintro e w' ⟨rfl, hp, hm⟩
  exact ⟨rfl, ⟨zs, vB, M, h.reP hm hp⟩, hm⟩
theorem Pl.lt {w : World} {base P Mb n : Nat} {budget : Int} {bs : List Blk} (h : Pl w base P Mb n budget bs) : P < w.heap.size ∧ base ≤ P := by
  obtain ⟨zs, vB, M, h⟩ := h
  exact ⟨h.pb.lt, h.lo.1⟩
/-- The answer's block behind a call of the pool. -/
theorem Kp.ans {base P : Nat} {w w' : World} {k : Nat} {A : Array Value} (h : Kp base P w w') (hk : w.heap[k]? = some (.cells A 32 (0, 0))) (hP : k ≠ P) : w'.heap[k]? = some (.cells A 32 (0, 0)) := (h.block k (Array.getElem?_eq_some_iff.1 hk).1 (Or.inr ⟨hP, A, hk⟩)).trans hk

theorem set_grown (w : World) (b o : Nat) (v : Value) : w.grownBy (w.setCell ⟨b, o, none⟩ v) (some b) := ⟨rfl, rfl, rfl, by simp [World.setCell], fun k _ hk => heap_setCell_other w ⟨b, o, none⟩ k v (fun e => hk (by simp [e]))⟩
theorem run_end {w W3 W4 : World} {base P Mb n R : Nat} {budget : Int} {bs : List Blk} {A : Array Value} (hK : Kp base P w W3) (hP : Pl W3 base P Mb n budget bs) (hR : W3.heap[R]? = some (.cells A 32 (0, 0))) (hRl : w.heap.size ≤ R) (hRP : R ≠ P) (hg : W3.grownBy W4 (some R)) : Pl W4 base P Mb n budget bs ∧ Kp base P w W4 := by
  obtain ⟨zs, vB, M, h⟩ := hP
  refine ⟨⟨zs, vB, M, h.row hg fun k e => ?_⟩, ⟨hg.os.trans hK.os, hg.tape.trans hK.tape, hg.output.trans hK.output, Nat.le_trans hK.size hg.size, fun k hk hn => (hg.block k (Nat.lt_of_lt_of_le hk hK.size) (fun e => ?_)).trans (hK.block k hk hn)⟩⟩
  · cases e
    exact ⟨hRP, fun _ => ⟨A, 32, (0, 0), hR, by decide, by decide, by decide⟩⟩
  · have := Option.some.inj e
    omega
theorem three_grown (w : World) (b : Nat) (x y z : Value) : w.grownBy (((w.setCell ⟨b, 0, none⟩ x).setCell ⟨b, 1, none⟩ y).setCell ⟨b, 2, none⟩ z) (some b) := grown_trans (grown_trans (set_grown _ _ _ _) (set_grown _ _ _ _)) (set_grown _ _ _ _)
theorem three_at {w : World} {b : Nat} (h0 : w.cell? ⟨b, 0, none⟩ = some (.int .i64 0)) (h1 : w.cell? ⟨b, 1, none⟩ = some (.int .i64 0)) (h2 : w.cell? ⟨b, 2, none⟩ = some (.int .i64 0)) (x y z : Value) :
    (((w.setCell ⟨b, 0, none⟩ x).setCell ⟨b, 1, none⟩ y).setCell ⟨b, 2, none⟩ z).cell? ⟨b, 0, none⟩ = some x ∧ (((w.setCell ⟨b, 0, none⟩ x).setCell ⟨b, 1, none⟩ y).setCell ⟨b, 2, none⟩ z).cell? ⟨b, 1, none⟩ = some y ∧ (((w.setCell ⟨b, 0, none⟩ x).setCell ⟨b, 1, none⟩ y).setCell ⟨b, 2, none⟩ z).cell? ⟨b, 2, none⟩ = some z :=
  ⟨near (by omega) (near (by omega) (World.cell?_setCell_same _ _ _ h0)), near (by omega) (World.cell?_setCell_same _ _ _ (near (by omega) h1)), World.cell?_setCell_same _ _ _ (near (by omega) (near (by omega) h2))⟩

/-- Behind now(): the answer's block R is still empty. -/
structure NowR (w W3 : World) (R base P Mb n : Nat) (budget : Int) (bs : List Blk) : Prop where
  p : Pl W3 base P Mb n budget bs
  k : Kp base P w W3
  r : W3.heap[R]? = some (.cells #[.int .i64 0, .int .i64 0, .int .i64 0] 32 (0, 0))
theorem NowR.c0 {w W3 : World} {R base P Mb n : Nat} {budget : Int} {bs : List Blk} (h : NowR w W3 R base P Mb n budget bs) : W3.cell? ⟨R, 0, none⟩ = some (.int .i64 0) := by rw [cell_of_row W3 R 0 _ 32 (0, 0) h.r]; rfl
theorem NowR.c1 {w W3 : World} {R base P Mb n : Nat} {budget : Int} {bs : List Blk} (h : NowR w W3 R base P Mb n budget bs) : W3.cell? ⟨R, 1, none⟩ = some (.int .i64 0) := by rw [cell_of_row W3 R 1 _ 32 (0, 0) h.r]; rfl
theorem NowR.c2 {w W3 : World} {R base P Mb n : Nat} {budget : Int} {bs : List Blk} (h : NowR w W3 R base P Mb n budget bs) : W3.cell? ⟨R, 2, none⟩ = some (.int .i64 0) := by rw [cell_of_row W3 R 2 _ 32 (0, 0) h.r]; rfl
theorem NowR.fz {w W3 : World} {R base P Mb n : Nat} {budget : Int} {bs : List Blk} (h : NowR w W3 R base P Mb n budget bs) (o : Nat) : W3.frozen? ⟨R, o, none⟩ = false := frozen_of_row W3 R o _ 32 h.r
theorem now_run {w w0 W2 : World} {R base P Mb n : Nat} {budget : Int} {bs : List Blk} (hP : Pl W2 base P Mb n budget bs) (x0 : Ext w w0) (hK : Kp base P w0 W2) (hR0 : w0.heap[R]? = some (.cells #[.int .i64 0, .int .i64 0, .int .i64 0] 32 (0, 0))) (hRP : R ≠ P) :
    Calls Try.prog 43 #[.pointer (some ⟨P, 0, none⟩)] W2 fun e W3 => e = .returned (.int .i64 (liveL bs)) ∧ NowR w W3 R base P Mb n budget bs := by
  refine hP.now.mono ?_
  rintro e W3 ⟨rfl, hP3, hm3⟩
  have hR2 := hK.ans hR0 hRP
  exact ⟨rfl, hP3, ((Kp.ext x0).trans hK).trans (Kp.mut hm3 hP.lt.2), (hm3.block R (Array.getElem?_eq_some_iff.1 hR2).1 hRP).trans hR2⟩
theorem run_done {w W3 : World} {R base P Mb n : Nat} {budget : Int} {bs : List Blk} (h : NowR w W3 R base P Mb (n + 1) budget bs) (hRl : w.heap.size ≤ R) (hRP : R ≠ P) (code num : Int) :
    RunOk w base P Mb n budget (bs, code, num) (.returned (.agg #[.int .i64 code, .int .i64 num, .int .i64 (liveL bs)])) (((W3.setCell ⟨R, 0, none⟩ (.int .i64 code)).setCell ⟨R, 1, none⟩ (.int .i64 num)).setCell ⟨R, 2, none⟩ (.int .i64 (liveL bs))) := by
  obtain ⟨u3, u4⟩ := run_end h.k h.p h.r hRl hRP (three_grown W3 R (.int .i64 code) (.int .i64 num) (.int .i64 (liveL bs)))
  exact ⟨rfl, u3, u4⟩

set_option maxRecDepth 100000 in
set_option maxHeartbeats 1000000 in
theorem run_take {w : World} {base P Mb n : Nat} {budget : Int} {bs : List Blk} (h : Pl w base P Mb n budget bs) (hsz : SzOk bs) (hl : bs.length ≤ 2000) (y z : Int) :
    Calls Try.prog 32 #[.pointer (some ⟨P, 0, none⟩), .agg #[.int .i64 1, .int .i64 y, .int .i64 z]] w fun e w' => RunOk w base P Mb n budget (stepP budget bs (1, y, z)) e w' := by
  have hlt := h.lt
  have x0 : Ext w ((w.alloc (.cells #[.int .i64 1, .int .i64 y, .int .i64 z] 34)).alloc (.cells #[.int .i64 0, .int .i64 0, .int .i64 0] 32)).drew := (((Ext.refl w).alloc _ _).alloc _ _).drew
  have hR0 : ((w.alloc (.cells #[.int .i64 1, .int .i64 y, .int .i64 z] 34)).alloc (.cells #[.int .i64 0, .int .i64 0, .int .i64 0] 32)).drew.heap[w.heap.size + 1]? = some (.cells #[.int .i64 0, .int .i64 0, .int .i64 0] 32 (0, 0)) := heap_alloc2_new w _ _
  have hRP : w.heap.size + 1 ≠ P := by omega
  have htk := hide (takeP_any (h.ext x0) hsz hl y z)
  have HX := hide x0
  have HR0 := hide hR0
  have hcode := step_code budget bs (1, y, z)
  clear h x0 hR0
  generalize stepP budget bs (1, y, z) = X at *
  obtain ⟨bs', code, num⟩ := X
  simp only at hcode htk
  by_cases hc : code = 0
  · subst hc
    go_enter Try.func32, Try.ntmps32
    go_wp2_with (fail)
    go_region
    all_goals go_wp2_with (first
      | (go_at_call 41; refine htk.out.mono ?_; rintro e W2 ⟨rfl, hP2, hK2⟩; have HP2 := hide hP2; have HK2 := hide hK2; clear hP2 hK2)
      | (go_at_call 43; refine (now_run HP2.out HX.out HK2.out HR0.out hRP).mono ?_; rintro e W3 ⟨rfl, hN⟩; have r0 := hN.c0; have r1 := hN.c1; have r2 := hN.c2; have rf0 := hN.fz 0; have rf1 := hN.fz 1; have rf2 := hN.fz 2; have HN := hide hN; clear hN))
    all_goals
      obtain ⟨u0, u1, u2⟩ := three_at r0 r1 r2 (.int .i64 0) (.int .i64 num) (.int .i64 (liveL bs'))
      exact bodyPost_ret (v := .agg #[.int .i64 0, .int .i64 num, .int .i64 (liveL bs')]) (by simp [results, Try.results32, go_sem, u0, u1, u2]) rfl (run_done HN.out (by omega) hRP _ _)
  · have hn := hcode hc
    subst hn
    go_enter Try.func32, Try.ntmps32
    go_wp2_with (fail)
    go_region
    all_goals go_wp2_with (first
      | (go_at_call 41; refine htk.out.mono ?_; rintro e W2 ⟨rfl, hP2, hK2⟩; have HP2 := hide hP2; have HK2 := hide hK2; clear hP2 hK2)
      | (go_at_call 43; refine (now_run HP2.out HX.out HK2.out HR0.out hRP).mono ?_; rintro e W3 ⟨rfl, hN⟩; have r0 := hN.c0; have r1 := hN.c1; have r2 := hN.c2; have rf0 := hN.fz 0; have rf1 := hN.fz 1; have rf2 := hN.fz 2; have HN := hide hN; clear hN))
    all_goals
      obtain ⟨u0, u1, u2⟩ := three_at r0 r1 r2 (.int .i64 code) (.int .i64 (-1)) (.int .i64 (liveL bs'))
      exact bodyPost_ret (v := .agg #[.int .i64 code, .int .i64 (-1), .int .i64 (liveL bs')]) (by simp [results, Try.results32, go_sem, u0, u1, u2]) rfl (run_done HN.out (by omega) hRP _ _)

theorem give_all {w : World} {base P Mb n : Nat} {budget : Int} {bs : List Blk} (h : Pl w base P Mb n budget bs) (hsz : SzOk bs) (hl : bs.length ≤ 2000) (y z : Int) :
    Calls Try.prog 42 #[.pointer (some ⟨P, 0, none⟩), .int .i64 z] w fun e w' => GiveOk w base P Mb n budget (stepP budget bs (2, y, z)).2.1 (stepP budget bs (2, y, z)).1 e w' := by
  have hst : stepP budget bs (2, y, z) = if 0 ≤ z ∧ z < bs.length ∧ (bs.getD z.toNat b0).2 = true then (bs.set z.toNat ((bs.getD z.toNat b0).1, false), 0, z) else (bs, 15, -1) := by
    unfold stepP
    rw [if_neg (show ¬ ((2 : Int) = 1) by omega), if_pos rfl]
  rw [hst]
  by_cases hg : 0 ≤ z ∧ z < bs.length ∧ (bs.getD z.toNat b0).2 = true
  · rw [if_pos hg]
    obtain ⟨i, rfl⟩ : ∃ i : Nat, z = (i : Int) := ⟨z.toNat, by omega⟩
    rw [Int.toNat_natCast] at hg ⊢
    exact give_good h hsz hl i (by omega) hg.2.2
  · rw [if_neg hg]
    refine give_bad h z ?_
    unfold liveAt
    cases e : (decide (0 ≤ z) && (decide (z < bs.length) && (bs.getD z.toNat b0).2)) with
    | false => rfl
    | true =>
      simp only [Bool.and_eq_true, decide_eq_true_eq] at e
      exact absurd e hg
theorem give_num (budget : Int) (bs : List Blk) (y z : Int) (h : (stepP budget bs (2, y, z)).2.1 = 0) : (stepP budget bs (2, y, z)).2.2 = z := by
  unfold stepP at h ⊢
  rw [if_neg (show ¬ ((2 : Int) = 1) by omega), if_pos rfl] at h ⊢
  split
  · rfl
  · rename_i h3
    rw [if_neg h3] at h
    simp at h

set_option maxRecDepth 100000 in
set_option maxHeartbeats 1000000 in
theorem run_give {w : World} {base P Mb n : Nat} {budget : Int} {bs : List Blk} (h : Pl w base P Mb n budget bs) (hsz : SzOk bs) (hl : bs.length ≤ 2000) (y z : Int) :
    Calls Try.prog 32 #[.pointer (some ⟨P, 0, none⟩), .agg #[.int .i64 2, .int .i64 y, .int .i64 z]] w fun e w' => RunOk w base P Mb n budget (stepP budget bs (2, y, z)) e w' := by
  have hlt := h.lt
  have x0 : Ext w ((w.alloc (.cells #[.int .i64 2, .int .i64 y, .int .i64 z] 34)).alloc (.cells #[.int .i64 0, .int .i64 0, .int .i64 0] 32)).drew := (((Ext.refl w).alloc _ _).alloc _ _).drew
  have hR0 : ((w.alloc (.cells #[.int .i64 2, .int .i64 y, .int .i64 z] 34)).alloc (.cells #[.int .i64 0, .int .i64 0, .int .i64 0] 32)).drew.heap[w.heap.size + 1]? = some (.cells #[.int .i64 0, .int .i64 0, .int .i64 0] 32 (0, 0)) := heap_alloc2_new w _ _
  have hRP : w.heap.size + 1 ≠ P := by omega
  have htk := hide (give_all (h.ext x0) hsz hl y z)
  have HX := hide x0
  have HR0 := hide hR0
  have hcode := step_code budget bs (2, y, z)
  have hnum := give_num budget bs y z
  clear h x0 hR0
  generalize stepP budget bs (2, y, z) = X at *
  obtain ⟨bs', code, num⟩ := X
  simp only at hcode htk hnum
  by_cases hc : code = 0
  · have hn := hnum hc
    subst hc
    subst hn
    go_enter Try.func32, Try.ntmps32
    go_wp2_with (fail)
    go_region
    all_goals go_wp2_with (first
      | (go_at_call 42; refine htk.out.mono ?_; rintro e W2 ⟨rfl, hP2, hK2⟩; have HP2 := hide hP2; have HK2 := hide hK2; clear hP2 hK2)
      | (go_at_call 43; refine (now_run HP2.out HX.out HK2.out HR0.out hRP).mono ?_; rintro e W3 ⟨rfl, hN⟩; have r0 := hN.c0; have r1 := hN.c1; have r2 := hN.c2; have rf0 := hN.fz 0; have rf1 := hN.fz 1; have rf2 := hN.fz 2; have HN := hide hN; clear hN))
    all_goals
      obtain ⟨u0, u1, u2⟩ := three_at r0 r1 r2 (.int .i64 0) (.int .i64 num) (.int .i64 (liveL bs'))
      exact bodyPost_ret (v := .agg #[.int .i64 0, .int .i64 num, .int .i64 (liveL bs')]) (by simp [results, Try.results32, go_sem, u0, u1, u2]) rfl (run_done HN.out (by omega) hRP _ _)
  · have hn := hcode hc
    subst hn
    clear hnum
    go_enter Try.func32, Try.ntmps32
    go_wp2_with (fail)
    go_region
    all_goals go_wp2_with (first
      | (go_at_call 42; refine htk.out.mono ?_; rintro e W2 ⟨rfl, hP2, hK2⟩; have HP2 := hide hP2; have HK2 := hide hK2; clear hP2 hK2)
      | (go_at_call 43; refine (now_run HP2.out HX.out HK2.out HR0.out hRP).mono ?_; rintro e W3 ⟨rfl, hN⟩; have r0 := hN.c0; have r1 := hN.c1; have r2 := hN.c2; have rf0 := hN.fz 0; have rf1 := hN.fz 1; have rf2 := hN.fz 2; have HN := hide hN; clear hN))
    all_goals
      obtain ⟨u0, u1, u2⟩ := three_at r0 r1 r2 (.int .i64 code) (.int .i64 (-1)) (.int .i64 (liveL bs'))
      exact bodyPost_ret (v := .agg #[.int .i64 code, .int .i64 (-1), .int .i64 (liveL bs')]) (by simp [results, Try.results32, go_sem, u0, u1, u2]) rfl (run_done HN.out (by omega) hRP _ _)

set_option maxRecDepth 100000 in
set_option maxHeartbeats 1000000 in
theorem run_other {w : World} {base P Mb n : Nat} {budget : Int} {bs : List Blk} (h : Pl w base P Mb n budget bs) (hsz : SzOk bs) (hl : bs.length ≤ 2000) (y z : Int) (k : Int) (hk1 : k ≠ 1) (hk2 : k ≠ 2) :
    Calls Try.prog 32 #[.pointer (some ⟨P, 0, none⟩), .agg #[.int .i64 k, .int .i64 y, .int .i64 z]] w fun e w' => RunOk w base P Mb n budget (stepP budget bs (k, y, z)) e w' := by
  have hlt := h.lt
  have x0 : Ext w ((w.alloc (.cells #[.int .i64 k, .int .i64 y, .int .i64 z] 34)).alloc (.cells #[.int .i64 0, .int .i64 0, .int .i64 0] 32)).drew := (((Ext.refl w).alloc _ _).alloc _ _).drew
  have hR0 : ((w.alloc (.cells #[.int .i64 k, .int .i64 y, .int .i64 z] 34)).alloc (.cells #[.int .i64 0, .int .i64 0, .int .i64 0] 32)).drew.heap[w.heap.size + 1]? = some (.cells #[.int .i64 0, .int .i64 0, .int .i64 0] 32 (0, 0)) := heap_alloc2_new w _ _
  have hRP : w.heap.size + 1 ≠ P := by omega
  have hst : stepP budget bs (k, y, z) = (bs, 3, -1) := by unfold stepP; rw [if_neg hk1, if_neg hk2]
  rw [hst]
  have HP2 := hide ((h.more (Nat.le_succ n)).ext x0)
  have HK2 := hide (Kp.refl base P ((w.alloc (.cells #[.int .i64 k, .int .i64 y, .int .i64 z] 34)).alloc (.cells #[.int .i64 0, .int .i64 0, .int .i64 0] 32)).drew)
  have HX := hide x0
  have HR0 := hide hR0
  have hb1 : (k == 1) = false := by simp [hk1]
  have hb2 : (k == 2) = false := by simp [hk2]
  clear h x0 hR0 hst
  go_enter Try.func32, Try.ntmps32
  go_wp2_with (fail)
  go_region
  all_goals go_wp2_with (first
    | fail
    | (go_at_call 43; refine (now_run HP2.out HX.out HK2.out HR0.out hRP).mono ?_; rintro e W3 ⟨rfl, hN⟩; have r0 := hN.c0; have r1 := hN.c1; have r2 := hN.c2; have rf0 := hN.fz 0; have rf1 := hN.fz 1; have rf2 := hN.fz 2; have HN := hide hN; clear hN))
  all_goals
    obtain ⟨u0, u1, u2⟩ := three_at r0 r1 r2 (.int .i64 3) (.int .i64 (-1)) (.int .i64 (liveL bs))
    exact bodyPost_ret (v := .agg #[.int .i64 3, .int .i64 (-1), .int .i64 (liveL bs)]) (by simp [results, Try.results32, go_sem, u0, u1, u2]) rfl (run_done HN.out (by omega) hRP _ _)

theorem run_any {w : World} {base P Mb n : Nat} {budget : Int} {bs : List Blk} (h : Pl w base P Mb n budget bs) (hsz : SzOk bs) (hl : bs.length ≤ 2000) (y z : Int) (k : Int) :
    Calls Try.prog 32 #[.pointer (some ⟨P, 0, none⟩), .agg #[.int .i64 k, .int .i64 y, .int .i64 z]] w fun e w' => RunOk w base P Mb n budget (stepP budget bs (k, y, z)) e w' := by
  by_cases h1 : k = 1
  · subst h1; exact run_take h hsz hl y z
  · by_cases h2 : k = 2
    · subst h2; exact run_give h hsz hl y z
    · exact run_other h hsz hl y z k h1 h2
end Go.Proofs.Ytjjemnlknnnkbaa
