import Derived.Test.YtiekkninnjffpaaM2
import Derived.Deep.QuietTactic
import Derived.Deep.RegionWith
namespace Go.Proofs.Ytiekkninnjffpaa
open Go.ChangeShapes Go.RowKit
set_option linter.unusedSimpArgs false
set_option linter.unusedVariables false

set_option maxRecDepth 100000 in
set_option maxHeartbeats 8000000 in
theorem joinShapes_any (w : World) (xs ys : List Int) (hx : xs.length ≤ 4) (hy : ys.length ≤ 4) (rx : InR xs xs.length) (ry : InR ys ys.length) (d : Nat) (hd : d = max xs.length ys.length) :
    Calls Try.prog 56 #[.agg (shp xs), .agg (shp ys)] w fun e w' => JoinOk w xs ys d e w' := by
  have HA := hide (fun w k (hk : k < 4) => fromEnd_any w xs hx k hk)
  have HB := hide (fun w k (hk : k < 4) => fromEnd_any w ys hy k hk)
  have hcnt := hide (fun w (h4 : (jn xs ys d).length ≤ 4) => count_any w (jn xs ys d) h4 (jn_in rx ry d))
  have hd4 : d ≤ 4 := by omega
  have hdn : (xs.length : Int) < (ys.length : Int) ∧ (d : Int) = ys.length ∨ ¬ (xs.length : Int) < (ys.length : Int) ∧ (d : Int) = xs.length := by omega
  unfold shp at HA HB hcnt ⊢
  rw [jn_len] at hcnt
  generalize xs.getD 0 0 = a0 at *
  generalize xs.getD 1 0 = a1 at *
  generalize xs.getD 2 0 = a2 at *
  generalize xs.getD 3 0 = a3 at *
  generalize ys.getD 0 0 = b0 at *
  generalize ys.getD 1 0 = b1 at *
  generalize ys.getD 2 0 = b2 at *
  generalize ys.getD 3 0 = b3 at *
  clear rx ry hd hx hy
  generalize (xs.length : Int) = n at *
  generalize (ys.length : Int) = m at *
  have S0 := hide (JS.start w n a0 a1 a2 a3 m b0 b1 b2 b3 xs ys d)
  rcases hdn with ⟨h1, rfl⟩ | ⟨h1, rfl⟩
  · go_enter Try.func56, Try.ntmps56
    go_wp2
    go_loopw [7] (fun i wr => ∃ k : Nat, i = .int .i64 ((k + 1 : Nat) : Int) ∧ k ≤ d ∧ Hid (Fits xs ys k) ∧ JS w wr n a0 a1 a2 a3 (d : Int) b0 b1 b2 b3 xs ys d k) (fun i _ => d + 1 - (intOf i).toNat)
    case atStart => exact ⟨0, rfl, by omega, fun j hj => absurd hj (Nat.not_lt_zero _), S0.out⟩
    case round =>
      obtain ⟨k, rfl, hk, hfit, hS⟩ := hrel
      have HS := hide hS
      have HE := hide hS.ex
      have ka0 := hS.a.1
      have ka1 := hS.a.2.1
      have ka2 := hS.a.2.2.1
      have ka3 := hS.a.2.2.2.1
      have ka4 := hS.a.2.2.2.2
      have kb0 := hS.b.1
      have kb1 := hS.b.2.1
      have kb2 := hS.b.2.2.1
      have kb3 := hS.b.2.2.2.1
      have kb4 := hS.b.2.2.2.2
      have ko0 := hS.o0
      clear hS
      by_cases hlt : k < d
      · have hk4 : k < 4 := by omega
        have hkd : ((k + 1 : Nat) : Int) ≤ (d : Int) := by omega
        go_wp2_with fail
        refine wp_region_quiet (C := Ext wr) (by kernel_rfl) (by kernel_rfl) ((Ext.refl wr).drew) ?_
        refine wpQuiet_step (fun K hK => ?_)
        rw [if_pos (by rfl)]
        refine ⟨(.agg #[.int .i64 n, .int .i64 a0, .int .i64 a1, .int .i64 a2, .int .i64 a3]), fun wq hq => ?_, ?_⟩
        · have q0 := hq.box ka0; have q1 := hq.box ka1; have q2 := hq.box ka2; have q3 := hq.box ka3; have q4 := hq.box ka4; simp [go_sem, q0, q1, q2, q3, q4]
        go_simp
        refine hK _ ?_
        clear hK K
        refine wpQuiet_step (fun K hK => ?_)
        rw [if_pos (by rfl)]
        refine ⟨.int .i64 ((k + 1 : Nat) : Int), fun wq hq => ?_, ?_⟩
        · simp [go_sem]
        go_simp
        refine hK _ ?_
        clear hK K
        refine wpQuiet_step (fun K hK => ?_)
        rw [if_pos (by rfl)]
        refine ⟨.int .i64 (lenE xs k), fun wq hq => ?_, ?_⟩
        · go_simp; refine (HA.out _ k hk4).mono ?_; rintro e wz ⟨rfl, xz⟩; exact ⟨rfl, hq.trans xz⟩
        go_simp
        refine hK _ ?_
        clear hK K
        refine wpQuiet_step (fun K hK => ?_)
        rw [if_pos (by rfl)]
        refine ⟨(.agg #[.int .i64 (d : Int), .int .i64 b0, .int .i64 b1, .int .i64 b2, .int .i64 b3]), fun wq hq => ?_, ?_⟩
        · have q0 := hq.box kb0; have q1 := hq.box kb1; have q2 := hq.box kb2; have q3 := hq.box kb3; have q4 := hq.box kb4; simp [go_sem, q0, q1, q2, q3, q4]
        go_simp
        refine hK _ ?_
        clear hK K
        refine wpQuiet_step (fun K hK => ?_)
        rw [if_pos (by rfl)]
        refine ⟨.int .i64 ((k + 1 : Nat) : Int), fun wq hq => ?_, ?_⟩
        · simp [go_sem]
        go_simp
        refine hK _ ?_
        clear hK K
        refine wpQuiet_step (fun K hK => ?_)
        rw [if_pos (by rfl)]
        refine ⟨.int .i64 (lenE ys k), fun wq hq => ?_, ?_⟩
        · go_simp; refine (HB.out _ k hk4).mono ?_; rintro e wz ⟨rfl, xz⟩; exact ⟨rfl, hq.trans xz⟩
        go_simp
        refine hK _ ?_
        clear hK K
        refine wpQuiet_step (fun K hK => ?_)
        rw [if_pos (by rfl)]
        refine ⟨.tuple #[.int .i64 (joinV (lenE xs k) (lenE ys k)), .bool (joinB (lenE xs k) (lenE ys k))], fun wq hq => ?_, ?_⟩
        · go_simp; refine (joinLengths_any _ _ _).mono ?_; rintro e wz ⟨rfl, rfl⟩; exact ⟨rfl, hq⟩
        go_simp
        refine hK _ ?_
        clear hK K
        refine wpQuiet_step (fun K hK => ?_)
        rw [if_pos (by rfl)]
        refine ⟨.tuple #[.int .i64 (joinV (lenE xs k) (lenE ys k)), .bool (joinB (lenE xs k) (lenE ys k))], fun wq hq => ?_, ?_⟩
        · simp [go_sem]
        go_simp
        refine hK _ ?_
        clear hK K
        refine wpQuiet_step (fun K hK => ?_)
        rw [if_pos (by rfl)]
        refine ⟨.int .i64 (joinV (lenE xs k) (lenE ys k)), fun wq hq => ?_, ?_⟩
        · simp [go_sem]
        go_simp
        refine hK _ ?_
        clear hK K
        refine wpQuiet_step (fun K hK => ?_)
        rw [if_pos (by rfl)]
        refine ⟨.bool (joinB (lenE xs k) (lenE ys k)), fun wq hq => ?_, ?_⟩
        · simp [go_sem]
        go_simp
        refine hK _ ?_
        clear hK K
        refine wpQuiet_step (fun K hK => ?_)
        rw [if_pos (by rfl)]
        refine ⟨.int .i64 (joinV (lenE xs k) (lenE ys k)), fun wq hq => ?_, ?_⟩
        · simp [go_sem]
        go_simp
        refine hK _ ?_
        clear hK K
        refine wpQuiet_step (fun K hK => ?_)
        rw [if_pos (by rfl)]
        refine ⟨.bool (joinB (lenE xs k) (lenE ys k)), fun wq hq => ?_, ?_⟩
        · simp [go_sem]
        go_simp
        refine hK _ ?_
        clear hK K
        refine wpQuiet_nil ?_
        intro W1 x1
        have HS1 := hide (HS.out.ext x1)
        clear ka0 ka1 ka2 ka3 ka4 kb0 kb1 kb2 kb3 kb4 ko0 HS HE x1
        have r0 := HS1.out.r 0 (by omega)
        have r1 := HS1.out.r 1 (by omega)
        have r2 := HS1.out.r 2 (by omega)
        have r3 := HS1.out.r 3 (by omega)
        have r4 := HS1.out.r 4 (by omega)
        have rf := fun o => HS1.out.ex.unfrozen (b := w.heap.size + 1 + 1) (by omega) o
        have of := fun o => HS1.out.ex.unfrozen (b := w.heap.size + 1 + 1 + 1) (by omega) o
        have o0 := HS1.out.o0
        have ok := HS1.out.oj (d - (k + 1)) (by omega)
        cases hj : joinB (lenE xs k) (lenE ys k)
        · have hnj : Hid ((dcJoins xs ys d) = false) := decide_eq_false (fun g => by have := g.1 k hlt; rw [hj] at this; cases this)
          go_wp2
          exact bodyPost_ret (v := .tuple #[.agg #[.int .i64 0, .int .i64 0, .int .i64 0, .int .i64 0, .int .i64 0], .bool false]) (by simp [results, Try.results56, go_sem, r0, r1, r2, r3, r4]) rfl ⟨0, 0, 0, 0, 0, by rw [hnj.out], fun g => absurd g (of_decide_eq_false hnj.out), by repeat (first | exact HS1.out.ex | with_reducible refine Ext.setCell ?_ (by show w.heap.size ≤ w.heap.size + 1 + 1; omega) _)⟩
        · have hf2 := hide (hfit.out.step hj)
          have St := hide (HS1.out.step hlt hd4)
          have hsub : ((d : Int) - ((k + 1 : Nat) : Int)) = ((d - (k + 1) : Nat) : Int) := by omega
          have hi0 : (0 : Int) ≤ ((d - (k + 1) : Nat) : Int) := Int.natCast_nonneg _
          have hi1 : ((d - (k + 1) : Nat) : Int) < 4 := by omega
          generalize joinV (lenE xs k) (lenE ys k) = jj at St ⊢
          go_wp2
          go_roundw
          · exact ⟨k + 1, by go_num, by omega, hf2, St.out⟩
          · simp [intOf]; omega
      · have hkk : k = d := by omega
        subst hkk
        have r0 := HS.out.r 0 (by omega)
        have r1 := HS.out.r 1 (by omega)
        have r2 := HS.out.r 2 (by omega)
        have r3 := HS.out.r 3 (by omega)
        have r4 := HS.out.r 4 (by omega)
        have rf := fun o => HE.out.unfrozen (b := w.heap.size + 1 + 1) (by omega) o
        have hsj : ∀ j, j < 4 → wr.cell? ⟨w.heap.size + 1 + 1 + 1, 1 + j, none⟩ = some (.int .i64 ((jn xs ys k).getD j 0)) := fun j hj => by
          rw [HS.out.oj j hj, jn_getD]
          by_cases e : j < k
          · rw [if_pos e, if_pos (by omega)]
          · rw [if_neg e, if_neg (by omega)]
        have c1 : wr.cell? ⟨w.heap.size + 1 + 1 + 1, 1, none⟩ = _ := hsj 0 (by omega)
        have c2 : wr.cell? ⟨w.heap.size + 1 + 1 + 1, 2, none⟩ = _ := hsj 1 (by omega)
        have c3 : wr.cell? ⟨w.heap.size + 1 + 1 + 1, 3, none⟩ = _ := hsj 2 (by omega)
        have c4 : wr.cell? ⟨w.heap.size + 1 + 1 + 1, 4, none⟩ = _ := hsj 3 (by omega)
        clear hsj
        have hgd : Hid ((dcJoins xs ys k) = decide (prod (jn xs ys k) ≤ 4096)) := by
          exact decide_eq_decide.2 ⟨fun g => g.2, fun g => ⟨hfit.out, g⟩⟩
        have hcn := hide (fun w => hcnt.out w hd4)
        generalize hq0 : (jn xs ys k).getD 0 0 = o0 at c1 hcn
        generalize hq1 : (jn xs ys k).getD 1 0 = o1 at c2 hcn
        generalize hq2 : (jn xs ys k).getD 2 0 = o2 at c3 hcn
        generalize hq3 : (jn xs ys k).getD 3 0 = o3 at c4 hcn
        generalize prod (jn xs ys k) = PP at hgd hcn
        have Hq0 := hide hq0
        have Hq1 := hide hq1
        have Hq2 := hide hq2
        have Hq3 := hide hq3
        clear hq0 hq1 hq2 hq3 hcnt ka0 ka1 ka2 ka3 ka4 kb0 kb1 kb2 kb3 kb4
        go_wp2_with fail
        go_region_with (go_at_call 61; refine (hcn.out _).mono ?_; rintro e w2 ⟨rfl, hw2⟩; have x2 : Ext wr w2 := (by rw [hw2]; repeat (first | with_reducible exact Ext.refl _ | with_reducible apply Ext.drew | with_reducible apply Ext.alloc)); clear hw2; have y0 := x2.box (b := w.heap.size + 1 + 1) (o := 0) (v := .int .i64 0) (by first | assumption | (simp; done) | (simp [go_sem]; done)); have y1 := x2.box (b := w.heap.size + 1 + 1) (o := 1) (v := .int .i64 0) (by first | assumption | (simp; done) | (simp [go_sem]; done)); have y2 := x2.box (b := w.heap.size + 1 + 1) (o := 2) (v := .int .i64 0) (by first | assumption | (simp; done) | (simp [go_sem]; done)); have y3 := x2.box (b := w.heap.size + 1 + 1) (o := 3) (v := .int .i64 0) (by first | assumption | (simp; done) | (simp [go_sem]; done)); have y4 := x2.box (b := w.heap.size + 1 + 1) (o := 4) (v := .int .i64 0) (by first | assumption | (simp; done) | (simp [go_sem]; done)); have z0 := x2.box (b := w.heap.size + 1 + 1 + 1) (o := 0) (v := .int .i64 (k : Int)) (by first | assumption | (simp; done) | (simp [go_sem]; done)); have z1 := x2.box (b := w.heap.size + 1 + 1 + 1) (o := 1) (v := .int .i64 o0) (by first | assumption | (simp; done) | (simp [go_sem]; done)); have z2 := x2.box (b := w.heap.size + 1 + 1 + 1) (o := 2) (v := .int .i64 o1) (by first | assumption | (simp; done) | (simp [go_sem]; done)); have z3 := x2.box (b := w.heap.size + 1 + 1 + 1) (o := 3) (v := .int .i64 o2) (by first | assumption | (simp; done) | (simp [go_sem]; done)); have z4 := x2.box (b := w.heap.size + 1 + 1 + 1) (o := 4) (v := .int .i64 o3) (by first | assumption | (simp; done) | (simp [go_sem]; done)); have yf : ∀ o, w2.frozen? ⟨w.heap.size + 1 + 1, o, none⟩ = false := fun o => (x2.fz _).trans (by first | exact rf o | (simp [rf]; done)); have HX2 := hide x2; clear x2)
        all_goals go_wp2
        all_goals exact bodyPost_ret (v := .tuple #[.agg #[.int .i64 k, .int .i64 o0, .int .i64 o1, .int .i64 o2, .int .i64 o3], .bool (decide (PP ≤ 4096))]) (by simp [results, Try.results56, go_sem, y0, y1, y2, y3, y4]) rfl ⟨_, o0, o1, o2, o3, by rw [hgd.out], fun _ => ⟨by rw [jn_len], Hq0.out.symm, Hq1.out.symm, Hq2.out.symm, Hq3.out.symm⟩, by repeat (first | exact HE.out.trans HX2.out | with_reducible refine Ext.setCell ?_ (by show w.heap.size ≤ w.heap.size + 1 + 1; omega) _ | with_reducible apply Ext.drew)⟩
  · go_enter Try.func56, Try.ntmps56
    go_wp2
    go_loopw [7] (fun i wr => ∃ k : Nat, i = .int .i64 ((k + 1 : Nat) : Int) ∧ k ≤ d ∧ Hid (Fits xs ys k) ∧ JS w wr (d : Int) a0 a1 a2 a3 m b0 b1 b2 b3 xs ys d k) (fun i _ => d + 1 - (intOf i).toNat)
    case atStart => exact ⟨0, rfl, by omega, fun j hj => absurd hj (Nat.not_lt_zero _), S0.out⟩
    case round =>
      obtain ⟨k, rfl, hk, hfit, hS⟩ := hrel
      have HS := hide hS
      have HE := hide hS.ex
      have ka0 := hS.a.1
      have ka1 := hS.a.2.1
      have ka2 := hS.a.2.2.1
      have ka3 := hS.a.2.2.2.1
      have ka4 := hS.a.2.2.2.2
      have kb0 := hS.b.1
      have kb1 := hS.b.2.1
      have kb2 := hS.b.2.2.1
      have kb3 := hS.b.2.2.2.1
      have kb4 := hS.b.2.2.2.2
      have ko0 := hS.o0
      clear hS
      by_cases hlt : k < d
      · have hk4 : k < 4 := by omega
        have hkd : ((k + 1 : Nat) : Int) ≤ (d : Int) := by omega
        go_wp2_with fail
        refine wp_region_quiet (C := Ext wr) (by kernel_rfl) (by kernel_rfl) ((Ext.refl wr).drew) ?_
        refine wpQuiet_step (fun K hK => ?_)
        rw [if_pos (by rfl)]
        refine ⟨(.agg #[.int .i64 (d : Int), .int .i64 a0, .int .i64 a1, .int .i64 a2, .int .i64 a3]), fun wq hq => ?_, ?_⟩
        · have q0 := hq.box ka0; have q1 := hq.box ka1; have q2 := hq.box ka2; have q3 := hq.box ka3; have q4 := hq.box ka4; simp [go_sem, q0, q1, q2, q3, q4]
        go_simp
        refine hK _ ?_
        clear hK K
        refine wpQuiet_step (fun K hK => ?_)
        rw [if_pos (by rfl)]
        refine ⟨.int .i64 ((k + 1 : Nat) : Int), fun wq hq => ?_, ?_⟩
        · simp [go_sem]
        go_simp
        refine hK _ ?_
        clear hK K
        refine wpQuiet_step (fun K hK => ?_)
        rw [if_pos (by rfl)]
        refine ⟨.int .i64 (lenE xs k), fun wq hq => ?_, ?_⟩
        · go_simp; refine (HA.out _ k hk4).mono ?_; rintro e wz ⟨rfl, xz⟩; exact ⟨rfl, hq.trans xz⟩
        go_simp
        refine hK _ ?_
        clear hK K
        refine wpQuiet_step (fun K hK => ?_)
        rw [if_pos (by rfl)]
        refine ⟨(.agg #[.int .i64 m, .int .i64 b0, .int .i64 b1, .int .i64 b2, .int .i64 b3]), fun wq hq => ?_, ?_⟩
        · have q0 := hq.box kb0; have q1 := hq.box kb1; have q2 := hq.box kb2; have q3 := hq.box kb3; have q4 := hq.box kb4; simp [go_sem, q0, q1, q2, q3, q4]
        go_simp
        refine hK _ ?_
        clear hK K
        refine wpQuiet_step (fun K hK => ?_)
        rw [if_pos (by rfl)]
        refine ⟨.int .i64 ((k + 1 : Nat) : Int), fun wq hq => ?_, ?_⟩
        · simp [go_sem]
        go_simp
        refine hK _ ?_
        clear hK K
        refine wpQuiet_step (fun K hK => ?_)
        rw [if_pos (by rfl)]
        refine ⟨.int .i64 (lenE ys k), fun wq hq => ?_, ?_⟩
        · go_simp; refine (HB.out _ k hk4).mono ?_; rintro e wz ⟨rfl, xz⟩; exact ⟨rfl, hq.trans xz⟩
        go_simp
        refine hK _ ?_
        clear hK K
        refine wpQuiet_step (fun K hK => ?_)
        rw [if_pos (by rfl)]
        refine ⟨.tuple #[.int .i64 (joinV (lenE xs k) (lenE ys k)), .bool (joinB (lenE xs k) (lenE ys k))], fun wq hq => ?_, ?_⟩
        · go_simp; refine (joinLengths_any _ _ _).mono ?_; rintro e wz ⟨rfl, rfl⟩; exact ⟨rfl, hq⟩
        go_simp
        refine hK _ ?_
        clear hK K
        refine wpQuiet_step (fun K hK => ?_)
        rw [if_pos (by rfl)]
        refine ⟨.tuple #[.int .i64 (joinV (lenE xs k) (lenE ys k)), .bool (joinB (lenE xs k) (lenE ys k))], fun wq hq => ?_, ?_⟩
        · simp [go_sem]
        go_simp
        refine hK _ ?_
        clear hK K
        refine wpQuiet_step (fun K hK => ?_)
        rw [if_pos (by rfl)]
        refine ⟨.int .i64 (joinV (lenE xs k) (lenE ys k)), fun wq hq => ?_, ?_⟩
        · simp [go_sem]
        go_simp
        refine hK _ ?_
        clear hK K
        refine wpQuiet_step (fun K hK => ?_)
        rw [if_pos (by rfl)]
        refine ⟨.bool (joinB (lenE xs k) (lenE ys k)), fun wq hq => ?_, ?_⟩
        · simp [go_sem]
        go_simp
        refine hK _ ?_
        clear hK K
        refine wpQuiet_step (fun K hK => ?_)
        rw [if_pos (by rfl)]
        refine ⟨.int .i64 (joinV (lenE xs k) (lenE ys k)), fun wq hq => ?_, ?_⟩
        · simp [go_sem]
        go_simp
        refine hK _ ?_
        clear hK K
        refine wpQuiet_step (fun K hK => ?_)
        rw [if_pos (by rfl)]
        refine ⟨.bool (joinB (lenE xs k) (lenE ys k)), fun wq hq => ?_, ?_⟩
        · simp [go_sem]
        go_simp
        refine hK _ ?_
        clear hK K
        refine wpQuiet_nil ?_
        intro W1 x1
        have HS1 := hide (HS.out.ext x1)
        clear ka0 ka1 ka2 ka3 ka4 kb0 kb1 kb2 kb3 kb4 ko0 HS HE x1
        have r0 := HS1.out.r 0 (by omega)
        have r1 := HS1.out.r 1 (by omega)
        have r2 := HS1.out.r 2 (by omega)
        have r3 := HS1.out.r 3 (by omega)
        have r4 := HS1.out.r 4 (by omega)
        have rf := fun o => HS1.out.ex.unfrozen (b := w.heap.size + 1 + 1) (by omega) o
        have of := fun o => HS1.out.ex.unfrozen (b := w.heap.size + 1 + 1 + 1) (by omega) o
        have o0 := HS1.out.o0
        have ok := HS1.out.oj (d - (k + 1)) (by omega)
        cases hj : joinB (lenE xs k) (lenE ys k)
        · have hnj : Hid ((dcJoins xs ys d) = false) := decide_eq_false (fun g => by have := g.1 k hlt; rw [hj] at this; cases this)
          go_wp2
          exact bodyPost_ret (v := .tuple #[.agg #[.int .i64 0, .int .i64 0, .int .i64 0, .int .i64 0, .int .i64 0], .bool false]) (by simp [results, Try.results56, go_sem, r0, r1, r2, r3, r4]) rfl ⟨0, 0, 0, 0, 0, by rw [hnj.out], fun g => absurd g (of_decide_eq_false hnj.out), by repeat (first | exact HS1.out.ex | with_reducible refine Ext.setCell ?_ (by show w.heap.size ≤ w.heap.size + 1 + 1; omega) _)⟩
        · have hf2 := hide (hfit.out.step hj)
          have St := hide (HS1.out.step hlt hd4)
          have hsub : ((d : Int) - ((k + 1 : Nat) : Int)) = ((d - (k + 1) : Nat) : Int) := by omega
          have hi0 : (0 : Int) ≤ ((d - (k + 1) : Nat) : Int) := Int.natCast_nonneg _
          have hi1 : ((d - (k + 1) : Nat) : Int) < 4 := by omega
          generalize joinV (lenE xs k) (lenE ys k) = jj at St ⊢
          go_wp2
          go_roundw
          · exact ⟨k + 1, by go_num, by omega, hf2, St.out⟩
          · simp [intOf]; omega
      · have hkk : k = d := by omega
        subst hkk
        have r0 := HS.out.r 0 (by omega)
        have r1 := HS.out.r 1 (by omega)
        have r2 := HS.out.r 2 (by omega)
        have r3 := HS.out.r 3 (by omega)
        have r4 := HS.out.r 4 (by omega)
        have rf := fun o => HE.out.unfrozen (b := w.heap.size + 1 + 1) (by omega) o
        have hsj : ∀ j, j < 4 → wr.cell? ⟨w.heap.size + 1 + 1 + 1, 1 + j, none⟩ = some (.int .i64 ((jn xs ys k).getD j 0)) := fun j hj => by
          rw [HS.out.oj j hj, jn_getD]
          by_cases e : j < k
          · rw [if_pos e, if_pos (by omega)]
          · rw [if_neg e, if_neg (by omega)]
        have c1 : wr.cell? ⟨w.heap.size + 1 + 1 + 1, 1, none⟩ = _ := hsj 0 (by omega)
        have c2 : wr.cell? ⟨w.heap.size + 1 + 1 + 1, 2, none⟩ = _ := hsj 1 (by omega)
        have c3 : wr.cell? ⟨w.heap.size + 1 + 1 + 1, 3, none⟩ = _ := hsj 2 (by omega)
        have c4 : wr.cell? ⟨w.heap.size + 1 + 1 + 1, 4, none⟩ = _ := hsj 3 (by omega)
        clear hsj
        have hgd : Hid ((dcJoins xs ys k) = decide (prod (jn xs ys k) ≤ 4096)) := by
          exact decide_eq_decide.2 ⟨fun g => g.2, fun g => ⟨hfit.out, g⟩⟩
        have hcn := hide (fun w => hcnt.out w hd4)
        generalize hq0 : (jn xs ys k).getD 0 0 = o0 at c1 hcn
        generalize hq1 : (jn xs ys k).getD 1 0 = o1 at c2 hcn
        generalize hq2 : (jn xs ys k).getD 2 0 = o2 at c3 hcn
        generalize hq3 : (jn xs ys k).getD 3 0 = o3 at c4 hcn
        generalize prod (jn xs ys k) = PP at hgd hcn
        have Hq0 := hide hq0
        have Hq1 := hide hq1
        have Hq2 := hide hq2
        have Hq3 := hide hq3
        clear hq0 hq1 hq2 hq3 hcnt ka0 ka1 ka2 ka3 ka4 kb0 kb1 kb2 kb3 kb4
        go_wp2_with fail
        go_region_with (go_at_call 61; refine (hcn.out _).mono ?_; rintro e w2 ⟨rfl, hw2⟩; have x2 : Ext wr w2 := (by rw [hw2]; repeat (first | with_reducible exact Ext.refl _ | with_reducible apply Ext.drew | with_reducible apply Ext.alloc)); clear hw2; have y0 := x2.box (b := w.heap.size + 1 + 1) (o := 0) (v := .int .i64 0) (by first | assumption | (simp; done) | (simp [go_sem]; done)); have y1 := x2.box (b := w.heap.size + 1 + 1) (o := 1) (v := .int .i64 0) (by first | assumption | (simp; done) | (simp [go_sem]; done)); have y2 := x2.box (b := w.heap.size + 1 + 1) (o := 2) (v := .int .i64 0) (by first | assumption | (simp; done) | (simp [go_sem]; done)); have y3 := x2.box (b := w.heap.size + 1 + 1) (o := 3) (v := .int .i64 0) (by first | assumption | (simp; done) | (simp [go_sem]; done)); have y4 := x2.box (b := w.heap.size + 1 + 1) (o := 4) (v := .int .i64 0) (by first | assumption | (simp; done) | (simp [go_sem]; done)); have z0 := x2.box (b := w.heap.size + 1 + 1 + 1) (o := 0) (v := .int .i64 (k : Int)) (by first | assumption | (simp; done) | (simp [go_sem]; done)); have z1 := x2.box (b := w.heap.size + 1 + 1 + 1) (o := 1) (v := .int .i64 o0) (by first | assumption | (simp; done) | (simp [go_sem]; done)); have z2 := x2.box (b := w.heap.size + 1 + 1 + 1) (o := 2) (v := .int .i64 o1) (by first | assumption | (simp; done) | (simp [go_sem]; done)); have z3 := x2.box (b := w.heap.size + 1 + 1 + 1) (o := 3) (v := .int .i64 o2) (by first | assumption | (simp; done) | (simp [go_sem]; done)); have z4 := x2.box (b := w.heap.size + 1 + 1 + 1) (o := 4) (v := .int .i64 o3) (by first | assumption | (simp; done) | (simp [go_sem]; done)); have yf : ∀ o, w2.frozen? ⟨w.heap.size + 1 + 1, o, none⟩ = false := fun o => (x2.fz _).trans (by first | exact rf o | (simp [rf]; done)); have HX2 := hide x2; clear x2)
        all_goals go_wp2
        all_goals exact bodyPost_ret (v := .tuple #[.agg #[.int .i64 k, .int .i64 o0, .int .i64 o1, .int .i64 o2, .int .i64 o3], .bool (decide (PP ≤ 4096))]) (by simp [results, Try.results56, go_sem, y0, y1, y2, y3, y4]) rfl ⟨_, o0, o1, o2, o3, by rw [hgd.out], fun _ => ⟨by rw [jn_len], Hq0.out.symm, Hq1.out.symm, Hq2.out.symm, Hq3.out.symm⟩, by repeat (first | exact HE.out.trans HX2.out | with_reducible refine Ext.setCell ?_ (by show w.heap.size ≤ w.heap.size + 1 + 1; omega) _ | with_reducible apply Ext.drew)⟩
end Go.Proofs.Ytiekkninnjffpaa
