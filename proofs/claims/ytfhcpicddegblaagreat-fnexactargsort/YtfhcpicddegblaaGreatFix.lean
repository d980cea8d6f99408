import Derived.Test.YtfhcpicddegblaaGreatM2
import Derived.Deep.RegionWith
namespace Go.Proofs.YtfhcpicddegblaaGreat
open Go.Value renaming int → O, agg → γ
open Go.IntKind renaming i64 → ι
open Go.Obj renaming cells → χ
set_option maxRecDepth 100000
set_option maxHeartbeats 8000000
open Go.ChangeShapes Go.RowKit
set_option linter.unusedSimpArgs false
set_option linter.unusedVariables false
structure FxS (w wr : World) (xs : List Int) (k : Nat) : Prop where
 r : ∀ j, j < 5 → wr.cell? ⟨w.heap.size, j, none⟩ = some (O ι 0)
 s0 : wr.cell? ⟨w.heap.size + 1, 0, none⟩ = some (O ι xs.length)
 sj : ∀ j, j < 4 → wr.cell? ⟨w.heap.size + 1, 1 + j, none⟩ = some (O ι (if j < k then xs.getD j 0 else 0))
 ex : Ext w wr
 sz : wr.heap.size = w.heap.size + 2
theorem FxS.step {w wr : World} {xs : List Int} {k : Nat} (h : FxS w wr xs k) (hk : k < 4) : FxS w (wr.setCell ⟨w.heap.size + 1, 1 + k, none⟩ (O ι (xs.getD k 0))) xs (k + 1) := by
 have m : Mut (w.heap.size + 1) wr (wr.setCell ⟨w.heap.size + 1, 1 + k, none⟩ (O ι (xs.getD k 0))) := (Mut.refl _ _).setCell _ _
 refine ⟨fun j hj => m.box (by omega) (h.r j hj), ?_, fun j hj => ?_, h.ex.setCell (Nat.le_succ _) _, by simpa [World.setCell] using h.sz⟩
 ·have := h.s0
  rw [World.cell?_setCell_other _ _ _ _ (by intro h; simp only [Addr.mk.injEq] at h; omega)]; exact this
 ·by_cases e : j = k
  ·subst e
   rw [if_pos (by omega)]
   exact World.cell?_setCell_same _ _ _ (h.sj j hj)
  ·rw [World.cell?_setCell_other _ _ _ _ (by intro h; simp only [Addr.mk.injEq] at h; omega), h.sj j hj]
   by_cases h1 : j < k
   ·rw [if_pos h1, if_pos (by omega)]
   ·rw [if_neg h1, if_neg (by omega)]
def FixOk (w : World) (xs : List Int) (e : Ending) (w' : World) : Prop :=
 ∃ d a b c f : Int, e = .returned (.tuple #[γ #[O ι d, O ι a, O ι b, O ι c, O ι f], .bool (goodB xs)]) ∧
  (Good xs → d = xs.length ∧ a = xs.getD 0 0 ∧ b = xs.getD 1 0 ∧ c = xs.getD 2 0 ∧ f = xs.getD 3 0) ∧ Ext w w'
theorem FxS.start (w : World) (xs : List Int) : FxS w ((w.alloc (χ #[O ι 0, O ι 0, O ι 0, O ι 0, O ι 0] 81)).alloc (χ #[O ι xs.length, O ι 0, O ι 0, O ι 0, O ι 0] 81)) xs 0 := by
 refine ⟨fun j hj => ?_, by simp, fun j hj => ?_, ((Ext.refl w).alloc _ _).alloc _ _, by simp⟩
 ·obtain rfl | rfl | rfl | rfl | rfl : j = 0 ∨ j = 1 ∨ j = 2 ∨ j = 3 ∨ j = 4 := by omega
  all_goals simp
 ·obtain rfl | rfl | rfl | rfl : j = 0 ∨ j = 1 ∨ j = 2 ∨ j = 3 := by omega
  all_goals simp
theorem zr5 {w : World} {v : Value} {xs : List Int} (h : Ints w v xs) (hl : xs.length ≤ 1000000000000) :
  Calls Tryz.prog 115 #[v] w fun e w' => FixOk w xs e w' := by
 obtain ⟨sa, cap, rfl, hx⟩ := h
 have HX := hide hx
 clear hx
 by_cases h4 : xs.length ≤ 4
 ·have h4' : (xs.length : Int) ≤ 4 := by omega
  have S0 := hide (FxS.start w xs)
  go_enter Tryz.func115, Tryz.ntmps115
  go_wp2
  go_loopw [16] (fun i wr => ∃ k : Nat, i = O ι k ∧ k ≤ xs.length ∧ Hid (InR xs k) ∧ FxS w wr xs k) (fun i _ => xs.length - (intOf i).toNat)
  case atStart => exact ⟨0, rfl, by omega, fun j hj => absurd hj (Nat.not_lt_zero _), S0.out⟩
  case round =>
   obtain ⟨k, rfl, hk, hin, hS⟩ := hrel
   have HS := hide hS
   clear hS
   have r0 := HS.out.r 0 (by omega)
   have r1 := HS.out.r 1 (by omega)
   have r2 := HS.out.r 2 (by omega)
   have r3 := HS.out.r 3 (by omega)
   have r4 := HS.out.r 4 (by omega)
   have rf := fun o => HS.out.ex.unfrozen (b := w.heap.size) (Nat.le_refl _) o
   have sf := fun o => HS.out.ex.unfrozen (b := w.heap.size + 1) (Nat.le_succ _) o
   by_cases hlt : k < xs.length
   ·rcases HX.out with h0 | ⟨b, off, rfl, hrow⟩
    ·rw [h0] at hlt; simp at hlt
    have q0 := HS.out.ex.box (hrow k hlt)
    have hk0 : (0 : Int) ≤ (k : Int) := Int.natCast_nonneg _
    have hk1 : (k : Int) < (xs.length : Int) := by omega
    have hk4 : (k : Int) < 4 := by omega
    by_cases hr : 0 ≤ xs.getD k 0 ∧ xs.getD k 0 ≤ 4096
    ·have hin2 : Hid (InR xs (k + 1)) := hin.out.step hr
     have St := HS.out.step (k := k) (by omega)
     have sk := HS.out.sj k (by omega)
     generalize xs.getD k 0 = x at q0 hr St
     have HSt := hide St
     clear St hrow
     have hlo : ¬ x < 0 := by omega
     have hhi : ¬ 4096 < x := by omega
     go_wp2
     go_roundw
     ·exact ⟨k + 1, by go_num, by omega, hin2, HSt.out⟩
     ·simp [intOf]; omega
    ·have hng : Hid (goodB xs = false) := decide_eq_false (fun g => hr (g.2.1 k hlt))
     generalize xs.getD k 0 = x at q0 hr
     clear hrow
     have hE : Ext w ((((((wr.setCell ⟨w.heap.size, 0, none⟩ (O ι 0)).setCell ⟨w.heap.size, 1, none⟩ (O ι 0)).setCell ⟨w.heap.size, 2, none⟩ (O ι 0)).setCell ⟨w.heap.size, 3, none⟩ (O ι 0)).setCell ⟨w.heap.size, 4, none⟩ (O ι 0))) := ((((HS.out.ex.setCell (Nat.le_refl _) _).setCell (Nat.le_refl _) _).setCell (Nat.le_refl _) _).setCell (Nat.le_refl _) _).setCell (Nat.le_refl _) _
     have HE := hide hE
     clear hE
     have hor : x < 0 ∨ (¬ x < 0 ∧ 4096 < x) := by omega
     rcases hor with hlo | ⟨hlo, hhi⟩
     all_goals
      go_wp2
      exact bodyPost_ret (v := .tuple #[γ #[O ι 0, O ι 0, O ι 0, O ι 0, O ι 0], .bool false]) (by simp [results, Tryz.results115, go_sem, r0, r1, r2, r3, r4]) rfl ⟨0, 0, 0, 0, 0, by rw [hng.out], fun g => absurd (decide_eq_true g) (by rw [show decide (Good xs) = false from hng.out]; simp), HE.out⟩
   ·have hkk : k = xs.length := by omega
    subst hkk
    have c0 := HS.out.s0
    have hsj : ∀ j, j < 4 → wr.cell? ⟨w.heap.size + 1, 1 + j, none⟩ = some (O ι (xs.getD j 0)) := fun j hj => by
     rw [HS.out.sj j hj]
     by_cases e : j < xs.length
     ·rw [if_pos e]
     ·rw [if_neg e, List.getD_eq_getElem?_getD, List.getElem?_eq_none (by omega)]; rfl
    have c1 : wr.cell? ⟨w.heap.size + 1, 1, none⟩ = _ := hsj 0 (by omega)
    have c2 : wr.cell? ⟨w.heap.size + 1, 2, none⟩ = _ := hsj 1 (by omega)
    have c3 : wr.cell? ⟨w.heap.size + 1, 3, none⟩ = _ := hsj 2 (by omega)
    have c4 : wr.cell? ⟨w.heap.size + 1, 4, none⟩ = _ := hsj 3 (by omega)
    clear hsj
    have hgd : Hid (goodB xs = decide (prod xs ≤ 4096)) := by
     show goodB xs = _
     exact decide_eq_decide.2 ⟨fun g => g.2.2, fun g => ⟨h4, hin.out, g⟩⟩
    have hcnt := hide (fun w => zp2 w xs h4 hin.out)
    unfold shp at hcnt
    have HE := hide HS.out.ex
    generalize ha : xs.getD 0 0 = a at c1 hcnt
    have Ha := hide ha
    clear ha
    generalize hb : xs.getD 1 0 = b at c2 hcnt
    have Hb := hide hb
    clear hb
    generalize hc : xs.getD 2 0 = c at c3 hcnt
    have Hc := hide hc
    clear hc
    generalize hd : xs.getD 3 0 = d at c4 hcnt
    have Hd := hide hd
    clear hd
    go_wp2_with fail
    go_region_with (go_at_call 81; refine (hcnt.out _).mono ?_; rintro e w2 ⟨rfl, hw2⟩; have x2 : Ext wr w2 := (by rw [hw2]; repeat (first | with_reducible exact Ext.refl _ | with_reducible apply Ext.drew | with_reducible apply Ext.alloc)); clear hw2; have y0 := x2.box (b := w.heap.size) (o := 0) (v := O ι 0) (by first | assumption | (simp; done) | (simp [go_sem]; done)); have y1 := x2.box (b := w.heap.size) (o := 1) (v := O ι 0) (by first | assumption | (simp; done) | (simp [go_sem]; done)); have y2 := x2.box (b := w.heap.size) (o := 2) (v := O ι 0) (by first | assumption | (simp; done) | (simp [go_sem]; done)); have y3 := x2.box (b := w.heap.size) (o := 3) (v := O ι 0) (by first | assumption | (simp; done) | (simp [go_sem]; done)); have y4 := x2.box (b := w.heap.size) (o := 4) (v := O ι 0) (by first | assumption | (simp; done) | (simp [go_sem]; done)); have z0 := x2.box (b := w.heap.size + 1) (o := 0) (v := O ι (xs.length : Int)) (by first | assumption | (simp; done) | (simp [go_sem]; done)); have z1 := x2.box (b := w.heap.size + 1) (o := 1) (v := O ι a) (by first | assumption | (simp; done) | (simp [go_sem]; done)); have z2 := x2.box (b := w.heap.size + 1) (o := 2) (v := O ι b) (by first | assumption | (simp; done) | (simp [go_sem]; done)); have z3 := x2.box (b := w.heap.size + 1) (o := 3) (v := O ι c) (by first | assumption | (simp; done) | (simp [go_sem]; done)); have z4 := x2.box (b := w.heap.size + 1) (o := 4) (v := O ι d) (by first | assumption | (simp; done) | (simp [go_sem]; done)); have yf : ∀ o, w2.frozen? ⟨w.heap.size, o, none⟩ = false := fun o => (x2.fz _).trans (by first | exact rf o | (simp [rf]; done)); have HX2 := hide x2; clear x2)
    all_goals go_wp2
    all_goals exact bodyPost_ret (v := .tuple #[γ #[O ι xs.length, O ι a, O ι b, O ι c, O ι d], .bool (decide (prod xs ≤ 4096))]) (by simp [results, Tryz.results115, go_sem, y0, y1, y2, y3, y4]) rfl ⟨_, a, b, c, d, by rw [hgd.out], fun _ => ⟨rfl, Ha.out.symm, Hb.out.symm, Hc.out.symm, Hd.out.symm⟩, by repeat (first | exact HE.out.trans HX2.out | with_reducible refine Ext.setCell ?_ (Nat.le_refl _) _ | with_reducible apply Ext.drew)⟩
 ·have hng : Hid (goodB xs = false) := decide_eq_false (fun g => h4 g.1)
  have h4' : 4 < (xs.length : Int) := by omega
  go_enter Tryz.func115, Tryz.ntmps115
  go_wp2
  exact bodyPost_ret (v := .tuple #[γ #[O ι 0, O ι 0, O ι 0, O ι 0, O ι 0], .bool false]) (by simp [results, Tryz.results115, go_sem]) rfl ⟨0, 0, 0, 0, 0, by rw [hng.out], fun g => absurd g.1 h4, by repeat (first | with_reducible exact Ext.refl _ | with_reducible refine Ext.setCell ?_ (by simp; try omega) _ | with_reducible apply Ext.alloc)⟩
end Go.Proofs.YtfhcpicddegblaaGreat
