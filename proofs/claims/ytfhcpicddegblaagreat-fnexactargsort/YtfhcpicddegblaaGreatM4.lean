import Derived.Test.YtfhcpicddegblaaGreatSpecVV
import Derived.Deep.RegionWith
import Derived.Deep.RegionHeld3
import Derived.Deep.RegionHeldLaw
import Derived.Test.YtfhcpicddegblaaGreatM3
import Derived.RangeFuncNested
import Derived.RangeFuncBound
import Derived.RangeFuncCalls
import Derived.RangeFuncLeaves
import Derived.Shelf.Abstract
import Derived.Shelf.RegionOpen
import Derived.WalkKit
import Derived.OwnWalkIn
import Derived.TacticsInMore
import Derived.LoopNIn
import Derived.LoopIn
set_option linter.unusedSimpArgs false
set_option linter.unusedVariables false
set_option maxRecDepth 100000
set_option maxHeartbeats 8000000
namespace Go.Proofs.YtfhcpicddegblaaGreat
open Go.Value renaming int → O, slice → σ, pointer → π, agg → γ
open Go.IntKind renaming i64 → ι
open Go.Obj renaming cells → χ
section
open Go.ChangeShapes Go.RowKit
def vw (xs ss : List Int) (off : Int) : Array Value := #[O ι xs.length, O ι (xs.getD 0 0), O ι (xs.getD 1 0), O ι (xs.getD 2 0), O ι (xs.getD 3 0), O ι (ss.getD 0 0), O ι (ss.getD 1 0), O ι (ss.getD 2 0), O ι (ss.getD 3 0), O ι off]
def inB (xs ss : List Int) (off : Int) : Bool := decide (prod xs = 0 ∨ (0 ≤ least xs ss off ∧ most xs ss off < 4096))
theorem zu8 : ∀ (xs ss : List Int) (n s a : Int), xs.length = ss.length → least (xs ++ [n]) (ss ++ [s]) a = least xs ss a + min (s * (n - 1)) 0
 | [], [], n, s, a, _ => by simp [least]
 | [], _ :: _, n, s, a, h => by simp at h
 | _ :: _, [], n, s, a, h => by simp at h
 | m :: ms, t :: ts, n, s, a, h => by
  simp only [List.cons_append, least]
  exact zu8 ms ts n s _ (by simpa using h)
theorem zz10 : ∀ (xs ss : List Int) (n s a : Int), xs.length = ss.length → most (xs ++ [n]) (ss ++ [s]) a = most xs ss a + max (s * (n - 1)) 0
 | [], [], n, s, a, _ => by simp [most]
 | [], _ :: _, n, s, a, h => by simp at h
 | _ :: _, [], n, s, a, h => by simp at h
 | m :: ms, t :: ts, n, s, a, h => by
  simp only [List.cons_append, most]
  exact zz10 ms ts n s _ (by simpa using h)
theorem ze2 (xs : List Int) (k : Nat) (hk : k < xs.length) : xs.take (k + 1) = xs.take k ++ [xs.getD k 0] := by
 rw [List.take_add_one, List.getElem?_eq_getElem hk, List.getD_eq_getElem?_getD, List.getElem?_eq_getElem hk]; rfl
theorem zm5 (xs ss : List Int) (off : Int) (k : Nat) (hk : k < xs.length) (hl : ss.length = xs.length) :
  least (xs.take (k + 1)) (ss.take (k + 1)) off = least (xs.take k) (ss.take k) off + min (ss.getD k 0 * (xs.getD k 0 - 1)) 0 := by
 rw [ze2 xs k hk, ze2 ss k (by omega), zu8 _ _ _ _ _ (by simp; omega)]
theorem zc7 (xs ss : List Int) (off : Int) (k : Nat) (hk : k < xs.length) (hl : ss.length = xs.length) :
  most (xs.take (k + 1)) (ss.take (k + 1)) off = most (xs.take k) (ss.take k) off + max (ss.getD k 0 * (xs.getD k 0 - 1)) 0 := by
 rw [ze2 xs k hk, ze2 ss k (by omega), zz10 _ _ _ _ _ (by simp; omega)]
theorem za20 {n s : Int} (hn : 0 ≤ n ∧ n ≤ 4096) (hs : -4096 ≤ s ∧ s ≤ 4096) : -16777216 ≤ s * (n - 1) ∧ s * (n - 1) ≤ 16777216 := by
 by_cases h : n = 0
 ·subst h; omega
 ·have := zz1 (n - 1) 4096 s (by omega) (by omega)
  rw [Int.mul_comm s (n - 1)]
  omega
theorem zk14 (xs ss : List Int) (off : Int) (hl : ss.length = xs.length) (hr : InR xs xs.length) (hs : InS ss ss.length) (ho : 0 ≤ off ∧ off ≤ 4096) :
  ∀ k, k ≤ xs.length → (-((k : Int) * 16777216) ≤ least (xs.take k) (ss.take k) off ∧ least (xs.take k) (ss.take k) off ≤ 4096 ∧ 0 ≤ most (xs.take k) (ss.take k) off ∧ most (xs.take k) (ss.take k) off ≤ 4096 + (k : Int) * 16777216)
 | 0, _ => by simp [least, most]; omega
 | k + 1, hk => by
  have ih := zk14 xs ss off hl hr hs ho k (by omega)
  rw [zm5 xs ss off k (by omega) hl, zc7 xs ss off k (by omega) hl]
  have := za20 (hr k (by omega)) (hs k (by omega))
  omega
theorem zb16 (w : World) (xs ss : List Int) (off : Int) (h4 : xs.length ≤ 4) (hr : InR xs xs.length) (hl : ss.length = xs.length) (hs : InS ss ss.length) (ho : 0 ≤ off ∧ off ≤ 4096) :
  Calls Tryz.prog 78 #[γ (vw xs ss off), O ι 4096] w fun e w' => e = .returned (.bool (inB xs ss off)) ∧ Ext w w' := by
 have hcnt := hide (fun W => zp2 W xs h4 hr)
 have x0 : Ext w ((w.alloc (χ (vw xs ss off) 83)).alloc (χ (shp xs) 81)) := ((Ext.refl w).alloc _ _).alloc _ _
 have y0 : Ext (w.alloc (χ (vw xs ss off) 83)) ((w.alloc (χ (vw xs ss off) 83)).alloc (χ (shp xs) 81)) := (Ext.refl _).alloc _ _
 have n1 := fun j => zd w (vw xs ss off) 83 w.heap.size rfl j
 have f0 := y0.box (n1 0)
 have f9 := y0.box (n1 9)
 have fl : ∀ j, j < 4 → ((w.alloc (χ (vw xs ss off) 83)).alloc (χ (shp xs) 81)).cell? ⟨w.heap.size, 1 + j, none⟩ = some (O ι (xs.getD j 0)) := fun j hj => by
  obtain rfl | rfl | rfl | rfl : j = 0 ∨ j = 1 ∨ j = 2 ∨ j = 3 := by omega
  exact y0.box (n1 1)
  exact y0.box (n1 2)
  exact y0.box (n1 3)
  exact y0.box (n1 4)
 have fs : ∀ j, j < 4 → ((w.alloc (χ (vw xs ss off) 83)).alloc (χ (shp xs) 81)).cell? ⟨w.heap.size, 5 + j, none⟩ = some (O ι (ss.getD j 0)) := fun j hj => by
  obtain rfl | rfl | rfl | rfl : j = 0 ∨ j = 1 ∨ j = 2 ∨ j = 3 := by omega
  exact y0.box (n1 5)
  exact y0.box (n1 6)
  exact y0.box (n1 7)
  exact y0.box (n1 8)
 have X0 := hide x0
 have FL := hide fl
 have FxS' := hide fs
 clear x0 y0 n1 fl fs
 unfold shp vw at *
 generalize xs.getD 0 0 = a0 at *
 generalize xs.getD 1 0 = a1 at *
 generalize xs.getD 2 0 = a2 at *
 generalize xs.getD 3 0 = a3 at *
 generalize ss.getD 0 0 = b0 at *
 generalize ss.getD 1 0 = b1 at *
 generalize ss.getD 2 0 = b2 at *
 generalize ss.getD 3 0 = b3 at *
 have h4' : (xs.length : Int) ≤ 4 := by omega
 have Hl := hide hl
 have HR := hide hr
 have HS := hide hs
 clear hl hr hs
 go_enter Tryz.func78, Tryz.ntmps78
 go_wp2_with fail
 refine (hcnt.out _).mono ?_
 rintro e w1 ⟨rfl, rfl⟩
 by_cases hp : prod xs = 0
 ·have hyes : Hid (inB xs ss off = true) := decide_eq_true (Or.inl hp)
  rw [hp]
  go_wp2
  go_ret
  exact ⟨zm hyes.out.symm, X0.out⟩
 ·have hpn : (prod xs == 0) = false := by simp [hp]
  have hin : Hid (inB xs ss off = decide (0 ≤ least xs ss off ∧ most xs ss off < 4096)) := decide_eq_decide.2 ⟨fun q => q.resolve_left hp, Or.inr⟩
  generalize prod xs = P at hpn ⊢
  go_wp2_with fail
  generalize hW1 : (w.alloc (χ #[O ι xs.length, O ι a0, O ι a1, O ι a2, O ι a3, O ι b0, O ι b1, O ι b2, O ι b3, O ι off] 83)).alloc (χ #[O ι xs.length, O ι a0, O ι a1, O ι a2, O ι a3] 81) = W1 at X0 FL FxS' f0 f9 ⊢
  clear hW1
  have g0 : W1.cell? ⟨w.heap.size, 0, none⟩ = some (O ι xs.length) := f0
  have g9 : W1.cell? ⟨w.heap.size, 9, none⟩ = some (O ι off) := f9
  clear f0 f9
  go_region
  all_goals go_wp2
  go_loopw [5, 6, 24] (fun a b i wr => ∃ k : Nat, i = O ι k ∧ a = O ι (least (xs.take k) (ss.take k) off) ∧ b = O ι (most (xs.take k) (ss.take k) off) ∧ k ≤ xs.length ∧ Ext W1 wr) (fun a b i _ => xs.length - (intOf i).toNat)
  case atStart => exact ⟨0, rfl, by simp [least], by simp [most], by omega, (Ext.refl W1).drew⟩
  case round =>
   obtain ⟨k, rfl, rfl, rfl, hk, hx⟩ := hrel
   have HX := hide hx
   clear hx
   have hb := zk14 xs ss off Hl.out HR.out HS.out ho k hk
   have hk4 : (k : Int) * 16777216 ≤ 67108864 := by omega
   by_cases hlt : k < xs.length
   ·have q0 := HX.out.box (FL.out k (by omega))
    have q1 := HX.out.box (FxS'.out k (by omega))
    have hk0 : (0 : Int) ≤ (k : Int) := Int.natCast_nonneg _
    have hk1 : (k : Int) < (xs.length : Int) := by omega
    have hk44 : (k : Int) < 4 := by omega
    have hlt1 := zm5 xs ss off k hlt Hl.out
    have hmt1 := zc7 xs ss off k hlt Hl.out
    have hfar := za20 (HR.out k hlt) (HS.out k (by have := Hl.out; omega))
    have hnr := HR.out k hlt
    generalize xs.getD k 0 = n at q0 hlt1 hmt1 hfar hnr
    generalize ss.getD k 0 = s at q1 hlt1 hmt1 hfar
    generalize hA : least (xs.take (k + 1)) (ss.take (k + 1)) off = A at hlt1
    generalize hB : most (xs.take (k + 1)) (ss.take (k + 1)) off = B at hmt1
    generalize least (xs.take k) (ss.take k) off = a at hlt1 hb ⊢
    generalize most (xs.take k) (ss.take k) off = b at hmt1 hb ⊢
    have HA := hide hA
    have HB := hide hB
    clear hA hB
    subst hlt1
    subst hmt1
    go_wp2
    refine ⟨⟨k + 1, by go_num, ?_, ?_, by omega, HX.out⟩, by simp [intOf]; omega⟩
    ·rw [HA.out]
     have e : (if 0 < s * (n - 1) then 0 else s * (n - 1)) = min (s * (n - 1)) 0 := by split <;> omega
     rw [e]
    ·rw [HB.out]
     have e : (if s * (n - 1) < 0 then 0 else s * (n - 1)) = max (s * (n - 1)) 0 := by split <;> omega
     rw [e]
   ·have hkk : k = xs.length := by omega
    subst hkk
    have e1 : xs.take xs.length = xs := List.take_length
    have e2 : ss.take xs.length = ss := List.take_of_length_le (by have := Hl.out; omega)
    rw [e1, e2]
    clear hb e1 e2
    generalize least xs ss off = a at hin ⊢
    generalize most xs ss off = b at hin ⊢
    by_cases ha : 0 ≤ a
    ·by_cases hb : b < 4096
     ·have hv : Hid (inB xs ss off = true) := by show inB xs ss off = true; rw [hin.out]; exact decide_eq_true ⟨ha, hb⟩
      go_wp2
      go_ret
      exact ⟨by rw [hv.out]; first | rfl | simp [ha, hb], X0.out.trans HX.out⟩
     ·have hv : Hid (inB xs ss off = false) := by show inB xs ss off = false; rw [hin.out]; exact decide_eq_false (fun q => hb q.2)
      go_wp2
      go_ret
      exact ⟨by rw [hv.out]; first | rfl | simp [ha, hb], X0.out.trans HX.out⟩
    ·have hv : Hid (inB xs ss off = false) := by show inB xs ss off = false; rw [hin.out]; exact decide_eq_false (fun q => ha q.1)
     go_wp2
     go_ret
     exact ⟨by rw [hv.out]; first | rfl | simp [ha], X0.out.trans HX.out⟩
def FixVOk (w : World) (xs ss : List Int) (off : Int) (e : Ending) (w' : World) : Prop :=
 ∃ A : Array Value, e = .returned (.tuple #[.agg A, .bool (dcValidV xs ss off)]) ∧ (ValidV xs ss off → A = vw xs ss off) ∧ (∃ a0 a1 a2 a3 a4 a5 a6 a7 a8 a9 : Int, A = #[O ι a0, O ι a1, O ι a2, O ι a3, O ι a4, O ι a5, O ι a6, O ι a7, O ι a8, O ι a9]) ∧ Ext w w'
theorem zw15 {w w' : World} {xs ss : List Int} {off : Int} (h : (dcValidV xs ss off) = false) (x : Ext w w') : FixVOk w xs ss off (.returned (.tuple #[γ #[O ι 0, O ι 0, O ι 0, O ι 0, O ι 0, O ι 0, O ι 0, O ι 0, O ι 0, O ι 0], .bool false])) w' :=
 ⟨_, by rw [h], fun q => absurd q (of_decide_eq_false h), ⟨0, 0, 0, 0, 0, 0, 0, 0, 0, 0, rfl⟩, x⟩
theorem zy27 {W : World} {R : Nat} (h : ∀ j, j < 10 → W.cell? ⟨R, j, none⟩ = some (O ι 0)) (i : Nat) : ∀ j, j < 10 → (W.setCell ⟨R, i, none⟩ (O ι 0)).cell? ⟨R, j, none⟩ = some (O ι 0) := fun j hj => by
 by_cases e : i = j
 ·subst e; exact World.cell?_setCell_same _ _ _ (h i hj)
 ·rw [World.cell?_setCell_other _ _ _ _ (by intro h; simp only [Addr.mk.injEq] at h; omega)]; exact h j hj
structure FVS (w wr : World) (B : Nat) (vS vT : Value) (xs ss : List Int) (off : Int) (k : Nat) : Prop where
 v1 : wr.cell? ⟨w.heap.size, 1, none⟩ = some vT
 r : ∀ j, j < 10 → wr.cell? ⟨w.heap.size + 1, j, none⟩ = some (O ι 0)
 f0 : wr.cell? ⟨B, 0, none⟩ = some (O ι xs.length)
 fl : ∀ j, j < 4 → wr.cell? ⟨B, 1 + j, none⟩ = some (O ι (xs.getD j 0))
 fs : ∀ j, j < 4 → wr.cell? ⟨B, 5 + j, none⟩ = some (O ι (if j < k then ss.getD j 0 else 0))
 f9 : wr.cell? ⟨B, 9, none⟩ = some (O ι off)
 ex : Ext w wr
theorem FVS.step {w wr : World} {B : Nat} {vS vT : Value} {xs ss : List Int} {off : Int} {k : Nat} (h : FVS w wr B vS vT xs ss off k) (hk : k < 4) (hB : w.heap.size + 1 < B) :
  FVS w (wr.setCell ⟨B, 5 + k, none⟩ (O ι (ss.getD k 0))) B vS vT xs ss off (k + 1) := by
 have m : Mut B wr (wr.setCell ⟨B, 5 + k, none⟩ (O ι (ss.getD k 0))) := (Mut.refl _ _).setCell _ _
 refine ⟨m.box (by omega) h.v1, fun j hj => m.box (by omega) (h.r j hj), ?_, fun j hj => ?_, fun j hj => ?_, ?_, h.ex.setCell (by show w.heap.size ≤ B; omega) _⟩
 ·rw [World.cell?_setCell_other _ _ _ _ (by intro h; simp only [Addr.mk.injEq] at h; omega)]; exact h.f0
 ·rw [World.cell?_setCell_other _ _ _ _ (by intro h; simp only [Addr.mk.injEq] at h; omega)]; exact h.fl j hj
 ·by_cases e : j = k
  ·subst e
   rw [if_pos (by omega)]
   exact World.cell?_setCell_same _ _ _ (h.fs j hj)
  ·rw [World.cell?_setCell_other _ _ _ _ (by intro h; simp only [Addr.mk.injEq] at h; omega), h.fs j hj]
   by_cases h1 : j < k
   ·rw [if_pos h1, if_pos (by omega)]
   ·rw [if_neg h1, if_neg (by omega)]
 ·rw [World.cell?_setCell_other _ _ _ _ (by intro h; simp only [Addr.mk.injEq] at h; omega)]; exact h.f9
theorem zd14 {w : World} {vS vT : Value} {xs ss : List Int} (hS : Ints w vS xs) (hT : Ints w vT ss) (off : Int) (lx : xs.length ≤ 1048576) (ls : ss.length ≤ 1048576) (hbad : ¬ (Good xs ∧ ss.length = xs.length ∧ (0 ≤ off ∧ off ≤ 4096))) :
  Calls Tryz.prog 77 #[γ #[vS, vT, O ι off]] w fun e w' => FixVOk w xs ss off e w' := by
 obtain ⟨sa, cap, rfl, rS⟩ := hS
 obtain ⟨ta, dap, rfl, rT⟩ := hT
 have x0 : Ext w ((w.alloc (χ #[σ sa xs.length cap, σ ta ss.length dap, O ι off] 39)).alloc (χ #[O ι 0, O ι 0, O ι 0, O ι 0, O ι 0, O ι 0, O ι 0, O ι 0, O ι 0, O ι 0] 83)) := ((Ext.refl w).alloc _ _).alloc _ _
 have y0 : Ext (w.alloc (χ #[σ sa xs.length cap, σ ta ss.length dap, O ι off] 39)) ((w.alloc (χ #[σ sa xs.length cap, σ ta ss.length dap, O ι off] 39)).alloc (χ #[O ι 0, O ι 0, O ι 0, O ι 0, O ι 0, O ι 0, O ι 0, O ι 0, O ι 0, O ι 0] 83)) := (Ext.refl _).alloc _ _
 have HS : Hid (Ints ((w.alloc (χ #[σ sa xs.length cap, σ ta ss.length dap, O ι off] 39)).alloc (χ #[O ι 0, O ι 0, O ι 0, O ι 0, O ι 0, O ι 0, O ι 0, O ι 0, O ι 0, O ι 0] 83)) (σ sa xs.length cap) xs) := Ints.ext ⟨sa, cap, rfl, rS⟩ x0
 have HT : Hid (Ints ((w.alloc (χ #[σ sa xs.length cap, σ ta ss.length dap, O ι off] 39)).alloc (χ #[O ι 0, O ι 0, O ι 0, O ι 0, O ι 0, O ι 0, O ι 0, O ι 0, O ι 0, O ι 0] 83)) (σ ta ss.length dap) ss) := Ints.ext ⟨ta, dap, rfl, rT⟩ x0
 have n1 := fun j => zd w #[σ sa xs.length cap, σ ta ss.length dap, O ι off] 39 w.heap.size rfl j
 have n2 := fun j => zd (w.alloc (χ #[σ sa xs.length cap, σ ta ss.length dap, O ι off] 39)) #[O ι 0, O ι 0, O ι 0, O ι 0, O ι 0, O ι 0, O ι 0, O ι 0, O ι 0, O ι 0] 83 (w.heap.size + 1) (by simp) j
 have k0 := y0.box (n1 0)
 have k1 := y0.box (n1 1)
 have k2 := y0.box (n1 2)
 have z0 : ((w.alloc (χ #[σ sa xs.length cap, σ ta ss.length dap, O ι off] 39)).alloc (χ #[O ι 0, O ι 0, O ι 0, O ι 0, O ι 0, O ι 0, O ι 0, O ι 0, O ι 0, O ι 0] 83)).cell? ⟨w.heap.size + 1, 0, none⟩ = some (O ι 0) := n2 0
 have z1 : ((w.alloc (χ #[σ sa xs.length cap, σ ta ss.length dap, O ι off] 39)).alloc (χ #[O ι 0, O ι 0, O ι 0, O ι 0, O ι 0, O ι 0, O ι 0, O ι 0, O ι 0, O ι 0] 83)).cell? ⟨w.heap.size + 1, 1, none⟩ = some (O ι 0) := n2 1
 have z2 : ((w.alloc (χ #[σ sa xs.length cap, σ ta ss.length dap, O ι off] 39)).alloc (χ #[O ι 0, O ι 0, O ι 0, O ι 0, O ι 0, O ι 0, O ι 0, O ι 0, O ι 0, O ι 0] 83)).cell? ⟨w.heap.size + 1, 2, none⟩ = some (O ι 0) := n2 2
 have z3 : ((w.alloc (χ #[σ sa xs.length cap, σ ta ss.length dap, O ι off] 39)).alloc (χ #[O ι 0, O ι 0, O ι 0, O ι 0, O ι 0, O ι 0, O ι 0, O ι 0, O ι 0, O ι 0] 83)).cell? ⟨w.heap.size + 1, 3, none⟩ = some (O ι 0) := n2 3
 have z4 : ((w.alloc (χ #[σ sa xs.length cap, σ ta ss.length dap, O ι off] 39)).alloc (χ #[O ι 0, O ι 0, O ι 0, O ι 0, O ι 0, O ι 0, O ι 0, O ι 0, O ι 0, O ι 0] 83)).cell? ⟨w.heap.size + 1, 4, none⟩ = some (O ι 0) := n2 4
 have z5 : ((w.alloc (χ #[σ sa xs.length cap, σ ta ss.length dap, O ι off] 39)).alloc (χ #[O ι 0, O ι 0, O ι 0, O ι 0, O ι 0, O ι 0, O ι 0, O ι 0, O ι 0, O ι 0] 83)).cell? ⟨w.heap.size + 1, 5, none⟩ = some (O ι 0) := n2 5
 have z6 : ((w.alloc (χ #[σ sa xs.length cap, σ ta ss.length dap, O ι off] 39)).alloc (χ #[O ι 0, O ι 0, O ι 0, O ι 0, O ι 0, O ι 0, O ι 0, O ι 0, O ι 0, O ι 0] 83)).cell? ⟨w.heap.size + 1, 6, none⟩ = some (O ι 0) := n2 6
 have z7 : ((w.alloc (χ #[σ sa xs.length cap, σ ta ss.length dap, O ι off] 39)).alloc (χ #[O ι 0, O ι 0, O ι 0, O ι 0, O ι 0, O ι 0, O ι 0, O ι 0, O ι 0, O ι 0] 83)).cell? ⟨w.heap.size + 1, 7, none⟩ = some (O ι 0) := n2 7
 have z8 : ((w.alloc (χ #[σ sa xs.length cap, σ ta ss.length dap, O ι off] 39)).alloc (χ #[O ι 0, O ι 0, O ι 0, O ι 0, O ι 0, O ι 0, O ι 0, O ι 0, O ι 0, O ι 0] 83)).cell? ⟨w.heap.size + 1, 8, none⟩ = some (O ι 0) := n2 8
 have z9 : ((w.alloc (χ #[σ sa xs.length cap, σ ta ss.length dap, O ι off] 39)).alloc (χ #[O ι 0, O ι 0, O ι 0, O ι 0, O ι 0, O ι 0, O ι 0, O ι 0, O ι 0, O ι 0] 83)).cell? ⟨w.heap.size + 1, 9, none⟩ = some (O ι 0) := n2 9
 have HrT := hide rT
 have X0 := hide x0
 clear n1 n2 x0 y0 rS rT
 go_enter Tryz.func77, Tryz.ntmps77
 go_wp2_with fail
 refine (zr5 HS.out (by omega)).mono ?_
 rintro e w1 ⟨n, a0, a1, a2, a3, rfl, hX, x1⟩
 have y1 : Ext w1 (w1.alloc (χ #[O ι n, O ι a0, O ι a1, O ι a2, O ι a3] 81)) := (Ext.refl w1).alloc _ _
 have n3 := fun j => zd w1 #[O ι n, O ι a0, O ι a1, O ι a2, O ι a3] 81 w1.heap.size rfl j
 have s0 : (w1.alloc (χ #[O ι n, O ι a0, O ι a1, O ι a2, O ι a3] 81)).cell? ⟨w1.heap.size, 0, none⟩ = some (O ι n) := n3 0
 have s1 : (w1.alloc (χ #[O ι n, O ι a0, O ι a1, O ι a2, O ι a3] 81)).cell? ⟨w1.heap.size, 1, none⟩ = some (O ι a0) := n3 1
 have s2 : (w1.alloc (χ #[O ι n, O ι a0, O ι a1, O ι a2, O ι a3] 81)).cell? ⟨w1.heap.size, 2, none⟩ = some (O ι a1) := n3 2
 have s3 : (w1.alloc (χ #[O ι n, O ι a0, O ι a1, O ι a2, O ι a3] 81)).cell? ⟨w1.heap.size, 3, none⟩ = some (O ι a2) := n3 3
 have s4 : (w1.alloc (χ #[O ι n, O ι a0, O ι a1, O ι a2, O ι a3] 81)).cell? ⟨w1.heap.size, 4, none⟩ = some (O ι a3) := n3 4
 have v0 := x1.box k0
 have vv0 := y1.box v0
 have v1 := x1.box k1
 have vv1 := y1.box v1
 have v2 := x1.box k2
 have vv2 := y1.box v2
 have r0 := x1.box z0
 have r1 := x1.box z1
 have r2 := x1.box z2
 have r3 := x1.box z3
 have r4 := x1.box z4
 have r5 := x1.box z5
 have r6 := x1.box z6
 have r7 := x1.box z7
 have r8 := x1.box z8
 have r9 := x1.box z9
 have X1 := hide ((X0.out.trans x1).trans y1)
 have hB1 : w.heap.size + 1 < w1.heap.size := zj (x1.box z0)
 have HX := hide hX
 have Hr : Hid (∀ j, j < 10 → w1.cell? ⟨w.heap.size + 1, j, none⟩ = some (O ι 0)) := fun j hj => by
  obtain rfl | rfl | rfl | rfl | rfl | rfl | rfl | rfl | rfl | rfl : j = 0 ∨ j = 1 ∨ j = 2 ∨ j = 3 ∨ j = 4 ∨ j = 5 ∨ j = 6 ∨ j = 7 ∨ j = 8 ∨ j = 9 := by omega
  all_goals assumption
 have XW1 := hide (X0.out.trans x1)
 have rf := fun o => (X0.out.trans x1).unfrozen (b := w.heap.size + 1) (by omega) o
 clear hX n3 k0 k1 k2 y1 x1 HS HT z0 z1 z2 z3 z4 z5 z6 z7 z8 z9
 cases hg : goodB xs
 ·have Hno : Hid ((dcValidV xs ss off) = false) := decide_eq_false (fun q => absurd q.1 (of_decide_eq_false hg))
  go_wp2
  have Zz := (zy27 (zy27 (zy27 (zy27 (zy27 (zy27 (zy27 (zy27 (zy27 (zy27 Hr.out 0) 1) 2) 3) 4) 5) 6) 7) 8) 9)
  have e0 := ((Ext.refl _).alloc #[O ι n, O ι a0, O ι a1, O ι a2, O ι a3] 81).box (Zz 0 (by omega))
  have e1 := ((Ext.refl _).alloc #[O ι n, O ι a0, O ι a1, O ι a2, O ι a3] 81).box (Zz 1 (by omega))
  have e2 := ((Ext.refl _).alloc #[O ι n, O ι a0, O ι a1, O ι a2, O ι a3] 81).box (Zz 2 (by omega))
  have e3 := ((Ext.refl _).alloc #[O ι n, O ι a0, O ι a1, O ι a2, O ι a3] 81).box (Zz 3 (by omega))
  have e4 := ((Ext.refl _).alloc #[O ι n, O ι a0, O ι a1, O ι a2, O ι a3] 81).box (Zz 4 (by omega))
  have e5 := ((Ext.refl _).alloc #[O ι n, O ι a0, O ι a1, O ι a2, O ι a3] 81).box (Zz 5 (by omega))
  have e6 := ((Ext.refl _).alloc #[O ι n, O ι a0, O ι a1, O ι a2, O ι a3] 81).box (Zz 6 (by omega))
  have e7 := ((Ext.refl _).alloc #[O ι n, O ι a0, O ι a1, O ι a2, O ι a3] 81).box (Zz 7 (by omega))
  have e8 := ((Ext.refl _).alloc #[O ι n, O ι a0, O ι a1, O ι a2, O ι a3] 81).box (Zz 8 (by omega))
  have e9 := ((Ext.refl _).alloc #[O ι n, O ι a0, O ι a1, O ι a2, O ι a3] 81).box (Zz 9 (by omega))
  exact bodyPost_ret (v := .tuple #[γ #[O ι 0, O ι 0, O ι 0, O ι 0, O ι 0, O ι 0, O ι 0, O ι 0, O ι 0, O ι 0], .bool false]) (by simp [results, Tryz.results77, go_sem, e0, e1, e2, e3, e4, e5, e6, e7, e8, e9]) rfl (zw15 Hno.out (by repeat (first | with_reducible exact XW1.out | with_reducible apply Ext.alloc | with_reducible refine Ext.setCell ?_ (by show w.heap.size ≤ w.heap.size + 1; omega) _)))
 have hgood : Good xs := of_decide_eq_true hg
 obtain ⟨en, e0, e1, e2, e3⟩ := HX.out hgood
 have hx4 := hgood.1
 by_cases hl : ss.length = xs.length
 ·by_cases ho : 0 ≤ off ∧ off ≤ 4096
  ·exact absurd ⟨hgood, hl, ho⟩ hbad
  ·have Hno : Hid ((dcValidV xs ss off) = false) := decide_eq_false (fun q => ho q.2.2.1)
   have hln : (ss.length : Int) = n := by omega
   have hor : off < 0 ∨ (¬ off < 0 ∧ 4096 < off) := by omega
   clear en e0 e1 e2 e3 HX hgood hl ho
   rcases hor with o1 | ⟨o1, o2⟩
   all_goals
    go_wp2
    have Zz := (zy27 (zy27 (zy27 (zy27 (zy27 (zy27 (zy27 (zy27 (zy27 (zy27 Hr.out 0) 1) 2) 3) 4) 5) 6) 7) 8) 9)
    have e0 := ((Ext.refl _).alloc #[O ι n, O ι a0, O ι a1, O ι a2, O ι a3] 81).box (Zz 0 (by omega))
    have e1 := ((Ext.refl _).alloc #[O ι n, O ι a0, O ι a1, O ι a2, O ι a3] 81).box (Zz 1 (by omega))
    have e2 := ((Ext.refl _).alloc #[O ι n, O ι a0, O ι a1, O ι a2, O ι a3] 81).box (Zz 2 (by omega))
    have e3 := ((Ext.refl _).alloc #[O ι n, O ι a0, O ι a1, O ι a2, O ι a3] 81).box (Zz 3 (by omega))
    have e4 := ((Ext.refl _).alloc #[O ι n, O ι a0, O ι a1, O ι a2, O ι a3] 81).box (Zz 4 (by omega))
    have e5 := ((Ext.refl _).alloc #[O ι n, O ι a0, O ι a1, O ι a2, O ι a3] 81).box (Zz 5 (by omega))
    have e6 := ((Ext.refl _).alloc #[O ι n, O ι a0, O ι a1, O ι a2, O ι a3] 81).box (Zz 6 (by omega))
    have e7 := ((Ext.refl _).alloc #[O ι n, O ι a0, O ι a1, O ι a2, O ι a3] 81).box (Zz 7 (by omega))
    have e8 := ((Ext.refl _).alloc #[O ι n, O ι a0, O ι a1, O ι a2, O ι a3] 81).box (Zz 8 (by omega))
    have e9 := ((Ext.refl _).alloc #[O ι n, O ι a0, O ι a1, O ι a2, O ι a3] 81).box (Zz 9 (by omega))
    exact bodyPost_ret (v := .tuple #[γ #[O ι 0, O ι 0, O ι 0, O ι 0, O ι 0, O ι 0, O ι 0, O ι 0, O ι 0, O ι 0], .bool false]) (by simp [results, Tryz.results77, go_sem, e0, e1, e2, e3, e4, e5, e6, e7, e8, e9]) rfl (zw15 Hno.out (by repeat (first | with_reducible exact XW1.out | with_reducible apply Ext.alloc | with_reducible refine Ext.setCell ?_ (by show w.heap.size ≤ w.heap.size + 1; omega) _)))
 ·have Hno : Hid ((dcValidV xs ss off) = false) := decide_eq_false (fun q => hl q.2.1)
  have hln : ¬ (ss.length : Int) = n := by omega
  clear en e0 e1 e2 e3 HX hgood hl
  go_wp2
  have Zz := (zy27 (zy27 (zy27 (zy27 (zy27 (zy27 (zy27 (zy27 (zy27 (zy27 Hr.out 0) 1) 2) 3) 4) 5) 6) 7) 8) 9)
  have e0 := ((Ext.refl _).alloc #[O ι n, O ι a0, O ι a1, O ι a2, O ι a3] 81).box (Zz 0 (by omega))
  have e1 := ((Ext.refl _).alloc #[O ι n, O ι a0, O ι a1, O ι a2, O ι a3] 81).box (Zz 1 (by omega))
  have e2 := ((Ext.refl _).alloc #[O ι n, O ι a0, O ι a1, O ι a2, O ι a3] 81).box (Zz 2 (by omega))
  have e3 := ((Ext.refl _).alloc #[O ι n, O ι a0, O ι a1, O ι a2, O ι a3] 81).box (Zz 3 (by omega))
  have e4 := ((Ext.refl _).alloc #[O ι n, O ι a0, O ι a1, O ι a2, O ι a3] 81).box (Zz 4 (by omega))
  have e5 := ((Ext.refl _).alloc #[O ι n, O ι a0, O ι a1, O ι a2, O ι a3] 81).box (Zz 5 (by omega))
  have e6 := ((Ext.refl _).alloc #[O ι n, O ι a0, O ι a1, O ι a2, O ι a3] 81).box (Zz 6 (by omega))
  have e7 := ((Ext.refl _).alloc #[O ι n, O ι a0, O ι a1, O ι a2, O ι a3] 81).box (Zz 7 (by omega))
  have e8 := ((Ext.refl _).alloc #[O ι n, O ι a0, O ι a1, O ι a2, O ι a3] 81).box (Zz 8 (by omega))
  have e9 := ((Ext.refl _).alloc #[O ι n, O ι a0, O ι a1, O ι a2, O ι a3] 81).box (Zz 9 (by omega))
  exact bodyPost_ret (v := .tuple #[γ #[O ι 0, O ι 0, O ι 0, O ι 0, O ι 0, O ι 0, O ι 0, O ι 0, O ι 0, O ι 0], .bool false]) (by simp [results, Tryz.results77, go_sem, e0, e1, e2, e3, e4, e5, e6, e7, e8, e9]) rfl (zw15 Hno.out (by repeat (first | with_reducible exact XW1.out | with_reducible apply Ext.alloc | with_reducible refine Ext.setCell ?_ (by show w.heap.size ≤ w.heap.size + 1; omega) _)))
theorem zn20 {W : World} {R B i j : Nat} {v u : Value} (hne : R ≠ B) (h : W.cell? ⟨B, j, none⟩ = some u) : (W.setCell ⟨R, i, none⟩ v).cell? ⟨B, j, none⟩ = some u := by
 rw [World.cell?_setCell_other _ _ _ _ (by intro h; simp only [Addr.mk.injEq] at h; omega)]; exact h
theorem za8 {W : World} {R B j : Nat} {v0 v1 v2 v3 v4 v5 v6 v7 v8 v9 u : Value} (hne : R ≠ B) (h : W.cell? ⟨B, j, none⟩ = some u) :
  ((((((((((W.setCell ⟨R, 0, none⟩ v0).setCell ⟨R, 1, none⟩ v1).setCell ⟨R, 2, none⟩ v2).setCell ⟨R, 3, none⟩ v3).setCell ⟨R, 4, none⟩ v4).setCell ⟨R, 5, none⟩ v5).setCell ⟨R, 6, none⟩ v6).setCell ⟨R, 7, none⟩ v7).setCell ⟨R, 8, none⟩ v8).setCell ⟨R, 9, none⟩ v9).cell? ⟨B, j, none⟩ = some u :=
 zn20 hne (zn20 hne (zn20 hne (zn20 hne (zn20 hne (zn20 hne (zn20 hne (zn20 hne (zn20 hne (zn20 hne h)))))))))
theorem zw27 {W : World} {R : Nat} {f : Nat → Value} (h : ∀ j, j < 10 → W.cell? ⟨R, j, none⟩ = some (f j)) (i : Nat) (v : Value) : ∀ j, j < 10 → (W.setCell ⟨R, i, none⟩ v).cell? ⟨R, j, none⟩ = some (if i = j then v else f j) := fun j hj => by
 by_cases e : i = j
 ·subst e; rw [if_pos rfl]; exact World.cell?_setCell_same _ _ _ (h i hj)
 ·rw [if_neg e, World.cell?_setCell_other _ _ _ _ (by intro h; simp only [Addr.mk.injEq] at h; omega)]; exact h j hj
theorem zv11 {w : World} {vS vT : Value} {xs ss : List Int} (hS : Ints w vS xs) (hT : Ints w vT ss) (off : Int) (lx : xs.length ≤ 1048576) (ls : ss.length ≤ 1048576) (hgood : Good xs) (hl : ss.length = xs.length) (ho : 0 ≤ off ∧ off ≤ 4096) :
  Calls Tryz.prog 77 #[γ #[vS, vT, O ι off]] w fun e w' => FixVOk w xs ss off e w' := by
 have Hl := hide hl
 have Hgood := hide hgood
 clear hl hgood
 obtain ⟨sa, cap, rfl, rS⟩ := hS
 obtain ⟨ta, dap, rfl, rT⟩ := hT
 have x0 : Ext w ((w.alloc (χ #[σ sa xs.length cap, σ ta ss.length dap, O ι off] 39)).alloc (χ #[O ι 0, O ι 0, O ι 0, O ι 0, O ι 0, O ι 0, O ι 0, O ι 0, O ι 0, O ι 0] 83)) := ((Ext.refl w).alloc _ _).alloc _ _
 have y0 : Ext (w.alloc (χ #[σ sa xs.length cap, σ ta ss.length dap, O ι off] 39)) ((w.alloc (χ #[σ sa xs.length cap, σ ta ss.length dap, O ι off] 39)).alloc (χ #[O ι 0, O ι 0, O ι 0, O ι 0, O ι 0, O ι 0, O ι 0, O ι 0, O ι 0, O ι 0] 83)) := (Ext.refl _).alloc _ _
 have HS : Hid (Ints ((w.alloc (χ #[σ sa xs.length cap, σ ta ss.length dap, O ι off] 39)).alloc (χ #[O ι 0, O ι 0, O ι 0, O ι 0, O ι 0, O ι 0, O ι 0, O ι 0, O ι 0, O ι 0] 83)) (σ sa xs.length cap) xs) := Ints.ext ⟨sa, cap, rfl, rS⟩ x0
 have HT : Hid (Ints ((w.alloc (χ #[σ sa xs.length cap, σ ta ss.length dap, O ι off] 39)).alloc (χ #[O ι 0, O ι 0, O ι 0, O ι 0, O ι 0, O ι 0, O ι 0, O ι 0, O ι 0, O ι 0] 83)) (σ ta ss.length dap) ss) := Ints.ext ⟨ta, dap, rfl, rT⟩ x0
 have n1 := fun j => zd w #[σ sa xs.length cap, σ ta ss.length dap, O ι off] 39 w.heap.size rfl j
 have n2 := fun j => zd (w.alloc (χ #[σ sa xs.length cap, σ ta ss.length dap, O ι off] 39)) #[O ι 0, O ι 0, O ι 0, O ι 0, O ι 0, O ι 0, O ι 0, O ι 0, O ι 0, O ι 0] 83 (w.heap.size + 1) (by simp) j
 have k0 := y0.box (n1 0)
 have k1 := y0.box (n1 1)
 have k2 := y0.box (n1 2)
 have z0 : ((w.alloc (χ #[σ sa xs.length cap, σ ta ss.length dap, O ι off] 39)).alloc (χ #[O ι 0, O ι 0, O ι 0, O ι 0, O ι 0, O ι 0, O ι 0, O ι 0, O ι 0, O ι 0] 83)).cell? ⟨w.heap.size + 1, 0, none⟩ = some (O ι 0) := n2 0
 have z1 : ((w.alloc (χ #[σ sa xs.length cap, σ ta ss.length dap, O ι off] 39)).alloc (χ #[O ι 0, O ι 0, O ι 0, O ι 0, O ι 0, O ι 0, O ι 0, O ι 0, O ι 0, O ι 0] 83)).cell? ⟨w.heap.size + 1, 1, none⟩ = some (O ι 0) := n2 1
 have z2 : ((w.alloc (χ #[σ sa xs.length cap, σ ta ss.length dap, O ι off] 39)).alloc (χ #[O ι 0, O ι 0, O ι 0, O ι 0, O ι 0, O ι 0, O ι 0, O ι 0, O ι 0, O ι 0] 83)).cell? ⟨w.heap.size + 1, 2, none⟩ = some (O ι 0) := n2 2
 have z3 : ((w.alloc (χ #[σ sa xs.length cap, σ ta ss.length dap, O ι off] 39)).alloc (χ #[O ι 0, O ι 0, O ι 0, O ι 0, O ι 0, O ι 0, O ι 0, O ι 0, O ι 0, O ι 0] 83)).cell? ⟨w.heap.size + 1, 3, none⟩ = some (O ι 0) := n2 3
 have z4 : ((w.alloc (χ #[σ sa xs.length cap, σ ta ss.length dap, O ι off] 39)).alloc (χ #[O ι 0, O ι 0, O ι 0, O ι 0, O ι 0, O ι 0, O ι 0, O ι 0, O ι 0, O ι 0] 83)).cell? ⟨w.heap.size + 1, 4, none⟩ = some (O ι 0) := n2 4
 have z5 : ((w.alloc (χ #[σ sa xs.length cap, σ ta ss.length dap, O ι off] 39)).alloc (χ #[O ι 0, O ι 0, O ι 0, O ι 0, O ι 0, O ι 0, O ι 0, O ι 0, O ι 0, O ι 0] 83)).cell? ⟨w.heap.size + 1, 5, none⟩ = some (O ι 0) := n2 5
 have z6 : ((w.alloc (χ #[σ sa xs.length cap, σ ta ss.length dap, O ι off] 39)).alloc (χ #[O ι 0, O ι 0, O ι 0, O ι 0, O ι 0, O ι 0, O ι 0, O ι 0, O ι 0, O ι 0] 83)).cell? ⟨w.heap.size + 1, 6, none⟩ = some (O ι 0) := n2 6
 have z7 : ((w.alloc (χ #[σ sa xs.length cap, σ ta ss.length dap, O ι off] 39)).alloc (χ #[O ι 0, O ι 0, O ι 0, O ι 0, O ι 0, O ι 0, O ι 0, O ι 0, O ι 0, O ι 0] 83)).cell? ⟨w.heap.size + 1, 7, none⟩ = some (O ι 0) := n2 7
 have z8 : ((w.alloc (χ #[σ sa xs.length cap, σ ta ss.length dap, O ι off] 39)).alloc (χ #[O ι 0, O ι 0, O ι 0, O ι 0, O ι 0, O ι 0, O ι 0, O ι 0, O ι 0, O ι 0] 83)).cell? ⟨w.heap.size + 1, 8, none⟩ = some (O ι 0) := n2 8
 have z9 : ((w.alloc (χ #[σ sa xs.length cap, σ ta ss.length dap, O ι off] 39)).alloc (χ #[O ι 0, O ι 0, O ι 0, O ι 0, O ι 0, O ι 0, O ι 0, O ι 0, O ι 0, O ι 0] 83)).cell? ⟨w.heap.size + 1, 9, none⟩ = some (O ι 0) := n2 9
 have HrT := hide rT
 have X0 := hide x0
 clear n1 n2 x0 y0 rS rT
 go_enter Tryz.func77, Tryz.ntmps77
 go_wp2_with fail
 refine (zr5 HS.out (by omega)).mono ?_
 rintro e w1 ⟨n, a0, a1, a2, a3, rfl, hX, x1⟩
 have y1 : Ext w1 (w1.alloc (χ #[O ι n, O ι a0, O ι a1, O ι a2, O ι a3] 81)) := (Ext.refl w1).alloc _ _
 have n3 := fun j => zd w1 #[O ι n, O ι a0, O ι a1, O ι a2, O ι a3] 81 w1.heap.size rfl j
 have s0 : (w1.alloc (χ #[O ι n, O ι a0, O ι a1, O ι a2, O ι a3] 81)).cell? ⟨w1.heap.size, 0, none⟩ = some (O ι n) := n3 0
 have s1 : (w1.alloc (χ #[O ι n, O ι a0, O ι a1, O ι a2, O ι a3] 81)).cell? ⟨w1.heap.size, 1, none⟩ = some (O ι a0) := n3 1
 have s2 : (w1.alloc (χ #[O ι n, O ι a0, O ι a1, O ι a2, O ι a3] 81)).cell? ⟨w1.heap.size, 2, none⟩ = some (O ι a1) := n3 2
 have s3 : (w1.alloc (χ #[O ι n, O ι a0, O ι a1, O ι a2, O ι a3] 81)).cell? ⟨w1.heap.size, 3, none⟩ = some (O ι a2) := n3 3
 have s4 : (w1.alloc (χ #[O ι n, O ι a0, O ι a1, O ι a2, O ι a3] 81)).cell? ⟨w1.heap.size, 4, none⟩ = some (O ι a3) := n3 4
 have v0 := x1.box k0
 have vv0 := y1.box v0
 have v1 := x1.box k1
 have vv1 := y1.box v1
 have v2 := x1.box k2
 have vv2 := y1.box v2
 have r0 := x1.box z0
 have r1 := x1.box z1
 have r2 := x1.box z2
 have r3 := x1.box z3
 have r4 := x1.box z4
 have r5 := x1.box z5
 have r6 := x1.box z6
 have r7 := x1.box z7
 have r8 := x1.box z8
 have r9 := x1.box z9
 have X1 := hide ((X0.out.trans x1).trans y1)
 have hB1 : w.heap.size + 1 < w1.heap.size := zj (x1.box z0)
 have HX := hide hX
 have Hr : Hid (∀ j, j < 10 → w1.cell? ⟨w.heap.size + 1, j, none⟩ = some (O ι 0)) := fun j hj => by
  obtain rfl | rfl | rfl | rfl | rfl | rfl | rfl | rfl | rfl | rfl : j = 0 ∨ j = 1 ∨ j = 2 ∨ j = 3 ∨ j = 4 ∨ j = 5 ∨ j = 6 ∨ j = 7 ∨ j = 8 ∨ j = 9 := by omega
  all_goals assumption
 have XW1 := hide (X0.out.trans x1)
 have rf := fun o => (X0.out.trans x1).unfrozen (b := w.heap.size + 1) (by omega) o
 clear hX n3 k0 k1 k2 y1 x1 HS HT z0 z1 z2 z3 z4 z5 z6 z7 z8 z9
 have hg : goodB xs = true := decide_eq_true Hgood.out
 obtain ⟨en, e0, e1, e2, e3⟩ := HX.out Hgood.out
 have hx4 := Hgood.out.1
 have e12 : Ext (w1.alloc (χ #[O ι n, O ι a0, O ι a1, O ι a2, O ι a3] 81)) ((w1.alloc (χ #[O ι n, O ι a0, O ι a1, O ι a2, O ι a3] 81)).alloc (χ #[O ι n, O ι a0, O ι a1, O ι a2, O ι a3, O ι 0, O ι 0, O ι 0, O ι 0, O ι off] 83)) := (Ext.refl _).alloc _ _
 have nf := fun j => zd (w1.alloc (χ #[O ι n, O ι a0, O ι a1, O ι a2, O ι a3] 81)) #[O ι n, O ι a0, O ι a1, O ι a2, O ι a3, O ι 0, O ι 0, O ι 0, O ι 0, O ι off] 83 (w1.heap.size + 1) (by simp) j
 have S0 : FVS w ((w1.alloc (χ #[O ι n, O ι a0, O ι a1, O ι a2, O ι a3] 81)).alloc (χ #[O ι n, O ι a0, O ι a1, O ι a2, O ι a3, O ι 0, O ι 0, O ι 0, O ι 0, O ι off] 83)) (w1.heap.size + 1) (σ sa xs.length cap) (σ ta ss.length dap) xs ss off 0 := by
  refine ⟨e12.box vv1, fun j hj => e12.box (((Ext.refl w1).alloc _ _).box (Hr.out j hj)), ?_, fun j hj => ?_, fun j hj => ?_, nf 9, X1.out.trans e12⟩
  ·rw [← en]; exact nf 0
  ·obtain rfl | rfl | rfl | rfl : j = 0 ∨ j = 1 ∨ j = 2 ∨ j = 3 := by omega
   ·rw [← e0]; exact nf 1
   ·rw [← e1]; exact nf 2
   ·rw [← e2]; exact nf 3
   ·rw [← e3]; exact nf 4
  ·rw [if_neg (by omega)]
   obtain rfl | rfl | rfl | rfl : j = 0 ∨ j = 1 ∨ j = 2 ∨ j = 3 := by omega
   ·exact nf 5
   ·exact nf 6
   ·exact nf 7
   ·exact nf 8
 have HS0 := hide S0
 have t1 := S0.v1
 have hln : (ss.length : Int) = n := by have := Hl.out; omega
 have o1 : ¬ off < 0 := by omega
 have o2 : ¬ 4096 < off := by omega
 have Hx4 := hide hx4
 have hB2 := hide hB1
 clear S0 nf e12 HX en e0 e1 e2 e3 hx4
 go_wp2
 try simp only [show decide (off < 0) = false from decide_eq_false o1, show decide (4096 < off) = false from decide_eq_false o2]
 generalize hB : w1.heap.size + 1 = B at HS0 ⊢
 have HBB : Hid (w.heap.size + 1 < B) := by have := hB2.out; show w.heap.size + 1 < B; omega
 clear hB t1 hB1
 go_loopw [43] (fun i wr => ∃ k : Nat, i = O ι k ∧ k ≤ ss.length ∧ Hid (InS ss k) ∧ FVS w wr B (σ sa xs.length cap) (σ ta ss.length dap) xs ss off k) (fun i _ => ss.length - (intOf i).toNat)
 case atStart => exact ⟨0, rfl, by omega, fun j hj => absurd hj (Nat.not_lt_zero _), HS0.out⟩
 case round =>
  obtain ⟨k, rfl, hk, hin, hS⟩ := hrel
  have HS := hide hS
  clear hS
  have rr0 := HS.out.r 0 (by omega)
  have rr1 := HS.out.r 1 (by omega)
  have rr2 := HS.out.r 2 (by omega)
  have rr3 := HS.out.r 3 (by omega)
  have rr4 := HS.out.r 4 (by omega)
  have rr5 := HS.out.r 5 (by omega)
  have rr6 := HS.out.r 6 (by omega)
  have rr7 := HS.out.r 7 (by omega)
  have rr8 := HS.out.r 8 (by omega)
  have rr9 := HS.out.r 9 (by omega)
  have rf2 := fun o => HS.out.ex.unfrozen (b := w.heap.size + 1) (by omega) o
  have sf := fun o => HS.out.ex.unfrozen (b := B) (by have := HBB.out; omega) o
  by_cases hlt : k < ss.length
  ·rcases HrT.out with h0 | ⟨b, o, rfl, hrow⟩
   ·rw [h0] at hlt; simp at hlt
   have q0 := HS.out.ex.box (hrow k hlt)
   have hk4 : k < 4 := by have := Hl.out; have := Hx4.out; omega
   have hk0 : (0 : Int) ≤ (k : Int) := Int.natCast_nonneg _
   have hk1 : (k : Int) < (ss.length : Int) := by omega
   have hk2 : (k : Int) < n := by omega
   have hk44 : (k : Int) < 4 := by omega
   by_cases hr : -4096 ≤ ss.getD k 0 ∧ ss.getD k 0 ≤ 4096
   ·have hin2 := hide (hin.out.step hr)
    have St := HS.out.step hk4 HBB.out
    have sk := HS.out.fs k hk4
    generalize ss.getD k 0 = x at q0 hr St
    have HSt := hide St
    clear St hrow
    have hlo : ¬ x < -4096 := by omega
    have hhi : ¬ 4096 < x := by omega
    go_wp2
    go_roundw
    ·exact ⟨k + 1, by go_num, by omega, hin2, HSt.out⟩
    ·simp [intOf]; omega
   ·have Hno : Hid ((dcValidV xs ss off) = false) := decide_eq_false (fun q => hr (q.2.2.2.1 k hlt))
    generalize ss.getD k 0 = x at q0 hr
    clear hrow
    have hor : x < -4096 ∨ (¬ x < -4096 ∧ 4096 < x) := by omega
    rcases hor with hlo | ⟨hlo, hhi⟩
    all_goals
     go_wp2
     have Zz := (zy27 (zy27 (zy27 (zy27 (zy27 (zy27 (zy27 (zy27 (zy27 (zy27 HS.out.r 0) 1) 2) 3) 4) 5) 6) 7) 8) 9)
     have e0 := Zz 0 (by omega)
     have e1 := Zz 1 (by omega)
     have e2 := Zz 2 (by omega)
     have e3 := Zz 3 (by omega)
     have e4 := Zz 4 (by omega)
     have e5 := Zz 5 (by omega)
     have e6 := Zz 6 (by omega)
     have e7 := Zz 7 (by omega)
     have e8 := Zz 8 (by omega)
     have e9 := Zz 9 (by omega)
     exact bodyPost_ret (v := .tuple #[γ #[O ι 0, O ι 0, O ι 0, O ι 0, O ι 0, O ι 0, O ι 0, O ι 0, O ι 0, O ι 0], .bool false]) (by simp [results, Tryz.results77, go_sem, e0, e1, e2, e3, e4, e5, e6, e7, e8, e9]) rfl (zw15 Hno.out (by repeat (first | with_reducible exact HS.out.ex | with_reducible refine Ext.setCell ?_ (by show w.heap.size ≤ w.heap.size + 1; omega) _)))
  ·have hkk : k = ss.length := by omega
   subst hkk
   have hsj : ∀ j, j < 4 → wr.cell? ⟨B, 5 + j, none⟩ = some (O ι (ss.getD j 0)) := fun j hj => by
    rw [HS.out.fs j hj]
    by_cases e : j < ss.length
    ·rw [if_pos e]
    ·rw [if_neg e, List.getD_eq_getElem?_getD, List.getElem?_eq_none (by omega)]; rfl
   have g0 := HS.out.f0
   have g1 : wr.cell? ⟨B, 1, none⟩ = _ := HS.out.fl 0 (by omega)
   have g2 : wr.cell? ⟨B, 2, none⟩ = _ := HS.out.fl 1 (by omega)
   have g3 : wr.cell? ⟨B, 3, none⟩ = _ := HS.out.fl 2 (by omega)
   have g4 : wr.cell? ⟨B, 4, none⟩ = _ := HS.out.fl 3 (by omega)
   have g5 : wr.cell? ⟨B, 5, none⟩ = _ := hsj 0 (by omega)
   have g6 : wr.cell? ⟨B, 6, none⟩ = _ := hsj 1 (by omega)
   have g7 : wr.cell? ⟨B, 7, none⟩ = _ := hsj 2 (by omega)
   have g8 : wr.cell? ⟨B, 8, none⟩ = _ := hsj 3 (by omega)
   have g9 := HS.out.f9
   clear hsj
   have hval : Hid ((dcValidV xs ss off) = inB xs ss off) := decide_eq_decide.2 ⟨fun q => q.2.2.2.2, fun q => ⟨Hgood.out, Hl.out, ho, hin.out, q⟩⟩
   have hw := hide (fun W => zb16 W xs ss off Hgood.out.1 Hgood.out.2.1 Hl.out hin.out ho)
   unfold vw at hw
   have HE := hide HS.out.ex
   generalize hc0 : xs.getD 0 0 = c0 at g1 hw
   have Hc0 := hide hc0
   clear hc0
   generalize hc1 : xs.getD 1 0 = c1 at g2 hw
   have Hc1 := hide hc1
   clear hc1
   generalize hc2 : xs.getD 2 0 = c2 at g3 hw
   have Hc2 := hide hc2
   clear hc2
   generalize hc3 : xs.getD 3 0 = c3 at g4 hw
   have Hc3 := hide hc3
   clear hc3
   generalize hd0 : ss.getD 0 0 = d0 at g5 hw
   have Hd0 := hide hd0
   clear hd0
   generalize hd1 : ss.getD 1 0 = d1 at g6 hw
   have Hd1 := hide hd1
   clear hd1
   generalize hd2 : ss.getD 2 0 = d2 at g7 hw
   have Hd2 := hide hd2
   clear hd2
   generalize hd3 : ss.getD 3 0 = d3 at g8 hw
   have Hd3 := hide hd3
   clear hd3
   generalize inB xs ss off = ib at hval hw
   go_wp2_with fail
   have D0 : Ext wr wr.drew := (Ext.refl wr).drew
   have dr0 := D0.box rr0
   have dr1 := D0.box rr1
   have dr2 := D0.box rr2
   have dr3 := D0.box rr3
   have dr4 := D0.box rr4
   have dr5 := D0.box rr5
   have dr6 := D0.box rr6
   have dr7 := D0.box rr7
   have dr8 := D0.box rr8
   have dr9 := D0.box rr9
   have dg0 := D0.box g0
   have dg1 := D0.box g1
   have dg2 := D0.box g2
   have dg3 := D0.box g3
   have dg4 := D0.box g4
   have dg5 := D0.box g5
   have dg6 := D0.box g6
   have dg7 := D0.box g7
   have dg8 := D0.box g8
   have dg9 := D0.box g9
   have HED := hide (HE.out.trans D0)
   have hne : w.heap.size + 1 ≠ B := by have := HBB.out; omega
   have Hne := hide hne
   have SA : Hid ((fun w' => w'.cell? ⟨B, 0, none⟩ = some (O ι (xs.length : Int)) ∧ w'.cell? ⟨B, 1, none⟩ = some (O ι c0) ∧ w'.cell? ⟨B, 2, none⟩ = some (O ι c1) ∧ w'.cell? ⟨B, 3, none⟩ = some (O ι c2) ∧ w'.cell? ⟨B, 4, none⟩ = some (O ι c3) ∧ w'.cell? ⟨B, 5, none⟩ = some (O ι d0) ∧ w'.cell? ⟨B, 6, none⟩ = some (O ι d1) ∧ w'.cell? ⟨B, 7, none⟩ = some (O ι d2) ∧ w'.cell? ⟨B, 8, none⟩ = some (O ι d3) ∧ w'.cell? ⟨B, 9, none⟩ = some (O ι off)) wr.drew) := ⟨dg0, dg1, dg2, dg3, dg4, dg5, dg6, dg7, dg8, dg9⟩
   clear D0 hne
   go_region_held3 (fun w' => w'.cell? ⟨B, 0, none⟩ = some (O ι (xs.length : Int)) ∧ w'.cell? ⟨B, 1, none⟩ = some (O ι c0) ∧ w'.cell? ⟨B, 2, none⟩ = some (O ι c1) ∧ w'.cell? ⟨B, 3, none⟩ = some (O ι c2) ∧ w'.cell? ⟨B, 4, none⟩ = some (O ι c3) ∧ w'.cell? ⟨B, 5, none⟩ = some (O ι d0) ∧ w'.cell? ⟨B, 6, none⟩ = some (O ι d1) ∧ w'.cell? ⟨B, 7, none⟩ = some (O ι d2) ∧ w'.cell? ⟨B, 8, none⟩ = some (O ι d3) ∧ w'.cell? ⟨B, 9, none⟩ = some (O ι off)) (first | with_reducible exact SA.out | with_reducible exact SB'.out | with_reducible exact SC'.out) (first | (go_at_call 78; refine (hw.out _).mono ?_; rintro e w2 ⟨rfl, x2⟩; have y0 := x2.box dr0; have y1 := x2.box dr1; have y2 := x2.box dr2; have y3 := x2.box dr3; have y4 := x2.box dr4; have y5 := x2.box dr5; have y6 := x2.box dr6; have y7 := x2.box dr7; have y8 := x2.box dr8; have y9 := x2.box dr9; have z0 := x2.box dg0; have z1 := x2.box dg1; have z2 := x2.box dg2; have z3 := x2.box dg3; have z4 := x2.box dg4; have z5 := x2.box dg5; have z6 := x2.box dg6; have z7 := x2.box dg7; have z8 := x2.box dg8; have z9 := x2.box dg9; have yf : ∀ o, w2.frozen? ⟨w.heap.size + 1, o, none⟩ = false := fun o => (x2.fz _).trans (by first | exact rf2 o | (simp [rf2]; done)); have HX2 := hide (HED.out.trans x2); clear x2; have SB' : Hid ((fun w' => w'.cell? ⟨B, 0, none⟩ = some (O ι (xs.length : Int)) ∧ w'.cell? ⟨B, 1, none⟩ = some (O ι c0) ∧ w'.cell? ⟨B, 2, none⟩ = some (O ι c1) ∧ w'.cell? ⟨B, 3, none⟩ = some (O ι c2) ∧ w'.cell? ⟨B, 4, none⟩ = some (O ι c3) ∧ w'.cell? ⟨B, 5, none⟩ = some (O ι d0) ∧ w'.cell? ⟨B, 6, none⟩ = some (O ι d1) ∧ w'.cell? ⟨B, 7, none⟩ = some (O ι d2) ∧ w'.cell? ⟨B, 8, none⟩ = some (O ι d3) ∧ w'.cell? ⟨B, 9, none⟩ = some (O ι off)) w2) := ⟨z0, z1, z2, z3, z4, z5, z6, z7, z8, z9⟩; have SC' : Hid ((fun w' => w'.cell? ⟨B, 0, none⟩ = some (O ι (xs.length : Int)) ∧ w'.cell? ⟨B, 1, none⟩ = some (O ι c0) ∧ w'.cell? ⟨B, 2, none⟩ = some (O ι c1) ∧ w'.cell? ⟨B, 3, none⟩ = some (O ι c2) ∧ w'.cell? ⟨B, 4, none⟩ = some (O ι c3) ∧ w'.cell? ⟨B, 5, none⟩ = some (O ι d0) ∧ w'.cell? ⟨B, 6, none⟩ = some (O ι d1) ∧ w'.cell? ⟨B, 7, none⟩ = some (O ι d2) ∧ w'.cell? ⟨B, 8, none⟩ = some (O ι d3) ∧ w'.cell? ⟨B, 9, none⟩ = some (O ι off)) ((((((((((w2.setCell ⟨w.heap.size + 1, 0, none⟩ (O ι (xs.length : Int))).setCell ⟨w.heap.size + 1, 1, none⟩ (O ι c0)).setCell ⟨w.heap.size + 1, 2, none⟩ (O ι c1)).setCell ⟨w.heap.size + 1, 3, none⟩ (O ι c2)).setCell ⟨w.heap.size + 1, 4, none⟩ (O ι c3)).setCell ⟨w.heap.size + 1, 5, none⟩ (O ι d0)).setCell ⟨w.heap.size + 1, 6, none⟩ (O ι d1)).setCell ⟨w.heap.size + 1, 7, none⟩ (O ι d2)).setCell ⟨w.heap.size + 1, 8, none⟩ (O ι d3)).setCell ⟨w.heap.size + 1, 9, none⟩ (O ι off))) := ⟨za8 Hne.out z0, za8 Hne.out z1, za8 Hne.out z2, za8 Hne.out z3, za8 Hne.out z4, za8 Hne.out z5, za8 Hne.out z6, za8 Hne.out z7, za8 Hne.out z8, za8 Hne.out z9⟩))
   all_goals go_wp2
   all_goals
    have hy : ∀ j, j < 10 → w2.cell? ⟨w.heap.size + 1, j, none⟩ = some ((fun _ => (O ι 0 : Value)) j) := fun j hj => by
     obtain rfl | rfl | rfl | rfl | rfl | rfl | rfl | rfl | rfl | rfl : j = 0 ∨ j = 1 ∨ j = 2 ∨ j = 3 ∨ j = 4 ∨ j = 5 ∨ j = 6 ∨ j = 7 ∨ j = 8 ∨ j = 9 := by omega
     all_goals assumption
    have Zz := (zw27 (zw27 (zw27 (zw27 (zw27 (zw27 (zw27 (zw27 (zw27 (zw27 hy 0 (O ι (xs.length : Int))) 1 (O ι c0)) 2 (O ι c1)) 3 (O ι c2)) 4 (O ι c3)) 5 (O ι d0)) 6 (O ι d1)) 7 (O ι d2)) 8 (O ι d3)) 9 (O ι off))
    have q0 : ((((((((((w2.setCell ⟨w.heap.size + 1, 0, none⟩ (O ι (xs.length : Int))).setCell ⟨w.heap.size + 1, 1, none⟩ (O ι c0)).setCell ⟨w.heap.size + 1, 2, none⟩ (O ι c1)).setCell ⟨w.heap.size + 1, 3, none⟩ (O ι c2)).setCell ⟨w.heap.size + 1, 4, none⟩ (O ι c3)).setCell ⟨w.heap.size + 1, 5, none⟩ (O ι d0)).setCell ⟨w.heap.size + 1, 6, none⟩ (O ι d1)).setCell ⟨w.heap.size + 1, 7, none⟩ (O ι d2)).setCell ⟨w.heap.size + 1, 8, none⟩ (O ι d3)).setCell ⟨w.heap.size + 1, 9, none⟩ (O ι off)).cell? ⟨w.heap.size + 1, 0, none⟩ = some (O ι (xs.length : Int)) := (Zz 0 (by omega)).trans rfl
    have q1 : ((((((((((w2.setCell ⟨w.heap.size + 1, 0, none⟩ (O ι (xs.length : Int))).setCell ⟨w.heap.size + 1, 1, none⟩ (O ι c0)).setCell ⟨w.heap.size + 1, 2, none⟩ (O ι c1)).setCell ⟨w.heap.size + 1, 3, none⟩ (O ι c2)).setCell ⟨w.heap.size + 1, 4, none⟩ (O ι c3)).setCell ⟨w.heap.size + 1, 5, none⟩ (O ι d0)).setCell ⟨w.heap.size + 1, 6, none⟩ (O ι d1)).setCell ⟨w.heap.size + 1, 7, none⟩ (O ι d2)).setCell ⟨w.heap.size + 1, 8, none⟩ (O ι d3)).setCell ⟨w.heap.size + 1, 9, none⟩ (O ι off)).cell? ⟨w.heap.size + 1, 1, none⟩ = some (O ι c0) := (Zz 1 (by omega)).trans rfl
    have q2 : ((((((((((w2.setCell ⟨w.heap.size + 1, 0, none⟩ (O ι (xs.length : Int))).setCell ⟨w.heap.size + 1, 1, none⟩ (O ι c0)).setCell ⟨w.heap.size + 1, 2, none⟩ (O ι c1)).setCell ⟨w.heap.size + 1, 3, none⟩ (O ι c2)).setCell ⟨w.heap.size + 1, 4, none⟩ (O ι c3)).setCell ⟨w.heap.size + 1, 5, none⟩ (O ι d0)).setCell ⟨w.heap.size + 1, 6, none⟩ (O ι d1)).setCell ⟨w.heap.size + 1, 7, none⟩ (O ι d2)).setCell ⟨w.heap.size + 1, 8, none⟩ (O ι d3)).setCell ⟨w.heap.size + 1, 9, none⟩ (O ι off)).cell? ⟨w.heap.size + 1, 2, none⟩ = some (O ι c1) := (Zz 2 (by omega)).trans rfl
    have q3 : ((((((((((w2.setCell ⟨w.heap.size + 1, 0, none⟩ (O ι (xs.length : Int))).setCell ⟨w.heap.size + 1, 1, none⟩ (O ι c0)).setCell ⟨w.heap.size + 1, 2, none⟩ (O ι c1)).setCell ⟨w.heap.size + 1, 3, none⟩ (O ι c2)).setCell ⟨w.heap.size + 1, 4, none⟩ (O ι c3)).setCell ⟨w.heap.size + 1, 5, none⟩ (O ι d0)).setCell ⟨w.heap.size + 1, 6, none⟩ (O ι d1)).setCell ⟨w.heap.size + 1, 7, none⟩ (O ι d2)).setCell ⟨w.heap.size + 1, 8, none⟩ (O ι d3)).setCell ⟨w.heap.size + 1, 9, none⟩ (O ι off)).cell? ⟨w.heap.size + 1, 3, none⟩ = some (O ι c2) := (Zz 3 (by omega)).trans rfl
    have q4 : ((((((((((w2.setCell ⟨w.heap.size + 1, 0, none⟩ (O ι (xs.length : Int))).setCell ⟨w.heap.size + 1, 1, none⟩ (O ι c0)).setCell ⟨w.heap.size + 1, 2, none⟩ (O ι c1)).setCell ⟨w.heap.size + 1, 3, none⟩ (O ι c2)).setCell ⟨w.heap.size + 1, 4, none⟩ (O ι c3)).setCell ⟨w.heap.size + 1, 5, none⟩ (O ι d0)).setCell ⟨w.heap.size + 1, 6, none⟩ (O ι d1)).setCell ⟨w.heap.size + 1, 7, none⟩ (O ι d2)).setCell ⟨w.heap.size + 1, 8, none⟩ (O ι d3)).setCell ⟨w.heap.size + 1, 9, none⟩ (O ι off)).cell? ⟨w.heap.size + 1, 4, none⟩ = some (O ι c3) := (Zz 4 (by omega)).trans rfl
    have q5 : ((((((((((w2.setCell ⟨w.heap.size + 1, 0, none⟩ (O ι (xs.length : Int))).setCell ⟨w.heap.size + 1, 1, none⟩ (O ι c0)).setCell ⟨w.heap.size + 1, 2, none⟩ (O ι c1)).setCell ⟨w.heap.size + 1, 3, none⟩ (O ι c2)).setCell ⟨w.heap.size + 1, 4, none⟩ (O ι c3)).setCell ⟨w.heap.size + 1, 5, none⟩ (O ι d0)).setCell ⟨w.heap.size + 1, 6, none⟩ (O ι d1)).setCell ⟨w.heap.size + 1, 7, none⟩ (O ι d2)).setCell ⟨w.heap.size + 1, 8, none⟩ (O ι d3)).setCell ⟨w.heap.size + 1, 9, none⟩ (O ι off)).cell? ⟨w.heap.size + 1, 5, none⟩ = some (O ι d0) := (Zz 5 (by omega)).trans rfl
    have q6 : ((((((((((w2.setCell ⟨w.heap.size + 1, 0, none⟩ (O ι (xs.length : Int))).setCell ⟨w.heap.size + 1, 1, none⟩ (O ι c0)).setCell ⟨w.heap.size + 1, 2, none⟩ (O ι c1)).setCell ⟨w.heap.size + 1, 3, none⟩ (O ι c2)).setCell ⟨w.heap.size + 1, 4, none⟩ (O ι c3)).setCell ⟨w.heap.size + 1, 5, none⟩ (O ι d0)).setCell ⟨w.heap.size + 1, 6, none⟩ (O ι d1)).setCell ⟨w.heap.size + 1, 7, none⟩ (O ι d2)).setCell ⟨w.heap.size + 1, 8, none⟩ (O ι d3)).setCell ⟨w.heap.size + 1, 9, none⟩ (O ι off)).cell? ⟨w.heap.size + 1, 6, none⟩ = some (O ι d1) := (Zz 6 (by omega)).trans rfl
    have q7 : ((((((((((w2.setCell ⟨w.heap.size + 1, 0, none⟩ (O ι (xs.length : Int))).setCell ⟨w.heap.size + 1, 1, none⟩ (O ι c0)).setCell ⟨w.heap.size + 1, 2, none⟩ (O ι c1)).setCell ⟨w.heap.size + 1, 3, none⟩ (O ι c2)).setCell ⟨w.heap.size + 1, 4, none⟩ (O ι c3)).setCell ⟨w.heap.size + 1, 5, none⟩ (O ι d0)).setCell ⟨w.heap.size + 1, 6, none⟩ (O ι d1)).setCell ⟨w.heap.size + 1, 7, none⟩ (O ι d2)).setCell ⟨w.heap.size + 1, 8, none⟩ (O ι d3)).setCell ⟨w.heap.size + 1, 9, none⟩ (O ι off)).cell? ⟨w.heap.size + 1, 7, none⟩ = some (O ι d2) := (Zz 7 (by omega)).trans rfl
    have q8 : ((((((((((w2.setCell ⟨w.heap.size + 1, 0, none⟩ (O ι (xs.length : Int))).setCell ⟨w.heap.size + 1, 1, none⟩ (O ι c0)).setCell ⟨w.heap.size + 1, 2, none⟩ (O ι c1)).setCell ⟨w.heap.size + 1, 3, none⟩ (O ι c2)).setCell ⟨w.heap.size + 1, 4, none⟩ (O ι c3)).setCell ⟨w.heap.size + 1, 5, none⟩ (O ι d0)).setCell ⟨w.heap.size + 1, 6, none⟩ (O ι d1)).setCell ⟨w.heap.size + 1, 7, none⟩ (O ι d2)).setCell ⟨w.heap.size + 1, 8, none⟩ (O ι d3)).setCell ⟨w.heap.size + 1, 9, none⟩ (O ι off)).cell? ⟨w.heap.size + 1, 8, none⟩ = some (O ι d3) := (Zz 8 (by omega)).trans rfl
    have q9 : ((((((((((w2.setCell ⟨w.heap.size + 1, 0, none⟩ (O ι (xs.length : Int))).setCell ⟨w.heap.size + 1, 1, none⟩ (O ι c0)).setCell ⟨w.heap.size + 1, 2, none⟩ (O ι c1)).setCell ⟨w.heap.size + 1, 3, none⟩ (O ι c2)).setCell ⟨w.heap.size + 1, 4, none⟩ (O ι c3)).setCell ⟨w.heap.size + 1, 5, none⟩ (O ι d0)).setCell ⟨w.heap.size + 1, 6, none⟩ (O ι d1)).setCell ⟨w.heap.size + 1, 7, none⟩ (O ι d2)).setCell ⟨w.heap.size + 1, 8, none⟩ (O ι d3)).setCell ⟨w.heap.size + 1, 9, none⟩ (O ι off)).cell? ⟨w.heap.size + 1, 9, none⟩ = some (O ι off) := (Zz 9 (by omega)).trans rfl
    exact bodyPost_ret (v := .tuple #[γ #[O ι (xs.length : Int), O ι c0, O ι c1, O ι c2, O ι c3, O ι d0, O ι d1, O ι d2, O ι d3, O ι off], .bool ib]) (by simp [results, Tryz.results77, go_sem, q0, q1, q2, q3, q4, q5, q6, q7, q8, q9]) rfl ⟨_, by rw [hval.out], fun _ => by unfold vw; rw [Hc0.out, Hc1.out, Hc2.out, Hc3.out, Hd0.out, Hd1.out, Hd2.out, Hd3.out], ⟨_, _, _, _, _, _, _, _, _, _, rfl⟩, by repeat (first | with_reducible exact HX2.out | with_reducible refine Ext.setCell ?_ (by show w.heap.size ≤ w.heap.size + 1; omega) _)⟩
theorem ze14 {w : World} {vS vT : Value} {xs ss : List Int} (hS : Ints w vS xs) (hT : Ints w vT ss) (off : Int) (lx : xs.length ≤ 1048576) (ls : ss.length ≤ 1048576) :
  Calls Tryz.prog 77 #[γ #[vS, vT, O ι off]] w fun e w' => FixVOk w xs ss off e w' := by
 by_cases h : Good xs ∧ ss.length = xs.length ∧ (0 ≤ off ∧ off ≤ 4096)
 ·exact zv11 hS hT off lx ls h.1 h.2.1 h.2.2
 ·exact zd14 hS hT off lx ls h
theorem zu20 (xs : List Int) (a : Nat) (c : Int) (ha : a < xs.length) (j : Nat) : (xs.set a c).getD j 0 = if a = j then c else xs.getD j 0 := by
 by_cases h : a = j
 ·subst h; rw [if_pos rfl]; simp [List.getD_eq_getElem?_getD, ha]
 ·rw [if_neg h]; simp [List.getD_eq_getElem?_getD, List.getElem?_set, h]
structure FW (w W : World) (n : Int) (xs ss : List Int) (off : Int) : Prop where
 c0 : W.cell? ⟨w.heap.size, 0, none⟩ = some (O ι n)
 l : ∀ j, j < 4 → W.cell? ⟨w.heap.size, 1 + j, none⟩ = some (O ι (xs.getD j 0))
 s : ∀ j, j < 4 → W.cell? ⟨w.heap.size, 5 + j, none⟩ = some (O ι (ss.getD j 0))
 c9 : W.cell? ⟨w.heap.size, 9, none⟩ = some (O ι off)
 r : ∀ j, j < 10 → W.cell? ⟨w.heap.size + 1, j, none⟩ = some (O ι 0)
 ex : Ext w W
theorem zy24 {W : World} {R : Nat} (h : ∀ j, j < 10 → W.cell? ⟨R, j, none⟩ = some (O ι 0)) (v0 v1 v2 v3 v4 v5 v6 v7 v8 v9 : Value) :
  let C := (((((((((W.setCell ⟨R, 0, none⟩ v0).setCell ⟨R, 1, none⟩ v1).setCell ⟨R, 2, none⟩ v2).setCell ⟨R, 3, none⟩ v3).setCell ⟨R, 4, none⟩ v4).setCell ⟨R, 5, none⟩ v5).setCell ⟨R, 6, none⟩ v6).setCell ⟨R, 7, none⟩ v7).setCell ⟨R, 8, none⟩ v8).setCell ⟨R, 9, none⟩ v9
  C.cell? ⟨R, 0, none⟩ = some v0 ∧ C.cell? ⟨R, 1, none⟩ = some v1 ∧ C.cell? ⟨R, 2, none⟩ = some v2 ∧ C.cell? ⟨R, 3, none⟩ = some v3 ∧ C.cell? ⟨R, 4, none⟩ = some v4 ∧ C.cell? ⟨R, 5, none⟩ = some v5 ∧ C.cell? ⟨R, 6, none⟩ = some v6 ∧ C.cell? ⟨R, 7, none⟩ = some v7 ∧ C.cell? ⟨R, 8, none⟩ = some v8 ∧ C.cell? ⟨R, 9, none⟩ = some v9 := by
 intro C
 have Z := zw27 (zw27 (zw27 (zw27 (zw27 (zw27 (zw27 (zw27 (zw27 (zw27 (f := fun _ => (O ι 0 : Value)) h 0 v0) 1 v1) 2 v2) 3 v3) 4 v4) 5 v5) 6 v6) 7 v7) 8 v8) 9 v9
 exact ⟨(Z 0 (by omega)).trans rfl, (Z 1 (by omega)).trans rfl, (Z 2 (by omega)).trans rfl, (Z 3 (by omega)).trans rfl, (Z 4 (by omega)).trans rfl, (Z 5 (by omega)).trans rfl, (Z 6 (by omega)).trans rfl, (Z 7 (by omega)).trans rfl, (Z 8 (by omega)).trans rfl, (Z 9 (by omega)).trans rfl⟩
structure MW (w W : World) (B : Nat) (xs ss : List Int) (off : Int) (M S : List Int) : Prop where
 fl : ∀ j, j < 4 → W.cell? ⟨w.heap.size, 1 + j, none⟩ = some (O ι (xs.getD j 0))
 fs : ∀ j, j < 4 → W.cell? ⟨w.heap.size, 5 + j, none⟩ = some (O ι (ss.getD j 0))
 r : ∀ j, j < 10 → W.cell? ⟨w.heap.size + 1, j, none⟩ = some (O ι 0)
 o0 : W.cell? ⟨B, 0, none⟩ = some (O ι M.length)
 ol : ∀ j, j < 4 → W.cell? ⟨B, 1 + j, none⟩ = some (O ι (M.getD j 0))
 os : ∀ j, j < 4 → W.cell? ⟨B, 5 + j, none⟩ = some (O ι (S.getD j 0))
 o9 : W.cell? ⟨B, 9, none⟩ = some (O ι off)
 ex : Ext w W
 hB : w.heap.size + 1 < B
theorem MW.drew {w W : World} {B : Nat} {xs ss : List Int} {off : Int} {M S : List Int} (h : MW w W B xs ss off M S) : MW w W.drew B xs ss off M S :=
 ⟨h.fl, h.fs, h.r, h.o0, h.ol, h.os, h.o9, h.ex.drew, h.hB⟩
theorem zk6 (M : List Int) (x : Int) (j : Nat) : (M ++ [x]).getD j 0 = if j = M.length then x else M.getD j 0 := by
 by_cases h : j = M.length
 ·subst h; rw [if_pos rfl]; simp [List.getD_eq_getElem?_getD]
 ·rw [if_neg h]
  by_cases h2 : j < M.length
  ·simp [List.getD_eq_getElem?_getD, List.getElem?_append, h2]
  ·have h3 : M.length < j := by omega
   rw [List.getD_eq_getElem?_getD, List.getD_eq_getElem?_getD, List.getElem?_eq_none (by simp; omega), List.getElem?_eq_none (by omega)]
theorem MW.grow {w W : World} {B : Nat} {xs ss : List Int} {off : Int} {M S : List Int} (h : MW w W B xs ss off M S) (a : Nat) (ha : a < M.length) (h4 : a < 4) (c : Int) : MW w (W.setCell ⟨B, 1 + a, none⟩ (O ι c)) B xs ss off (M.set a c) S := by
 have hB := h.hB
 have m : Mut B W (W.setCell ⟨B, 1 + a, none⟩ (O ι c)) := (Mut.refl _ _).setCell _ _
 refine ⟨fun j hj => m.box (by omega) (h.fl j hj), fun j hj => m.box (by omega) (h.fs j hj), fun j hj => m.box (by omega) (h.r j hj), ?_, fun j hj => ?_, fun j hj => ze1 (by omega) (h.os j hj), ze1 (by omega) h.o9, h.ex.setCell (by show w.heap.size ≤ B; omega) _, hB⟩
 ·rw [List.length_set]; exact ze1 (by omega) h.o0
 ·rw [zu20 M a c ha j]
  by_cases e : a = j
  ·subst e; rw [if_pos rfl]; exact World.cell?_setCell_same _ _ _ (h.ol a hj)
  ·rw [if_neg e]; exact ze1 (by omega) (h.ol j hj)
theorem MW.more {w W : World} {B : Nat} {xs ss : List Int} {off : Int} {M S : List Int} (h : MW w W B xs ss off M S) (hl : S.length = M.length) (h4 : M.length < 4) (x y : Int) :
  MW w (((W.setCell ⟨B, 1 + M.length, none⟩ (O ι x)).setCell ⟨B, 5 + M.length, none⟩ (O ι y)).setCell ⟨B, 0, none⟩ (O ι ((M.length : Int) + 1))) B xs ss off (M ++ [x]) (S ++ [y]) := by
 have hB := h.hB
 have m : Mut B W (((W.setCell ⟨B, 1 + M.length, none⟩ (O ι x)).setCell ⟨B, 5 + M.length, none⟩ (O ι y)).setCell ⟨B, 0, none⟩ (O ι ((M.length : Int) + 1))) := (((Mut.refl _ _).setCell _ _).setCell _ _).setCell _ _
 refine ⟨fun j hj => m.box (by omega) (h.fl j hj), fun j hj => m.box (by omega) (h.fs j hj), fun j hj => m.box (by omega) (h.r j hj), ?_, fun j hj => ?_, fun j hj => ?_, ze1 (by omega) (ze1 (by omega) (ze1 (by omega) h.o9)), ((h.ex.setCell (by show w.heap.size ≤ B; omega) _).setCell (by show w.heap.size ≤ B; omega) _).setCell (by show w.heap.size ≤ B; omega) _, hB⟩
 ·rw [List.length_append]
  exact World.cell?_setCell_same _ _ _ (ze1 (by omega) (ze1 (by omega) h.o0))
 ·rw [zk6]
  refine ze1 (by omega) (ze1 (by omega) ?_)
  by_cases e : j = M.length
  ·subst e; rw [if_pos rfl]; exact World.cell?_setCell_same _ _ _ (h.ol _ hj)
  ·rw [if_neg e]; exact ze1 (by omega) (h.ol j hj)
 ·rw [zk6, hl]
  refine ze1 (by omega) ?_
  by_cases e : j = M.length
  ·subst e; rw [if_pos rfl]; exact World.cell?_setCell_same _ _ _ (ze1 (by omega) (h.os _ hj))
  ·rw [if_neg e]; exact ze1 (by omega) (ze1 (by omega) (h.os j hj))
def mgL (xs ss : List Int) (k : Nat) : List Int := (mrg (xs.drop (xs.length - k)) (ss.drop (xs.length - k))).1
def mgS (xs ss : List Int) (k : Nat) : List Int := (mrg (xs.drop (xs.length - k)) (ss.drop (xs.length - k))).2
theorem zl13 (xs ss : List Int) (k : Nat) (hl : ss.length = xs.length) (hk : k < xs.length) : (mgL xs ss (k + 1), mgS xs ss (k + 1)) = mrg1 (xs.getD (xs.length - 1 - k) 0) (ss.getD (xs.length - 1 - k) 0) (mgL xs ss k) (mgS xs ss k) := by
 unfold mgL mgS
 have e : xs.length - (k + 1) = xs.length - 1 - k := by omega
 have e2 : xs.length - k = xs.length - 1 - k + 1 := by omega
 have d1 : xs.drop (xs.length - 1 - k) = xs.getD (xs.length - 1 - k) 0 :: xs.drop (xs.length - 1 - k + 1) := by
  rw [List.drop_eq_getElem_cons (by omega), List.getD_eq_getElem?_getD, List.getElem?_eq_getElem (by omega)]; rfl
 have d2 : ss.drop (xs.length - 1 - k) = ss.getD (xs.length - 1 - k) 0 :: ss.drop (xs.length - 1 - k + 1) := by
  rw [List.drop_eq_getElem_cons (by omega), List.getD_eq_getElem?_getD, List.getElem?_eq_getElem (by omega)]; rfl
 rw [e, e2, d1, d2]
 rfl
theorem ze19 (xs ss : List Int) (k : Nat) (hl : ss.length = xs.length) : (mgS xs ss k).length = (mgL xs ss k).length := (zb7 _ _ (by simp; omega)).symm
theorem zd7 (xs ss : List Int) (hl : ss.length = xs.length) : mgL xs ss 0 = [] ∧ mgS xs ss 0 = [] := by
 unfold mgL mgS
 rw [Nat.sub_zero, List.drop_length, List.drop_of_length_le (by omega)]
 exact ⟨rfl, rfl⟩
theorem zj26 (xs ss : List Int) (hl : ss.length = xs.length) : ∀ k, k ≤ xs.length → (mgL xs ss k).length ≤ k
 | 0, _ => by rw [(zd7 xs ss hl).1]; simp
 | k + 1, hk => by
  have := zj26 xs ss hl k (by omega)
  have e := congrArg Prod.fst (zl13 xs ss k hl (by omega))
  rw [show mgL xs ss (k + 1) = _ from e]
  have := zv23 (xs.getD (xs.length - 1 - k) 0) (ss.getD (xs.length - 1 - k) 0) (mgL xs ss k) (mgS xs ss k) (ze19 xs ss k hl).symm
  omega
def MRel (w : World) (B : Nat) (xs ss : List Int) (off : Int) (i : Value) (W : World) : Prop := ∃ k : Nat, i = O ι ((xs.length : Int) - 1 - k) ∧ k ≤ xs.length ∧ MW w W B xs ss off (mgL xs ss k).reverse (mgS xs ss k).reverse
theorem za23 {k : Nat} {m n : Int} (hk : k < 4) (hm : 0 ≤ m ∧ m ≤ bd k) (hn : 0 ≤ n ∧ n ≤ 4096) : 0 ≤ m * n ∧ m * n ≤ bd (k + 1) := by
 refine ⟨Int.mul_nonneg hm.1 hn.1, ?_⟩
 have h1 : m * n ≤ bd k * 4096 := Int.mul_le_mul hm.2 hn.2 hn.1 (Int.le_trans hm.1 hm.2)
 have h2 : bd k * 4096 = bd (k + 1) := by
  obtain rfl | rfl | rfl | rfl : k = 0 ∨ k = 1 ∨ k = 2 ∨ k = 3 := by omega
  all_goals decide
 omega
theorem zv26 (k : Nat) (hk : k < 4) : bd k ≤ bd (k + 1) ∧ 4096 ≤ bd (k + 1) := by
 obtain rfl | rfl | rfl | rfl : k = 0 ∨ k = 1 ∨ k = 2 ∨ k = 3 := by omega
 all_goals decide
theorem zx23 {k : Nat} {n s : Int} (hk : k < 4) (hn : 0 ≤ n ∧ n ≤ 4096) (hs : -4096 ≤ s ∧ s ≤ 4096) : ∀ (ns ts : List Int), ns.length = ts.length → (∀ m ∈ ns, 0 ≤ m ∧ m ≤ bd k) → (∀ t ∈ ts, -4096 ≤ t ∧ t ≤ 4096) →
  (∀ m ∈ (mrg1 n s ns ts).1, 0 ≤ m ∧ m ≤ bd (k + 1)) ∧ (∀ t ∈ (mrg1 n s ns ts).2, -4096 ≤ t ∧ t ≤ 4096)
 | [], [], _, _, _ => by
  have := zv26 k hk
  rw [zy3]
  split
  ·simp
  ·simp; omega
 | m :: ns, t :: ts, _, h1, h2 => by
  have hb := zv26 k hk
  have up : ∀ x, 0 ≤ x ∧ x ≤ bd k → 0 ≤ x ∧ x ≤ bd (k + 1) := fun x hx => by omega
  have hm := h1 m (List.mem_cons_self ..)
  have hr : ∀ x ∈ ns, 0 ≤ x ∧ x ≤ bd (k + 1) := fun x hx => up x (h1 x (List.mem_cons_of_mem _ hx))
  rw [zo1]
  split
  ·exact ⟨fun x hx => up x (h1 x hx), h2⟩
  ·split
   ·refine ⟨fun x hx => ?_, h2⟩
    rcases List.mem_cons.1 hx with rfl | hx
    ·exact za23 hk hm hn
    ·exact hr x hx
   ·refine ⟨fun x hx => ?_, fun x hx => ?_⟩
    ·rcases List.mem_cons.1 hx with rfl | hx
     ·omega
     ·exact up x (h1 x hx)
    ·rcases List.mem_cons.1 hx with rfl | hx
     ·exact hs
     ·exact h2 x hx
 | [], _ :: _, h, _, _ => by simp at h
 | _ :: _, [], h, _, _ => by simp at h
theorem zk26 (xs ss : List Int) (h4 : xs.length ≤ 4) (hl : ss.length = xs.length) (hr : InR xs xs.length) (hss : InS ss ss.length) : ∀ k, k ≤ xs.length → (∀ m ∈ mgL xs ss k, 0 ≤ m ∧ m ≤ bd k) ∧ (∀ t ∈ mgS xs ss k, -4096 ≤ t ∧ t ≤ 4096)
 | 0, _ => by rw [(zd7 xs ss hl).1, (zd7 xs ss hl).2]; simp
 | k + 1, hk => by
  have ih := zk26 xs ss h4 hl hr hss k (by omega)
  have e := zl13 xs ss k hl (by omega)
  have e1 := congrArg Prod.fst e
  have e2 := congrArg Prod.snd e
  rw [show mgL xs ss (k + 1) = _ from e1, show mgS xs ss (k + 1) = _ from e2]
  exact zx23 (by omega) (hr _ (by omega)) (hss _ (by omega)) _ _ (ze19 xs ss k hl).symm ih.1 ih.2
theorem zm9 (m : Int) (ns : List Int) : (m :: ns).reverse.getD ns.length 0 = m := by
 rw [List.reverse_cons, zk6, if_pos (by simp)]
theorem zm23 (m c : Int) (ns : List Int) : (m :: ns).reverse.set ns.length c = (c :: ns).reverse := by
 rw [List.reverse_cons, List.reverse_cons, List.set_append_right _ _ (by simp)]
 simp
theorem zv4 {w W : World} {B : Nat} {xs ss : List Int} {off : Int} {k : Nat} (hk : k < xs.length) {L S : List Int} (e : (mgL xs ss (k + 1), mgS xs ss (k + 1)) = (L, S)) (h : MW w W B xs ss off L.reverse S.reverse) {i : Int} (hi : i = (xs.length : Int) - 1 - ((k + 1 : Nat) : Int)) : MRel w B xs ss off (O ι i) W := by
 have e1 : mgL xs ss (k + 1) = L := congrArg Prod.fst e
 have e2 : mgS xs ss (k + 1) = S := congrArg Prod.snd e
 exact ⟨k + 1, by rw [hi], by omega, by rw [e1, e2]; exact h⟩
theorem zo21 (s : Int) : ∀ (ns ts : List Int), mrg1 1 s ns ts = (ns, ts)
 | [], [] => rfl
 | [], _ :: _ => rfl
 | _ :: _, [] => rfl
 | _ :: _, _ :: _ => rfl
theorem zv16 (w : World) (xs ss : List Int) (off : Int) (h4 : xs.length ≤ 4) (hl : ss.length = xs.length) (hr : InR xs xs.length) (hss : InS ss ss.length) :
  Calls Tryz.prog 120 #[γ (vw xs ss off)] w fun e w' => e = .returned (γ (vw (mrg xs ss).1.reverse (mrg xs ss).2.reverse off)) ∧ Ext w w' := by
 have x0 : Ext w ((w.alloc (χ (vw xs ss off) 83)).alloc (χ #[O ι 0, O ι 0, O ι 0, O ι 0, O ι 0, O ι 0, O ι 0, O ι 0, O ι 0, O ι 0] 83)) := ((Ext.refl w).alloc _ _).alloc _ _
 have y1 : Ext (w.alloc (χ (vw xs ss off) 83)) ((w.alloc (χ (vw xs ss off) 83)).alloc (χ #[O ι 0, O ι 0, O ι 0, O ι 0, O ι 0, O ι 0, O ι 0, O ι 0, O ι 0, O ι 0] 83)) := (Ext.refl _).alloc _ _
 have n1 := fun j => zd w (vw xs ss off) 83 w.heap.size rfl j
 have n2 := fun j => zd (w.alloc (χ (vw xs ss off) 83)) #[O ι 0, O ι 0, O ι 0, O ι 0, O ι 0, O ι 0, O ι 0, O ι 0, O ι 0, O ι 0] 83 (w.heap.size + 1) (by simp) j
 have S0 : Hid (FW w ((w.alloc (χ (vw xs ss off) 83)).alloc (χ #[O ι 0, O ι 0, O ι 0, O ι 0, O ι 0, O ι 0, O ι 0, O ι 0, O ι 0, O ι 0] 83)) xs.length xs ss off) := by
  refine ⟨y1.box (n1 0), fun j hj => ?_, fun j hj => ?_, y1.box (n1 9), fun j hj => ?_, x0⟩
  ·obtain rfl | rfl | rfl | rfl : j = 0 ∨ j = 1 ∨ j = 2 ∨ j = 3 := by omega
   ·exact y1.box (n1 1)
   ·exact y1.box (n1 2)
   ·exact y1.box (n1 3)
   ·exact y1.box (n1 4)
  ·obtain rfl | rfl | rfl | rfl : j = 0 ∨ j = 1 ∨ j = 2 ∨ j = 3 := by omega
   ·exact y1.box (n1 5)
   ·exact y1.box (n1 6)
   ·exact y1.box (n1 7)
   ·exact y1.box (n1 8)
  ·obtain rfl | rfl | rfl | rfl | rfl | rfl | rfl | rfl | rfl | rfl : j = 0 ∨ j = 1 ∨ j = 2 ∨ j = 3 ∨ j = 4 ∨ j = 5 ∨ j = 6 ∨ j = 7 ∨ j = 8 ∨ j = 9 := by omega
   all_goals exact n2 _
 have sz0 : Hid (((w.alloc (χ (vw xs ss off) 83)).alloc (χ #[O ι 0, O ι 0, O ι 0, O ι 0, O ι 0, O ι 0, O ι 0, O ι 0, O ι 0, O ι 0] 83)).heap.size = w.heap.size + 1 + 1) := by show ((w.alloc (χ (vw xs ss off) 83)).alloc (χ #[O ι 0, O ι 0, O ι 0, O ι 0, O ι 0, O ι 0, O ι 0, O ι 0, O ι 0, O ι 0] 83)).heap.size = _; simp
 clear x0 y1 n1 n2
 generalize hans : (fun (e : Ending) (w' : World) => e = .returned (γ (vw (mrg xs ss).1.reverse (mrg xs ss).2.reverse off)) ∧ Ext w w') = ANS
 have Hans := hide hans
 clear hans
 have f0 := S0.out.c0
 have f9 := S0.out.c9
 unfold vw at S0 f0 f9 sz0 ⊢
 generalize xs.getD 0 0 = e0 at S0 f0 f9 sz0 ⊢
 generalize xs.getD 1 0 = e1 at S0 f0 f9 sz0 ⊢
 generalize xs.getD 2 0 = e2 at S0 f0 f9 sz0 ⊢
 generalize xs.getD 3 0 = e3 at S0 f0 f9 sz0 ⊢
 generalize ss.getD 0 0 = e4 at S0 f0 f9 sz0 ⊢
 generalize ss.getD 1 0 = e5 at S0 f0 f9 sz0 ⊢
 generalize ss.getD 2 0 = e6 at S0 f0 f9 sz0 ⊢
 generalize ss.getD 3 0 = e7 at S0 f0 f9 sz0 ⊢
 go_enter Tryz.func120, Tryz.ntmps120
 go_wp2_with fail
 generalize hV0 : ((w.alloc (χ #[O ι xs.length, O ι e0, O ι e1, O ι e2, O ι e3, O ι e4, O ι e5, O ι e6, O ι e7, O ι off] 83)).alloc (χ #[O ι 0, O ι 0, O ι 0, O ι 0, O ι 0, O ι 0, O ι 0, O ι 0, O ι 0, O ι 0] 83)) = V0 at S0 f0 f9 sz0 ⊢
 clear hV0
 have y3 : Ext V0 (V0.alloc (χ #[O ι 0, O ι 0, O ι 0, O ι 0, O ι 0, O ι 0, O ι 0, O ι 0, O ι 0, O ι off] 83)) := (Ext.refl V0).alloc _ _
 have n3 := fun j => zd V0 #[O ι 0, O ι 0, O ι 0, O ι 0, O ι 0, O ι 0, O ι 0, O ι 0, O ι 0, O ι off] 83 (w.heap.size + 1 + 1) (by rw [sz0.out]) j
 have M0 : Hid (MW w (V0.alloc (χ #[O ι 0, O ι 0, O ι 0, O ι 0, O ι 0, O ι 0, O ι 0, O ι 0, O ι 0, O ι off] 83)) (w.heap.size + 1 + 1) xs ss off (mgL xs ss 0).reverse (mgS xs ss 0).reverse) := by
  rw [(zd7 xs ss hl).1, (zd7 xs ss hl).2]
  refine ⟨fun j hj => y3.box (S0.out.l j hj), fun j hj => y3.box (S0.out.s j hj), fun j hj => y3.box (S0.out.r j hj), n3 0, fun j hj => ?_, fun j hj => ?_, n3 9, S0.out.ex.trans y3, by omega⟩
  ·obtain rfl | rfl | rfl | rfl : j = 0 ∨ j = 1 ∨ j = 2 ∨ j = 3 := by omega
   all_goals exact n3 _
  ·obtain rfl | rfl | rfl | rfl : j = 0 ∨ j = 1 ∨ j = 2 ∨ j = 3 := by omega
   all_goals exact n3 _
 clear y3 n3 S0 f0 f9 sz0
 have Hl := hide hl
 have HR := hide hr
 have HSS := hide hss
 clear hl hr hss
 generalize hBB : w.heap.size + 1 + 1 = B at M0 ⊢
 have HBB : Hid (w.heap.size + 1 < B) := by show w.heap.size + 1 < B; omega
 clear hBB
 go_loopw [4] (fun i W => MRel w B xs ss off i W) (fun i _ => (intOf i + 1).toNat)
 case atStart => exact ⟨0, by simp, by omega, M0.out⟩
 case round =>
  obtain ⟨k, rfl, hk, hM⟩ := hrel
  have HM := hide hM
  clear hM
  by_cases hlt : k < xs.length
  ·have hge : (0 : Int) ≤ (xs.length : Int) - 1 - k := by omega
   obtain ⟨ix, hix⟩ : ∃ ix : Nat, xs.length - 1 - k = ix := ⟨_, rfl⟩
   have hixi : (xs.length : Int) - 1 - k = (ix : Int) := by omega
   have hix4 : ix < 4 := by omega
   have hixx : ix < xs.length := by omega
   have hi0 : (0 : Int) ≤ (ix : Int) := Int.natCast_nonneg _
   have hi44 : (ix : Int) < 4 := by omega
   have qx := HM.out.fl ix hix4
   have qs := HM.out.fs ix hix4
   have hX := HR.out ix hixx
   have hY := HSS.out ix (by have := Hl.out; omega)
   have hbd := zk26 xs ss h4 Hl.out HR.out HSS.out k (by omega)
   have hml := zj26 xs ss Hl.out k (by omega)
   have hsl := ze19 xs ss k Hl.out
   have hstep := hide (zl13 xs ss k Hl.out hlt)
   rw [hix] at hstep
   generalize mgL xs ss k = ML at HM hbd hml hsl hstep
   generalize mgS xs ss k = MS at HM hbd hsl hstep
   generalize xs.getD ix 0 = X at qx hX hstep
   generalize ss.getD ix 0 = Y at qs hY hstep
   have Hix := hide hix
   have Hixi := hide hixi
   clear hix
   rw [hixi]
   clear hixi hge
   have HMd := hide HM.out.drew
   generalize hMr : ML.reverse = M at HM HMd
   generalize hSr : MS.reverse = S at HM HMd
   have HMr := hide hMr
   have HSr := hide hSr
   have hMl : M.length = ML.length := by rw [← hMr]; simp
   have hSl : S.length = MS.length := by rw [← hSr]; simp
   have hM4 : M.length < 4 := by omega
   have hSM : S.length = M.length := by omega
   clear hMr hSr
   have o0 := HMd.out.o0
   by_cases hX1 : X = 1
   ·subst hX1
    have hst2 := hide (hstep.out.trans (zo21 _ _ _))
    have HMl := hide hMl
    have HSl := hide hSl
    have Hs := hide hsl
    clear hMl hSl hsl hSM
    go_wp2_with fail
    go_region
    go_wp2
    go_roundw
    ·exact zv4 hlt hst2.out (by rw [HMr.out, HSr.out]; exact HMd.out) (by have := Hixi.out; omega)
    ·first | (simp [intOf]; done) | (simp [intOf]; omega)
   have hXn : (X == 1) = false := by simp [hX1]
   cases ML with
   | nil =>
    obtain rfl : MS = [] := List.eq_nil_of_length_eq_zero hsl
    have e1 : M = [] := HMr.out.symm
    have e2 : S = [] := HSr.out.symm
    subst e1
    subst e2
    have hst2 := hide (hstep.out.trans ((zy3 _ _).trans (if_neg hX1)))
    clear hsl hMl hSl hSM hM4 hml
    go_wp2_with fail
    go_region
    generalize hWW : wr.drew = WW at HMd o0 ⊢
    clear hWW HM qx qs
    go_wp2_with fail
    go_region
    have HMM := hide HMd.out.drew
    generalize hW2 : WW.drew = W2 at HMM ⊢
    clear hW2 HMd o0
    have o0 : W2.cell? ⟨B, 0, none⟩ = some (O ι 0) := HMM.out.o0
    have g1 : W2.cell? ⟨B, 1, none⟩ = some (O ι 0) := HMM.out.ol 0 (by omega)
    have g5 : W2.cell? ⟨B, 5, none⟩ = some (O ι 0) := HMM.out.os 0 (by omega)
    have g5b : (W2.setCell ⟨B, 1, none⟩ (O ι X)).cell? ⟨B, 5, none⟩ = some (O ι 0) := ze1 (by omega) g5
    have o0c : ((W2.setCell ⟨B, 1, none⟩ (O ι X)).setCell ⟨B, 5, none⟩ (O ι Y)).cell? ⟨B, 0, none⟩ = some (O ι 0) := ze1 (by omega) (ze1 (by omega) o0)
    have hbf := fun o => HMM.out.ex.unfrozen (b := B) (by have := HMM.out.hB; omega) o
    have HMore : Hid (MW w (((W2.setCell ⟨B, 1, none⟩ (O ι X)).setCell ⟨B, 5, none⟩ (O ι Y)).setCell ⟨B, 0, none⟩ (O ι 1)) B xs ss off [X] [Y]) := HMM.out.more rfl (by simp) X Y
    go_wp2
    go_roundw
    ·exact zv4 hlt hst2.out HMore.out (by have := Hixi.out; omega)
    ·first | (simp [intOf]; done) | (simp [intOf]; omega)
   | cons m ns =>
    obtain ⟨t, ts, rfl⟩ : ∃ t ts, MS = t :: ts := by
     cases MS with
     | nil => simp at hsl
     | cons t ts => exact ⟨t, ts, rfl⟩
    have hqs : ts.length = ns.length := by simpa using hsl
    obtain ⟨q, hq⟩ : ∃ q : Nat, ns.length = q := ⟨_, rfl⟩
    have hMq : M.length = q + 1 := by rw [hMl]; simp [hq]
    have hSq : S.length = q + 1 := by omega
    have hm := hbd.1 m (List.mem_cons_self ..)
    have ht := hbd.2 t (List.mem_cons_self ..)
    have hb4 := zw17 k
    have mm : M.getD q 0 = m := by rw [← HMr.out, ← hq]; exact zm9 m ns
    have tt : S.getD q 0 = t := by rw [← HSr.out, ← hq, ← hqs]; exact zm9 t ts
    have hq4 : q < 4 := by omega
    have hq3 : q + 1 < 4 := by omega
    have hq0 : (0 : Int) ≤ (q : Int) := Int.natCast_nonneg _
    have hq44 : (q : Int) < 4 := by omega
    have c1 := HMd.out.ol q hq4
    have c5 := HMd.out.os q hq4
    rw [mm] at c1
    rw [tt] at c5
    have o0q : wr.drew.cell? ⟨B, 0, none⟩ = some (O ι ((q : Int) + 1)) := by rw [o0, hMq]; simp
    have htm : -4096 * 281474976710656 ≤ t * m ∧ t * m ≤ 4096 * 281474976710656 := by
     have h1 := zz1 m (281474976710656 + 1) t (by omega) (by omega)
     have h2 : m * t = t * m := Int.mul_comm _ _
     omega
    have hwm : IntKind.i64.wrap (t * m) = t * m := by rw [IntKind.wrap_i64]; omega
    have hmX := za23 (k := k) (by omega) hm hX
    have hb5 := zw17 (k + 1)
    have hwp : IntKind.i64.wrap (m * X) = m * X := by rw [IntKind.wrap_i64]; omega
    have HMl := hide hMl
    have HMq := hide hMq
    have HSq := hide hSq
    have Hq := hide hq
    have Hqs := hide hqs
    have Hsl := hide hsl
    have HSM := hide hSM
    have HM4 := hide hM4
    clear hMl hMq hSq hq hqs hsl hSM hM4 hSl hml o0 mm tt hmX htm hb4 hb5 hm ht hbd
    go_wp2_with fail
    go_region
    generalize hWW : wr.drew = WW at HMd o0q c1 c5 ⊢
    clear hWW HM qx qs
    have SA : Hid ((fun w' => w'.cell? ⟨B, 5 + q, none⟩ = some (O ι t) ∧ w'.cell? ⟨B, 1 + q, none⟩ = some (O ι m)) WW.drew) := ⟨c5, c1⟩
    go_wp2_with fail
    go_region_held3 (fun w' => w'.cell? ⟨B, 5 + q, none⟩ = some (O ι t) ∧ w'.cell? ⟨B, 1 + q, none⟩ = some (O ι m)) (first | with_reducible exact SA.out | exact SA.out | fail) (fail)
    have HMM := hide HMd.out.drew
    generalize hW2 : WW.drew = W2 at HMM ⊢
    clear hW2 HMd o0q c1 c5 SA
    have c1 : W2.cell? ⟨B, 1 + q, none⟩ = some (O ι m) := by
     have := HMM.out.ol q hq4
     rw [← HMr.out, ← Hq.out, zm9] at this
     rw [← Hq.out]; exact this
    have hbf := fun o => HMM.out.ex.unfrozen (b := B) (by have := HMM.out.hB; omega) o
    by_cases hYt : Y = t * m
    ·subst hYt
     have hst2 := hide (hstep.out.trans ((zo1 _ _ _ _ _ _).trans ((if_neg hX1).trans (if_pos rfl))))
     have HG := hide (HMM.out.grow q (by have := HMq.out; omega) hq4 (m * X))
     go_wp2
     go_roundw
     ·refine zv4 hlt hst2.out ?_ (by have := Hixi.out; omega)
      have g := HG.out
      rw [← HMr.out, ← Hq.out, zm23] at g
      rw [Hq.out] at g
      rw [HSr.out]
      exact g
     ·first | (simp [intOf]; done) | (simp [intOf]; omega)
    ·have hYn : (Y == t * m) = false := by simp [hYt]
     have hst2 := hide (hstep.out.trans ((zo1 _ _ _ _ _ _).trans ((if_neg hX1).trans (if_neg hYt))))
     have g1 := HMM.out.ol (q + 1) hq3
     have g5 := HMM.out.os (q + 1) hq3
     have o0 : W2.cell? ⟨B, 0, none⟩ = some (O ι ((q : Int) + 1)) := by rw [HMM.out.o0, HMq.out]; simp
     have HMore := HMM.out.more HSM.out HM4.out X Y
     rw [HMq.out, show (((q + 1 : Nat) : Int) + 1) = (q : Int) + 1 + 1 by omega] at HMore
     have g5b : (W2.setCell ⟨B, 1 + (q + 1), none⟩ (O ι X)).cell? ⟨B, 5 + (q + 1), none⟩ = _ := ze1 (by omega) g5
     have o0c : ((W2.setCell ⟨B, 1 + (q + 1), none⟩ (O ι X)).setCell ⟨B, 5 + (q + 1), none⟩ (O ι Y)).cell? ⟨B, 0, none⟩ = some (O ι ((q : Int) + 1)) := ze1 (by omega) (ze1 (by omega) o0)
     have HMore2 := hide HMore
     clear HMore
     have hqi : (q : Int) + 1 < 4 := by omega
     have hqi0 : (0 : Int) ≤ (q : Int) + 1 := by omega
     have e1 : (X :: m :: ns).reverse = M ++ [X] := by rw [List.reverse_cons, HMr.out]
     have e2 : (Y :: t :: ts).reverse = S ++ [Y] := by rw [List.reverse_cons, HSr.out]
     have E1 := hide e1
     have E2 := hide e2
     clear e1 e2
     go_wp2
     go_roundw
     ·refine zv4 hlt hst2.out ?_ (by have := Hixi.out; omega)
      rw [E1.out, E2.out]
      exact HMore2.out
     ·first | (simp [intOf]; done) | (simp [intOf]; omega)
  ·have hkk : k = xs.length := by omega
   subst hkk
   have hA : mgL xs ss xs.length = (mrg xs ss).1 := by unfold mgL; rw [Nat.sub_self]; rfl
   have hB : mgS xs ss xs.length = (mrg xs ss).2 := by unfold mgS; rw [Nat.sub_self]; rfl
   rw [hA, hB] at HM
   have Hans2 := Hans.out
   subst Hans2
   clear hA hB Hans
   have hneg : ((xs.length : Int) - 1 - xs.length) = -1 := by omega
   rw [hneg]
   generalize hM1 : (mrg xs ss).1.reverse = M at HM
   generalize hS1 : (mrg xs ss).2.reverse = S at HM
   have HM1 := hide hM1
   have HS1 := hide hS1
   clear hM1 hS1
   have z0 := HM.out.o0
   have z1 : wr.cell? ⟨B, 1, none⟩ = _ := HM.out.ol 0 (by omega)
   have z2 : wr.cell? ⟨B, 2, none⟩ = _ := HM.out.ol 1 (by omega)
   have z3 : wr.cell? ⟨B, 3, none⟩ = _ := HM.out.ol 2 (by omega)
   have z4 : wr.cell? ⟨B, 4, none⟩ = _ := HM.out.ol 3 (by omega)
   have z5 : wr.cell? ⟨B, 5, none⟩ = _ := HM.out.os 0 (by omega)
   have z6 : wr.cell? ⟨B, 6, none⟩ = _ := HM.out.os 1 (by omega)
   have z7 : wr.cell? ⟨B, 7, none⟩ = _ := HM.out.os 2 (by omega)
   have z8 : wr.cell? ⟨B, 8, none⟩ = _ := HM.out.os 3 (by omega)
   have z9 := HM.out.o9
   have rr := HM.out.r
   have rr0 := rr 0 (by omega)
   have rr1 := rr 1 (by omega)
   have rr2 := rr 2 (by omega)
   have rr3 := rr 3 (by omega)
   have rr4 := rr 4 (by omega)
   have rr5 := rr 5 (by omega)
   have rr6 := rr 6 (by omega)
   have rr7 := rr 7 (by omega)
   have rr8 := rr 8 (by omega)
   have rr9 := rr 9 (by omega)
   have rf := fun o => HM.out.ex.unfrozen (b := w.heap.size + 1) (by omega) o
   have HE := hide HM.out.ex
   have HRR := hide rr
   clear rr
   generalize hT0 : M.getD 0 0 = t0 at z1
   have HT0 := hide hT0
   clear hT0
   generalize hT1 : M.getD 1 0 = t1 at z2
   have HT1 := hide hT1
   clear hT1
   generalize hT2 : M.getD 2 0 = t2 at z3
   have HT2 := hide hT2
   clear hT2
   generalize hT3 : M.getD 3 0 = t3 at z4
   have HT3 := hide hT3
   clear hT3
   generalize hU0 : S.getD 0 0 = u0 at z5
   have HU0 := hide hU0
   clear hU0
   generalize hU1 : S.getD 1 0 = u1 at z6
   have HU1 := hide hU1
   clear hU1
   generalize hU2 : S.getD 2 0 = u2 at z7
   have HU2 := hide hU2
   clear hU2
   generalize hU3 : S.getD 3 0 = u3 at z8
   have HU3 := hide hU3
   clear hU3
   go_wp2
   obtain ⟨q0, q1, q2, q3, q4, q5, q6, q7, q8, q9⟩ := zy24 HRR.out (O ι (M.length : Int)) (O ι t0) (O ι t1) (O ι t2) (O ι t3) (O ι u0) (O ι u1) (O ι u2) (O ι u3) (O ι off)
   exact bodyPost_ret (v := γ #[O ι (M.length : Int), O ι t0, O ι t1, O ι t2, O ι t3, O ι u0, O ι u1, O ι u2, O ι u3, O ι off]) (by simp [results, Tryz.results120, go_sem, q0, q1, q2, q3, q4, q5, q6, q7, q8, q9]) rfl ⟨by unfold vw; rw [HM1.out, HS1.out, HT0.out, HT1.out, HT2.out, HT3.out, HU0.out, HU1.out, HU2.out, HU3.out], by repeat (first | with_reducible exact HE.out | with_reducible refine Ext.setCell ?_ (by show w.heap.size ≤ w.heap.size + 1; omega) _)⟩
end
section
open Go.ChangeShapes Go.RowKit Go.Shelf
attribute [local go_sem] Oper.semAt_some
structure KC (b : Nat) (A B : World) : Prop where
 size : A.heap.size ≤ B.heap.size
 keep : ∀ k o, b ≤ k → A.heap[k]? = some o → o.isCells = true → B.heap[k]? = some o
theorem KC.refl (b : Nat) (A : World) : KC b A A := ⟨Nat.le_refl _, fun _ _ _ h _ => h⟩
theorem KC.trans {b : Nat} {A B C : World} (x : KC b A B) (y : KC b B C) : KC b A C := ⟨Nat.le_trans x.size y.size, fun k o hb h hc => y.keep k o hb (x.keep k o hb h hc) hc⟩
theorem KC.alloc (b : Nat) (A : World) (o : Obj) : KC b A (A.alloc o) := by
 refine ⟨by simp, fun k o2 hb h hc => ?_⟩
 have hk : k < A.heap.size := by
  rcases Nat.lt_or_ge k A.heap.size with q | q
  ·exact q
  ·rw [Array.getElem?_eq_none q] at h; cases h
 rw [Below.heap_alloc A o k hk]; exact h
theorem KC.cell {b : Nat} {A B : World} (x : KC b A B) {k o : Nat} {v : Value} (hb : b ≤ k) (h : A.cell? ⟨k, o, none⟩ = some v) : B.cell? ⟨k, o, none⟩ = some v := by
 have hk : k < A.heap.size := zj h
 have hc : ∃ ob, A.heap[k]? = some ob ∧ ob.isCells = true := by
  cases hh : A.heap[k]? with
  | none => simp [World.cell?, hh] at h
  | some ob =>
   refine ⟨ob, rfl, ?_⟩
   cases ob with
   | cells cs t f => rfl
   | _ => simp [World.cell?, hh] at h
 obtain ⟨ob, h1, h2⟩ := hc
 exact (World.cell?_of_block ((x.keep k ob hb h1 h2).trans h1.symm)).trans h
theorem zp10 {F : Fence} (hd : F.depth = none) (k : Nat) : F.room k := fun d h => by rw [hd] at h; cases h
def plD (M S : List Int) (d : Nat) (at_ : Int) : List Int := places (M.take d).reverse (S.take d).reverse at_
theorem zg21 (M S : List Int) (at_ : Int) : plD M S 0 at_ = [at_] := by simp [plD, places]
theorem zh21 (M S : List Int) (d : Nat) (at_ : Int) (h1 : d < M.length) (h2 : d < S.length) : plD M S (d + 1) at_ = (List.range (M.getD d 0).toNat).flatMap fun (i : Nat) => plD M S d (at_ + (i : Int) * S.getD d 0) := by
 unfold plD
 rw [ze2 M d h1, ze2 S d h2, List.reverse_append, List.reverse_append]
 rfl
def plK (M S : List Int) (d : Nat) (at_ : Int) (k : Nat) : List Int := (List.range k).flatMap fun (i : Nat) => plD M S d (at_ + (i : Int) * S.getD d 0)
theorem zf21 (M S : List Int) (d : Nat) (at_ : Int) (k : Nat) : plK M S d at_ (k + 1) = plK M S d at_ k ++ plD M S d (at_ + (k : Int) * S.getD d 0) := by
 simp [plK, List.range_succ]
theorem zr8 (M S : List Int) (d : Nat) (at_ : Int) {k m : Nat} (h : k ≤ m) : plK M S d at_ k <+: plK M S d at_ m := by
 obtain ⟨j, rfl⟩ := Nat.exists_eq_add_of_le h
 unfold plK
 rw [List.range_add, List.flatMap_append]
 exact List.prefix_append _ _
theorem zd26 (M S : List Int) (d : Nat) (at_ : Int) {k m : Nat} (h : k ≤ m) : (plK M S d at_ k).length ≤ (plK M S d at_ m).length := (zr8 M S d at_ h).length_le
def WRel (J : List Int → World → Prop) (b : Nat) (W1 : World) (pre M S : List Int) (d : Nat) (place t : Int) (p i : Value) (cnt : Int) (wr : World) : Prop :=
 ∃ k : Nat, i = O ι k ∧ p = O ι (place + (k : Int) * t) ∧ (k : Int) ≤ cnt ∧ J (pre ++ plK M S d place k) wr ∧ KC b W1 wr
theorem ze23 (F : Fence) (hd : F.depth = none) (h84 : F.fn 121) (hro : F.round = none) (l b N : Nat) (Pr : Int → Prop) (J Jx : List Int → World → Prop) (hJ : AbidesFrom b J)
  (hY : ∀ m pre x W, Pr x → J pre W → pre.length < N → YieldAt F m Tryz.prog l #[O ι x] W fun e W' =>
   (e = .returned (.bool true) ∧ J (pre ++ [x]) W' ∧ KC b W W') ∨ (e = .returned (.bool false) ∧ Jx (pre ++ [x]) W'))
  (M S : List Int) (off : Int) (h4 : M.length ≤ 4) (hl : S.length = M.length) (hM : ∀ m ∈ M, 0 ≤ m ∧ m ≤ 4096) (hS : ∀ t ∈ S, -4096 ≤ t ∧ t ≤ 4096) :
  ∀ (d : Nat), d ≤ M.length → ∀ (n : Nat) (place : Int) (pre : List Int) (W : World), b ≤ W.heap.size → (-(20000000 * (5 - (d : Int))) ≤ place ∧ place ≤ 20000000 * (5 - (d : Int))) → J pre W → pre.length + (plD M S d place).length ≤ N → (∀ x ∈ plD M S d place, Pr x) →
   CallsIn F n Tryz.prog 121 #[γ (vw M S off), O ι ((d : Int) - 1), O ι place, .func (.yield l) #[] #[]] W fun e W' =>
    (e = .returned (.bool true) ∧ J (pre ++ plD M S d place) W' ∧ KC b W W') ∨ (e = .returned (.bool false) ∧ ∃ q, q <+: plD M S d place ∧ Jx (pre ++ q) W') := by
 intro d
 have hdd : ∀ k : Nat, (F.depth.isSome = true → 1 ≤ k) := fun k h => by rw [hd] at h; cases h
 induction d with
 | zero =>
  intro _ n place pre W hb hp hJ0 hN hPr
  rw [zg21] at hN hPr ⊢
  have hPp : Pr place := hPr place (List.mem_singleton.2 rfl)
  clear hPr
  unfold vw
  generalize M.getD 0 0 = e0
  generalize M.getD 1 0 = e1
  generalize M.getD 2 0 = e2
  generalize M.getD 3 0 = e3
  generalize S.getD 0 0 = e4
  generalize S.getD 1 0 = e5
  generalize S.getD 2 0 = e6
  generalize S.getD 3 0 = e7
  have hJ1 : J pre (W.alloc (χ #[O ι M.length, O ι e0, O ι e1, O ι e2, O ι e3, O ι e4, O ι e5, O ι e6, O ι e7, O ι off] 83)) := hJ pre W _ none hJ0 (World.grownBy_alloc W _ none) (fun r e => by cases e)
  have hK1 := KC.alloc b W (χ #[O ι M.length, O ι e0, O ι e1, O ι e2, O ι e3, O ι e4, O ι e5, O ι e6, O ι e7, O ι off] 83)
  obtain ⟨fn, tmps, assign, body, hy, hR⟩ := hY (n - 1) pre place _ hPp hJ1 (by simp at hN; omega)
  refine callsIn_of_wp Tryz.func121 rfl h84 ?_ hro
  simp only [Tryz.ntmps121, List.size_toArray, List.length_cons, List.length_nil, Nat.reduceAdd, Nat.reduceSub, Array.replicate_succ, Array.replicate_zero, List.push_toArray, List.append_toArray, List.nil_append, List.cons_append]
  gi_wp2
  refine hR.mono ?_
  rintro e W2 (⟨rfl, hJ2, hk2⟩ | ⟨rfl, hx2⟩)
  ·gi_wp2
   go_ret
   exact .inl ⟨rfl, hJ2, hK1.trans hk2⟩
  ·gi_wp2
   go_ret
   exact .inr ⟨rfl, [place], List.prefix_refl _, hx2⟩
 | succ d ih =>
  intro hdl n place pre W hb hp hJ0 hN hPr
  have hdS : d < S.length := by omega
  have hcnt : 0 ≤ M.getD d 0 ∧ M.getD d 0 ≤ 4096 := by
   rw [List.getD_eq_getElem?_getD, List.getElem?_eq_getElem (by omega)]; exact hM _ (List.getElem_mem _)
  have hst : -4096 ≤ S.getD d 0 ∧ S.getD d 0 ≤ 4096 := by
   rw [List.getD_eq_getElem?_getD, List.getElem?_eq_getElem hdS]; exact hS _ (List.getElem_mem _)
  have n1 := fun j => zd W (vw M S off) 83 W.heap.size rfl j
  have c0 := n1 0
  have c9 := n1 9
  have hd4 : d < 4 := by omega
  have hcl : ∀ j, j < 4 → (W.alloc (χ (vw M S off) 83)).cell? ⟨W.heap.size, 1 + j, none⟩ = some (O ι (M.getD j 0)) := fun j hj => by
   obtain rfl | rfl | rfl | rfl : j = 0 ∨ j = 1 ∨ j = 2 ∨ j = 3 := by omega
   ·exact n1 1
   ·exact n1 2
   ·exact n1 3
   ·exact n1 4
  have hcs : ∀ j, j < 4 → (W.alloc (χ (vw M S off) 83)).cell? ⟨W.heap.size, 5 + j, none⟩ = some (O ι (S.getD j 0)) := fun j hj => by
   obtain rfl | rfl | rfl | rfl : j = 0 ∨ j = 1 ∨ j = 2 ∨ j = 3 := by omega
   ·exact n1 5
   ·exact n1 6
   ·exact n1 7
   ·exact n1 8
  have l1 : (W.alloc (χ (vw M S off) 83)).cell? ⟨W.heap.size, 1, none⟩ = _ := n1 1
  have l2 : (W.alloc (χ (vw M S off) 83)).cell? ⟨W.heap.size, 2, none⟩ = _ := n1 2
  have l3 : (W.alloc (χ (vw M S off) 83)).cell? ⟨W.heap.size, 3, none⟩ = _ := n1 3
  have l4 : (W.alloc (χ (vw M S off) 83)).cell? ⟨W.heap.size, 4, none⟩ = _ := n1 4
  have l5 : (W.alloc (χ (vw M S off) 83)).cell? ⟨W.heap.size, 5, none⟩ = _ := n1 5
  have l6 : (W.alloc (χ (vw M S off) 83)).cell? ⟨W.heap.size, 6, none⟩ = _ := n1 6
  have l7 : (W.alloc (χ (vw M S off) 83)).cell? ⟨W.heap.size, 7, none⟩ = _ := n1 7
  have l8 : (W.alloc (χ (vw M S off) 83)).cell? ⟨W.heap.size, 8, none⟩ = _ := n1 8
  have qn := hcl d hd4
  have qt := hcs d hd4
  have hJ1 : J pre (W.alloc (χ (vw M S off) 83)) := hJ pre W _ none hJ0 (World.grownBy_alloc W _ none) (fun r e => by cases e)
  have hK1 := KC.alloc b W (χ (vw M S off) 83)
  rw [zh21 M S d place (by omega) hdS] at hN hPr ⊢
  have hPk : Hid (∀ k : Nat, k < (M.getD d 0).toNat → ∀ x ∈ plD M S d (place + (k : Int) * S.getD d 0), Pr x) := fun k hk x hx => hPr x (List.mem_flatMap.2 ⟨k, List.mem_range.2 hk, hx⟩)
  clear hPr
  have hIH := hide (fun n place pre W => ih (by omega) n place pre W)
  clear ih n1 hcl hcs
  have Hk : Hid (plK M S d place (M.getD d 0).toNat = (List.range (M.getD d 0).toNat).flatMap fun (i : Nat) => plD M S d (place + (i : Int) * S.getD d 0)) := rfl
  rw [← Hk.out] at hN ⊢
  clear Hk
  have hks : Hid (∀ k, plK M S d place (k + 1) = plK M S d place k ++ plD M S d (place + (k : Int) * S.getD d 0)) := fun k => zf21 M S d place k
  unfold vw at hJ1 hK1 qn qt c0 c9 l1 l2 l3 l4 l5 l6 l7 l8 hIH ⊢
  refine callsIn_of_wp Tryz.func121 rfl h84 ?_ hro
  simp only [Tryz.ntmps121, List.size_toArray, List.length_cons, List.length_nil, Nat.reduceAdd, Nat.reduceSub, Array.replicate_succ, Array.replicate_zero, List.push_toArray, List.append_toArray, List.nil_append, List.cons_append]
  generalize hcn : M.getD d 0 = cnt at *
  generalize hct : S.getD d 0 = t at *
  generalize M.getD 0 0 = e0 at *
  generalize M.getD 1 0 = e1 at *
  generalize M.getD 2 0 = e2 at *
  generalize M.getD 3 0 = e3 at *
  generalize S.getD 0 0 = e4 at *
  generalize S.getD 1 0 = e5 at *
  generalize S.getD 2 0 = e6 at *
  generalize S.getD 3 0 = e7 at *
  have hax : ((d + 1 : Nat) : Int) - 1 = (d : Int) := by omega
  rw [hax]
  clear hax
  have hd0 : (0 : Int) ≤ (d : Int) := Int.natCast_nonneg _
  have hdi : (d : Int) < 4 := by omega
  generalize hW1 : W.alloc (χ #[O ι M.length, O ι e0, O ι e1, O ι e2, O ι e3, O ι e4, O ι e5, O ι e6, O ι e7, O ι off] 83) = W1 at *
  have hdn : ¬ (d : Int) < 0 := by omega
  gi_wp2
  try simp only [decide_eq_false hdn]
  have hNN := hide hN
  clear hdn hN
  have S0 : WRel J b W1 pre M S d place t (O ι place) (O ι 0) cnt W1 := ⟨0, rfl, by simp, hcnt.1, by simpa [plK] using hJ1, KC.refl _ _⟩
  have HS0 := hide S0
  clear S0 hJ1
  gi_loopw [2, 19] (fun p i wr => WRel J b W1 pre M S d place t p i cnt wr) (fun p i _ => (cnt - intOf i).toNat)
  case atStart => exact HS0.out
  case round =>
   obtain ⟨k, rfl, rfl, hk, hJk, hKk⟩ := hrel
   have c0' := hKk.cell hb c0
   have c9' := hKk.cell hb c9
   have l1' := hKk.cell hb l1
   have l2' := hKk.cell hb l2
   have l3' := hKk.cell hb l3
   have l4' := hKk.cell hb l4
   have l5' := hKk.cell hb l5
   have l6' := hKk.cell hb l6
   have l7' := hKk.cell hb l7
   have l8' := hKk.cell hb l8
   by_cases hlt : (k : Int) < cnt
   ·have hkt : -16777216 ≤ (k : Int) * t ∧ (k : Int) * t ≤ 16777216 := by
     have := zz1 (k : Int) 4097 t (by omega) (by omega)
     omega
    have hle : (plK M S d place k).length + (plD M S d (place + (k : Int) * t)).length ≤ (plK M S d place cnt.toNat).length := by
     rw [← List.length_append, ← hks.out]
     exact zd26 M S d place (by omega)
    have hcall := (hIH.out (n - 1) (place + (k : Int) * t) (pre ++ plK M S d place k) wr (Nat.le_trans hb (by have := hKk.size; rw [← hW1] at this; simp at this; omega)) (by omega) hJk (by have := hNN.out; rw [List.length_append]; omega) (hPk.out k (by omega)))
    have hpf : ∀ q, q <+: plD M S d (place + (k : Int) * t) → plK M S d place k ++ q <+: plK M S d place cnt.toNat := fun q hq => by
     refine List.IsPrefix.trans ?_ (zr8 M S d place (show k + 1 ≤ cnt.toNat by omega))
     rw [hks.out]
     exact (List.prefix_append_right_inj _).2 hq
    have hks1 := hide (hks.out k)
    have Hpf := hide hpf
    generalize hQ : plD M S d (place + (k : Int) * t) = PD at hcall Hpf hks1
    clear hQ hpf hle
    generalize hI : place + (k : Int) * t = I at hcall ⊢
    have HI := hide hI
    have hIb : -100000000 ≤ I ∧ I ≤ 100000000 := by omega
    clear hI
    have qtk := hKk.cell hb qt
    have HC := hide (hcall.mono (R' := fun e W3 => (e = .returned (.bool true) ∧ J (pre ++ plK M S d place k ++ PD) W3 ∧ KC b wr W3 ∧ W3.cell? ⟨W.heap.size, 5 + d, none⟩ = some (O ι t)) ∨ (e = .returned (.bool false) ∧ ∃ q, q <+: PD ∧ Jx (pre ++ plK M S d place k ++ q) W3)) (fun e W3 h => h.elim (fun ⟨he, hj, hk⟩ => .inl ⟨he, hj, hk, hk.cell hb qtk⟩) .inr))
    clear hcall
    gi_wp2_with ((try refine ⟨hdd _, ?_⟩); gi_at_call 121; refine HC.out.mono ?_; clear HC; rintro e W3 (⟨rfl, hJ3, hk3, qt3⟩ | ⟨rfl, q, hq, hx3⟩))
    ·go_roundw
     ·refine ⟨k + 1, by go_num, ?_, by omega, ?_, hKk.trans hk3⟩
      ·rw [← HI.out]
       congr 1
       rw [Int.natCast_add, Int.add_mul]
       omega
      ·rw [hks1.out, ← List.append_assoc]; exact hJ3
     ·simp [intOf]; omega
    ·go_ret
     exact .inr ⟨rfl, plK M S d place k ++ q, Hpf.out q hq, by rw [← List.append_assoc]; exact hx3⟩
   ·have hkk : (k : Int) = cnt := by omega
    have hkn : cnt.toNat = k := by omega
    have Hkn := hide hkn
    have hK2 := hide (hK1.trans hKk)
    have HJk := hide hJk
    clear hkn hJk hKk
    gi_wp2
    go_ret
    exact .inl ⟨rfl, by rw [Hkn.out]; exact HJk.out, hK2.out⟩
end
section
open Go.ChangeShapes Go.RowKit
def offsL (xs ss : List Int) (off : Int) : List Int := if prod xs = 0 then [] else places xs ss off
end
section
open Go.ChangeShapes Go.RowKit Go.Shelf
attribute [local go_sem] Oper.semAt_some
theorem zx19 (xs : List Int) : ∀ a : Int, xs.foldl (· * ·) a = a * xs.foldl (· * ·) 1 := by
 induction xs with
 | nil => intro a; simp
 | cons x xs ih =>
  intro a
  simp only [List.foldl_cons]
  rw [ih (a * x), ih (1 * x), Int.one_mul, Int.mul_assoc]
theorem zc3 (n : Int) (xs : List Int) : prod (n :: xs) = n * prod xs := by
 unfold prod
 simp only [List.foldl_cons]
 rw [zx19, Int.one_mul]
theorem zc19 (n s : Int) : ∀ (ns ts : List Int), ns.length = ts.length → prod (mrg1 n s ns ts).1 = n * prod ns
 | [], [], _ => by
  rw [zy3]
  split
  ·next h => subst h; simp [prod]
  ·rw [zc3]
 | m :: ns, t :: ts, _ => by
  rw [zo1]
  split
  ·next h => subst h; simp
  ·split
   ·rw [zc3, zc3, Int.mul_comm m n, Int.mul_assoc]
   ·rw [zc3 n (m :: ns)]
 | [], _ :: _, h => by simp at h
 | _ :: _, [], h => by simp at h
theorem zw23 (n s : Int) (hn : 1 ≤ n) : ∀ (ns ts : List Int), (∀ m ∈ ns, 1 ≤ m) → ∀ m ∈ (mrg1 n s ns ts).1, 1 ≤ m
 | [], ts, h => by
  rw [zt4]
  split
  ·simp
  ·intro k hk
   have : k = n := by simpa using hk
   omega
 | m :: ns, [], h => by
  rw [zu4]
  split
  ·exact h
  ·intro k hk
   rcases List.mem_cons.1 hk with rfl | hk
   ·exact hn
   ·exact h k hk
 | m :: ns, t :: ts, h => by
  have hm : 1 ≤ m := h m (List.mem_cons_self ..)
  rw [zo1]
  split
  ·exact h
  ·split
   ·intro k hk
    rcases List.mem_cons.1 hk with rfl | hk
    ·have : 1 * 1 ≤ m * n := Int.mul_le_mul hm hn (by omega) (by omega)
     omega
    ·exact h k (List.mem_cons_of_mem _ hk)
   ·intro k hk
    rcases List.mem_cons.1 hk with rfl | hk
    ·exact hn
    ·exact h k hk
theorem zm15 : ∀ (xs ss : List Int), xs.length = ss.length → (∀ n ∈ xs, 1 ≤ n) → prod (mrg xs ss).1 = prod xs ∧ ∀ m ∈ (mrg xs ss).1, 1 ≤ m
 | [], [], _, _ => by simp [mrg]
 | n :: ns, s :: ss, h, hp => by
  have hl : ns.length = ss.length := by simpa using h
  have ih := zm15 ns ss hl (fun k hk => hp k (List.mem_cons_of_mem _ hk))
  refine ⟨?_, zw23 n s (hp n (List.mem_cons_self ..)) _ _ ih.2⟩
  show prod (mrg1 n s _ _).1 = _
  rw [zc19 n s _ _ (zb7 ns ss hl), ih.1, zc3]
 | [], _ :: _, h, _ => by simp at h
 | _ :: _, [], h, _ => by simp at h
theorem zk19 : ∀ (ns : List Int), (∀ m ∈ ns, 1 ≤ m) → 1 ≤ prod ns ∧ ∀ m ∈ ns, m ≤ prod ns
 | [], _ => by simp [prod]
 | n :: ns, h => by
  have ih := zk19 ns (fun k hk => h k (List.mem_cons_of_mem _ hk))
  have hn := h n (List.mem_cons_self ..)
  rw [zc3]
  have h1 : n * 1 ≤ n * prod ns := Int.mul_le_mul_of_nonneg_left ih.1 (by omega)
  have h2 : 1 * prod ns ≤ n * prod ns := Int.mul_le_mul_of_nonneg_right hn (by omega)
  refine ⟨by omega, fun m hm => ?_⟩
  rcases List.mem_cons.1 hm with rfl | hm
  ·omega
  ·have := ih.2 m hm
   omega
theorem zm7 {A B : World} (x : Ext A B) : A.grownBy B none := ⟨x.bl.os, x.bl.tape, x.bl.output, x.bl.size, fun k hk _ => x.bl.block k hk⟩
theorem zd13 {xs : List Int} (hr : InR xs xs.length) (h0 : prod xs ≠ 0) : ∀ n ∈ xs, 1 ≤ n := fun n hn => by
 obtain ⟨j, hj, e⟩ := zm3 hn
 have h1 := (hr j hj).1
 rcases Int.lt_or_le n 1 with q | q
 ·exfalso
  have hz : xs.getD j 0 = 0 := by omega
  have := prod_zero_aux' xs j hz xs.length hj (Nat.le_refl _)
  rw [List.take_length] at this
  exact h0 this
 ·exact q
 where
 prod_zero_aux' (ys : List Int) (a : Nat) (h0 : ys.getD a 0 = 0) : ∀ k, a < k → k ≤ ys.length → prod (ys.take k) = 0
  | 0, h, _ => absurd h (Nat.not_lt_zero _)
  | k + 1, h, hk => by
   rw [zn4 ys k (by omega)]
   by_cases e : a = k
   ·subst e; rw [h0]; simp
   ·rw [prod_zero_aux' ys a h0 k (by omega) (by omega)]; simp
theorem zs9 : ∀ (xs ss : List Int), xs.length = ss.length → (mrg xs ss).1.length ≤ xs.length
 | [], [], _ => by simp [mrg]
 | n :: ns, s :: ss, h => by
  have hl : ns.length = ss.length := by simpa using h
  have ih := zs9 ns ss hl
  have hm : ∀ (a b : List Int), (mrg1 n s a b).1.length ≤ a.length + 1 := fun a b => by
   cases a with
   | nil => rw [zt4]; split <;> simp
   | cons m a =>
    cases b with
    | nil => rw [zu4]; split <;> simp
    | cons t b => rw [zo1]; split <;> (try split) <;> simp
  have h2 : (mrg (n :: ns) (s :: ss)).1.length ≤ (mrg ns ss).1.length + 1 := hm _ _
  simp only [List.length_cons]
  omega
 | [], _ :: _, h => by simp at h
 | _ :: _, [], h => by simp at h
theorem za7 : ∀ (xs ss : List Int), ∀ t ∈ (mrg xs ss).2, t ∈ ss
 | [], ss, t, h => by simp [mrg] at h
 | n :: ns, [], t, h => by simp [mrg] at h
 | n :: ns, s :: ss, t, h => by
  have ih := za7 ns ss
  have hm : ∀ (a b : List Int), ∀ t ∈ (mrg1 n s a b).2, t ∈ s :: b := fun a b t ht => by
   cases a with
   | nil =>
    rw [zt4] at ht
    split at ht
    ·exact List.mem_cons_of_mem _ ht
    ·exact ht
   | cons m a =>
    cases b with
    | nil =>
     rw [zu4] at ht
     split at ht
     ·exact List.mem_cons_of_mem _ ht
     ·exact ht
    | cons u b =>
     rw [zo1] at ht
     split at ht
     ·exact List.mem_cons_of_mem _ ht
     ·split at ht
      ·exact List.mem_cons_of_mem _ ht
      ·exact ht
  rcases List.mem_cons.1 (hm _ _ t h) with rfl | h
  ·exact List.mem_cons_self ..
  ·exact List.mem_cons_of_mem _ (ih t h)
theorem zs12 (l b : Nat) (xs ss : List Int) (off : Int) (h4 : xs.length ≤ 4) (hl : ss.length = xs.length) (hr : InR xs xs.length) (hz : prod xs ≠ 0) (hp : prod xs ≤ 4096) (hss : InS ss ss.length) (ho : 0 ≤ off ∧ off ≤ 4096) (Pr : Int → Prop) (hPr : ∀ x ∈ offsL xs ss off, Pr x) (J Jx : List Int → World → Prop) (hJ : AbidesFrom b J)
  (hY : ∀ m pre x W, Pr x → J pre W → pre.length < (offsL xs ss off).length → YieldAt Fence.wide m Tryz.prog l #[O ι x] W fun e W' =>
   (e = .returned (.bool true) ∧ J (pre ++ [x]) W' ∧ KC b W W') ∨ (e = .returned (.bool false) ∧ Jx (pre ++ [x]) W'))
  (n : Nat) (W : World) (hb : b ≤ W.heap.size) (h0 : J [] W) :
  CallsIn Fence.wide n Tryz.prog 121 #[γ (vw (mrg xs ss).1.reverse (mrg xs ss).2.reverse off), O ι (((mrg xs ss).1.reverse.length : Int) - 1), O ι off, .func (.yield l) #[] #[]] W fun e W' =>
    (e = .returned (.bool true) ∧ J (offsL xs ss off) W') ∨ (e = .returned (.bool false) ∧ ∃ q, q <+: offsL xs ss off ∧ Jx q W') := by
 have hpos := zd13 hr hz
 have hM := zm15 xs ss hl.symm hpos
 have hle := zk19 _ hM.2
 have hlen := zb7 xs ss hl.symm
 have hlen4 := zs9 xs ss hl.symm
 have hl4 : (mrg xs ss).1.reverse.length ≤ 4 := by rw [List.length_reverse]; omega
 have hpl : plD (mrg xs ss).1.reverse (mrg xs ss).2.reverse (mrg xs ss).1.reverse.length off = offsL xs ss off := by
  unfold plD offsL
  rw [if_neg hz, List.take_length, List.length_reverse, hlen, ← List.length_reverse, List.take_length, List.reverse_reverse, List.reverse_reverse]
  exact zo8 xs ss off hl.symm (fun k hk => by have := hpos k hk; omega)
 have key := ze23 Fence.wide rfl trivial rfl l b (offsL xs ss off).length Pr J Jx hJ hY (mrg xs ss).1.reverse (mrg xs ss).2.reverse off (by simp; omega) (by simp [hlen])
  (fun m hm => by
   have h1 := hM.2 m (List.mem_reverse.1 hm)
   have h2 := hle.2 m (List.mem_reverse.1 hm)
   rw [hM.1] at h2
   omega)
  (fun t ht => by
   obtain ⟨j, hj, e⟩ := zm3 (za7 xs ss t (List.mem_reverse.1 ht))
   have := hss j hj
   omega)
  (mrg xs ss).1.reverse.length (Nat.le_refl _) n off [] W hb (by omega) h0 (by rw [hpl]; simp) (by rw [hpl]; exact hPr)
 rw [hpl] at key
 refine key.mono ?_
 rintro e W' (⟨rfl, h, _⟩ | ⟨rfl, q, hq, h⟩)
 ·exact .inl ⟨rfl, by simpa using h⟩
 ·exact .inr ⟨rfl, q, hq, by simpa using h⟩
end
section
open Go.ChangeShapes Go.RowKit Go.Shelf
attribute [local go_sem] Oper.semAt_some
theorem zq8 (n l Bf b : Nat) (xs ss : List Int) (off : Int) (h4 : xs.length ≤ 4) (hl : ss.length = xs.length) (hr : InR xs xs.length) (hp : prod xs ≤ 4096) (hss : InS ss ss.length) (ho : 0 ≤ off ∧ off ≤ 4096) (Pr : Int → Prop) (hPr : ∀ x ∈ offsL xs ss off, Pr x) (J Jx : List Int → World → Prop) (hJ : AbidesFrom b J)
  (hY : ∀ m pre x W, Pr x → J pre W → pre.length < (offsL xs ss off).length → YieldAt Fence.wide m Tryz.prog l #[O ι x] W fun e W' =>
   (e = .returned (.bool true) ∧ J (pre ++ [x]) W' ∧ KC b W W') ∨ (e = .returned (.bool false) ∧ Jx (pre ++ [x]) W'))
  (W : World) (hb : b ≤ W.heap.size) (hc : ∀ j, j < 10 → W.cell? ⟨Bf, j, none⟩ = (vw xs ss off)[j]?) (h0 : J [] W) :
  CallsIn Fence.wide n Tryz.prog 119 #[.func (.yield l) #[] #[], π (some ⟨Bf, 0, none⟩)] W fun e W' => (∃ v, e = .returned v) ∧
   ((∃ ys, ys = offsL xs ss off ∧ J ys W') ∨ (∃ pre, pre <+: offsL xs ss off ∧ Jx pre W')) := by
 have c0 : W.cell? ⟨Bf, 0, none⟩ = some (O ι xs.length) := hc 0 (by omega)
 have c1 : W.cell? ⟨Bf, 1, none⟩ = some (O ι (xs.getD 0 0)) := hc 1 (by omega)
 have c2 : W.cell? ⟨Bf, 2, none⟩ = some (O ι (xs.getD 1 0)) := hc 2 (by omega)
 have c3 : W.cell? ⟨Bf, 3, none⟩ = some (O ι (xs.getD 2 0)) := hc 3 (by omega)
 have c4 : W.cell? ⟨Bf, 4, none⟩ = some (O ι (xs.getD 3 0)) := hc 4 (by omega)
 have c5 : W.cell? ⟨Bf, 5, none⟩ = some (O ι (ss.getD 0 0)) := hc 5 (by omega)
 have c6 : W.cell? ⟨Bf, 6, none⟩ = some (O ι (ss.getD 1 0)) := hc 6 (by omega)
 have c7 : W.cell? ⟨Bf, 7, none⟩ = some (O ι (ss.getD 2 0)) := hc 7 (by omega)
 have c8 : W.cell? ⟨Bf, 8, none⟩ = some (O ι (ss.getD 3 0)) := hc 8 (by omega)
 have c9 : W.cell? ⟨Bf, 9, none⟩ = some (O ι off) := hc 9 (by omega)
 have hcnt : Hid (Calls Tryz.prog 81 #[γ (shp xs)] W fun e W1 => e = .returned (O ι (prod xs)) ∧ Ext W W1) := (zp2 W xs h4 hr).mono (fun e W1 h => ⟨h.1, by rw [h.2]; exact (Ext.refl W).alloc _ _⟩)
 have hmgd := hide (fun W => zv16 W xs ss off h4 hl hr hss)
 have hwk := hide (fun hz n W hb h0 => zs12 l b xs ss off h4 hl hr hz hp hss ho Pr hPr J Jx hJ hY n W hb h0)
 have hl4 : (mrg xs ss).1.reverse.length ≤ 4 := by rw [List.length_reverse]; have := zs9 xs ss hl.symm; omega
 clear hY hc
 have hOz : prod xs = 0 → offsL xs ss off = [] := fun h => by unfold offsL; rw [if_pos h]
 generalize offsL xs ss off = OL at *
 unfold shp at hcnt
 unfold vw at hmgd hwk
 generalize (mrg xs ss).1.reverse = M at *
 generalize (mrg xs ss).2.reverse = S at *
 generalize xs.getD 0 0 = a0 at *
 generalize xs.getD 1 0 = a1 at *
 generalize xs.getD 2 0 = a2 at *
 generalize xs.getD 3 0 = a3 at *
 generalize ss.getD 0 0 = s0 at *
 generalize ss.getD 1 0 = s1 at *
 generalize ss.getD 2 0 = s2 at *
 generalize ss.getD 3 0 = s3 at *
 generalize M.getD 0 0 = m0 at *
 generalize M.getD 1 0 = m1 at *
 generalize M.getD 2 0 = m2 at *
 generalize M.getD 3 0 = m3 at *
 generalize S.getD 0 0 = t0 at *
 generalize S.getD 1 0 = t1 at *
 generalize S.getD 2 0 = t2 at *
 generalize S.getD 3 0 = t3 at *
 generalize hML : M.length = ml at *
 clear hML
 generalize hp0 : prod xs = p at *
 clear hp0
 have Hr := hide hr
 clear hr hss
 refine callsIn_of_wp Tryz.func119 rfl trivial ?_ rfl
 simp only [Tryz.ntmps119, List.size_toArray, List.length_cons, List.length_nil, Nat.reduceAdd, Nat.reduceSub, Array.replicate_succ, Array.replicate_zero, List.push_toArray, List.append_toArray, List.nil_append, List.cons_append]
 have hdd : ∀ k : Nat, (Fence.wide.depth.isSome = true → 1 ≤ k) := fun k h => by cases h
 by_cases hz : p = 0
 ·have HO := hide (hOz hz)
  clear hOz hwk hmgd
  gi_wp2_with (refine ⟨trivial, hdd _, ?_⟩; gi_at_call 81; refine (callsIn_wide.2 hcnt.out).mono ?_; clear hcnt; rintro e W1 ⟨rfl, x1⟩)
  refine bodyPost_ret (results_none rfl _ _ _) rfl ?_
  exact ⟨⟨_, rfl⟩, .inl ⟨[], HO.out.symm, hJ [] _ _ none h0 (zm7 x1) (fun r e => by cases e)⟩⟩
 ·have hw := hide (hwk.out hz)
  clear hOz hwk
  gi_wp2_with (refine ⟨trivial, hdd _, ?_⟩; gi_at_call 81; refine (callsIn_wide.2 hcnt.out).mono ?_; clear hcnt; rintro e W1 ⟨rfl, x1⟩; have d0 := x1.box c0; have d1 := x1.box c1; have d2 := x1.box c2; have d3 := x1.box c3; have d4 := x1.box c4; have d5 := x1.box c5; have d6 := x1.box c6; have d7 := x1.box c7; have d8 := x1.box c8; have d9 := x1.box c9)
  refine ⟨trivial, hdd _, ?_⟩
  refine (callsIn_wide.2 (hmgd.out _)).mono ?_
  rintro e W2 ⟨rfl, x2⟩
  have hJ2 := hide (hJ [] _ _ none (hJ [] _ _ none h0 (zm7 x1) (fun r e => by cases e)) (zm7 x2) (fun r e => by cases e))
  have hs1 := x1.bl.size
  have hs2 := x2.bl.size
  clear hmgd d0 d1 d2 d3 d4 d5 d6 d7 d8 d9 c0 c1 c2 c3 c4 c5 c6 c7 c8 c9
  gi_wp2
  refine ⟨trivial, hdd _, ?_⟩
  refine (hw.out _ _ (by simp; omega) (hJ [] _ _ none hJ2.out (World.grownBy_alloc W2 _ none) (fun r e => by cases e))).mono ?_
  rintro e W3 (⟨rfl, hJ3⟩ | ⟨rfl, q, hq, hx⟩)
  ·gi_wp2
   go_end0
   exact ⟨⟨_, rfl⟩, .inl ⟨_, rfl, hJ3⟩⟩
  ·gi_wp2
   go_end0
   exact ⟨⟨_, rfl⟩, .inr ⟨q, hq, hx⟩⟩
theorem zi5 (n : Nat) (xs ss : List Int) (off : Int) (w : World) :
  CallsIn Fence.wide n Tryz.prog 82 #[γ (vw xs ss off)] w fun e w' => e = .returned (.func (.func 119) #[] #[π (some ⟨w.heap.size, 0, none⟩)]) ∧ w' = w.alloc (χ (vw xs ss off) 83) := by
 unfold vw
 refine callsIn_of_wp Tryz.func82 rfl trivial ?_ rfl
 simp only [Tryz.ntmps82, List.size_toArray, List.length_cons, List.length_nil, Nat.reduceAdd, Nat.reduceSub, Array.replicate_succ, Array.replicate_zero, List.push_toArray, List.append_toArray, List.nil_append, List.cons_append]
 gi_wp2
 go_ret
 exact ⟨rfl, rfl⟩
theorem zh6 {m : Nat} (m' : Nat) {P : Program} {l : Nat} {args : Array Value} {W : World} {R : Ending → World → Prop} (h : YieldAt Fence.wide m P l args W R) : YieldAt Fence.wide m' P l args W R := by
 obtain ⟨fn, tmps, assign, body, hy, hR⟩ := h
 exact ⟨fn, tmps, assign, body, hy, hR.1, fun c cs _ => hR.2 c cs (zp10 rfl _)⟩
theorem zo19 {n : Nat} {w : World} (W : World) (l : Nat) (o o' : Obj) (_ : w.heap.size ≤ l) (h : W.heap[l]? = some o) (hc : o.isCells = false) (_ : o.isWalk = false) : KC n W (W.putObj l o') := by
 have g := grownBy_putObj' W l o'
 refine ⟨g.size, fun k o2 hb h2 hc2 => ?_⟩
 have hk : k < W.heap.size := (Array.getElem?_eq_some_iff.1 h2).1
 have hne : k ≠ l := fun e => by
  subst e
  rw [h] at h2
  cases h2
  rw [hc] at hc2
  cases hc2
 exact (g.block k hk (fun e => hne (by cases e; rfl))).trans h2
abbrev Pl := { x : Int // 0 ≤ x ∧ x < 4096 }
def plv (ps : List Pl) : List Int := ps.map (·.1)
theorem ze3 (p q : List Pl) : plv (p ++ q) = plv p ++ plv q := List.map_append ..
theorem zn23 (p : List Pl) : (plv p).length = p.length := List.length_map ..
theorem zt10 (n Bf n₀ : Nat) (xs ss : List Int) (off : Int) (h4 : xs.length ≤ 4) (hl : ss.length = xs.length) (hr : InR xs xs.length) (hp : prod xs ≤ 4096) (hss : InS ss ss.length) (ho : 0 ≤ off ∧ off ≤ 4096) (hPr : ∀ x ∈ offsL xs ss off, 0 ≤ x ∧ x < 4096) (w : World) (hn : n₀ ≤ w.heap.size)
  (hc : ∀ j, j < 10 → w.cell? ⟨Bf, j, none⟩ = (vw xs ss off)[j]?) (hBf : Bf < w.heap.size) :
  SeqStopsK Fence.wide n Tryz.prog 119 #[π (some ⟨Bf, 0, none⟩)] (fun x : Pl => #[Value.int .i64 x.1]) (KC n₀) (fun ys => plv ys = offsL xs ss off) (fun pre => plv pre <+: offsL xs ss off) (offsL xs ss off).length w := fun l J Jx W hW hJ hJx hY h0 => by
 have hbW : w.heap.size ≤ W.heap.size := hW.size
 have hc2 : ∀ j, j < 10 → W.cell? ⟨Bf, j, none⟩ = (vw xs ss off)[j]? := fun j hj => (hW.cell (p := ⟨Bf, j, none⟩) hBf).trans (hc j hj)
 have key := zq8 n l Bf W.heap.size xs ss off h4 hl hr hp hss ho (fun x => 0 ≤ x ∧ x < 4096) hPr (fun pre W => ∃ ps, plv ps = pre ∧ J ps W) (fun pre W => ∃ ps, plv ps = pre ∧ Jx ps W)
  (fun pre A B row ⟨ps, e, h⟩ hg hrow => ⟨ps, e, hJ ps A B row h hg hrow⟩)
  (fun m pre x A hx ⟨ps, e, h⟩ hlen => by
   subst e
   have hy := zh6 m (hY ps ⟨x, hx⟩ A h (by rw [← zn23]; exact hlen))
   refine hy.mono ?_
   rintro e W' (⟨rfl, h1, h2⟩ | ⟨rfl, h1⟩)
   ·exact .inl ⟨rfl, ⟨_, ze3 _ _, h1⟩, ⟨h2.size, fun k o hb h hc => h2.keep k o (by omega) h hc⟩⟩
   ·exact .inr ⟨rfl, ⟨_, ze3 _ _, h1⟩⟩)
  W (Nat.le_refl _) hc2 ⟨[], rfl, h0⟩
 refine key.mono ?_
 rintro e W' ⟨hv, ⟨ys, rfl, ps, e1, h⟩ | ⟨pre, hpre, ps, e1, h⟩⟩
 ·exact ⟨hv, .inl ⟨ps, e1, h⟩⟩
 ·exact ⟨hv, .inr ⟨ps, by show plv ps <+: _; rw [e1]; exact hpre, h⟩⟩
end
section
open Go.ChangeShapes Go.RowKit Go.Shelf
attribute [local go_sem] Oper.semAt_some
theorem KC.setCell {b : Nat} (A : World) {p : Addr} (hp : p.block < b) (v : Value) : KC b A (A.setCell p v) :=
 ⟨(KeepsWalks.setCell A _ v).size, fun k o hk h _ => (Below.heap_setCell _ _ _ k (fun e => by omega)).trans h⟩
theorem zo23 (n Bf : Nat) (xs ss : List Int) (off : Int) (h4 : xs.length ≤ 4) (hl : ss.length = xs.length) (hr : InR xs xs.length) (hp : prod xs ≤ 4096) (hss : InS ss ss.length) (ho : 0 ≤ off ∧ off ≤ 4096) (hPr : ∀ x ∈ offsL xs ss off, 0 ≤ x ∧ x < 4096) (W : World) (hB : Bf = W.heap.size) :
  SeqStopsK Fence.wide n Tryz.prog 119 #[π (some ⟨Bf, 0, none⟩)] (fun x : Pl => #[Value.int .i64 x.1]) (KC (W.alloc (χ (vw xs ss off) 83)).heap.size) (fun ys => plv ys = offsL xs ss off) (fun pre => plv pre <+: offsL xs ss off) (offsL xs ss off).length (W.alloc (χ (vw xs ss off) 83)) := by
 subst hB
 exact zt10 n _ _ xs ss off h4 hl hr hp hss ho hPr _ (Nat.le_refl _) (fun j _ => zd W _ 83 W.heap.size rfl j) (by simp)
theorem zs7 {W : World} {a : Addr} {v : Value} (o : Obj) (h : W.cell? a = some v) : (W.alloc o).cell? a = some v := cell_kept h (World.grownBy_alloc W o none) (fun r e => by cases e)
theorem zo7 {W : World} {a : Addr} {v : Value} (o : Obj) (h : W.cell? a = some v) (hf : W.frozen? a = false) : (W.alloc o).frozen? a = false := (frozen_kept h (World.grownBy_alloc W o none) (fun r e => by cases e)).trans hf
theorem zn7 (W : World) (cs : Array Value) (t b j : Nat) (hb : b = W.heap.size) : (W.alloc (χ cs t)).frozen? ⟨b, j, none⟩ = false := by
 subst hb
 have h := World.alloc_heap_new W (χ cs t)
 unfold World.frozen?
 simp only [h]
 simp
end
end Go.Proofs.YtfhcpicddegblaaGreat
